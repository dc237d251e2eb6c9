/- Rows of records of the call's own: append, clear; rows of numbers. -/
import Derived.Test.YtilobmebfeenfaaReA
import Derived.Test.YtilobmebfeenfaaLfB
import Derived.Lib.AppendZeros
import Derived.Deep.RegionHeld3
import Derived.Deep.QuietTactic
import Derived.BigQuiet
import Derived.Deep.DeepCutAuto
import Derived.Deep.CutBlock
import Derived.RegionTactic
import Derived.BigRegion
import Derived.Deep.RegionWith
namespace Go.Proofs.Ytilobmebfeenfaa
open Go.RowKit
set_option linter.unusedVariables false
set_option linter.unusedSimpArgs false
theorem addr_addG (g j : Nat) : (⟨g, 0, none⟩ : Addr).add j = ⟨g, j, none⟩ := by unfold Addr.add; split <;> simp_all
/-- 'append' of one record to a slice of the call's own, behind the making of what is appended. -/
theorem append_recG {P : Program} {w W : World} {ops : Array Oper} {rest : List Oper} {o : Oper} {a : Act} {Q : Exit → Act → World → Prop}
    (hg : o.guard = none) (s x : Operand) (t : TypeId) (hop : o.op = Op.call { callee := Callee.builtin Builtin.append, args := #[s, x], argTypes := #[t, t] })
    (e : TypeId) (i : TypeInfo) (z : Value) (size bytes : Nat) (h1 : P.underlying t = some (.slice e)) (h2 : P.info? e = some i) (h3 : i.zero = some z) (h4 : i.size = size) (h5 : i.bytes = bytes) (h6 : z.cells.size = size) (h7 : 0 < size)
    (base : Nat) (v : Value) (n : Nat) (xs : List Value) (hs : a.eval s = v) (hown : OwnE w base e size v n xs)
    (cs : Array Value) (hcs : cs.size = size) (hx : a.eval x = .slice (some ⟨w.heap.size, 0, none⟩) 1 1) (h1c : ∀ u ∈ cs.toList, u.oneCell' = true)
    (b1 : n + 1 ≤ maxLen) (b2 : (n + 1) * bytes ≤ 140737488355328) (hbase : base ≤ w.heap.size) (B : Nat) (hB : B ≤ base) (hbel : Below B W w)
    (hK : ∀ v' w', OwnE w' base e size v' (n + 1) (xs ++ cs.toList) → Below B W w' → (w.alloc (.cells cs e)).grownBy w' v.ownBlock → (v'.ownBlock = v.ownBlock ∨ ∃ k, v'.ownBlock = some k ∧ w.heap.size ≤ k) → wpList P ops Q rest (a.put o.dst v') w') :
    wpList P ops Q (o :: rest) a (w.alloc (.cells cs e)) := by
  refine append_atE _ hg s x t hop e i z size bytes h1 h2 h3 h4 h5 h6 h7 base v n xs hs (hown.alloc _) ⟨w.heap.size, 0, none⟩ 1 1 cs.toList hx (by simp [hcs]) ?_ h1c b1 b2 (by simp; omega) ?_
  · intro j u hj
    rw [addr_addG, cell_of_row _ w.heap.size j cs e (0, 0) (heap_alloc_new w _), ← Array.getElem?_toList]
    exact hj
  · intro v' w' r1 r2 r3
    refine hK v' w' r1 ?_ r2 ?_
    · refine (hbel.alloc (by omega) _).grown r2 (by simp; omega) ?_
      intro k hk
      exact Nat.le_trans hB (hown.1.lt k hk).1
    · rcases r3 with r3 | ⟨k, r3, r4⟩
      · exact .inl r3
      · exact .inr ⟨k, r3, by simp at r4; omega⟩
theorem own_nnG (a : Option Addr) (n c n' c' : Nat) : Value.ownBlock (.slice a n c) = Value.ownBlock (.slice a n' c') := by cases a <;> rfl
/-- 'append' of a slice of records, nil or not. -/
theorem append_anyG {P : Program} (w : World) {ops : Array Oper} {rest : List Oper} {o : Oper} {a : Act} {Q : Exit → Act → World → Prop}
    (hg : o.guard = none) (s x : Operand) (t : TypeId) (hop : o.op = Op.call { callee := Callee.builtin Builtin.append, args := #[s, x], argTypes := #[t, t] })
    (e : TypeId) (i : TypeInfo) (z : Value) (size bytes : Nat) (h1 : P.underlying t = some (.slice e)) (h2 : P.info? e = some i) (h3 : i.zero = some z) (h4 : i.size = size) (h5 : i.bytes = bytes) (h6 : z.cells.size = size) (h7 : 0 < size)
    (base : Nat) (v : Value) (n : Nat) (xs : List Value) (hs : a.eval s = v) (hown : OwnE w base e size v n xs)
    (xa : Option Addr) (m c : Nat) (news : List Value) (hx : a.eval x = .slice xa m c) (hn : news.length = m * size) (hnone : xa = none → m = 0 ∧ c = 0) (hc : ∀ ad, xa = some ad → ∀ j u, news[j]? = some u → w.cell? (ad.add j) = some u) (h1c : ∀ u ∈ news, u.oneCell' = true)
    (b1 : n + m ≤ maxLen) (b2 : (n + m) * bytes ≤ 140737488355328) (hbase : base ≤ w.heap.size)
    (hK : ∀ v' w', OwnE w' base e size v' (n + m) (xs ++ news) → w.grownBy w' v.ownBlock → (v'.ownBlock = v.ownBlock ∨ ∃ k, v'.ownBlock = some k ∧ w.heap.size ≤ k) → wpList P ops Q rest (a.put o.dst v') w') :
    wpList P ops Q (o :: rest) a w := by
  cases xa with
  | some ad => exact append_atE w hg s x t hop e i z size bytes h1 h2 h3 h4 h5 h6 h7 base v n xs hs hown ad m c news hx hn (hc ad rfl) h1c b1 b2 hbase hK
  | none =>
    obtain ⟨rfl, rfl⟩ := hnone rfl
    obtain rfl : news = [] := List.eq_nil_of_length_eq_zero (by simpa using hn)
    have hle : ∃ a' c', v = .slice a' n c' ∧ n ≤ c' := by
      rcases hown.1.2 with ⟨rfl, rfl⟩ | ⟨g, off, cap, rfl, _, _, q, _⟩
      · exact ⟨_, _, rfl, Nat.le_refl _⟩
      · exact ⟨_, _, rfl, q⟩
    obtain ⟨a', c', rfl, hle⟩ := hle
    refine Lib.wpList_append_run w hg s x t t hop _ _ hs hx _ w (run_append_nothing w t t o.type e i h1 h2 a' n c' hle _ ?_) (hK _ _ (by simpa using hown) ⟨rfl, rfl, rfl, Nat.le_refl _, fun _ _ _ => rfl⟩ (.inl rfl))
    exact Src.ofNil w h1 0
/-- A row of the call's own as what is appended. -/
theorem OwnE.srcG {W : World} {b n c0 : Nat} {e : TypeId} {v : Value} {xs : List Value} (h : OwnE W b e c0 v n xs) : ∃ xa c, v = .slice xa n c ∧ (xa = none → n = 0 ∧ c = 0) ∧ (∀ ad, xa = some ad → ∀ j u, xs[j]? = some u → W.cell? (ad.add j) = some u) ∧ xs.length = n * c0 := by
  have hl := h.1.1
  rcases h.1.2 with ⟨rfl, e⟩ | ⟨g, off, cap, rfl, _, _, _, _, _, hc⟩
  · exact ⟨none, 0, by rw [e], fun _ => ⟨e, rfl⟩, fun ad h => (by cases h), hl⟩
  · refine ⟨_, _, rfl, fun h => (by cases h), fun ad had j u hu => ?_, hl⟩
    cases had
    rw [Addr.add_lit]
    exact hc j u hu
theorem info64g : (Try.prog.info? 3).map (fun i => (i.zero, i.size, i.bytes)) = some (some (.int .i64 0), 1, 8) := by kernel_rfl
theorem set_restG (A : List Value) (m : Nat) (z x : Value) : (A ++ List.replicate (m + 1) z).set A.length x = (A ++ [x]) ++ List.replicate m z := by simp [List.set_append, List.replicate_succ]
theorem madeIntsG (n : Nat) : (madeCells #[Value.int .i64 0] n).toList = List.replicate n (Value.int .i64 0) := by
  unfold madeCells
  apply List.ext_getElem?
  intro i
  by_cases h : i < n
  · simp [h, Nat.mod_one]
  · rw [List.getElem?_eq_none (by simp; omega), List.getElem?_eq_none (by simp; omega)]
theorem take_mapG {α β : Type} (f : α → β) (l : List α) (k : Nat) (x : α) (h : l[k]? = some x) : (l.take (k + 1)).map f = (l.take k).map f ++ [f x] := by
  rw [List.take_add_one, h]
  simp
set_option maxHeartbeats 800000 in
theorem sameIntG_any (zs : List Int) (a a2 : Option Addr) (n c c2 : Nat) (w : World) (hn : n = zs.length) (hr : Reads .i64 w a zs) (hr2 : Reads .i64 w a2 zs) (hl : zs.length ≤ 1000000000) :
    Calls Try.prog 39 #[.slice a n c, .slice a2 n c2] w fun e w' => e = .returned (.bool true) ∧ Below w.heap.size w w' := by
  subst hn
  have HR1 := Lib.hid (fun W (h : Below w.heap.size w W) => hr.later h)
  have HR2 := Lib.hid (fun W (h : Below w.heap.size w W) => hr2.later h)
  clear hr hr2
  go_enter Try.func39, Try.ntmps39
  go_wp2
  go_loopw [13] (fun i wr => ∃ k : Nat, k ≤ zs.length ∧ i = .int .i64 k ∧ Below w.heap.size w wr) (fun i _ => zs.length - (intOf i).toNat)
  case atStart => exact ⟨0, Nat.zero_le _, rfl, Below.refl _ _⟩
  case round =>
    obtain ⟨k, hk, rfl, hb1⟩ := hrel
    by_cases hlt : k < zs.length
    · obtain ⟨ab, off, rfl, c0⟩ := (HR1.out _ hb1).at hlt
      obtain ⟨ab2, off2, rfl, d0⟩ := (HR2.out _ hb1).at hlt
      generalize zs[k]?.getD 0 = p at c0 d0
      have i1 : (k : Int) < (zs.length : Int) := by omega
      go_wp2_with fail
      go_quiet (fail)
      have hb2 := below_drewN hb1 nq
      go_wp2
      go_roundw
      case rel => exact ⟨k + 1, by omega, by go_num, hb2⟩
      case measure => simp [intOf]; omega
    · obtain rfl : k = zs.length := by omega
      go_wp2
      go_ret
      exact ⟨rfl, hb1⟩
/-- A row of numbers of the call's own, as Same reads it. -/
theorem OwnE.intsG {W : World} {b : Nat} {e : TypeId} {v : Value} {n : Nat} {zs : List Int} (h : OwnE W b e 1 v n (zs.map (Value.int .i64))) : ∃ a c, v = .slice a n c ∧ n = zs.length ∧ n ≤ c ∧ c ≤ 9223372036854775807 ∧ Reads .i64 W a zs := by
  have hl := h.1.1
  rw [List.length_map, Nat.mul_one] at hl
  rcases h.1.2 with ⟨rfl, h0⟩ | ⟨g, off, cap, rfl, _, _, q3, q4, _, hc⟩
  · refine ⟨none, 0, by rw [h0], by omega, by omega, by omega, .inl (List.length_eq_zero_iff.1 (by omega))⟩
  · refine ⟨_, _, rfl, by omega, q3, by unfold maxLen at q4; omega, .inr ⟨g, off, rfl, fun i hi => ?_⟩⟩
    exact hc i _ (by rw [List.getElem?_map, List.getElem?_eq_getElem hi]; simp)
theorem OwnE.formG {W : World} {b : Nat} {e : TypeId} {c : Nat} {v : Value} {n : Nat} {xs : List Value} (h : OwnE W b e c v n xs) : ∃ a cap, v = .slice a n cap := by
  rcases h.1.2 with ⟨rfl, e⟩ | ⟨g, off, cap, rfl, _⟩
  · rw [e]; exact ⟨_, _, rfl⟩
  · exact ⟨_, _, rfl⟩
theorem at4g_set2 {T : TypeId} {W : World} {g : Nat} {c0 c1 c2 c3 : Value} (h : At4 T W g c0 c1 c2 c3) (u : Value) : At4 T (W.setCell ⟨g, 2, none⟩ u) g c0 c1 u c3 := block_setCell h
theorem at4g_set3 {T : TypeId} {W : World} {g : Nat} {c0 c1 c2 c3 : Value} (h : At4 T W g c0 c1 c2 c3) (u : Value) : At4 T (W.setCell ⟨g, 3, none⟩ u) g c0 c1 c2 u := block_setCell h
end Go.Proofs.Ytilobmebfeenfaa
