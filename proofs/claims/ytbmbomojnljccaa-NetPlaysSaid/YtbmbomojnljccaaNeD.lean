/- net: slices.Delete at texts. -/
import Derived.Test.YtbmbomojnljccaaReB
import Derived.Test.YtbmbomojnljccaaApB
import Derived.Deep.RegionLaw
namespace Go.Proofs.Ytbmbomojnljccaa
open Go.RowKit
set_option linter.unusedVariables false
set_option linter.unusedSimpArgs false
theorem info_str : (Try.prog.info? 9).map (fun i => (i.zero, i.size, i.bytes)) = some (some (.string ⟨#[]⟩), 1, 16) := by kernel_rfl
/-- Texts' cells. -/
def neV (l : List ByteArray) : List Value := l.map Value.string
theorem neV_len (l : List ByteArray) : (neV l).length = l.length := by simp [neV]
theorem neV_drop (l : List ByteArray) (j : Nat) : (neV l).drop (j) = neV (l.drop j) := by simp [neV]
theorem neV_take (l : List ByteArray) (j : Nat) : (neV l).take (j) = neV (l.take j) := by simp [neV]
theorem neV_app (l r : List ByteArray) : neV (l ++ r) = neV l ++ neV r := by simp [neV]
theorem neV_one (l : List ByteArray) : ∀ u ∈ neV l, u.oneCell' = true := by
  intro u hu
  obtain ⟨x, _, rfl⟩ := List.mem_map.1 hu
  rfl
theorem neClear (b o c n : Nat) (w : World) (hn : 0 < n) (hc : ∀ j, j < n → (w.cell? ⟨b, o + j, none⟩).isSome = true ∧ w.frozen? ⟨b, o + j, none⟩ = false) :
    ∃ vs : List Value, vs.length = n ∧ ∀ ty, (Builtin.clear_ #[56] ty #[.slice (some ⟨b, o, none⟩) n c]).run Try.prog w = .ok (.tuple #[]) (w.setCells b o vs) := by
  refine ⟨(Builtin.zeroCells (Value.cells (.string ⟨#[]⟩)) n).toList, by simp [Builtin.zeroCells, Value.cells], fun ty => ?_⟩
  refine run_clear_recs (P := Try.prog) w 56 9 ty (.string ⟨#[]⟩) Try.underlying56 (fun w => by kernel_rfl) ?_ b o n c hn ?_
  · intro n u hu
    simp [Builtin.zeroCells, Value.cells, Nat.mod_one] at hu
    obtain ⟨_, rfl⟩ := hu
    rfl
  · intro j hj
    exact hc j (by simpa [Value.cells] using hj)
/-- Cells of a row are set: what the row holds then. -/
theorem OwnE.setMany {W : World} {b : Nat} {e : TypeId} {c n cap g off : Nat} {xs : List Value} (h : OwnE W b e c (.slice (some ⟨g, off, none⟩) n cap) n xs) (vs : List Value) : ∀ (q : Nat), q + vs.length ≤ xs.length →
    OwnE (W.setCells g (off + q) vs) b e c (.slice (some ⟨g, off, none⟩) n cap) n (xs.take q ++ vs ++ xs.drop (q + vs.length)) := by
  induction vs generalizing W xs with
  | nil =>
    intro q hq
    have e : xs.take q ++ [] ++ xs.drop (q + ([] : List Value).length) = xs := by simp
    rw [e]
    exact h
  | cons u vs ih =>
    intro q hq
    have h1 := h.setAt q u (by simp at hq; omega)
    have h2 := ih h1 (q + 1) (by simp at hq ⊢; omega)
    have e1 : (xs.set q u).take (q + 1) ++ vs ++ (xs.set q u).drop (q + 1 + vs.length) = xs.take q ++ u :: vs ++ xs.drop (q + (u :: vs).length) := by
      have hql : q < xs.length := by simp at hq; omega
      rw [List.take_set, List.drop_set_of_lt (by omega), List.take_succ_eq_append_getElem hql, List.set_append_right _ _ (by simp; omega)]
      simp
      rw [Nat.min_eq_left (by omega), Nat.sub_self, List.set_cons_zero, List.singleton_append, show q + 1 + vs.length = q + (vs.length + 1) by omega]
    rw [e1] at h2
    exact h2
/-- Only the first elements of a row are taken on. -/
theorem OwnE.cutTo {W : World} {b : Nat} {e : TypeId} {c n cap g off : Nat} {xs : List Value} (h : OwnE W b e c (.slice (some ⟨g, off, none⟩) n cap) n xs) (m : Nat) (hm : m ≤ n) : OwnE W b e c (.slice (some ⟨g, off, none⟩) m cap) m (xs.take (m * c)) := by
  obtain ⟨⟨hl, h1⟩, h2⟩ := h
  rcases h1 with ⟨e1, _⟩ | ⟨g', off', cap', e1, q1, q2, q3, q4, q5, q6⟩
  · cases e1
  · simp only [Value.slice.injEq, Option.some.injEq, Addr.mk.injEq, true_and, and_true] at e1
    obtain ⟨⟨rfl, rfl⟩, rfl⟩ := e1
    refine ⟨⟨?_, .inr ⟨g, off, cap, rfl, q1, q2, by omega, q4, q5, fun j u hj => q6 j u ?_⟩⟩, fun k hk => h2 k (by cases hk; rfl)⟩
    · rw [List.length_take, hl]
      exact Nat.min_eq_left (Nat.mul_le_mul_right _ hm)
    · rw [List.getElem?_take] at hj
      split at hj
      · exact hj
      · cases hj
theorem neDelete_same {w : World} (v : Value) (n i : Nat) (a : Option Addr) (cap : Nat) (hv : v = .slice a n cap) (hn : n ≤ cap) (hcap : cap ≤ 9223372036854775807) (hi : i ≤ n) :
    Calls Try.prog 45 #[v, .int .i64 i, .int .i64 i] w fun e w' => e = .returned v ∧ w' = w := by
  subst hv
  go_enter Try.func45, Try.ntmps45
  cases a with
  | none =>
    go_wp2_with fail
    all_goals go_ret
    all_goals exact ⟨rfl, rfl⟩
  | some a =>
    go_wp2_with fail
    all_goals go_ret
    all_goals exact ⟨rfl, rfl⟩

set_option maxRecDepth 100000 in
set_option maxHeartbeats 3200000 in
theorem neDeleteS {w : World} {base g off n cap : Nat} {l : List ByteArray} (h : OwnE w base 9 1 (.slice (some ⟨g, off, none⟩) n cap) n (neV l)) (hn : n ≤ 65535) (i j : Nat) (hij : i < j) (hj : j ≤ n) (hjc : j < cap) :
    Calls Try.prog 45 #[.slice (some ⟨g, off, none⟩) n cap, .int .i64 i, .int .i64 j] w fun e w' => e = .returned (.slice (some ⟨g, off, none⟩) (i + (n - j)) cap) ∧ OwnE w' base 9 1 (.slice (some ⟨g, off, none⟩) (i + (n - j)) cap) (i + (n - j)) (neV (l.take i ++ l.drop j)) ∧ Only g w.drew w' := by
  obtain ⟨i0, hi, hz0, hz1, hz2⟩ := info_parts info_str
  have hll : l.length = n := by have := h.1.1; rw [neV_len] at this; omega
  obtain ⟨g', off', cap', e1, hnc, hcm, _, _, hcell⟩ := h.row (by omega)
  cases e1
  unfold maxLen at hcm
  have hroom : ∀ q, q < cap → (w.cell? ⟨g, off + q, none⟩).isSome = true ∧ w.frozen? ⟨g, off + q, none⟩ = false := by
    rcases h.1.2 with ⟨e, _⟩ | ⟨g', off', cap', e, _, _, _, _, q5, _⟩
    · cases e
    · cases e; simpa using q5
  have hnc4 : ∀ (q : Nat) (u : Value), (neV (l.drop j))[q]? = some u → w.cell? ⟨g, off + (j + q), none⟩ = some u := fun q u hu => by
    rw [← neV_drop, List.getElem?_drop] at hu
    exact (hcell _ u hu).1
  have s1 : Hid ((neV (l.drop j)).length = (n - j)) := Lib.hid (by rw [neV_len, List.length_drop, hll])
  have s2 : Hid (∀ u ∈ neV (l.drop j), u.oneCell' = true) := Lib.hid (neV_one _)
  have s3 : Hid (∀ q, q < (neV (l.drop j)).length → (w.drew.cell? ⟨g, off + i + q, none⟩).isSome = true ∧ w.drew.frozen? ⟨g, off + i + q, none⟩ = false) := Lib.hid fun q hq => by
    rw [neV_len, List.length_drop, hll] at hq
    rw [Nat.add_assoc]
    exact hroom _ (by omega)
  have s4 : Hid (∀ q u, (neV (l.drop j))[q]? = some u → w.drew.cell? ((⟨g, off + j, none⟩ : Addr).add q) = some u) := Lib.hid fun q u hu => by rw [Addr.add_lit, Nat.add_assoc]; exact hnc4 q u hu
  have hO2 := (h.drew).setMany (neV (l.drop j)) (i) (by rw [neV_len, neV_len, List.length_drop, hll]; omega)
  have ho2 := (setCells_only g (neV (l.drop j)) (off + i) w.drew)
  have hlX0 : ((neV l).take (i) ++ neV (l.drop j) ++ (neV l).drop (i + (neV (l.drop j)).length)).length = n := by
    simp only [List.length_append, List.length_take, List.length_drop, neV_len, hll]
    omega
  have e3 : ((neV l).take (i) ++ neV (l.drop j) ++ (neV l).drop (i + (neV (l.drop j)).length)).take ((i + (n - j))) = neV (l.take i ++ l.drop j) := by
    rw [List.append_assoc, neV_take, show neV (l.take i ++ l.drop j) = neV (l.take i) ++ neV (l.drop j) from neV_app _ _]
    rw [← List.append_assoc, List.take_append_of_le_length (by rw [List.length_append, neV_len, neV_len, List.length_take, List.length_drop, hll]; omega)]
    exact List.take_of_length_le (by rw [List.length_append, neV_len, neV_len, List.length_take, List.length_drop, hll]; omega)
  have hroom2 : ∀ q, q < cap → ((w.drew.setCells g (off + i) (neV (l.drop j))).cell? ⟨g, off + q, none⟩).isSome = true ∧ (w.drew.setCells g (off + i) (neV (l.drop j))).frozen? ⟨g, off + q, none⟩ = false := fun q hq =>
    ⟨World.isSome_setCells g _ _ _ _ (hroom q hq).1, (World.frozen?_setCells g _ _ _ _).trans (hroom q hq).2⟩
  generalize ((neV l).take (i) ++ neV (l.drop j) ++ (neV l).drop (i + (neV (l.drop j)).length)) = X at hO2 e3 hlX0
  have hlX := Lib.hid hlX0
  have hO2c := Lib.hid hO2
  have hi1 : (i : Int) ≤ j := by omega
  have hi2 : (j : Int) ≤ n := by omega
  have hi3 : (n : Int) ≤ cap := by omega
  have hii : (i == j) = false := by simp; omega
  have hij2 : ((i : Int) == (j : Int)) = false := by simp; omega
  have hri : ¬ n = i := by omega
  have hic : i ≤ cap := by omega
  have hjc2 : j ≤ cap := by omega
  have hcj : ¬ cap = j := by omega
  clear hnc4 hcell hO2 hlX0 hroom h
  generalize hnv : neV (l.drop j) = news at *
  go_enter Try.func45, Try.ntmps45
  go_upto_region 5 with fail
  go_region_law (refine step_append_room rfl (.tmp 22) (.tmp 25) 56 rfl 9 i0 1 Try.underlying56 hi hz1 g off i cap (by simp [Act.eval, Act.put]) ⟨g, off + j, none⟩ (n - j) (cap - j) news (by simp [Act.eval, Act.put]) (by rw [Nat.mul_one]; exact s1.out) s4.out s2.out (by omega) (by rw [Nat.mul_one]; exact s3.out) ?_)
  go_upto_region 6 with fail
  generalize hw2 : w.drew.setCells g (off + i) news = w2 at *
  obtain ⟨vs, hvl, hcl⟩ := neClear g (off + (i + (n - j))) (cap - (i + (n - j))) (n - (i + (n - j))) w2 (by omega) (fun q hq => by rw [Nat.add_assoc]; exact hroom2 _ (by omega))
  have ho3 := setCells_only g vs (off + (i + (n - j))) w2
  have HOY : Hid (OwnE (w2.setCells g (off + (i + (n - j))) vs) base 9 1 (.slice (some ⟨g, off, none⟩) (i + (n - j)) cap) (i + (n - j)) (neV (l.take i ++ l.drop j))) := Lib.hid (by
    have h1 := hO2c.out.setMany vs ((i + (n - j))) (by rw [hlX.out]; omega)
    have h2 := h1.cutTo (i + (n - j)) (by omega)
    have e4 : ((X.take ((i + (n - j))) ++ vs ++ X.drop ((i + (n - j)) + vs.length)).take ((i + (n - j)))) = X.take ((i + (n - j))) := by
      rw [List.append_assoc]
      exact List.take_left' (by rw [List.length_take, hlX.out]; omega)
    rw [Nat.mul_one, e4, e3] at h2
    exact h2)
  have HON := Lib.hid (ho2.trans ho3)
  clear ho3 ho2 hroom2 s1 s2 s3 s4 hO2c e3
  have hm1 : i + (n - j) ≤ n := by omega
  have hm2 : ((i : Int) + ((n : Int) - (j : Int))) = ((i + (n - j) : Nat) : Int) := by omega
  have hm3 : ¬ cap = i + (n - j) := by omega
  generalize hm0 : i + (n - j) = m at *
  replace hm0 := Lib.hid hm0
  go_wp2_with fail
  all_goals go_ret
  all_goals (have hm00 := hm0.out; subst hm00; exact ⟨rfl, HOY.out, HON.out⟩)

set_option maxRecDepth 100000 in
set_option maxHeartbeats 3200000 in
theorem neDeleteE {w : World} {base g off n : Nat} {l : List ByteArray} (h : OwnE w base 9 1 (.slice (some ⟨g, off, none⟩) n n) n (neV l)) (hn : n ≤ 65535) (i : Nat) (hij : i < n) :
    Calls Try.prog 45 #[.slice (some ⟨g, off, none⟩) n n, .int .i64 i, .int .i64 n] w fun e w' => e = .returned (.slice (some ⟨g, off, none⟩) i n) ∧ OwnE w' base 9 1 (.slice (some ⟨g, off, none⟩) i n) i (neV (l.take i ++ l.drop n)) ∧ Only g w.drew w' := by
  obtain ⟨i0, hi, hz0, hz1, hz2⟩ := info_parts info_str
  have hll : l.length = n := by have := h.1.1; rw [neV_len] at this; omega
  obtain ⟨g', off', n', e1, hnc, hcm, _, _, hcell⟩ := h.row (by omega)
  cases e1
  unfold maxLen at hcm
  have hroom : ∀ q, q < n → (w.cell? ⟨g, off + q, none⟩).isSome = true ∧ w.frozen? ⟨g, off + q, none⟩ = false := by
    rcases h.1.2 with ⟨e, _⟩ | ⟨g', off', n', e, _, _, _, _, q5, _⟩
    · cases e
    · cases e; simpa using q5
  have hnj : n - n = 0 := by omega
  have hnc4 : ∀ (q : Nat) (u : Value), (neV (l.drop n))[q]? = some u → w.cell? ⟨g, off + (n + q), none⟩ = some u := fun q u hu => by
    rw [← neV_drop, List.getElem?_drop] at hu
    exact (hcell _ u hu).1
  have s1 : Hid ((neV (l.drop n)).length = (n - n)) := Lib.hid (by rw [neV_len, List.length_drop, hll])
  have s2 : Hid (∀ u ∈ neV (l.drop n), u.oneCell' = true) := Lib.hid (neV_one _)
  have s3 : Hid (∀ q, q < (neV (l.drop n)).length → (w.drew.cell? ⟨g, off + i + q, none⟩).isSome = true ∧ w.drew.frozen? ⟨g, off + i + q, none⟩ = false) := Lib.hid fun q hq => by
    rw [neV_len, List.length_drop, hll] at hq
    rw [Nat.add_assoc]
    exact hroom _ (by omega)
  have s4 : Hid (∀ q u, (neV (l.drop n))[q]? = some u → w.drew.cell? ((⟨g, off, none⟩ : Addr).add q) = some u) := Lib.hid fun q u hu => by (have h0 : (neV (l.drop n)) = [] := List.eq_nil_of_length_eq_zero (by rw [s1, hnj]); rw [h0] at hu; cases hu)
  have hO2 := (h.drew).setMany (neV (l.drop n)) (i) (by rw [neV_len, neV_len, List.length_drop, hll]; omega)
  have ho2 := (setCells_only g (neV (l.drop n)) (off + i) w.drew)
  have hlX0 : ((neV l).take (i) ++ neV (l.drop n) ++ (neV l).drop (i + (neV (l.drop n)).length)).length = n := by
    simp only [List.length_append, List.length_take, List.length_drop, neV_len, hll]
    omega
  have e3 : ((neV l).take (i) ++ neV (l.drop n) ++ (neV l).drop (i + (neV (l.drop n)).length)).take (i) = neV (l.take i ++ l.drop n) := by
    rw [List.append_assoc, neV_take, show neV (l.take i ++ l.drop n) = neV (l.take i) ++ neV (l.drop n) from neV_app _ _]
    rw [← List.append_assoc, List.take_append_of_le_length (by rw [List.length_append, neV_len, neV_len, List.length_take, List.length_drop, hll]; omega)]
    exact List.take_of_length_le (by rw [List.length_append, neV_len, neV_len, List.length_take, List.length_drop, hll]; omega)
  have hroom2 : ∀ q, q < n → ((w.drew.setCells g (off + i) (neV (l.drop n))).cell? ⟨g, off + q, none⟩).isSome = true ∧ (w.drew.setCells g (off + i) (neV (l.drop n))).frozen? ⟨g, off + q, none⟩ = false := fun q hq =>
    ⟨World.isSome_setCells g _ _ _ _ (hroom q hq).1, (World.frozen?_setCells g _ _ _ _).trans (hroom q hq).2⟩
  generalize ((neV l).take (i) ++ neV (l.drop n) ++ (neV l).drop (i + (neV (l.drop n)).length)) = X at hO2 e3 hlX0
  have hlX := Lib.hid hlX0
  have hO2c := Lib.hid hO2
  have hi1 : (i : Int) ≤ n := by omega
  have hi2 : (n : Int) ≤ n := by omega
  have hi3 : (n : Int) ≤ n := by omega
  have hii : (i == n) = false := by simp; omega
  have hij2 : ((i : Int) == (n : Int)) = false := by simp; omega
  have hri : ¬ n = i := by omega
  have hic : i ≤ n := by omega
  have hjc2 : n ≤ n := by omega
  clear hnc4 hcell hO2 hlX0 hroom h
  generalize hnv : neV (l.drop n) = news at *
  go_enter Try.func45, Try.ntmps45
  go_upto_region 5 with fail
  go_region_law (refine step_append_room rfl (.tmp 22) (.tmp 25) 56 rfl 9 i0 1 Try.underlying56 hi hz1 g off i n (by simp [Act.eval, Act.put]) ⟨g, off, none⟩ (n - n) 0 news (by simp [Act.eval, Act.put]) (by rw [Nat.mul_one]; exact s1.out) s4.out s2.out (by omega) (by rw [Nat.mul_one]; exact s3.out) ?_)
  go_upto_region 6 with fail
  generalize hw2 : w.drew.setCells g (off + i) news = w2 at *
  obtain ⟨vs, hvl, hcl⟩ := neClear g (off + i) (n - i) (n - i) w2 (by omega) (fun q hq => by rw [Nat.add_assoc]; exact hroom2 _ (by omega))
  have ho3 := setCells_only g vs (off + i) w2
  have HOY : Hid (OwnE (w2.setCells g (off + i) vs) base 9 1 (.slice (some ⟨g, off, none⟩) i n) i (neV (l.take i ++ l.drop n))) := Lib.hid (by
    have h1 := hO2c.out.setMany vs (i) (by rw [hlX.out]; omega)
    have h2 := h1.cutTo i (by omega)
    have e4 : ((X.take (i) ++ vs ++ X.drop (i + vs.length)).take (i)) = X.take (i) := by
      rw [List.append_assoc]
      exact List.take_left' (by rw [List.length_take, hlX.out]; omega)
    rw [Nat.mul_one, e4, e3] at h2
    exact h2)
  have HON := Lib.hid (ho2.trans ho3)
  clear ho3 ho2 hroom2 s1 s2 s3 s4 hO2c e3
  go_wp2_with fail
  all_goals go_ret
  all_goals (exact ⟨rfl, HOY.out, HON.out⟩)

/-- Nothing but the heap turns. -/
structure SameE (w w' : World) : Prop where
  os : w'.os = w.os
  tp : w'.tape = w.tape
  ou : w'.output = w.output
theorem SameE.refl (w : World) : SameE w w := ⟨rfl, rfl, rfl⟩
theorem SameE.trans {w w' w'' : World} (h : SameE w w') (k : SameE w' w'') : SameE w w'' := ⟨k.os.trans h.os, k.tp.trans h.tp, k.ou.trans h.ou⟩
theorem sameE_below {b : Nat} {w w' : World} (h : Below b w w') : SameE w w' := ⟨h.os, h.tape, h.output⟩
theorem sameE_grown {r : Option Nat} {w w' : World} (h : w.grownBy w' r) : SameE w w' := ⟨h.os, h.tape, h.output⟩
theorem sameE_only {b : Nat} {w w' : World} (h : Only b w w') : SameE w w' := ⟨h.os, h.tape, h.output⟩
theorem neDelete_one {w : World} {base n : Nat} {v : Value} {l : List ByteArray} (h : OwnE w base 9 1 v n (neV l)) (hn : n ≤ 65535) (i : Nat) (hi : i < n) :
    Calls Try.prog 45 #[v, .int .i64 i, .int .i64 ((i : Int) + 1)] w fun e w' => ∃ v', e = .returned v' ∧ OwnE w' base 9 1 v' (n - 1) (neV (l.eraseIdx i)) ∧ v'.ownBlock = v.ownBlock ∧ SameE w w' ∧ w'.heap.size = w.heap.size ∧ ∀ k, v.ownBlock ≠ some k → w'.heap[k]? = w.heap[k]? := by
  have hll : l.length = n := by have := h.1.1; rw [neV_len] at this; omega
  obtain ⟨g, off, cap, rfl, hnc, hcm, _, _, _⟩ := h.row (by omega)
  have e1 : l.take i ++ l.drop (i + 1) = l.eraseIdx i := (List.eraseIdx_eq_take_drop_succ l i).symm
  have e2 : (i : Int) + 1 = ((i + 1 : Nat) : Int) := by omega
  rw [← e1, e2]
  by_cases hc : i + 1 < cap
  · refine (neDeleteS h hn i (i + 1) (by omega) (by omega) hc).mono ?_
    rintro e w' ⟨rfl, hO, ho⟩
    refine ⟨_, rfl, ?_, rfl, (sameE_below (Below.refl 0 w).drew).trans (sameE_only ho), ho.size, fun k hk => ho.block k (fun e => hk (by rw [e]; rfl))⟩
    rw [show n - 1 = i + (n - (i + 1)) by omega]
    exact hO
  · obtain rfl : i + 1 = n := by omega
    obtain rfl : cap = i + 1 := by omega
    refine (neDeleteE h hn i (by omega)).mono ?_
    rintro e w' ⟨rfl, hO, ho⟩
    refine ⟨_, rfl, ?_, rfl, (sameE_below (Below.refl 0 w).drew).trans (sameE_only ho), ho.size, fun k hk => ho.block k (fun e => hk (by rw [e]; rfl))⟩
    rw [show i + 1 - 1 = i by omega]
    exact hO
end Go.Proofs.Ytbmbomojnljccaa
