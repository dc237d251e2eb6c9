/- NackNumbers: the walk. -/
import Derived.Test.YtagimjaojpdfiaaNkO
import Derived.Test.YtagimjaojpdfiaaNkG
import Derived.Deep.DeepCutAuto
import Derived.Deep.RegionWith
import Derived.Laws.AppendOwnNone
namespace Go.Proofs.Ytagimjaojpdfiaa
open Go.RowKit
set_option linter.unusedVariables false
theorem nkAppend_none {P : Program} {w : World} {ops : Array Oper} {rest : List Oper} {o : Oper} {a : Act} {Q : Exit → Act → World → Prop} (hgd : o.guard = none) (s x : Operand) (t : TypeId)
    (ho : o.op = .call { callee := .builtin .append, args := #[s, x], argTypes := #[t, t] }) (base : Nat) (e : TypeId) (i : TypeInfo) (size : Nat) (ht : P.underlying t = some (.slice e)) (hi : P.info? e = some i)
    (ad : Option Addr) (xs : List Value) (hs : a.eval s = .slice ad 0 0) (hown : w.ownsRow base e size (.slice ad 0 0) 0 xs) (hx : a.eval x = .slice none 0 0)
    (h : ∀ W ad', Hid (W = w ∧ ad' = ad) → wpList P ops Q rest (a.put o.dst (.slice ad' 0 0)) W) : wpList P ops Q (o :: rest) a w :=
  wpList_append_own_none hgd s x t ho base e i size ht hi _ 0 xs hs hown hx (h w ad (Lib.hid ⟨rfl, rfl⟩))
theorem prV_take (l : List (Int × Nat)) (m k : Nat) (u : Value) (h : (prV (l.take m))[k]? = some u) : (prV l)[k]? = some u := by
  have e : prV l = prV (l.take m) ++ prV (l.drop m) := by
    simp only [prV]
    rw [← List.flatMap_append, List.take_append_drop]
  obtain ⟨hk, _⟩ := List.getElem?_eq_some_iff.1 h
  rw [e, List.getElem?_append_left hk]
  exact h
theorem prV_one (l : List (Int × Nat)) : ∀ u ∈ prV l, Value.oneCell' u = true := by
  intro u hu
  simp only [prV, List.mem_flatMap] at hu
  obtain ⟨p, _, hu⟩ := hu
  simp at hu
  rcases hu with rfl | rfl <;> rfl
theorem fold_self (zs : List Int) : ∀ acc : List Int, (acc ++ zs).Nodup → zs.foldl addNew acc = acc ++ zs := by
  induction zs with
  | nil => intro acc _; simp
  | cons z zs ih =>
    intro acc h
    have hz : acc.contains z = false := by
      rw [List.nodup_append] at h
      by_cases hc : acc.contains z = true
      · exact absurd rfl (h.2.2 z (by simpa using hc) z (by simp))
      · simpa using hc
    rw [List.foldl_cons]
    have e : addNew acc z = acc ++ [z] := by unfold addNew; rw [hz]; rfl
    rw [e, ih (acc ++ [z]) (by simpa using h)]
    simp
theorem dist_self (zs : List Int) (h : zs.Nodup) : dist zs = zs := by simpa [dist] using fold_self zs [] (by simpa using h)
theorem rdr_new (W : World) (n : Nat) (hn : n = W.heap.size) (pid : Int) (bb : Nat) : RdR (W.alloc (.cells #[.int .i64 pid, .int .i64 (bb : Int)] 143)) (some ⟨n, 0, none⟩) [(pid, bb)] := by
  subst hn
  have hX := heap_alloc_new W (.cells #[.int .i64 pid, .int .i64 (bb : Int)] 143)
  refine .inr ⟨_, rfl, lt_of_block hX, fun i u hu => ?_⟩
  have := cell_of_row _ _ i _ _ (0, 0) hX
  rw [this]
  simpa [prR] using hu
set_option maxHeartbeats 800000 in
theorem nkSameI_any (zs : List Int) (a a2 : Option Addr) (n c c2 : Nat) (w : World) (hn : n = zs.length) (hr : Reads .i64 w a zs) (hr2 : Reads .i64 w a2 zs) (hl : zs.length ≤ 1000000000) :
    Calls Try.prog 90 #[.slice a n c, .slice a2 n c2] w fun e w' => e = .returned (.bool true) ∧ Below w.heap.size w w' := by
  subst hn
  have HR := Lib.hid (fun W (h : Below w.heap.size w W) => hr.later h)
  have HR2 := Lib.hid (fun W (h : Below w.heap.size w W) => hr2.later h)
  clear hr hr2
  go_enter Try.func90, Try.ntmps90
  go_wp2
  go_loopw [13] (fun i wr => ∃ k : Nat, k ≤ zs.length ∧ i = .int .i64 k ∧ Below w.heap.size w wr) (fun i _ => zs.length - (intOf i).toNat)
  case atStart => exact ⟨0, Nat.zero_le _, rfl, Below.refl _ _⟩
  case round =>
    obtain ⟨k, hk, rfl, hb1⟩ := hrel
    by_cases hlt : k < zs.length
    · obtain ⟨ab, off, rfl, c0⟩ := (HR.out _ hb1).at hlt
      obtain ⟨ab2, off2, rfl, d0⟩ := (HR2.out _ hb1).at hlt
      generalize zs[k]?.getD 0 = p at c0 d0
      have i1 : (k : Int) < (zs.length : Int) := by omega
      go_wp2_with fail
      go_quiet (fail)
      have hb2 := below_drewN hb1 nq
      go_wp2
      go_roundw
      case rel => exact ⟨k + 1, by omega, by go_num, hb2⟩
      case measure => simp [intOf]; omega
    · obtain rfl : k = zs.length := by omega
      go_wp2
      go_ret
      exact ⟨rfl, hb1⟩
namespace nackNumbers
end nackNumbers
end Go.Proofs.Ytagimjaojpdfiaa
