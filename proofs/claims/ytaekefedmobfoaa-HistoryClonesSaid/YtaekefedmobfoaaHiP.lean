/- history: the document's calls in general; slices of numbers alike. -/
import Derived.Test.YtaekefedmobfoaaHiO
namespace Go.Proofs.Ytaekefedmobfoaa
open Go.RowKit
set_option linter.unusedVariables false
set_option linter.unusedSimpArgs false
theorem refHPut_any {w : World} {vl : Value} {l : List HR} (M T G : Int) (s p : Int) (d : ByteArray) (hL : OwnE w 0 125 4 vl l.length (hiV l)) (hn : l.length ≤ 65535) (hM : 1 ≤ M ∧ M ≤ 65535) :
    Calls Try.prog 61 #[.agg #[.int .i64 M, .int .i64 T, .int .i64 G, vl], .int .i64 s, .int .i64 p, .string d] w fun e w' => ∃ v', e = .returned (.tuple #[.agg #[.int .i64 M, .int .i64 T, .int .i64 G, v'], .bool (hiOk s l)]) ∧ OwnE w' 0 125 4 v' (hiPut M l ⟨s, 0, p, d⟩).length (hiV (hiPut M l ⟨s, 0, p, d⟩)) ∧ Below w.heap.size w w' := by
  unfold hiPut
  by_cases hx : hiOk s l = true
  · rw [if_pos (show hiOk (HR.s ⟨s, 0, p, d⟩) l = true from hx), hx]
    exact refHPutYes M T G s p d hL hn hM hx
  · have hx' : hiOk s l = false := by simpa using hx
    rw [if_neg (show ¬ hiOk (HR.s ⟨s, 0, p, d⟩) l = true from hx), hx']
    refine (refHPutNo M T G s p d hL hn hM hx').mono ?_
    rintro e w' ⟨rfl, hk⟩
    exact ⟨vl, rfl, hL.later hk, hk⟩
theorem refHAgain_any {w : World} {vl : Value} {l : List HR} (M T G s p : Int) (hL : OwnE w 0 125 4 vl l.length (hiV l)) (hn : l.length ≤ 65535) (hT : T ≤ 100) (hG : 0 ≤ G ∧ G ≤ 1000000) (hup : HiUp l) (hnn : HiNn l) :
    Calls Try.prog 62 #[.agg #[.int .i64 M, .int .i64 T, .int .i64 G, vl], .int .i64 s, .int .i64 p] w fun e w' => ∃ v', e = .returned (.tuple #[.agg #[.int .i64 M, .int .i64 T, .int .i64 (hiAgN T s p l G), v'], ((hiTo T s p l).getD hiZ).val, .bool (hiTo T s p l).isSome]) ∧ OwnE w' 0 125 4 v' (hiAgL T s p l).length (hiV (hiAgL T s p l)) ∧ Below w.heap.size w w' := by
  unfold hiAgL hiAgN hiTo
  cases hf : hiFind s l with
  | none =>
    refine (refHAgainNone M T G s p hL hn hf).mono ?_
    rintro e w' ⟨rfl, hk⟩
    exact ⟨vl, rfl, hL.later hk, hk⟩
  | some r =>
    have h0 := hnn r (List.mem_of_find?_eq_some hf)
    simp only
    by_cases ht : r.t < T
    · simp only [ht, if_true]
      have h := refHAgainYes M T G s p hL hn r hf ht h0 hT hG hup
      rw [← hiAg_len s p l] at h
      exact h
    · simp only [ht, if_false]
      refine (refHAgainMuch M T G s p hL hn r hf (by omega)).mono ?_
      rintro e w' ⟨rfl, hk⟩
      exact ⟨vl, rfl, hL.later hk, hk⟩
set_option maxHeartbeats 800000 in
theorem sameInt2_any (zs : List Int) (a a2 : Option Addr) (n c c2 : Nat) (w : World) (hn : n = zs.length) (hr : Reads .i64 w a zs) (hr2 : Reads .i64 w a2 zs) (hl : zs.length ≤ 1000000000) :
    Calls Try.prog 66 #[.slice a n c, .slice a2 n c2] w fun e w' => e = .returned (.bool true) ∧ Below w.heap.size w w' := by
  subst hn
  have HR1 := Lib.hid (fun W (h : Below w.heap.size w W) => hr.later h)
  have HR2 := Lib.hid (fun W (h : Below w.heap.size w W) => hr2.later h)
  clear hr hr2
  go_enter Try.func66, Try.ntmps66
  go_wp2
  go_loopw [13] (fun i wr => ∃ k : Nat, k ≤ zs.length ∧ i = .int .i64 k ∧ Below w.heap.size w wr) (fun i _ => zs.length - (intOf i).toNat)
  case atStart => exact ⟨0, Nat.zero_le _, rfl, Below.refl _ _⟩
  case round =>
    obtain ⟨k, hk, rfl, hb1⟩ := hrel
    by_cases hlt : k < zs.length
    · obtain ⟨ab, off, rfl, c0⟩ := (HR1.out _ hb1).at hlt
      obtain ⟨ab2, off2, rfl, d0⟩ := (HR2.out _ hb1).at hlt
      generalize zs[k]?.getD 0 = p at c0 d0
      have i1 : (k : Int) < (zs.length : Int) := by omega
      go_wp2_with fail
      go_quiet (fail)
      have hb2 := below_drewN hb1 nq
      go_wp2
      go_roundw
      case rel => exact ⟨k + 1, by omega, by go_num, hb2⟩
      case measure => simp [intOf]; omega
    · obtain rfl : k = zs.length := by omega
      go_wp2
      go_ret
      exact ⟨rfl, hb1⟩
/-- A row of numbers of the call's own, as Same reads it. -/
theorem OwnE.ints {W : World} {b : Nat} {e : TypeId} {v : Value} {n : Nat} {zs : List Int} (h : OwnE W b e 1 v n (zs.map (Value.int .i64))) : ∃ a c, v = .slice a n c ∧ n = zs.length ∧ n ≤ c ∧ c ≤ 9223372036854775807 ∧ Reads .i64 W a zs := by
  have hl := h.1.1
  rw [List.length_map, Nat.mul_one] at hl
  rcases h.1.2 with ⟨rfl, h0⟩ | ⟨g, off, cap, rfl, _, _, q3, q4, _, hc⟩
  · refine ⟨none, 0, by rw [h0], by omega, by omega, by omega, .inl (List.length_eq_zero_iff.1 (by omega))⟩
  · refine ⟨_, _, rfl, by omega, q3, by unfold maxLen at q4; omega, .inr ⟨g, off, rfl, fun i hi => ?_⟩⟩
    exact hc i _ (by rw [List.getElem?_map, List.getElem?_eq_getElem hi]; simp)
theorem hiS_ints (l : List HR) : hiS l = (l.map (fun r => r.s)).map (Value.int .i64) := by simp [hiS]
end Go.Proofs.Ytaekefedmobfoaa
