/- SplitParts: the walk. -/
import Derived.Test.YtihbhgimceglnaaSpG
import Derived.Test.YtihbhgimceglnaaSpSzW
namespace Go.Proofs.Ytihbhgimceglnaa
open Go.RowKit
set_option linter.unusedVariables false
set_option linter.unusedSimpArgs false
namespace splitParts
set_option maxRecDepth 100000 in
set_option maxHeartbeats 3200000 in
theorem walk (s0 : ByteArray) (a1 : Int) (w0 : s0.size ≤ maxLen) (w1 : (Lit.int .i64 a1).wf = true) (w : World) :
    Calls Try.prog 3 #[.string s0, .int .i64 a1] w fun e w' => e = .returned (.bool true) ∧ Below w.heap.size w w' := by
  unfold maxLen at w0
  have HC := Lib.hid (fun W => cut_any s0 600 W (by omega) (by omega))
  have hcs := sp_cut_le s0 600
  have hcn := spC_bd a1
  have HS0 := Lib.hid (fun (W : World) (h : spC a1 * 255 < (cutB s0 600).size) => split_none (cutB s0 600) a1 W (by omega) h)
  have HS1 := Lib.hid (fun (W : World) (h : (cutB s0 600).size ≤ spC a1 * 255) => split_some (cutB s0 600) a1 W h)
  have HR0 := Lib.hid (fun (W : World) (h : 255 < spN (cutB s0 600).size (spC a1)) => refSplit_none (cutB s0 600) a1 W (by omega) h)
  have HR1 := Lib.hid (fun (W : World) (h : spN (cutB s0 600).size (spC a1) ≤ 255) => refSplit_some (cutB s0 600) a1 W (by omega) h)
  generalize spC a1 = n at *
  generalize cutB s0 600 = t at *
  clear w0 w1
  go_enter Try.func3, Try.ntmps3
  go_wp2_with fail
  refine (spAwake_any w).mono ?_
  rintro e wa ⟨rfl, hba⟩
  go_wp2_with fail
  refine (HC.out wa).mono ?_
  rintro e wb ⟨rfl, hq⟩
  subst hq
  by_cases hbig : n * 255 < t.size
  · go_wp2_with fail
    refine (HS0.out _ hbig).mono ?_
    rintro e wb ⟨rfl, hq⟩
    subst hq
    go_wp2_with fail
    refine (HR0.out _ ((spN_more _ _ hcn.1).2 hbig)).mono ?_
    rintro e wb2 ⟨rfl, hq⟩
    subst hq
    go_wp2_with fail
    go_loopw [7, 27] (fun s7 i wz => i = .int .i64 0 ∧ s7 = .string ⟨#[]⟩ ∧ Below w.heap.size w wz) (fun _ _ _ => 0)
    case atStart => exact ⟨rfl, rfl, hba⟩
    case round =>
      obtain ⟨rfl, rfl, hb⟩ := hrel
      go_wp2_with fail
      go_ret
      exact ⟨by simp, hb⟩
  · have hN := spN_few t.size n hcn.1 hbig
    have hN1 := spN_pos t.size n
    go_wp2_with fail
    refine (HS1.out _ (by omega)).mono ?_
    rintro e wb2 ⟨v, rfl, hL, hb2⟩
    have hbb := hba.trans (hb2.mono hba.size)
    have HA : Hid (∀ i, i < spN t.size n → ((spL t n (spN t.size n)).map Value.string)[i]? = some (.string (spP t n i))) := Lib.hid fun i hi => by
      rw [List.getElem?_map, spL_at t n _ i hi]
      rfl
    have HCA := Lib.hid (spCat_all t n hcn.1)
    have HC1 := Lib.hid (fun k => (by rw [spL_succ, spCat_snoc] : spCat (spL t n (k + 1)) = spCat (spL t n k) ++ spP t n k))
    have HCL : Hid (∀ k, (spCat (spL t n k)).size ≤ k * n) := Lib.hid fun k => by
      induction k with
      | zero => simp [spL, spCat]
      | succ k ih =>
        rw [spL_succ, spCat_snoc, ByteArray.size_append, Nat.succ_mul]
        have := spP_le t n k
        omega
    have HPS := Lib.hid (spP_le t n)
    have HC0 : Hid (spCat (spL t n 0) = (⟨#[]⟩ : ByteArray)) := Lib.hid rfl
    have hLk := fun (W : World) (h : Below wb2.heap.size wb2 W) => (ownE_of hL).later h
    go_wp2_with fail
    refine (HR1.out _ hN).mono ?_
    rintro e wb3 ⟨v3, rfl, hL3, hb3⟩
    have hL2 := hLk wb3 hb3
    have hbz := hbb.trans (hb3.mono hbb.size)
    generalize spN t.size n = N at *
    generalize (spL t n N).map Value.string = xs at *
    obtain ⟨g, off, cap, rfl, _, hcm, _, hgl, hc⟩ := hL2.1.cells (by omega)
    obtain ⟨g3, off3, cap3, rfl, _, hcm3, _, hgl3, hc3⟩ := (ownE_of hL3).1.cells (by omega)
    have HL1 := Lib.hid (fun (i : Nat) (hi : i < N) => ((hc i _ (HA.out i hi)).1 : wb3.cell? ⟨g, off + i, none⟩ = some (.string (spP t n i))))
    have HL2 := Lib.hid (fun (i : Nat) (hi : i < N) => ((hc3 i _ (HA.out i hi)).1 : wb3.cell? ⟨g3, off3 + i, none⟩ = some (.string (spP t n i))))
    unfold maxLen at hcm hcm3
    clear hc hL hb2 hba HA hc3 hL3 hL2 hLk hb3 hbb
    go_wp2_with fail
    go_loopw [7, 27] (fun s7 i wz => ∃ k : Nat, k ≤ N ∧ i = .int .i64 k ∧ s7 = .string (spCat (spL t n k)) ∧ wz = wb3) (fun _ i _ => N - (intOf i).toNat)
    case atStart => exact ⟨0, Nat.zero_le _, rfl, by rw [HC0.out], by simp⟩
    case round =>
      obtain ⟨k, hk, rfl, rfl, hq⟩ := hrel
      subst hq
      by_cases hlt : k < N
      · have c0 := HL1.out k hlt
        have c1 := HL2.out k hlt
        have HC1k := Lib.hid (HC1.out k)
        have hsz : (spCat (spL t n k)).size ≤ 400000 := Nat.le_trans (HCL.out k) (by
          have : k * n ≤ 255 * 1472 := Nat.mul_le_mul (by omega) hcn.2
          omega)
        generalize spCat (spL t n k) = A at *
        have hps := HPS.out k
        generalize spP t n k = p at *
        have hsum : A.size + p.size ≤ 9223372036854775807 := by omega
        go_wp2_with fail
        go_roundw
        case rel => exact ⟨k + 1, by omega, by go_num, by rw [HC1k.out], trivial⟩
        case measure => simp [intOf]; omega
      · obtain rfl : k = N := by omega
        rw [HCA.out]
        go_wp2_with fail
        go_ret
        exact ⟨by simp, hbz⟩
end splitParts
end Go.Proofs.Ytihbhgimceglnaa
