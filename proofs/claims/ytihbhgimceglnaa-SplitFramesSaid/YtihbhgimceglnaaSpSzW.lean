/- SplitSizes: the walk. -/
import Derived.Test.YtihbhgimceglnaaSpAw
namespace Go.Proofs.Ytihbhgimceglnaa
open Go.RowKit
set_option linter.unusedVariables false
set_option linter.unusedSimpArgs false
theorem sp_cut_le (s : ByteArray) (m : Nat) : (cutB s m).size ≤ m := by
  unfold cutB
  split
  · rw [ByteArray.size_extract]; omega
  · omega
theorem spP_full (s : ByteArray) (n i : Nat) (hn : 1 ≤ n) (hi : i + 1 < spN s.size n) : (spP s n i).size = n := by
  have := spN_in s.size n i hn hi
  rw [spP_size]
  omega
theorem spP_none (s : ByteArray) (n i : Nat) (hn : 1 ≤ n) (hi : i < spN s.size n) (h : (spP s n i).size = 0) : s.size = 0 := by
  rw [spP_size] at h
  rcases Nat.eq_zero_or_pos i with rfl | h0
  · omega
  · have h1 := spN_in s.size n (i - 1) hn (by omega)
    have e : (i - 1) * n + n = i * n := by
      obtain ⟨j, rfl⟩ : ∃ j, i = j + 1 := ⟨i - 1, by omega⟩
      rw [Nat.succ_mul]
      simp
    omega
theorem spN_few (z n : Nat) (hn : 1 ≤ n) (h : ¬ n * 255 < z) : spN z n ≤ 255 := by
  have := spN_more z n hn
  omega
namespace splitSizes
set_option maxRecDepth 100000 in
set_option maxHeartbeats 3200000 in
theorem walk (s0 : ByteArray) (a1 : Int) (w0 : s0.size ≤ maxLen) (w1 : (Lit.int .i64 a1).wf = true) (w : World) :
    Calls Try.prog 6 #[.string s0, .int .i64 a1] w fun e w' => e = .returned (.bool true) ∧ Below w.heap.size w w' := by
  unfold maxLen at w0
  have HC := Lib.hid (fun W => cut_any s0 600 W (by omega) (by omega))
  have hcs := sp_cut_le s0 600
  have hcn := spC_bd a1
  have hca := spC_alt a1
  have HS0 := Lib.hid (fun (W : World) (h : spC a1 * 255 < (cutB s0 600).size) => split_none (cutB s0 600) a1 W (by omega) h)
  have HS1 := Lib.hid (fun (W : World) (h : (cutB s0 600).size ≤ spC a1 * 255) => split_some (cutB s0 600) a1 W h)
  generalize spC a1 = n at *
  generalize cutB s0 600 = t at *
  clear w0 w1
  go_enter Try.func6, Try.ntmps6
  go_wp2_with fail
  refine (spAwake_any w).mono ?_
  rintro e wa ⟨rfl, hba⟩
  go_wp2_with fail
  refine (HC.out wa).mono ?_
  rintro e wb ⟨rfl, hq⟩
  subst hq
  by_cases hbig : n * 255 < t.size
  · go_wp2_with fail
    refine (HS0.out _ hbig).mono ?_
    rintro e wb ⟨rfl, hq⟩
    subst hq
    have hd : decide (255 * n < t.size) = true := decide_eq_true (by omega)
    go_wp2_with fail
    go_loopw [21] (fun i wz => i = .int .i64 0 ∧ Below w.heap.size w wz) (fun _ _ => 0)
    case atStart => exact ⟨rfl, hba⟩
    case round =>
      obtain ⟨rfl, hb⟩ := hrel
      go_wp2_with fail
      go_ret
      exact ⟨by simp; omega, hb⟩
  · go_wp2_with fail
    refine (HS1.out _ (by omega)).mono ?_
    rintro e wb2 ⟨v, rfl, hL, hb2⟩
    have hbb := hba.trans (hb2.mono hba.size)
    have hN := spN_few t.size n hcn.1 hbig
    have hN1 := spN_pos t.size n
    have HF := Lib.hid (fun i (hi : i + 1 < spN t.size n) => spP_full t n i hcn.1 hi)
    have HZ := Lib.hid (fun i (hi : i < spN t.size n) => spP_none t n i hcn.1 hi)
    have HLe := Lib.hid (spP_le t n)
    have HT0 := Lib.hid (fun i => (by rw [spP_size]; omega : (spP t n i).size ≤ t.size))
    have HA : Hid (∀ i, i < spN t.size n → ((spL t n (spN t.size n)).map Value.string)[i]? = some (.string (spP t n i))) := Lib.hid fun i hi => by
      rw [List.getElem?_map, spL_at t n _ i hi]
      rfl
    generalize spN t.size n = N at *
    generalize (spL t n N).map Value.string = xs at *
    obtain ⟨g, off, cap, rfl, _, hcm, _, hgl, hc⟩ := (ownE_of hL).1.cells (by omega)
    have HCL := Lib.hid (fun (W : World) (h : Below wb2.heap.size wb2 W) (i : Nat) (hi : i < N) => (by rw [h.cell (p := ⟨g, off + i, none⟩) hgl]; exact (hc i _ (HA.out i hi)).1 : W.cell? ⟨g, off + i, none⟩ = some (.string (spP t n i))))
    unfold maxLen at hcm
    clear hc hL hb2 hba HA
    go_wp2_with fail
    go_loopw [21] (fun i wz => ∃ k : Nat, k ≤ N ∧ i = .int .i64 k ∧ wz = wb2) (fun i _ => N - (intOf i).toNat)
    case atStart => exact ⟨0, Nat.zero_le _, rfl, by simp⟩
    case round =>
      obtain ⟨k, hk, rfl, hq⟩ := hrel
      subst hq
      by_cases hlt : k < N
      · have c0 := HCL.out _ (Below.refl _ _) k hlt
        have h1 := HLe.out k
        have h2 := fun h => HF.out k h
        have h3 := HZ.out k hlt
        have h5 := HT0.out k
        generalize spP t n k = p at *
        obtain ⟨z, hz⟩ : ∃ z, p.size = z := ⟨_, rfl⟩
        rw [hz] at h1 h2 h3 h5
        have hpe := isEmpty_size p
        have hte := isEmpty_size t
        rw [hz] at hpe
        by_cases ht : t.size = 0
        · rw [decide_eq_true ht] at hte
          have hz0 : z = 0 := by omega
          subst hz0
          rw [decide_eq_true rfl] at hpe
          have hpn : p.toList = [] := by simpa using hpe
          have hl : ¬ k + 1 < N := fun h => by have := h2 h; omega
          have hd : decide ((k : Int) < (N : Int) - 1) = false := decide_eq_false (by omega)
          clear hpe h2 h3 ht
          go_wp2_with fail
          go_roundw
          case rel => exact ⟨k + 1, by omega, by go_num, trivial⟩
          case measure => simp [intOf]; omega
        · have hz0 : ¬ z = 0 := fun h => ht (h3 h)
          rw [decide_eq_false hz0] at hpe
          have hpn : ¬ p.toList = [] := by simpa using hpe
          clear hpe h3 hte
          by_cases hl : k + 1 < N
          · have h4 := h2 hl
            have hd : decide ((k : Int) < (N : Int) - 1) = true := decide_eq_true (by omega)
            subst h4
            clear h2
            go_wp2_with fail
            go_roundw
            case rel => exact ⟨k + 1, by omega, by go_num, trivial⟩
            case measure => simp [intOf]; omega
          · have hd : decide ((k : Int) < (N : Int) - 1) = false := decide_eq_false (by omega)
            clear h2
            go_wp2_with fail
            go_roundw
            case rel => exact ⟨k + 1, by omega, by go_num, trivial⟩
            case measure => simp [intOf]; omega
      · obtain rfl : k = N := by omega
        have hd : decide (255 * n < t.size) = false := decide_eq_false (by omega)
        have hd2 : decide (k ≤ 255) = true := decide_eq_true (by omega)
        go_wp2_with fail
        go_ret
        refine ⟨?_, hbb⟩
        have e1 : ((k : Int) == 0) = false := by simp; omega
        have e2 : decide (255 * (n : Int) < (t.size : Int)) = false := decide_eq_false (by omega)
        simp [e1, e2]
end splitSizes
end Go.Proofs.Ytihbhgimceglnaa
