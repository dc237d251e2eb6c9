/- HistoryNewest: the walk. -/
import Derived.Test.YtaekefedmobfoaaHiJ
namespace Go.Proofs.Ytaekefedmobfoaa
open Go.RowKit
set_option linter.unusedVariables false
set_option linter.unusedSimpArgs false
namespace historyNewest
def nwR (S i : Nat) : HR := ⟨((S * i : Nat) : Int), 0, 1, ⟨#[120]⟩⟩
/-- What is kept behind i of them. -/
def nwL (M S i : Nat) : List HR := ((List.range i).drop (i - M)).map (nwR S)
theorem nwL_len (M S i : Nat) : (nwL M S i).length = min i M := by unfold nwL; simp; omega
theorem nwL_mem (M S i : Nat) (r : HR) (h : r ∈ nwL M S i) : ∃ j, j < i ∧ r = nwR S j := by
  unfold nwL at h
  obtain ⟨j, hj, rfl⟩ := List.mem_map.1 h
  exact ⟨j, by simpa using List.mem_of_mem_drop hj, rfl⟩
theorem nwL_ok (M S i : Nat) (hS : 1 ≤ S) : hiOk ((S * i : Nat) : Int) (nwL M S i) = true := by
  unfold hiOk
  rw [List.all_eq_true]
  intro r hr
  obtain ⟨j, hj, rfl⟩ := nwL_mem M S i r hr
  have : S * j < S * i := Nat.mul_lt_mul_of_pos_left hj (by omega)
  simp only [nwR]
  exact decide_eq_true (Int.ofNat_lt.2 this)
theorem nwL_put (M S i : Nat) (hS : 1 ≤ S) (hM : 1 ≤ M) : hiPut (M : Int) (nwL M S i) (nwR S i) = nwL M S (i + 1) := by
  unfold hiPut hiAdd
  rw [if_pos (show hiOk (nwR S i).s (nwL M S i) = true from nwL_ok M S i hS), nwL_len]
  rcases Nat.lt_or_ge i M with h | h
  · rw [if_neg (by omega)]
    unfold nwL
    rw [show i - M = 0 by omega, show i + 1 - M = 0 by omega, List.range_succ]
    simp
  · rw [if_pos (by omega)]
    unfold nwL
    rw [show i + 1 - M = (i - M) + 1 by omega, List.range_succ, ← List.drop_drop, List.drop_append_of_le_length (l₁ := List.range i) (by simp)]
    simp [List.map_drop]
theorem nwL_at (M S N i : Nat) (hi : i < min N M) : (nwL M S N)[i]? = some (nwR S (N - min N M + i)) := by
  unfold nwL
  rw [List.getElem?_map, List.getElem?_drop, List.getElem?_range (by omega), show N - M + i = N - min N M + i by omega]
  rfl
set_option maxRecDepth 100000 in
set_option maxHeartbeats 3200000 in
theorem walk (a0 a1 a2 : Int) (w0 : (Lit.int .i64 a0).wf = true) (w1 : (Lit.int .i64 a1).wf = true) (w2 : (Lit.int .i64 a2).wf = true) (w : World) :
    Calls Try.prog 8 #[.int .i64 a0, .int .i64 a1, .int .i64 a2] w fun e w' => e = .returned (.bool true) ∧ Below w.heap.size w w' := by
  have hm31 : ∀ z : Int, bits .and .i64 z 31 = z % 32 := fun z => i64_mask z 5 (by omega)
  have hm63 : ∀ z : Int, bits .and .i64 z 63 = z % 64 := fun z => i64_mask z 6 (by omega)
  have hm7 : ∀ z : Int, bits .and .i64 z 7 = z % 8 := fun z => i64_mask z 3 (by omega)
  obtain ⟨M, hM⟩ : ∃ M : Nat, 1 + a0 % 32 = (M : Int) := ⟨(1 + a0 % 32).toNat, by omega⟩
  obtain ⟨N, hN⟩ : ∃ N : Nat, a1 % 64 = (N : Int) := ⟨(a1 % 64).toNat, by omega⟩
  obtain ⟨S, hS⟩ : ∃ S : Nat, 1 + a2 % 8 = (S : Int) := ⟨(1 + a2 % 8).toNat, by omega⟩
  have hM1 : 1 ≤ M := by omega
  have hM2 : M ≤ 32 := by omega
  have hN2 : N ≤ 63 := by omega
  have hS1 : 1 ≤ S := by omega
  have hS2 : S ≤ 8 := by omega
  have hMC : hiC (M : Int) = M := by unfold hiC; omega
  have HMC := Lib.hid hMC
  clear hMC w0 w1 w2
  go_enter Try.func8, Try.ntmps8
  go_wp2_with fail
  refine (hiAwake_any w).mono ?_
  rintro e wa ⟨rfl, hba⟩
  go_wp2_with fail
  refine (hiNew_any M 1 wa).mono ?_
  rintro e wb ⟨rfl, hQb, hkb⟩
  have hbb := hba.trans (hkb.mono hba.size)
  have hgB : w.heap.size ≤ wa.heap.size := hba.size
  generalize wa.heap.size = gh at hQb hgB hkb ⊢
  clear hba hkb hM hN hS hm31 hm63 hm7
  go_wp2_with fail
  go_loopw [27] (fun i wr => ∃ (k : Nat) (v : Value), k ≤ N ∧ i = .int .i64 k ∧ HIn wr gh gh M 1 v (nwL M S k) 0 ∧ Below w.heap.size w wr) (fun i _ => N - (intOf i).toNat)
  case atStart => exact ⟨0, _, Nat.zero_le _, rfl, by unfold nwL; simpa using hQb, hbb⟩
  case round =>
    obtain ⟨k, v, hk, rfl, hQ, hb⟩ := hrel
    clear hQb hbb
    by_cases hlt : k < N
    · have hq : (S : Int) * (k : Int) = ((S * k : Nat) : Int) := by rw [Int.natCast_mul]
      have hqb : S * k ≤ 504 := Nat.le_trans (Nat.mul_le_mul hS2 (show k ≤ 63 by omega)) (by decide)
      have HP := Lib.hid (hiPut_any hQ ((S * k : Nat) : Int) 1 (⟨#[120]⟩ : ByteArray))
      rw [nwL_ok M S k hS1, HMC.out, show (⟨((S * k : Nat) : Int), 0, 1, ⟨#[120]⟩⟩ : HR) = nwR S k from rfl, nwL_put M S k hS1 hM1] at HP
      clear hQ
      generalize S * k = q at *
      go_wp2_with fail
      refine HP.out.mono ?_
      rintro e w3 ⟨rfl, ⟨v3, hQ3⟩, hk3, _, _⟩
      have hb3 := hb.trans (hk3.mono hgB)
      clear HP hb hk3
      go_wp2_with fail
      go_roundw
      case rel => exact ⟨k + 1, v3, by omega, by go_num, hQ3, hb3⟩
      case measure => simp [intOf]; omega
    · obtain rfl : k = N := by omega
      have HS := Lib.hid (hiSeqs_any hQ)
      have HAt := Lib.hid (nwL_at M S k)
      rw [nwL_len] at HS
      have hgs : gh < wr.heap.size := hQ.at4.lt
      have hbs := hb.size
      clear hQ
      go_wp2_with fail
      refine HS.out.mono ?_
      rintro e w4 ⟨v4, rfl, hO4, hk4⟩
      have hb4 := hb.trans (hk4.mono hbs)
      obtain ⟨a4, c4, rfl⟩ := hO4.form4
      obtain ⟨n, hn⟩ : ∃ n, min k M = n := ⟨_, rfl⟩
      have hmn : min (M : Int) (k : Int) = (n : Int) := by omega
      rw [hn] at hO4 HAt ⊢
      have hnk : n ≤ k := by omega
      have hn32 : n ≤ 32 := by omega
      have HO4 := Lib.hid hO4
      clear hk4 hb HS hO4 hn
      go_wp2_with fail
      go_loop [47] (fun i => ∃ j : Nat, j ≤ n ∧ i = .int .i64 j) (fun i => n - (intOf i).toNat)
      case atStart => exact ⟨0, Nat.zero_le _, rfl⟩
      case round =>
        obtain ⟨j, hj, rfl⟩ := hrel
        by_cases hjlt : j < n
        · obtain ⟨g, off, cap, e4, _, _, _, _, hcz⟩ := HO4.out.row (by omega)
          simp only [Value.slice.injEq, true_and] at e4
          obtain ⟨rfl, rfl⟩ := e4
          have hcell := (hcz j (.int .i64 ((S * (k - n + j) : Nat) : Int)) (by
            unfold hiS
            rw [List.getElem?_map, HAt.out j hjlt]
            rfl)).1
          have hq : (S : Int) * ((k : Int) - n + j) = ((S * (k - n + j) : Nat) : Int) := by rw [Int.natCast_mul]; congr 1; omega
          have hqb : S * (k - n + j) ≤ 504 := Nat.le_trans (Nat.mul_le_mul hS2 (show k - n + j ≤ 63 by omega)) (by decide)
          generalize S * (k - n + j) = q at *
          clear hcz
          go_wp2
          go_round
          case rel => exact ⟨j + 1, by omega, by go_num⟩
          case measure => simp [intOf]; omega
        · obtain rfl : j = n := by omega
          go_wp2
          go_ret
          exact ⟨rfl, hb4⟩
end historyNewest
end Go.Proofs.Ytaekefedmobfoaa
