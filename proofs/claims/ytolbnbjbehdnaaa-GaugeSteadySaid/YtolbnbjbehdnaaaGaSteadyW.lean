/- GaugeSteady: the walk. -/
import Derived.Test.YtolbnbjbehdnaaaGaW
namespace Go.Proofs.Ytolbnbjbehdnaaa
open Go.RowKit
set_option linter.unusedVariables false
namespace gaugeSteady
set_option maxHeartbeats 1600000 in
theorem walk (a0 a1 : Int) (w0 : (Lit.int .i64 a0).wf = true) (w1 : (Lit.int .i64 a1).wf = true) (w : World) :
    Calls Try.prog 5 #[.int .i64 a0, .int .i64 a1] w fun e w' => e = .returned (.bool true) ∧ Below w.heap.size w w' := by
  clear w0 w1
  have hm1 : bits .and .i64 a0 1048575 = a0 % 1048576 := i64_mask a0 20 (by omega)
  have hm2 : bits .and .i64 a1 63 = a1 % 64 := i64_mask a1 6 (by omega)
  have s0 : 0 ≤ a0 % 1048576 := by omega
  have s1 : a0 % 1048576 ≤ 1048575 := by omega
  have n0 : 0 ≤ a1 % 64 := by omega
  have n1 : a1 % 64 ≤ 63 := by omega
  generalize a0 % 1048576 = s at hm1 s0 s1
  generalize a1 % 64 = nI at hm2 n0 n1
  obtain ⟨n, rfl⟩ : ∃ n : Nat, nI = (n : Int) := ⟨nI.toNat, by omega⟩
  have hn : n ≤ 63 := by omega
  clear n0 n1
  have HN := Lib.hid (fun W => tNext0_any s s0 (by omega) W)
  go_enter Try.func5, Try.ntmps5
  go_wp2_with fail
  refine (gaAwake_any _).mono ?_
  rintro e wa ⟨rfl, hba⟩
  have hsz := hba.size
  go_wp2_with fail
  refine (HN.out _).mono ?_
  rintro e w3 ⟨rfl, hb3⟩
  have hb4 := hba.trans (hb3.mono hsz)
  have hX := at3_new 36 w3 _ (.int .i64 (8 * s)) (.int .i64 (2 * s)) (.bool true) rfl
  have hb5 := hb4.alloc hb4.size (.cells #[.int .i64 (8 * s), .int .i64 (2 * s), .bool true] 36)
  have hle := hb4.size
  go_upto_region 5 with fail
  generalize w3.alloc (.cells #[.int .i64 (8 * s), .int .i64 (2 * s), .bool true] 36) = w4 at hX hb5 ⊢
  generalize w3.heap.size = g at hX hle ⊢
  clear hb4 hb3 hba HN hsz hm1 hm2
  go_wp2_with fail
  go_loopw [16] (fun kv wr => ∃ (k : Nat) (p : Int), k ≤ n ∧ kv = .int .i64 k ∧ 0 ≤ p ∧ p ≤ 2097152 ∧ At3 36 wr g (.int .i64 (8 * s)) (.int .i64 p) (.bool true) ∧ Below w.heap.size w wr)
    (fun kv _ => n - (intOf kv).toNat)
  case atStart => exact ⟨0, 2 * s, by omega, rfl, by omega, by omega, hX, hb5⟩
  case round =>
    obtain ⟨k, p, hk, rfl, p0, p1, hXk, hbk⟩ := hrel
    clear hX hb5
    obtain ⟨_, _, _⟩ := hXk.frees
    obtain ⟨_, _, _⟩ := hXk.cells
    have hl := hXk.lt
    by_cases hlt : k < n
    · have hN := Lib.hid (fun W => tNext1_any s (8 * s) p s0 (by omega) (by omega) (by omega) p0 (by omega) (by omega) W)
      have hO := Lib.hid (fun W => tOut_any (8 * s) (p - p / 4) (by omega) (by omega) (by omega) (by omega) W)
      have q0 : 0 ≤ p - p / 4 := by omega
      have q1 : p - p / 4 ≤ 2097152 := by omega
      have ht : decide (max (8 * s / 8 + (p - p / 4)) 1 < max 1 s) = false := by
        rw [decide_eq_false_iff_not]; omega
      generalize max (8 * s / 8 + (p - p / 4)) 1 = tout at hO ht
      generalize p - p / 4 = q at hN hO q0 q1
      go_wp2_with fail
      refine (hN.out _).mono ?_
      rintro e w6 ⟨rfl, hb6⟩
      have hX6 := at3_store (hXk.later hb6) (.int .i64 (8 * s)) (.int .i64 q) (.bool true)
      have hb7 := (hbk.trans (hb6.mono (by omega))).trans ((store3_only w6 g (.int .i64 (8 * s)) (.int .i64 q) (.bool true)).below hle)
      obtain ⟨_, _, _⟩ := (hXk.later hb6).frees
      obtain ⟨_, _, _⟩ := (hXk.later hb6).cells
      go_upto_region 8 with fail
      generalize ((w6.setCell ⟨g, 0, none⟩ (.int .i64 (8 * s))).setCell ⟨g, 1, none⟩ (.int .i64 q)).setCell ⟨g, 2, none⟩ (.bool true) = w7 at hX6 hb7 ⊢
      clear hb6 hN hXk hbk hl
      obtain ⟨_, _, _⟩ := hX6.cells
      have hl := hX6.lt
      go_wp2_with fail
      refine (hO.out _).mono ?_
      rintro e w8 ⟨rfl, hb8⟩
      have hX8 := hX6.later hb8
      have hb9 := hb7.trans (hb8.mono (by omega))
      go_wp2_with fail
      go_roundw
      case rel => exact ⟨k + 1, q, by omega, by go_num, q0, q1, hX8, hb9⟩
      case measure => simp [intOf]; omega
    · obtain rfl : k = n := by omega
      go_wp2
      go_ret
      exact ⟨rfl, hbk⟩
end gaugeSteady
end Go.Proofs.Ytolbnbjbehdnaaa
