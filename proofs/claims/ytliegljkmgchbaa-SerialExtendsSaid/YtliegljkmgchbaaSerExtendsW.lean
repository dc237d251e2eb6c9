/- SerialExtends: the walk. -/
import Derived.Test.YtliegljkmgchbaaSerDiffsW
namespace Go.Proofs.Ytliegljkmgchbaa
open Go.RowKit
set_option linter.unusedVariables false
theorem extend_step (L d : Int) (w : World) (h1 : -4611686018427387904 ≤ L) (h2 : L ≤ 4611686018427387904) (h3 : -32768 ≤ d) (h4 : d ≤ 32767) :
    Calls Try.prog 18 #[.int .i64 L, .int .u16 ((L + d) % 65536)] w fun e w' => e = .returned (.int .i64 (L + d)) ∧ w = w' := by
  refine (extend_any _ _ _).mono ?_
  rintro e w' ⟨rfl, rfl⟩
  have hn : near62 L = L := by unfold near62; omega
  exact ⟨ret_eq (by rw [hn]; unfold d16; omega), rfl⟩
theorem extend_far (L : Int) (w : World) (h1 : -4611686018427387904 ≤ L) (h2 : L ≤ 4611686018427387904) :
    Calls Try.prog 18 #[.int .i64 L, .int .u16 ((L + 32768) % 65536)] w fun e w' => e = .returned (.int .i64 (L - 32768)) ∧ w = w' := by
  refine (extend_any _ _ _).mono ?_
  rintro e w' ⟨rfl, rfl⟩
  have hn : near62 L = L := by unfold near62; omega
  exact ⟨ret_eq (by rw [hn]; unfold d16; omega), rfl⟩
namespace serialExtends
theorem walk (a0 : Int) (p1 : Option Addr) (len1 cap1 : Nat) (z1 : List Int) (w0 : (Lit.int .i64 a0).wf = true) (w : World) (w1 : IsRow .i64 w p1 len1 cap1 z1) :
    Calls Try.prog 4 #[.int .i64 a0, .slice p1 len1 cap1] w fun e w' => e = .returned (.bool true) ∧ Below w.heap.size w w' := by
  obtain ⟨es, rfl, l1, l2, hr0, hwf⟩ := w1.reads
  have B := low_wrap
  go_enter Try.func4, Try.ntmps4
  go_wp2_with fail
  refine (awake_any _).mono ?_
  rintro e w' ⟨rfl, hb⟩
  have hr := hr0.later hb
  clear hr0 w1
  go_wp2_with (first | (go_at_call 18; refine (extend_any _ _ _).mono ?_; rintro e w' ⟨rfl, rfl⟩) | (go_at_call 20; refine (low_any _ _).mono ?_; rintro e w' ⟨rfl, rfl⟩) | (go_at_call 19; refine (refExtend_any _ _ _ (by omega) (by omega)).mono ?_; rintro e w' ⟨rfl, rfl⟩))
  all_goals
    go_loop [0, 5] (fun last i => ∃ (k : Nat) (L : Int), k ≤ 40 ∧ i = .int .i64 k ∧ last = .int .i64 L ∧ -1099511627776 - 32768 * k ≤ L ∧ L ≤ 1099511627776 + 32768 * k) (fun _ i => 40 - (intOf i).toNat)
    case atStart => exact ⟨0, _, by omega, rfl, rfl, by omega, by omega⟩
    case round =>
      obtain ⟨k, L, hk, rfl, rfl, hL1, hL2⟩ := hrel
      by_cases hlt : k < es.length
      · by_cases hlt2 : k < 40
        · obtain ⟨b, off, rfl, hcell⟩ := hr.at hlt
          generalize es[k]?.getD 0 = x at hcell
          have hx := i64_and65535 x
          by_cases hd : x % 65536 - 32767 < 32768
          · go_wp2_with (go_at_call 18; refine (extend_step _ _ _ (by omega) (by omega) (by omega) (by omega)).mono ?_; rintro e w' ⟨rfl, rfl⟩)
            go_round
            case rel => exact ⟨k + 1, _, by omega, by go_num, rfl, by omega, by omega⟩
            case measure => simp [intOf]; omega
          · have hx2 : x % 65536 - 32767 = 32768 := by omega
            go_wp2_with (go_at_call 18; refine (extend_far _ _ (by omega) (by omega)).mono ?_; rintro e w' ⟨rfl, rfl⟩)
            go_round
            case rel => exact ⟨k + 1, _, by omega, by go_num, rfl, by omega, by omega⟩
            case measure => simp [intOf]; omega
        · go_wp2_with fail
          go_ret
          exact ⟨rfl, hb⟩
      · go_wp2_with fail
        go_ret
        exact ⟨rfl, hb⟩
end serialExtends
end Go.Proofs.Ytliegljkmgchbaa
