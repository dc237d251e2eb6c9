/- serial.Diff and Extend. -/
import Derived.Test.YtncpepbpphpkoaaBase
namespace Go.Proofs.Ytncpepbpphpkoaa
open Go.RowKit
set_option linter.unusedVariables false
theorem diff_any (a b : Int) (w : World) : Calls Try.prog 37 #[.int .u16 a, .int .u16 b] w fun e w' => e = .returned (.int .i64 (d16 a b)) ∧ w = w' := by
  go_enter Try.func37, Try.ntmps37
  go_wp2
  go_ret
  exact ⟨ret_eq (d16_wrap a b), rfl⟩

theorem low_wrap (a : Int) : IntKind.u16.wrap a = a % 65536 := by simp [IntKind.wrap, IntKind.bits, IntKind.signed]

theorem ext_close (last X n : Int) (h : X = near62 last) : wrap64 (X + d16 (IntKind.u16.wrap X) n) = near62 last + d16 (near62 last % 65536) n := by
  have hb := d16_bd (near62 last % 65536) n
  have h62 : -4611686018427387904 ≤ near62 last ∧ near62 last ≤ 4611686018427387904 := by unfold near62; omega
  rw [h, low_wrap]
  exact IntWalk.wrap64_in _ ⟨by omega, by omega⟩

theorem extend_any (last n : Int) (w : World) : Calls Try.prog 31 #[.int .i64 last, .int .u16 n] w fun e w' => e = .returned (.int .i64 (near62 last + d16 (near62 last % 65536) n)) ∧ w = w' := by
  by_cases c1 : last < -4611686018427387904
  · go_enter Try.func31, Try.ntmps31
    go_wp2_with (go_at_call 37; refine (diff_any _ _ _).mono ?_; rintro e w' ⟨rfl, rfl⟩)
    go_ret
    exact ⟨ret_eq (ext_close last _ n (by unfold near62; omega)), rfl⟩
  · by_cases c2 : 4611686018427387904 < last
    · go_enter Try.func31, Try.ntmps31
      go_wp2_with (go_at_call 37; refine (diff_any _ _ _).mono ?_; rintro e w' ⟨rfl, rfl⟩)
      go_ret
      exact ⟨ret_eq (ext_close last _ n (by unfold near62; omega)), rfl⟩
    · go_enter Try.func31, Try.ntmps31
      go_wp2_with (go_at_call 37; refine (diff_any _ _ _).mono ?_; rintro e w' ⟨rfl, rfl⟩)
      go_ret
      exact ⟨ret_eq (ext_close last _ n (by unfold near62; omega)), rfl⟩

end Go.Proofs.Ytncpepbpphpkoaa
