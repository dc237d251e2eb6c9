/- serial.Diff and Extend. -/
import Derived.Test.YtagimjaojpdfiaaBase
namespace Go.Proofs.Ytagimjaojpdfiaa
open Go.RowKit
set_option linter.unusedVariables false
theorem low_wrap (a : Int) : IntKind.u16.wrap a = a % 65536 := by simp [IntKind.wrap, IntKind.bits, IntKind.signed]

theorem ext_close (last X n : Int) (h : X = near62 last) : wrap64 (X + d16 (IntKind.u16.wrap X) n) = near62 last + d16 (near62 last % 65536) n := by
  have hb := d16_bd (near62 last % 65536) n
  have h62 : -4611686018427387904 ≤ near62 last ∧ near62 last ≤ 4611686018427387904 := by unfold near62; omega
  rw [h, low_wrap]
  exact IntWalk.wrap64_in _ ⟨by omega, by omega⟩

end Go.Proofs.Ytagimjaojpdfiaa
