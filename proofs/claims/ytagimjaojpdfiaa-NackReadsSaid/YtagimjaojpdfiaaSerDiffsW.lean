/- SerialDiffs and SerialAdds: the walks. -/
import Derived.Test.YtagimjaojpdfiaaSerC
namespace Go.Proofs.Ytagimjaojpdfiaa
open Go.RowKit
set_option linter.unusedVariables false
theorem back_wrap (a b : Int) (h3 : 0 ≤ b) (h4 : b ≤ 65535) : IntKind.u16.wrap (a + IntKind.u16.wrap (d16 a b)) = b := by
  simp only [low_wrap]; unfold d16; omega
theorem d16_anti (a b : Int) (h : d16 a b ≠ -32768) : d16 b a = - d16 a b := by unfold d16 at *; omega
theorem neg_in (a b : Int) : wrap64 (- d16 a b) = - d16 a b := by
  have := d16_bd a b
  exact IntWalk.wrap64_in _ ⟨by omega, by omega⟩
namespace serialDiffs
end serialDiffs
namespace serialAdds
end serialAdds
end Go.Proofs.Ytagimjaojpdfiaa
