/- rtp: the statements' awake; IsControl. -/
import Derived.Test.YtjoikidnnhjogaaRtpP
import Derived.Test.YtjoikidnnhjogaaRtpQ
namespace Go.Proofs.Ytjoikidnnhjogaa
open Go.RowKit
set_option linter.unusedVariables false
def constB : ByteArray := { data := #[128, 96, 0, 1, 0, 0, 0, 0, 0, 0, 0, 0] }
def constP : PK := ⟨false, 96, 1, 0, 0, [], false, 0, { data := #[] }, { data := #[] }, 0⟩
theorem const_parse : parseR constB = .inr constP := by kernel_rfl
theorem const_pack : ofL (packL constP) = constB := by kernel_rfl
theorem const_may : mayOk constP := by decide
theorem const_ok : constP.ok := ⟨by decide, by decide, by decide, by intro x hx; cases hx⟩
namespace rtpControls
end rtpControls
end Go.Proofs.Ytjoikidnnhjogaa

