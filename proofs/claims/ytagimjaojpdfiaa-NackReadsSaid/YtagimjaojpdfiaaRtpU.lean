/- rtp: taking padding off. -/
import Derived.Test.YtagimjaojpdfiaaRtpW
import Derived.BigQuiet
import Derived.Deep.QuietTactic
namespace Go.Proofs.Ytagimjaojpdfiaa
open Go.RowKit
set_option linter.unusedVariables false
/-- The last byte. -/
def lastN (s : ByteArray) : Nat := ((by_ s)[s.size - 1]?.getD 0).toNat
/-- May so much padding be taken off? -/
def padOk (s : ByteArray) : Prop := s.size ≠ 0 ∧ lastN s ≠ 0 ∧ lastN s ≤ s.size ∧ s.extract (s.size - lastN s) s.size = ofL (padL (lastN s))
theorem ret_un {d : ByteArray} {p q : Int} (h : p = q) : Ending.returned (.tuple #[.string d, .int .i64 p, .int .i64 0]) = .returned (.tuple #[.string d, .int .i64 q, .int .i64 0]) := by rw [h]
end Go.Proofs.Ytagimjaojpdfiaa
