/- rtp: the document's May. -/
import Derived.Test.YtilobmebfeenfaaRtpK
namespace Go.Proofs.Ytilobmebfeenfaa
open Go.RowKit
set_option linter.unusedVariables false
theorem may_f (mrk : Bool) (kind seq time source : Int) (others : List Int) (prof : Int) (ext data : ByteArray) (pad : Int) : mayOk ⟨mrk, kind, seq, time, source, others, false, prof, ext, data, pad⟩ ↔ ((0 ≤ kind ∧ kind ≤ 127 ∧ others.length ≤ 15 ∧ prof = 0 ∧ ext.size = 0) ∧ 0 ≤ pad ∧ pad ≤ 255) := by unfold mayOk; rw [hdr_f]
theorem may_t (mrk : Bool) (kind seq time source : Int) (others : List Int) (prof : Int) (ext data : ByteArray) (pad : Int) : mayOk ⟨mrk, kind, seq, time, source, others, true, prof, ext, data, pad⟩ ↔ ((0 ≤ kind ∧ kind ≤ 127 ∧ others.length ≤ 15 ∧ 0 ≤ prof ∧ prof ≤ 65535 ∧ ext.size % 4 = 0 ∧ ext.size ≤ 262140) ∧ 0 ≤ pad ∧ pad ≤ 255) := by unfold mayOk; rw [hdr_t]
end Go.Proofs.Ytilobmebfeenfaa
