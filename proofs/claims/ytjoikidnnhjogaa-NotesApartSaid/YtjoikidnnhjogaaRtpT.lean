/- The statements' Told. -/
import Derived.Test.YtjoikidnnhjogaaRtpQ
import Derived.Test.YtjoikidnnhjogaaRtpP
namespace Go.Proofs.Ytjoikidnnhjogaa
open Go.RowKit
set_option linter.unusedVariables false
section
variable {W w' : World} {g b : Nat} {c0 c1 c2 c3 c4 c5 c6 c7 c8 c9 c10 : Value}
end
theorem info64r : (Try.prog.info? 3).map (fun i => (i.zero, i.size, i.bytes)) = some (some (.int .i64 0), 1, 8) := by kernel_rfl
/-- What Told answers. -/
def ToldR (p : PK) (w : World) (e : Ending) (w' : World) : Prop := Below w.heap.size w w' ∧ ∃ a' c', e = .returned (.agg (p.rcells a' c')) ∧ w'.ownsRow w.heap.size 3 1 (.slice a' p.others.length c') p.others.length (p.others.map (Value.int .i64))
end Go.Proofs.Ytjoikidnnhjogaa

