/- share: Paths. -/
import Derived.Test.YtaiekbhpgbmalaaShH
namespace Go.Proofs.Ytaiekbhpgbmalaa
open Go.RowKit
set_option linter.unusedVariables false
theorem psS_take (ls : List SL) (k : Nat) (x : SL) (hx : ls[k]? = some x) : (ls.take (k + 1)).map (·.p) = (ls.take k).map (·.p) ++ [x.p] := by
  rw [List.take_add_one, hx]
  simp
theorem info64s : (Try.prog.info? 3).map (fun i => (i.zero, i.size, i.bytes)) = some (some (.int .i64 0), 1, 8) := by kernel_rfl
end Go.Proofs.Ytaiekbhpgbmalaa
