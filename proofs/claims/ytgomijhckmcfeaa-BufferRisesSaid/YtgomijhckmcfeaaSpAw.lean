/- split: the law's awake. -/
import Derived.Test.YtgomijhckmcfeaaSpE
namespace Go.Proofs.Ytgomijhckmcfeaa
open Go.RowKit
set_option linter.unusedVariables false
set_option linter.unusedSimpArgs false
end Go.Proofs.Ytgomijhckmcfeaa
