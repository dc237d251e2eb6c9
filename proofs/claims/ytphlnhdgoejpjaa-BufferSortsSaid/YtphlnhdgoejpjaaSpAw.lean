/- split: the law's awake. -/
import Derived.Test.YtphlnhdgoejpjaaSpE
namespace Go.Proofs.Ytphlnhdgoejpjaa
open Go.RowKit
set_option linter.unusedVariables false
set_option linter.unusedSimpArgs false
end Go.Proofs.Ytphlnhdgoejpjaa
