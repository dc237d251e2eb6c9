/- rtp: the statements' Same. -/
import Derived.Test.YteffolbkffafbaaRtpK
import Derived.Deep.QuietTactic
import Derived.BigQuiet
namespace Go.Proofs.Yteffolbkffafbaa
open Go.RowKit
set_option linter.unusedVariables false
end Go.Proofs.Yteffolbkffafbaa
