/- rtp: the statements' Same. -/
import Derived.Test.YtjoikidnnhjogaaRtpK
import Derived.Deep.QuietTactic
import Derived.BigQuiet
namespace Go.Proofs.Ytjoikidnnhjogaa
open Go.RowKit
set_option linter.unusedVariables false
end Go.Proofs.Ytjoikidnnhjogaa

