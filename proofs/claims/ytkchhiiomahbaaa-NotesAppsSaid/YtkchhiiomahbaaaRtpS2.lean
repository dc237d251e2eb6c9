/- rtp: the statements' Same. -/
import Derived.Test.YtkchhiiomahbaaaRtpK
import Derived.Deep.QuietTactic
import Derived.BigQuiet
namespace Go.Proofs.Ytkchhiiomahbaaa
open Go.RowKit
set_option linter.unusedVariables false
end Go.Proofs.Ytkchhiiomahbaaa
