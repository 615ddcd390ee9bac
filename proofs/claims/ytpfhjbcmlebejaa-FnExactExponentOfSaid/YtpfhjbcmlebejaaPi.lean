/- Proved: what the model's ProductIn returns. Conditions: those that each theorem names. -/
import Derived.Test.YtpfhjbcmlebejaaSq3b
import Derived.Test.YtpfhjbcmlebejaaSq5
namespace Go.Proofs.Ytpfhjbcmlebejaa
set_option linter.unusedVariables false
set_option linter.unusedSimpArgs false
open Go.RowKit
end Go.Proofs.Ytpfhjbcmlebejaa
