/- Proved: what the helpers of the laws on places return. Conditions: those that each theorem names. -/
import Derived.Test.YtpfhjbcmlebejaaPl1
namespace Go.Proofs.Ytpfhjbcmlebejaa
set_option linter.unusedVariables false
set_option linter.unusedSimpArgs false
open Go.RowKit

end Go.Proofs.Ytpfhjbcmlebejaa
