/- Proved: what the model's ProductIn returns. Conditions: those that each theorem names. -/
import Derived.Test.YtcdlnkjljijlmaaSq3b
import Derived.Test.YtcdlnkjljijlmaaSq5
namespace Go.Proofs.Ytcdlnkjljijlmaa
set_option linter.unusedVariables false
set_option linter.unusedSimpArgs false
open Go.RowKit
end Go.Proofs.Ytcdlnkjljijlmaa
