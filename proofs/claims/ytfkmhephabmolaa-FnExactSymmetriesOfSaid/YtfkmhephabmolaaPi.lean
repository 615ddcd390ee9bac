/- Proved: what the model's ProductIn returns. Conditions: those that each theorem names. -/
import Derived.Test.YtfkmhephabmolaaSq3b
import Derived.Test.YtfkmhephabmolaaSq5
namespace Go.Proofs.Ytfkmhephabmolaa
set_option linter.unusedVariables false
set_option linter.unusedSimpArgs false
open Go.RowKit
end Go.Proofs.Ytfkmhephabmolaa
