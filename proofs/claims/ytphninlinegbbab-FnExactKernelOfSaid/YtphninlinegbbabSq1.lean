/- Proved: what the helpers of the laws on squares return: conversions give the same cells, and what is compared with itself is equal. Conditions: none. -/
import Derived.Test.YtphninlinegbbabBase
import Derived.Test.YtphninlinegbbabSq0
import Derived.Test.YtphninlinegbbabReg
namespace Go.Proofs.Ytphninlinegbbab
set_option linter.unusedVariables false
set_option linter.unusedSimpArgs false
open Go.RowKit
theorem builtSqO (n : Int) : Try.prog.built 31 [(0, .int .i64 n)] = some (sqc n fun _ => 0) := by kernel_rfl
end Go.Proofs.Ytphninlinegbbab
