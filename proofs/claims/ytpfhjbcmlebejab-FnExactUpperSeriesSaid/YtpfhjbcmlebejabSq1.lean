/- Proved: what the helpers of the laws on squares return: conversions give the same cells, and what is compared with itself is equal. Conditions: none. -/
import Derived.Test.YtpfhjbcmlebejabBase
import Derived.Test.YtpfhjbcmlebejabSq0
import Derived.Test.YtpfhjbcmlebejabReg
namespace Go.Proofs.Ytpfhjbcmlebejab
set_option linter.unusedVariables false
set_option linter.unusedSimpArgs false
open Go.RowKit
theorem builtSqO (n : Int) : Try.prog.built 30 [(0, .int .i64 n)] = some (sqc n fun _ => 0) := by kernel_rfl
end Go.Proofs.Ytpfhjbcmlebejab
