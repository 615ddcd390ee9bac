/- Proved: what LeftInverse and RightInverse return, of program and model alike. Conditions: those that each theorem names. -/
import Derived.Test.YtcdlnkjljijlmaaLc
import Derived.Test.YtcdlnkjljijlmaaQt
namespace Go.Proofs.Ytcdlnkjljijlmaa
set_option linter.unusedVariables false
set_option linter.unusedSimpArgs false
open Go.RowKit
theorem l01Right0_any (N : Nat) (g : Nat → UInt8) (y : UInt8) (w : World) (hq : IsSq N g) (hy : y.toNat < N) :
    Calls Try.prog 93 #[.agg (sqc N g), .int .u8 0, .int .u8 y.toNat] w fun e w' => e = .returned (.int .u8 (backF (colF g y.toNat) N 0).toNat) ∧ Below w.heap.size w w' := l01Right_any N g 0 y w hq hy (by show 0 < N; omega)
end Go.Proofs.Ytcdlnkjljijlmaa
