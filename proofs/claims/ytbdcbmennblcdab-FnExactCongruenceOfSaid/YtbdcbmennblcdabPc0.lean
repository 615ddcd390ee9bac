/- Proved: what the model's l03Apply returns. Conditions: those that each theorem names. -/
import Derived.Test.YtbdcbmennblcdabPa0
import Derived.Test.YtbdcbmennblcdabSq1
import Derived.Test.YtbdcbmennblcdabSq3b
namespace Go.Proofs.Ytbdcbmennblcdab
set_option linter.unusedVariables false
set_option linter.unusedSimpArgs false
open Go.RowKit
theorem l01Left_nat (N x z : Nat) (g : Nat → UInt8) (w : World) (hq : IsSq N g) (hx : x < N) (hz : z < N) :
    Calls Try.prog 106 #[.agg (sqc N g), .int .u8 x, .int .u8 z] w fun e w' => e = .returned (.int .u8 (backF (rowF g x) N z).toNat) ∧ Below w.heap.size w w' := by
  have h10 := hq.hi
  have e1 := u8_of x (by omega)
  have e2 := u8_of z (by omega)
  have := l01Left_any N g (UInt8.ofNat x) (UInt8.ofNat z) w hq (by omega) (by omega)
  rwa [e1, e2] at this
theorem l01Right_nat (N z y : Nat) (g : Nat → UInt8) (w : World) (hq : IsSq N g) (hz : z < N) (hy : y < N) :
    Calls Try.prog 157 #[.agg (sqc N g), .int .u8 z, .int .u8 y] w fun e w' => e = .returned (.int .u8 (backF (colF g y) N z).toNat) ∧ Below w.heap.size w w' := by
  have h10 := hq.hi
  have e1 := u8_of z (by omega)
  have e2 := u8_of y (by omega)
  have := l01Right_any N g (UInt8.ofNat z) (UInt8.ofNat y) w hq (by omega) (by omega)
  rwa [e1, e2] at this
set_option maxRecDepth 20000 in
theorem l03Apply_42 (N a b : Nat) (g : Nat → UInt8) (w : World) (hq : IsSq N g) (ha : a < N) (hb : b < N) :
    Calls Try.prog 142 #[.agg (sqc N g), .int .u8 42, .int .u8 a, .int .u8 b] w fun e w' => e = .returned (.int .u8 (g (a * 10 + b)).toNat) ∧ Below w.heap.size w w' := by
  have h10 := hq.hi
  have HQ := hid hq
  have ha1 : (a : Int) < 10 := by omega
  have hb1 : (b : Int) < 10 := by omega
  have hH := Has.start1 w (sqc N g) 31
  have ca := hH.c0 (1 + a * 10 + b)
  rw [Nat.add_assoc, sqc_get _ _ _ (by omega), ← Nat.add_assoc] at ca
  clear hq
  go_enter Try.func142, Try.ntmps142
  go_wp2_with (first | fail | (refine wpL_loadFull rfl rfl rfl rowSq hH.h0 (sqc_size _ _) ?_))
  go_ret
  exact ⟨rfl, hH.below⟩
set_option maxRecDepth 20000 in
theorem l03Apply_92 (N a b : Nat) (g : Nat → UInt8) (w : World) (hq : IsSq N g) (ha : a < N) (hb : b < N) :
    Calls Try.prog 142 #[.agg (sqc N g), .int .u8 92, .int .u8 a, .int .u8 b] w fun e w' => e = .returned (.int .u8 (backF (rowF g a) N b).toNat) ∧ Below w.heap.size w w' := by
  have h10 := hq.hi
  have HQ := hid hq
  have ha1 : (a : Int) < 10 := by omega
  have hb1 : (b : Int) < 10 := by omega
  have hH := Has.start1 w (sqc N g) 31
  have ca := hH.c0 (1 + a * 10 + b)
  rw [Nat.add_assoc, sqc_get _ _ _ (by omega), ← Nat.add_assoc] at ca
  clear hq
  go_enter Try.func142, Try.ntmps142
  go_wp2_with (first | fail | (refine wpL_loadFull rfl rfl rfl rowSq hH.h0 (sqc_size _ _) ?_) | (go_at_call 106; refine (l01Left_nat N a b g _ HQ.out ha hb).mono ?_; rintro e w2 ⟨rfl, hw⟩; replace hH := hH.call' hw; clear hw))
  go_ret
  exact ⟨rfl, hH.below⟩
set_option maxRecDepth 20000 in
theorem l03Apply_47 (N a b : Nat) (g : Nat → UInt8) (w : World) (hq : IsSq N g) (ha : a < N) (hb : b < N) :
    Calls Try.prog 142 #[.agg (sqc N g), .int .u8 47, .int .u8 a, .int .u8 b] w fun e w' => e = .returned (.int .u8 (backF (colF g b) N a).toNat) ∧ Below w.heap.size w w' := by
  have h10 := hq.hi
  have HQ := hid hq
  have ha1 : (a : Int) < 10 := by omega
  have hb1 : (b : Int) < 10 := by omega
  have hH := Has.start1 w (sqc N g) 31
  have ca := hH.c0 (1 + a * 10 + b)
  rw [Nat.add_assoc, sqc_get _ _ _ (by omega), ← Nat.add_assoc] at ca
  clear hq
  go_enter Try.func142, Try.ntmps142
  go_wp2_with (first | fail | (refine wpL_loadFull rfl rfl rfl rowSq hH.h0 (sqc_size _ _) ?_) | (go_at_call 157; refine (l01Right_nat N a b g _ HQ.out ha hb).mono ?_; rintro e w2 ⟨rfl, hw⟩; replace hH := hH.call' hw; clear hw))
  go_ret
  exact ⟨rfl, hH.below⟩
end Go.Proofs.Ytbdcbmennblcdab
