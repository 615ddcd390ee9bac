/- Proved: what the model's IsSquare returns: the same as the program's. Conditions: none. -/
import Derived.Test.YtfaijmmajcmaoaaSq3b
namespace Go.Proofs.Ytfaijmmajcmaoaa
open Go.RowKit
theorem specIsSquare_any (o : Int) (g : Nat → UInt8) (w : World) :
    Calls Try.prog 35 #[.agg (sqc o g)] w fun e w' => e = .returned (.bool (sqB o g)) ∧ Below w.heap.size w w' := by
  have hH := Has.start1 w (sqc o g) 37
  go_enter Try.func35, Try.ntmps35
  go_wp2_with (first | (go_at_call 75; refine (l01Is_any _ _ _).mono ?_; rintro e w1 ⟨rfl, hb⟩) | (refine wpL_loadFull rfl rfl rfl rowSq hH.h0 (sqc_size _ _) ?_))
  go_ret
  exact ⟨rfl, (hH.call' hb).below⟩
end Go.Proofs.Ytfaijmmajcmaoaa
