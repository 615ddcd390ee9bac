/- Proved: the law FnExactIsPermutation returns true, and old memory is left alone. Conditions: none. -/
import Derived.Test.YtfaijmmajcmaoabPl2
namespace Go.Proofs.Ytfaijmmajcmaoab
open Go.RowKit
set_option maxHeartbeats 1000000 in
theorem lawIsPermutation_any (p : Nat → UInt8) (n : Int) (_ : (Lit.int .i64 n).wf = true) (w : World) : Calls Try.prog 7 #[.agg (u8s 10 p), .int .i64 n] w fun e w' => e = .returned (.bool true) ∧ Below w.heap.size w w' := by
  have hH := Has.start1 w (u8s 10 p) 22
  go_enter Try.func7, Try.ntmps7
  go_wp2_with (first | (refine wpL_loadFull rfl rfl rfl rowB10 hH.h0 (u8s_size _ _) ?_) | (go_at_call 23; refine (toPlaces_any _ _).mono ?_; rintro e w1 ⟨rfl, hb⟩; replace hH := hH.call' hb; clear hb) | (go_at_call 22; refine (specIsPermutation_any _ _ _).mono ?_; rintro e w1 ⟨rfl, hb⟩; replace hH := hH.call' hb; clear hb) | (go_at_call 24; refine (IsPermutation_any _ _ _).mono ?_; rintro e w1 ⟨rfl, hb⟩; replace hH := hH.call' hb; clear hb))
  go_ret
  exact ⟨rfl, hH.below⟩
end Go.Proofs.Ytfaijmmajcmaoab
