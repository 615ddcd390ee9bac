/- Proved: the law FnExactIsGroup returns true, and old memory is left alone, where program and model return the same. Conditions: those that the theorem names. -/
import Derived.Test.YtfaijmmajcmaoaaTo2
import Derived.Test.YtfaijmmajcmaoaaGr
import Derived.Test.YtfaijmmajcmaoaaReg
namespace Go.Proofs.Ytfaijmmajcmaoaa
open Go.RowKit
set_option maxHeartbeats 2000000 in
theorem lawIsGroup_by (o0 : Int) (a0 : Nat → UInt8) (r0 : Bool) (w : World)
    (hS : Hid (∀ w, Calls Try.prog 39 #[.agg (sqc o0 a0)] w fun e w' => e = .returned (.bool r0) ∧ Below w.heap.size w w'))
    (hT : Hid (∀ w, Calls Try.prog 28 #[.agg (sqc o0 a0)] w fun e w' => e = .returned (.bool r0) ∧ Below w.heap.size w w'))
    : Calls Try.prog 6 #[.agg (sqc o0 a0)] w fun e w' => e = .returned (.bool true) ∧ Below w.heap.size w w' := by
  have hH := Has.start1 w (sqc o0 a0) 46
  go_enter Try.func6, Try.ntmps6
  go_wp2_with (first | fail | (refine wpL_loadFull rfl rfl rfl rowSl hH.h0 (sqc_size _ _) ?_) | (go_at_call 36; refine (toSquare_any _ _ _).mono ?_; rintro e w2 ⟨rfl, hb⟩; replace hH := hH.call' hb; clear hb) | (go_at_call 39; refine (hS.out _).mono ?_; rintro e w2 ⟨rfl, hb⟩; replace hH := hH.call' hb; clear hb) | (go_at_call 28; refine (hT.out _).mono ?_; rintro e w2 ⟨rfl, hb⟩; replace hH := hH.call' hb; clear hb))
  go_ret
  exact ⟨rfl, hH.below⟩
theorem lawIsGroup_any (o : Int) (g : Nat → UInt8) (_ : (Lit.int .i64 o).wf = true) (w : World) : Calls Try.prog 6 #[.agg (sqc o g)] w fun e w' => e = .returned (.bool true) ∧ Below w.heap.size w w' :=
  lawIsGroup_by o g (groupB o g) w (hid fun w => specIsGroup_any o g w) (hid fun w => IsGroup_any o g w)
end Go.Proofs.Ytfaijmmajcmaoaa
