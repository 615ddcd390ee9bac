/- Proved: the law FnExactRightQuotient returns true, and old memory is left alone, where program and model return the same. Conditions: those that the theorem names. -/
import Derived.Test.YtcmedefgpiegbaaTo2
import Derived.Test.YtcmedefgpiegbaaQt
import Derived.Test.YtcmedefgpiegbaaReg
namespace Go.Proofs.Ytcmedefgpiegbaa
open Go.RowKit
set_option maxHeartbeats 2000000 in
theorem lawRightQuotient_by (o0 : Int) (a0 : Nat → UInt8) (a1 : UInt8) (a2 : UInt8) (r0 : UInt8) (r1 : Int) (w : World)
    (hS : Hid (∀ w, Calls Try.prog 18 #[.agg (sqc o0 a0), .int .u8 a1.toNat, .int .u8 a2.toNat] w fun e w' => e = .returned (.tuple #[.int .u8 r0.toNat, .int .i64 r1]) ∧ Below w.heap.size w w'))
    (hT : Hid (∀ w, Calls Try.prog 19 #[.agg (sqc o0 a0), .int .u8 a1.toNat, .int .u8 a2.toNat] w fun e w' => e = .returned (.tuple #[.int .u8 r0.toNat, .int .i64 r1]) ∧ Below w.heap.size w w'))
    : Calls Try.prog 5 #[.agg (sqc o0 a0), .int .u8 a1.toNat, .int .u8 a2.toNat] w fun e w' => e = .returned (.bool true) ∧ Below w.heap.size w w' := by
  have hH := Has.start1 w (sqc o0 a0) 25
  go_enter Try.func5, Try.ntmps5
  go_wp2_with (first | fail | (refine wpL_loadFull rfl rfl rfl rowSl hH.h0 (sqc_size _ _) ?_) | (go_at_call 14; refine (toSquare_any _ _ _).mono ?_; rintro e w2 ⟨rfl, hb⟩; replace hH := hH.call' hb; clear hb) | (go_at_call 18; refine (hS.out _).mono ?_; rintro e w2 ⟨rfl, hb⟩; replace hH := hH.call' hb; clear hb) | (go_at_call 19; refine (hT.out _).mono ?_; rintro e w2 ⟨rfl, hb⟩; replace hH := hH.call' hb; clear hb))
  go_ret
  exact ⟨rfl, hH.below⟩
theorem lawRightQuotient_any (o : Int) (g : Nat → UInt8) (_ : (Lit.int .i64 o).wf = true) (x y : UInt8) (w : World) : Calls Try.prog 5 #[.agg (sqc o g), .int .u8 x.toNat, .int .u8 y.toNat] w fun e w' => e = .returned (.bool true) ∧ Below w.heap.size w w' := by
  cases hs : sqB o g with
  | false => exact lawRightQuotient_by o g x y _ _ w (hid fun w => specRightQuotient_no o g x y w hs) (hid fun w => implRightQuotient_no o g x y w hs)
  | true =>
    obtain ⟨N, rfl, hq⟩ := sqB_true.1 hs
    by_cases h : N ≤ x.toNat ∨ N ≤ y.toNat
    · exact lawRightQuotient_by N g x y _ _ w (hid fun w => specRightQuotient_far N g x y w hs h) (hid fun w => implRightQuotient_far N g x y w hs h)
    · exact lawRightQuotient_by N g x y _ _ w (hid fun w => specRightQuotient_in N g x y w hs (by omega) (by omega)) (hid fun w => implRightQuotient_in N g x y w hs (by omega) (by omega))
end Go.Proofs.Ytcmedefgpiegbaa
