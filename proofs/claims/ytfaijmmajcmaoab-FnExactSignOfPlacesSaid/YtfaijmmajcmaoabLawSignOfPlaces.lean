/- Proved: the law FnExactSignOfPlaces returns true, and old memory is left alone, where program and model return the same. Conditions: those that the theorem names. -/
import Derived.Test.YtfaijmmajcmaoabPl5
import Derived.Test.YtfaijmmajcmaoabReg
namespace Go.Proofs.Ytfaijmmajcmaoab
open Go.RowKit
set_option maxHeartbeats 2000000 in
theorem lawSignOfPlaces_by (a0 : Nat → UInt8) (a1 : Int) (r0 : Int) (r1 : Int) (w : World)
    (hS : Hid (∀ w, Calls Try.prog 30 #[.agg (u8s 10 a0), .int .i64 a1] w fun e w' => e = .returned (.tuple #[.int .i64 r0, .int .i64 r1]) ∧ Below w.heap.size w w'))
    (hT : Hid (∀ w, Calls Try.prog 31 #[.agg (u8s 10 a0), .int .i64 a1] w fun e w' => e = .returned (.tuple #[.int .i64 r0, .int .i64 r1]) ∧ Below w.heap.size w w'))
    : Calls Try.prog 10 #[.agg (u8s 10 a0), .int .i64 a1] w fun e w' => e = .returned (.bool true) ∧ Below w.heap.size w w' := by
  have hH := Has.start1 w (u8s 10 a0) 22
  go_enter Try.func10, Try.ntmps10
  go_wp2_with (first | fail | (refine wpL_loadFull rfl rfl rfl rowB10 hH.h0 (u8s_size _ _) ?_) | (go_at_call 23; refine (toPlaces_any _ _).mono ?_; rintro e w2 ⟨rfl, hb⟩; replace hH := hH.call' hb; clear hb) | (go_at_call 30; refine (hS.out _).mono ?_; rintro e w2 ⟨rfl, hb⟩; replace hH := hH.call' hb; clear hb) | (go_at_call 31; refine (hT.out _).mono ?_; rintro e w2 ⟨rfl, hb⟩; replace hH := hH.call' hb; clear hb))
  go_ret
  exact ⟨rfl, hH.below⟩
theorem lawSignOfPlaces_any (p : Nat → UInt8) (n : Int) (_ : (Lit.int .i64 n).wf = true) (w : World) : Calls Try.prog 10 #[.agg (u8s 10 p), .int .i64 n] w fun e w' => e = .returned (.bool true) ∧ Below w.heap.size w w' := by
  cases h : permB p n with
  | true => exact lawSignOfPlaces_by p n _ _ w (hid fun w => specSignOfPlaces_good p n w h) (hid fun w => implSignOfPlaces_good p n w h)
  | false => exact lawSignOfPlaces_by p n _ _ w (hid fun w => specSignOfPlaces_bad p n w h) (hid fun w => implSignOfPlaces_bad p n w h)
end Go.Proofs.Ytfaijmmajcmaoab
