/- Proved: the law FnExactIsTriple returns true, and old memory is left alone, where program and model return the same. Conditions: those that the theorem names. -/
import Derived.Test.YtcmedefgpiegbabTr2
import Derived.Test.YtcmedefgpiegbabReg
namespace Go.Proofs.Ytcmedefgpiegbab
open Go.RowKit
set_option maxRecDepth 20000 in
set_option maxHeartbeats 2000000 in
theorem lawIsTriple_by (a0 : Nat → UInt8) (a1 : Int) (r0 : Bool) (w : World)
    (hS : Hid (∀ w, Calls Try.prog 15 #[.agg (u8s 30 a0), .int .i64 a1] w fun e w' => e = .returned (.bool r0) ∧ Below w.heap.size w w'))
    (hT : Hid (∀ w, Calls Try.prog 17 #[.agg (u8s 30 a0), .int .i64 a1] w fun e w' => e = .returned (.bool r0) ∧ Below w.heap.size w w'))
    : Calls Try.prog 3 #[.agg (u8s 30 a0), .int .i64 a1] w fun e w' => e = .returned (.bool true) ∧ Below w.heap.size w w' := by
  have hH := Has.start1 w (u8s 30 a0) 24
  go_enter Try.func3, Try.ntmps3
  go_wp2_with (first | fail | (refine wpL_loadFull rfl rfl rfl rowTl hH.h0 (u8s_size _ _) ?_) | (go_at_call 16; refine (toTriple_any _ _).mono ?_; rintro e w2 ⟨rfl, hb⟩; replace hH := hH.call' hb; clear hb) | (go_at_call 15; refine (hS.out _).mono ?_; rintro e w2 ⟨rfl, hb⟩; replace hH := hH.call' hb; clear hb) | (go_at_call 17; refine (hT.out _).mono ?_; rintro e w2 ⟨rfl, hb⟩; replace hH := hH.call' hb; clear hb))
  go_ret
  exact ⟨rfl, hH.below⟩
theorem lawIsTriple_any (t : Nat → UInt8) (n : Int) (_ : (Lit.int .i64 n).wf = true) (w : World) : Calls Try.prog 3 #[.agg (u8s 30 t), .int .i64 n] w fun e w' => e = .returned (.bool true) ∧ Below w.heap.size w w' :=
  lawIsTriple_by t n (triB t n) w (hid fun w => specIsTriple_any t n w) (hid fun w => IsTriple_any t n w)
end Go.Proofs.Ytcmedefgpiegbab
