/- Proved: the law FnExactCommutatorOf returns true, and old memory is left alone, where program and model return the same. Conditions: those that the theorem names. -/
import Derived.Test.YtphninlinegbbaaTo2
import Derived.Test.YtphninlinegbbaaAs2
import Derived.Test.YtphninlinegbbaaReg
namespace Go.Proofs.Ytphninlinegbbaa
set_option linter.unusedVariables false
set_option linter.unusedSimpArgs false
open Go.RowKit
set_option maxRecDepth 20000 in
set_option maxHeartbeats 2000000 in
theorem lawCommutatorOf_by (o0 : Int) (a0 : Nat → UInt8) (a1 : UInt8) (a2 : UInt8) (r0 : UInt8) (r1 : Int) (w : World)
    (hS : Hid (∀ w, Calls Try.prog 23 #[.agg (sqc o0 a0), .int .u8 a1.toNat, .int .u8 a2.toNat] w fun e w' => e = .returned (.tuple #[.int .u8 r0.toNat, .int .i64 r1]) ∧ Below w.heap.size w w'))
    (hT : Hid (∀ w, Calls Try.prog 24 #[.agg (sqc o0 a0), .int .u8 a1.toNat, .int .u8 a2.toNat] w fun e w' => e = .returned (.tuple #[.int .u8 r0.toNat, .int .i64 r1]) ∧ Below w.heap.size w w'))
    : Calls Try.prog 6 #[.agg (sqc o0 a0), .int .u8 a1.toNat, .int .u8 a2.toNat] w fun e w' => e = .returned (.bool true) ∧ Below w.heap.size w w' := by
  have hH := Has.start1 w (sqc o0 a0) 25
  go_enter Try.func6, Try.ntmps6
  go_wp2_with (first | fail | (refine wpL_loadFull rfl rfl rfl rowSl hH.h0 (sqc_size _ _) ?_) | (go_at_call 16; refine (toSquare_any _ _ _).mono ?_; rintro e w2 ⟨rfl, hb⟩; replace hH := hH.call' hb; clear hb) | (go_at_call 23; refine (hS.out _).mono ?_; rintro e w2 ⟨rfl, hb⟩; replace hH := hH.call' hb; clear hb) | (go_at_call 24; refine (hT.out _).mono ?_; rintro e w2 ⟨rfl, hb⟩; replace hH := hH.call' hb; clear hb))
  go_ret
  exact ⟨rfl, hH.below⟩
theorem lawCommutatorOf_any (o : Int) (g : Nat → UInt8) (_ : (Lit.int .i64 o).wf = true) (x y : UInt8) (w : World) : Calls Try.prog 6 #[.agg (sqc o g), .int .u8 x.toNat, .int .u8 y.toNat] w fun e w' => e = .returned (.bool true) ∧ Below w.heap.size w w' := by
  cases hl : loopB o g with
  | false => exact lawCommutatorOf_by o g x y _ _ w (hid fun w => specCommutatorOf_err o g x y 1 w rfl (hid fun w => l05Code_no o g x y 0 w hl)) (hid fun w => implCommutatorOf_err o g x y 1 w rfl (hid fun w b _ => memberCode_no o g 2 b w hl))
  | true =>
    obtain ⟨N, rfl, hL, hs, hl⟩ := loop_true hl
    have hN := hL.sq.lo
    by_cases h : x.toNat < N ∧ y.toNat < N
    · exact lawCommutatorOf_by N g x y _ _ w (hid fun w => specCommutatorOf_in N g x y w hL.sq h.1 h.2 (hid fun w => l05Code_in N g x y 0 w hl h.1 h.2 (by show 0 < N; omega))) (hid fun w => implCommutatorOf_in N g x y w hL.sq h.1 h.2 (hid fun w b hg => memberCode_in N g (pairF x y) 2 b w (by omega) hs hl hg (pairF_lt h.1 h.2)))
    · obtain ⟨k0, hf⟩ : ∃ k0, FarAt (pairF x y) N 2 k0 := pairF_far (by omega)
      exact lawCommutatorOf_by N g x y _ _ w (hid fun w => specCommutatorOf_err N g x y 2 w rfl (hid fun w => l05Code_far N g x y 0 w hl (fun hh => h ⟨hh.1, hh.2.1⟩))) (hid fun w => implCommutatorOf_err N g x y 2 w rfl (hid fun w b hg => memberCode_far N g (pairF x y) 2 b k0 w (by omega) hs hl hg hf))
end Go.Proofs.Ytphninlinegbbaa
