/- Proved: the law FnExactLeftInverse returns true, and old memory is left alone, where program and model return the same. Conditions: those that the theorem names. -/
import Derived.Test.YtpfhjbcmlebejaaTo2
import Derived.Test.YtpfhjbcmlebejaaIv
import Derived.Test.YtpfhjbcmlebejaaReg
namespace Go.Proofs.Ytpfhjbcmlebejaa
set_option linter.unusedVariables false
set_option linter.unusedSimpArgs false
open Go.RowKit
set_option maxRecDepth 20000 in
set_option maxHeartbeats 2000000 in
theorem lawLeftInverse_by (o0 : Int) (a0 : Nat → UInt8) (a1 : UInt8) (r0 : UInt8) (r1 : Int) (w : World)
    (hS : Hid (∀ w, Calls Try.prog 12 #[.agg (sqc o0 a0), .int .u8 a1.toNat] w fun e w' => e = .returned (.tuple #[.int .u8 r0.toNat, .int .i64 r1]) ∧ Below w.heap.size w w'))
    (hT : Hid (∀ w, Calls Try.prog 14 #[.agg (sqc o0 a0), .int .u8 a1.toNat] w fun e w' => e = .returned (.tuple #[.int .u8 r0.toNat, .int .i64 r1]) ∧ Below w.heap.size w w'))
    : Calls Try.prog 3 #[.agg (sqc o0 a0), .int .u8 a1.toNat] w fun e w' => e = .returned (.bool true) ∧ Below w.heap.size w w' := by
  have hH := Has.start1 w (sqc o0 a0) 25
  go_enter Try.func3, Try.ntmps3
  go_wp2_with (first | fail | (refine wpL_loadFull rfl rfl rfl rowSl hH.h0 (sqc_size _ _) ?_) | (go_at_call 13; refine (toSquare_any _ _ _).mono ?_; rintro e w2 ⟨rfl, hb⟩; replace hH := hH.call' hb; clear hb) | (go_at_call 12; refine (hS.out _).mono ?_; rintro e w2 ⟨rfl, hb⟩; replace hH := hH.call' hb; clear hb) | (go_at_call 14; refine (hT.out _).mono ?_; rintro e w2 ⟨rfl, hb⟩; replace hH := hH.call' hb; clear hb))
  go_ret
  exact ⟨rfl, hH.below⟩
theorem lawLeftInverse_any (o : Int) (g : Nat → UInt8) (_ : (Lit.int .i64 o).wf = true) (x : UInt8) (w : World) : Calls Try.prog 3 #[.agg (sqc o g), .int .u8 x.toNat] w fun e w' => e = .returned (.bool true) ∧ Below w.heap.size w w' := by
  cases hl : loopB o g with
  | false => exact lawLeftInverse_by o g x _ _ w (hid fun w => specLeftInverse_err o g x 1 w rfl (hid fun w => l05Code_no o g x 0 0 w hl)) (hid fun w => implLeftInverse_err o g x 1 w rfl (hid fun w b _ => memberCode_no o g 1 b w hl))
  | true =>
    obtain ⟨N, rfl, hL, hs, hl⟩ := loop_true hl
    have hN := hL.sq.lo
    by_cases h : x.toNat < N
    · exact lawLeftInverse_by N g x _ _ w (hid fun w => specLeftInverse_in N g x w hL.sq h (hid fun w => l05Code_in N g x 0 0 w hl h (by show 0 < N; omega) (by show 0 < N; omega))) (hid fun w => implLeftInverse_in N g x w hs h (hid fun w b hg => memberCode_in N g (oneF x) 1 b w (by omega) hs hl hg (fun i hi => by show x.toNat < N; exact h)))
    · exact lawLeftInverse_by N g x _ _ w (hid fun w => specLeftInverse_err N g x 2 w rfl (hid fun w => l05Code_far N g x 0 0 w hl (fun hh => h hh.1))) (hid fun w => implLeftInverse_err N g x 2 w rfl (hid fun w b hg => memberCode_far N g (oneF x) 1 b 0 w (by omega) hs hl hg ⟨by omega, fun i hi => by omega, by show N ≤ x.toNat; omega⟩))
end Go.Proofs.Ytpfhjbcmlebejaa
