/- Proved: the law FnExactExponentOf returns true, and old memory is left alone, where program and model return the same. Conditions: those that the theorem names. -/
import Derived.Test.YtpfhjbcmlebejaaTo2
import Derived.Test.YtpfhjbcmlebejaaXp
import Derived.Test.YtpfhjbcmlebejaaReg
namespace Go.Proofs.Ytpfhjbcmlebejaa
set_option linter.unusedVariables false
set_option linter.unusedSimpArgs false
open Go.RowKit
set_option maxRecDepth 20000 in
set_option maxHeartbeats 2000000 in
theorem lawExponentOf_by (o0 : Int) (a0 : Nat → UInt8) (r0 : Int) (r1 : Int) (w : World)
    (hS : Hid (∀ w, Calls Try.prog 24 #[.agg (sqc o0 a0)] w fun e w' => e = .returned (.tuple #[.int .i64 r0, .int .i64 r1]) ∧ Below w.heap.size w w'))
    (hT : Hid (∀ w, Calls Try.prog 25 #[.agg (sqc o0 a0)] w fun e w' => e = .returned (.tuple #[.int .i64 r0, .int .i64 r1]) ∧ Below w.heap.size w w'))
    : Calls Try.prog 8 #[.agg (sqc o0 a0)] w fun e w' => e = .returned (.bool true) ∧ Below w.heap.size w w' := by
  have hH := Has.start1 w (sqc o0 a0) 25
  go_enter Try.func8, Try.ntmps8
  go_wp2_with (first | fail | (refine wpL_loadFull rfl rfl rfl rowSl hH.h0 (sqc_size _ _) ?_) | (go_at_call 13; refine (toSquare_any _ _ _).mono ?_; rintro e w2 ⟨rfl, hb⟩; replace hH := hH.call' hb; clear hb) | (go_at_call 24; refine (hS.out _).mono ?_; rintro e w2 ⟨rfl, hb⟩; replace hH := hH.call' hb; clear hb) | (go_at_call 25; refine (hT.out _).mono ?_; rintro e w2 ⟨rfl, hb⟩; replace hH := hH.call' hb; clear hb))
  go_ret
  exact ⟨rfl, hH.below⟩
theorem lawExponentOf_any (o : Int) (g : Nat → UInt8) (_ : (Lit.int .i64 o).wf = true) (w : World) : Calls Try.prog 8 #[.agg (sqc o g)] w fun e w' => e = .returned (.bool true) ∧ Below w.heap.size w w' := by
  cases hl : loopB o g with
  | false => exact lawExponentOf_by o g _ _ w (hid fun w => specExponentOf_no o g w hl) (hid fun w => implExponentOf_no o g w hl)
  | true =>
    obtain ⟨N, rfl, hL, hs, hl⟩ := loop_true hl
    exact lawExponentOf_by N g _ _ w (hid fun w => specExponentOf_in N g w hL hl) (hid fun w => implExponentOf_in N g w hL hl)
end Go.Proofs.Ytpfhjbcmlebejaa
