/- Proved: the law FnExactIsAutomorphicLoop returns true, and old memory is left alone, where program and model return the same. Conditions: those that the theorem names. -/
import Derived.Test.YtbhjbllgmenbaabTo2
import Derived.Test.YtbhjbllgmenbaabImz
import Derived.Test.YtbhjbllgmenbaabReg
namespace Go.Proofs.Ytbhjbllgmenbaab
set_option linter.unusedVariables false
set_option linter.unusedSimpArgs false
open Go.RowKit
set_option maxRecDepth 20000 in
set_option maxHeartbeats 2000000 in
theorem lawIsAutomorphicLoop_by (o0 : Int) (a0 : Nat → UInt8) (r0 : Bool) (r1 : Int) (w : World)
    (hS : Hid (∀ w, Calls Try.prog 27 #[.agg (sqc o0 a0)] w fun e w' => e = .returned (.tuple #[.bool r0, .int .i64 r1]) ∧ Below w.heap.size w w'))
    (hT : Hid (∀ w, Calls Try.prog 28 #[.agg (sqc o0 a0)] w fun e w' => e = .returned (.tuple #[.bool r0, .int .i64 r1]) ∧ Below w.heap.size w w'))
    : Calls Try.prog 5 #[.agg (sqc o0 a0)] w fun e w' => e = .returned (.bool true) ∧ Below w.heap.size w w' := by
  have hH := Has.start1 w (sqc o0 a0) 25
  go_enter Try.func5, Try.ntmps5
  go_wp2_with (first | fail | (refine wpL_loadFull rfl rfl rfl rowSl hH.h0 (sqc_size _ _) ?_) | (go_at_call 16; refine (toSquare_any _ _ _).mono ?_; rintro e w2 ⟨rfl, hb⟩; replace hH := hH.call' hb; clear hb) | (go_at_call 27; refine (hS.out _).mono ?_; rintro e w2 ⟨rfl, hb⟩; replace hH := hH.call' hb; clear hb) | (go_at_call 28; refine (hT.out _).mono ?_; rintro e w2 ⟨rfl, hb⟩; replace hH := hH.call' hb; clear hb))
  go_ret
  exact ⟨rfl, hH.below⟩
theorem lpC_zero {o : Int} {g : Nat → UInt8} (h : lpC o g = 0) : ∃ N : Nat, o = N ∧ IsSq N g := by
  unfold lpC at h
  cases hs : sqB o g with
  | false => rw [hs] at h; cases h
  | true => exact sq_nat hs
theorem lawIsAutomorphicLoop_any (o : Int) (g : Nat → UInt8) (_ : (Lit.int .i64 o).wf = true) (w : World) : Calls Try.prog 5 #[.agg (sqc o g)] w fun e w' => e = .returned (.bool true) ∧ Below w.heap.size w w' := by
  by_cases h : lpC o g = 0
  · obtain ⟨N, rfl, hG⟩ := lpC_zero h
    exact lawIsAutomorphicLoop_by N g _ _ w (hid fun w => specIsAutomorphicLoop_in N g w hG (hid h)) (hid fun w => implIsAutomorphicLoop_in N g w hG (hid h))
  · exact lawIsAutomorphicLoop_by o g _ _ w (hid fun w => specIsAutomorphicLoop_err o g _ w (by simpa using h) (hid rfl)) (hid fun w => implIsAutomorphicLoop_err o g _ w (by simpa using h) (hid rfl))
end Go.Proofs.Ytbhjbllgmenbaab
