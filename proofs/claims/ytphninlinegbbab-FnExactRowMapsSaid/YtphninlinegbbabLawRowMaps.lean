/- Proved: the law FnExactRowMaps returns true, and old memory is left alone, where program and model return the same list. Conditions: those that the theorem names. -/
import Derived.Test.YtphninlinegbbabTo2
import Derived.Test.YtphninlinegbbabPt
namespace Go.Proofs.Ytphninlinegbbab
set_option linter.unusedVariables false
set_option linter.unusedSimpArgs false
open Go.RowKit
set_option maxRecDepth 20000 in
set_option maxHeartbeats 4000000 in
theorem lawRowMaps_by (o0 : Int) (a0 : Nat → UInt8) (n : Nat) (F : Nat → UInt8) (z : Int) (w : World) (hn : n ≤ 10)
    (hS : Hid (∀ w, Calls Try.prog 15 #[.agg (sqc o0 a0)] w (GotPP n F z w)))
    (hT : Hid (∀ w, Calls Try.prog 17 #[.agg (sqc o0 a0)] w (GotPP n F z w)))
    : Calls Try.prog 3 #[.agg (sqc o0 a0)] w fun e w' => e = .returned (.bool true) ∧ Below w.heap.size w w' := by
  obtain ⟨M, hM⟩ : ∃ M, 1 + n * 10 = M := ⟨_, rfl⟩
  have HM := hid hM
  have hM2 : M ≤ 200 := by omega
  clear hM
  have hH := Has.start1 w (sqc o0 a0) 25
  have sH := hH.size
  simp only [List.length_cons, List.length_nil] at sH
  go_enter Try.func3, Try.ntmps3
  go_wp2_with (first | fail | (refine wpL_loadFull rfl rfl rfl rowSl hH.h0 (sqc_size _ _) ?_) | (go_at_call 16; refine (toSquare_any _ _ _).mono ?_; rintro e w2 ⟨rfl, hb⟩; have zc := hb.size; replace hH := hH.call' hb; (try replace HS0 := hid (HS0.out.below hb (by omega))); clear hb) | (go_at_call 15; refine (hS.out _).mono ?_; rintro e w3 ⟨v0, rfl, hb, hI⟩; have z3 := hb.size; have HS0 := hid hI; replace hH := hH.call' hb; clear hb hI))
  go_wp2_with (first | fail | (go_at_call 17; refine (hT.out _).mono ?_; rintro e w5 ⟨v1, rfl, hb, hI⟩; have z5 := hb.size; have HS1 := hid hI; replace HS0 := hid (HS0.out.below hb (by omega)); have hH4 := hH.size; simp only [List.length_cons, List.length_nil] at hH4; replace hH := hH.call' hb; clear hb hI))
  go_wp2_with (first | fail | (refine wpL_guard rfl rfl ?_) | (go_at_call 18; refine (eqIP HS1.out HS0.out (by omega)).mono ?_; rintro e w6 ⟨rfl, hb⟩; have z6 := hb.size; replace hH := hH.call' hb; replace HS0 := hid (HS0.out.below hb (by omega)); replace HS1 := hid (HS1.out.below hb (by omega)); clear hb))
  go_wp2_with (first | fail | (go_at_call 19; refine (markIP HS1.out hn HM.out (by omega)).mono ?_; rintro e w7 ⟨rfl, hb, hI⟩; have z7 := hb.size; replace hH := hH.call hb hH4; replace HS0 := hid (HS0.out.below hb (by omega)); clear HS1; have HS1 := hid hI; clear hb hI))
  go_wp2_with (first | fail | (go_at_call 20; refine (heldIP HS1.out hn HM.out).mono ?_; rintro e w8 ⟨rfl, rfl⟩) | (refine wpL_loadFull rfl rfl rfl rowSl hH.h0 (sqc_size _ _) ?_) | (go_at_call 16; refine (toSquare_any _ _ _).mono ?_; rintro e w9 ⟨rfl, hb⟩; have z9 := hb.size; replace hH := hH.call' hb; replace HS0 := hid (HS0.out.below hb (by omega)); replace HS1 := hid (HS1.out.below hb (by omega)); clear hb) | (go_at_call 17; refine (hT.out _).mono ?_; rintro e w10 ⟨v2, rfl, hb, hI⟩; have z10 := hb.size; have HS2 := hid hI; replace hH := hH.call' hb; replace HS0 := hid (HS0.out.below hb (by omega)); replace HS1 := hid (HS1.out.below hb (by omega)); clear hb hI) | (refine wpL_guard rfl rfl ?_) | (go_at_call 18; refine (eqIP HS2.out HS0.out (by omega)).mono ?_; rintro e w11 ⟨rfl, hb⟩; have z11 := hb.size; replace hH := hH.call' hb; replace HS1 := hid (HS1.out.below hb (by omega)); clear hb HS0 HS2))
  go_ret
  exact ⟨rfl, hH.below⟩
theorem lawRowMaps_any (o : Int) (g : Nat → UInt8) (_ : (Lit.int .i64 o).wf = true) (w : World) : Calls Try.prog 3 #[.agg (sqc o g)] w fun e w' => e = .returned (.bool true) ∧ Below w.heap.size w w' := by
  cases hs : sqB o g with
  | true =>
    obtain ⟨N, rfl, hG⟩ := sqB_true.1 hs
    exact lawRowMaps_by N g N (g) 0 w hG.hi (hid fun w => specRowMaps_yes N g w hs hG) (hid fun w => implRowMaps_yes N g w hs hG)
  | false => exact lawRowMaps_by o g 0 g 1 w (by omega) (hid fun w => (specRowMaps_no o g w hs).mono fun e w' h => GotPP.err g h) (hid fun w => (implRowMaps_no o g w hs).mono fun e w' h => GotPP.err g h)
end Go.Proofs.Ytphninlinegbbab
