/- Proved: the law FnExactKeptByInner returns true, and old memory is left alone, where program and model return the same list. Conditions: those that the theorem names. -/
import Derived.Test.YtbhjbllgmenbaabTo2
import Derived.Test.YtbhjbllgmenbaabKez
import Derived.Test.YtbhjbllgmenbaabLi
import Derived.Test.YtbhjbllgmenbaabLi
namespace Go.Proofs.Ytbhjbllgmenbaab
set_option linter.unusedVariables false
set_option linter.unusedSimpArgs false
open Go.RowKit
set_option maxRecDepth 20000 in
set_option maxHeartbeats 4000000 in
theorem lawKeptByInner_by (o0 : Int) (a0 : Nat → UInt8) (l : List Int) (z : Int) (w : World) (hl : l.length ≤ 1000)
    (hS : Hid (∀ w, Calls Try.prog 24 #[.agg (sqc o0 a0)] w (GotL l z w)))
    (hT : Hid (∀ w, Calls Try.prog 25 #[.agg (sqc o0 a0)] w (GotL l z w)))
    : Calls Try.prog 4 #[.agg (sqc o0 a0)] w fun e w' => e = .returned (.bool true) ∧ Below w.heap.size w w' := by
  obtain ⟨M, hM⟩ : ∃ M, l.length = M := ⟨_, rfl⟩
  rw [hM] at hl
  have HM := hid hM
  clear hM
  have hH := Has.start1 w (sqc o0 a0) 25
  have sH := hH.size
  simp only [List.length_cons, List.length_nil] at sH
  go_enter Try.func4, Try.ntmps4
  go_wp2_with (first | fail | (refine wpL_loadFull rfl rfl rfl rowSl hH.h0 (sqc_size _ _) ?_) | (go_at_call 16; refine (toSquare_any _ _ _).mono ?_; rintro e w2 ⟨rfl, hb⟩; have zc := hb.size; replace hH := hH.call' hb; (try replace HS0 := hid (HS0.out.below hb (by omega))); clear hb) | (go_at_call 24; refine (hS.out _).mono ?_; rintro e w3 ⟨v0, rfl, hb, hI⟩; have z3 := hb.size; have HS0 := hid hI; replace hH := hH.call' hb; clear hb hI))
  go_wp2_with (first | fail | (go_at_call 25; refine (hT.out _).mono ?_; rintro e w5 ⟨v1, rfl, hb, hI⟩; have z5 := hb.size; have HS1 := hid hI; replace HS0 := hid (HS0.out.below hb (by omega)); have hH4 := hH.size; simp only [List.length_cons, List.length_nil] at hH4; replace hH := hH.call' hb; clear hb hI))
  go_wp2_with (first | fail | (refine wpL_guard rfl rfl ?_) | (go_at_call 20; refine (eqIL HS1.out HS0.out (by rw [HM.out]; omega)).mono ?_; rintro e w6 ⟨rfl, hb⟩; have z6 := hb.size; replace hH := hH.call' hb; replace HS0 := hid (HS0.out.below hb (by omega)); replace HS1 := hid (HS1.out.below hb (by omega)); clear hb))
  go_wp2_with (first | fail | (go_at_call 21; refine (markIL HS1.out (by rw [HM.out]; omega) (by omega) (by omega) (by omega)).mono ?_; rintro e w7 ⟨rfl, hb, hI⟩; rw [HM.out]; have z7 := hb.size; replace hH := hH.call hb hH4; replace HS0 := hid (HS0.out.below hb (by omega)); clear HS1; have HS1 := hid hI; clear hb hI))
  go_wp2_with (first | fail | (go_at_call 26; refine (heldIL HS1.out (by rw [HM.out]; omega) (by omega) (by omega)).mono ?_; rintro e w8 ⟨rfl, rfl⟩; rw [HM.out]) | (refine wpL_loadFull rfl rfl rfl rowSl hH.h0 (sqc_size _ _) ?_) | (go_at_call 16; refine (toSquare_any _ _ _).mono ?_; rintro e w9 ⟨rfl, hb⟩; have z9 := hb.size; replace hH := hH.call' hb; replace HS0 := hid (HS0.out.below hb (by omega)); replace HS1 := hid (HS1.out.below hb (by omega)); clear hb) | (go_at_call 25; refine (hT.out _).mono ?_; rintro e w10 ⟨v2, rfl, hb, hI⟩; have z10 := hb.size; have HS2 := hid hI; replace hH := hH.call' hb; replace HS0 := hid (HS0.out.below hb (by omega)); replace HS1 := hid (HS1.out.below hb (by omega)); clear hb hI) | (refine wpL_guard rfl rfl ?_) | (go_at_call 20; refine (eqIL HS2.out HS0.out (by rw [HM.out]; omega)).mono ?_; rintro e w11 ⟨rfl, hb⟩; have z11 := hb.size; replace hH := hH.call' hb; replace HS1 := hid (HS1.out.below hb (by omega)); clear hb HS0 HS2))
  go_ret
  exact ⟨rfl, hH.below⟩
theorem lpC_zero {o : Int} {g : Nat → UInt8} (h : lpC o g = 0) : ∃ N : Nat, o = N ∧ IsSq N g := by
  unfold lpC at h
  cases hs : sqB o g with
  | false => rw [hs] at h; cases h
  | true => exact sq_nat hs
theorem lawKeptByInner_any (o : Int) (g : Nat → UInt8) (_ : (Lit.int .i64 o).wf = true) (w : World) : Calls Try.prog 4 #[.agg (sqc o g)] w fun e w' => e = .returned (.bool true) ∧ Below w.heap.size w w' := by
  by_cases h : lpC o g = 0
  · obtain ⟨N, rfl, hG⟩ := lpC_zero h
    exact lawKeptByInner_by N g _ 0 w (Nat.le_trans (selL_len (kpB g N) N) (by have := hG.hi; omega)) (hid fun w => specKeptByInner_in N g w hG (hid h)) (hid fun w => implKeptByInner_in N g w hG (hid h))
  · exact lawKeptByInner_by o g [] _ w (by simp) (hid fun w => (specKeptByInner_err o g _ w (by simpa using h) (hid rfl)).mono fun e w' h => GotL.err h) (hid fun w => (implKeptByInner_err o g _ w (by simpa using h) (hid rfl)).mono fun e w' h => GotL.err h)
end Go.Proofs.Ytbhjbllgmenbaab
