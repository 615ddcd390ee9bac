/- Proved: the law FnExactIntercalatesOf returns true, and old memory is left alone, where program and model return the same list. Conditions: those that the theorem names. -/
import Derived.Test.YtbdcbmennblcdaaTo2
import Derived.Test.YtbdcbmennblcdaaIc
namespace Go.Proofs.Ytbdcbmennblcdaa
set_option linter.unusedVariables false
set_option linter.unusedSimpArgs false
open Go.RowKit
set_option maxRecDepth 20000 in
set_option maxHeartbeats 4000000 in
theorem lawIntercalatesOf_by (o0 : Int) (a0 : Nat → UInt8) (n : Nat) (l : Nat → List Int) (z : Int) (w : World) (hn : n ≤ 1000) (hl : ∀ j, j < n → (l j).length ≤ 1000)
    (hS : Hid (∀ w, Calls Try.prog 34 #[.agg (sqc o0 a0)] w (GotLL n l z w)))
    (hT : Hid (∀ w, Calls Try.prog 35 #[.agg (sqc o0 a0)] w (GotLL n l z w)))
    : Calls Try.prog 8 #[.agg (sqc o0 a0)] w fun e w' => e = .returned (.bool true) ∧ Below w.heap.size w w' := by
  have HLn := hid hl
  clear hl
  obtain ⟨M, hM⟩ : ∃ M, offF l n = M := ⟨_, rfl⟩
  have hMb : M ≤ 1000000 := by have := offF_le HLn.out n (Nat.le_refl _); omega
  have HM := hid hM
  clear hM
  have hH := Has.start1 w (sqc o0 a0) 25
  have sH := hH.size
  simp only [List.length_cons, List.length_nil] at sH
  go_enter Try.func8, Try.ntmps8
  go_wp2_with (first | fail | (refine wpL_loadFull rfl rfl rfl rowSl hH.h0 (sqc_size _ _) ?_) | (go_at_call 16; refine (toSquare_any _ _ _).mono ?_; rintro e w2 ⟨rfl, hb⟩; have zc := hb.size; replace hH := hH.call' hb; (try replace HS0 := hid (HS0.out.below hb (by omega))); clear hb) | (go_at_call 34; refine (hS.out _).mono ?_; rintro e w3 ⟨v0, rfl, hb, hI⟩; have z3 := hb.size; have HS0 := hid hI; replace hH := hH.call' hb; clear hb hI))
  go_wp2_with (first | fail | (go_at_call 35; refine (hT.out _).mono ?_; rintro e w5 ⟨v1, rfl, hb, hI⟩; have z5 := hb.size; have HS1 := hid hI; replace HS0 := hid (HS0.out.below hb (by omega)); have hH4 := hH.size; simp only [List.length_cons, List.length_nil] at hH4; replace hH := hH.call' hb; clear hb hI))
  go_wp2_with (first | fail | (refine wpL_guard rfl rfl ?_) | (go_at_call 18; refine (eqLL HS1.out HS0.out hn HLn.out).mono ?_; rintro e w6 ⟨rfl, hb⟩; have z6 := hb.size; replace hH := hH.call' hb; replace HS0 := hid (HS0.out.below hb (by omega)); replace HS1 := hid (HS1.out.below hb (by omega)); clear hb))
  go_wp2_with (first | fail | (go_at_call 19; refine (markLL HS1.out hn HLn.out (by omega) (by omega) (by omega)).mono ?_; rintro e w7 ⟨rfl, hb, hI⟩; rw [HM.out]; have z7 := hb.size; replace hH := hH.call hb hH4; replace HS0 := hid (HS0.out.below hb (by omega)); clear HS1; have HS1 := hid hI; clear hb hI))
  go_wp2_with (first | fail | (go_at_call 20; refine (heldLL HS1.out hn HLn.out (by omega) (by omega)).mono ?_; rintro e w8 ⟨rfl, rfl⟩; rw [HM.out]) | (refine wpL_loadFull rfl rfl rfl rowSl hH.h0 (sqc_size _ _) ?_) | (go_at_call 16; refine (toSquare_any _ _ _).mono ?_; rintro e w9 ⟨rfl, hb⟩; have z9 := hb.size; replace hH := hH.call' hb; replace HS0 := hid (HS0.out.below hb (by omega)); replace HS1 := hid (HS1.out.below hb (by omega)); clear hb) | (go_at_call 35; refine (hT.out _).mono ?_; rintro e w10 ⟨v2, rfl, hb, hI⟩; have z10 := hb.size; have HS2 := hid hI; replace hH := hH.call' hb; replace HS0 := hid (HS0.out.below hb (by omega)); replace HS1 := hid (HS1.out.below hb (by omega)); clear hb hI) | (refine wpL_guard rfl rfl ?_) | (go_at_call 18; refine (eqLL HS2.out HS0.out hn HLn.out).mono ?_; rintro e w11 ⟨rfl, hb⟩; have z11 := hb.size; replace hH := hH.call' hb; replace HS1 := hid (HS1.out.below hb (by omega)); clear hb HS0 HS2))
  go_ret
  exact ⟨rfl, hH.below⟩
theorem lawIntercalatesOf_any (o : Int) (g : Nat → UInt8) (_ : (Lit.int .i64 o).wf = true) (w : World) : Calls Try.prog 8 #[.agg (sqc o g)] w fun e w' => e = .returned (.bool true) ∧ Below w.heap.size w w' := by
  cases hs : sqB o g with
  | true =>
    obtain ⟨N, rfl, hG⟩ := sqB_true.1 hs
    exact lawIntercalatesOf_by N g (aI g N N).length (getLL (aI g N N)) 0 w (by have := aI_len hG N (Nat.le_refl _); have := hG.hi; omega) (fun j _ => Nat.le_trans getLL_len (by omega)) (hid fun w => specIntercalatesOf_yes N g w hs hG) (hid fun w => implIntercalatesOf_yes N g w hs hG)
  | false => exact lawIntercalatesOf_by o g 0 (fun _ => []) 1 w (by omega) (fun j hj => by omega) (hid fun w => (specIntercalatesOf_no o g w hs).mono fun e w' h => GotLL.err h) (hid fun w => (implIntercalatesOf_no o g w hs).mono fun e w' h => GotLL.err h)
end Go.Proofs.Ytbdcbmennblcdaa
