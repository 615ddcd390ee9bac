/- Proved: the law FnExactLeftInner returns true, and old memory is left alone, where program and model return the same. Conditions: those that the theorem names. -/
import Derived.Test.YtphninlinegbbaaTo2
import Derived.Test.YtphninlinegbbaaPl2
import Derived.Test.YtphninlinegbbaaTn2
import Derived.Test.YtphninlinegbbaaReg
namespace Go.Proofs.Ytphninlinegbbaa
set_option linter.unusedVariables false
set_option linter.unusedSimpArgs false
open Go.RowKit
set_option maxRecDepth 20000 in
set_option maxHeartbeats 2000000 in
theorem lawLeftInner_by (o0 : Int) (a0 : Nat → UInt8) (a1 : UInt8) (a2 : UInt8) (r0 : Nat → UInt8) (r1 : Int) (w : World)
    (hS : Hid (∀ w, Calls Try.prog 19 #[.agg (sqc o0 a0), .int .u8 a1.toNat, .int .u8 a2.toNat] w fun e w' => e = .returned (.tuple #[.agg (u8s 10 r0), .int .i64 r1]) ∧ Below w.heap.size w w'))
    (hT : Hid (∀ w, Calls Try.prog 20 #[.agg (sqc o0 a0), .int .u8 a1.toNat, .int .u8 a2.toNat] w fun e w' => e = .returned (.tuple #[.agg (u8s 10 r0), .int .i64 r1]) ∧ Below w.heap.size w w'))
    : Calls Try.prog 4 #[.agg (sqc o0 a0), .int .u8 a1.toNat, .int .u8 a2.toNat] w fun e w' => e = .returned (.bool true) ∧ Below w.heap.size w w' := by
  have hH := Has.start1 w (sqc o0 a0) 25
  go_enter Try.func4, Try.ntmps4
  go_wp2_with (first | fail | (refine wpL_loadFull rfl rfl rfl rowSl hH.h0 (sqc_size _ _) ?_) | (go_at_call 16; refine (toSquare_any _ _ _).mono ?_; rintro e w2 ⟨rfl, hb⟩; replace hH := hH.call' hb; (try replace hg7 := holds_below hg7 hb (holds_lt hg7)); (try replace hg9 := holds_below hg9 hb (holds_lt hg9)); clear hb) | (go_at_call 19; refine (hS.out _).mono ?_; rintro e w2 ⟨rfl, hb⟩; replace hH := hH.call' hb; (try replace hg7 := holds_below hg7 hb (holds_lt hg7)); (try replace hg9 := holds_below hg9 hb (holds_lt hg9)); clear hb) | (go_at_call 20; refine (hT.out _).mono ?_; rintro e w2 ⟨rfl, hb⟩; replace hH := hH.call' hb; (try replace hg7 := holds_below hg7 hb (holds_lt hg7)); (try replace hg9 := holds_below hg9 hb (holds_lt hg9)); clear hb) | (go_at_call 18; refine (eqPlaces_self _ _).mono ?_; rintro e w2 ⟨rfl, hb⟩; replace hH := hH.call' hb; (try replace hg7 := holds_below hg7 hb (holds_lt hg7)); (try replace hg9 := holds_below hg9 hb (holds_lt hg9)); clear hb) | (refine wpL_loadFull (x := .tmp 7) rfl rfl rfl rowPl hg7 (u8s_size _ _) ?_) | (refine wpL_loadFull (x := .tmp 9) rfl rfl rfl rowPl hg9 (u8s_size _ _) ?_) | (refine wpL_allocN (o := ⟨some 7, _, _, _, _, _⟩) rfl rfl zeroPl ?_; intro g7 w2 hg7 hl hb; have hb7 : w.heap.size + 1 ≤ g7 := (by have := hH.size; simp only [List.length_cons, List.length_nil] at this; omega); replace hH := hH.call' hb; (try replace hg9 := holds_below hg9 hb (holds_lt hg9)); clear hb hl) | (refine wpL_storeN (x := .tmp 7) rfl rfl rfl rfl rowPl hg7 (u8s_size _ _) (u8s_ok _ _) ?_; intro w2 hz hO hT; (try replace hg9 := hO _ _ _ (by omega) hg9); replace hg7 := hz; replace hH := hT _ _ hH hb7; clear hz hO hT) | (refine wpL_allocN (o := ⟨some 9, _, _, _, _, _⟩) rfl rfl zeroPl ?_; intro g9 w2 hg9 hl hb; have hb9 : w.heap.size + 1 ≤ g9 := (by have := hH.size; simp only [List.length_cons, List.length_nil] at this; omega); (try have hn7_9 : g7 ≠ g9 := (by have := holds_lt hg7; omega)); replace hH := hH.call' hb; (try replace hg7 := holds_below hg7 hb (holds_lt hg7)); clear hb hl) | (refine wpL_storeN (x := .tmp 9) rfl rfl rfl rfl rowPl hg9 (u8s_size _ _) (u8s_ok _ _) ?_; intro w2 hz hO hT; (try replace hg7 := hO _ _ _ (by omega) hg7); replace hg9 := hz; replace hH := hT _ _ hH hb9; clear hz hO hT))
  go_ret
  exact ⟨rfl, hH.below⟩
theorem lawLeftInner_any (o : Int) (g : Nat → UInt8) (_ : (Lit.int .i64 o).wf = true) (x y : UInt8) (w : World) : Calls Try.prog 4 #[.agg (sqc o g), .int .u8 x.toNat, .int .u8 y.toNat] w fun e w' => e = .returned (.bool true) ∧ Below w.heap.size w w' := by
  cases hs : sqB o g with
  | false => exact lawLeftInner_by o g x y _ _ w (hid fun w => specLeftInner_err o g x y 1 w rfl (hid fun w b _ => l04Loop_no o g 2 b w hs)) (hid fun w => implLeftInner_err o g x y 1 w rfl (hid fun w b _ => loopCode_no o g 2 b w hs))
  | true =>
    obtain ⟨N, rfl, hq⟩ := sqB_true.1 hs
    by_cases h : x.toNat < N ∧ y.toNat < N
    · have hv : ∀ i, i < 2 → (pairF x y i).toNat < N := pairF_lt h.1 h.2
      cases hl : loopB (N : Int) g with
      | false => exact lawLeftInner_by N g x y _ _ w (hid fun w => specLeftInner_err N g x y 5 w rfl (hid fun w b hg => l04Loop_in N g (pairF x y) 2 b w false hl (by omega) hs hg hv)) (hid fun w => implLeftInner_err N g x y 5 w rfl (hid fun w b hg => loopCode_in N g (pairF x y) 2 b w false hl (by omega) hs hg hv))
      | true => exact lawLeftInner_by N g x y _ _ w (hid fun w => specLeftInner_in N g x y w hq h.1 h.2 (hid fun w b hg => l04Loop_in N g (pairF x y) 2 b w true hl (by omega) hs hg hv)) (hid fun w => implLeftInner_in N g x y w hq h.1 h.2 (hid fun w b hg => loopCode_in N g (pairF x y) 2 b w true hl (by omega) hs hg hv))
    · obtain ⟨k0, hf⟩ : ∃ k0, FarAt (pairF x y) N 2 k0 := pairF_far (by omega)
      exact lawLeftInner_by N g x y _ _ w (hid fun w => specLeftInner_err N g x y 2 w rfl (hid fun w b hg => l04Loop_far N g (pairF x y) 2 b k0 w (by omega) hs hg hf)) (hid fun w => implLeftInner_err N g x y 2 w rfl (hid fun w b hg => loopCode_far N g (pairF x y) 2 b k0 w (by omega) hs hg hf))
end Go.Proofs.Ytphninlinegbbaa
