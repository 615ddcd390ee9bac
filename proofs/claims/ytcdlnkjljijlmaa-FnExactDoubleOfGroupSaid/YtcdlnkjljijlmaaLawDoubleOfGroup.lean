/- Proved: the law FnExactDoubleOfGroup returns true, and old memory is left alone, where program and model return the same. Conditions: those that the theorem names. -/
import Derived.Test.YtcdlnkjljijlmaaTo2
import Derived.Test.YtcdlnkjljijlmaaMk3
import Derived.Test.YtcdlnkjljijlmaaReg
namespace Go.Proofs.Ytcdlnkjljijlmaa
set_option linter.unusedVariables false
set_option linter.unusedSimpArgs false
open Go.RowKit
set_option maxRecDepth 20000 in
set_option maxHeartbeats 2000000 in
theorem lawDoubleOfGroup_by (o0 : Int) (a0 : Nat → UInt8) (z0 : Int) (r0 : Nat → UInt8) (r1 : Int) (w : World)
    (hS : Hid (∀ w, Calls Try.prog 15 #[.agg (sqc o0 a0)] w fun e w' => e = .returned (.tuple #[.agg (sqc z0 r0), .int .i64 r1]) ∧ Below w.heap.size w w'))
    (hT : Hid (∀ w, Calls Try.prog 17 #[.agg (sqc o0 a0)] w fun e w' => e = .returned (.tuple #[.agg (sqc z0 r0), .int .i64 r1]) ∧ Below w.heap.size w w'))
    : Calls Try.prog 3 #[.agg (sqc o0 a0)] w fun e w' => e = .returned (.bool true) ∧ Below w.heap.size w w' := by
  have hH := Has.start1 w (sqc o0 a0) 25
  go_enter Try.func3, Try.ntmps3
  go_wp2_with (first | fail | (refine wpL_loadFull rfl rfl rfl rowSl hH.h0 (sqc_size _ _) ?_) | (go_at_call 16; refine (toSquare_any _ _ _).mono ?_; rintro e w2 ⟨rfl, hb⟩; replace hH := hH.call' hb; (try replace hg3 := holds_below hg3 hb (holds_lt hg3)); (try replace hg5 := holds_below hg5 hb (holds_lt hg5)); clear hb) | (go_at_call 15; refine (hS.out _).mono ?_; rintro e w2 ⟨rfl, hb⟩; replace hH := hH.call' hb; (try replace hg3 := holds_below hg3 hb (holds_lt hg3)); (try replace hg5 := holds_below hg5 hb (holds_lt hg5)); clear hb) | (go_at_call 17; refine (hT.out _).mono ?_; rintro e w2 ⟨rfl, hb⟩; replace hH := hH.call' hb; (try replace hg3 := holds_below hg3 hb (holds_lt hg3)); (try replace hg5 := holds_below hg5 hb (holds_lt hg5)); clear hb) | (go_at_call 18; refine (eqSquare_self _ _ _).mono ?_; rintro e w2 ⟨rfl, hb⟩; replace hH := hH.call' hb; (try replace hg3 := holds_below hg3 hb (holds_lt hg3)); (try replace hg5 := holds_below hg5 hb (holds_lt hg5)); clear hb) | (refine wpL_loadFull (x := .tmp 3) rfl rfl rfl rowSq hg3 (sqc_size _ _) ?_) | (refine wpL_loadFull (x := .tmp 5) rfl rfl rfl rowSq hg5 (sqc_size _ _) ?_) | (refine wpL_allocN (o := ⟨some 3, _, _, _, _, _⟩) rfl rfl zeroSq ?_; intro g3 w2 hg3 hl hb; have hb3 : w.heap.size + 1 ≤ g3 := (by have := hH.size; simp only [List.length_cons, List.length_nil] at this; omega); replace hH := hH.call' hb; (try replace hg5 := holds_below hg5 hb (holds_lt hg5)); clear hb hl) | (refine wpL_storeN (x := .tmp 3) rfl rfl rfl rfl rowSq hg3 (sqc_size _ _) (sqc_ok _ _) ?_; intro w2 hz hO hT; (try replace hg5 := hO _ _ _ (by omega) hg5); replace hg3 := hz; replace hH := hT _ _ hH hb3; clear hz hO hT) | (refine wpL_allocN (o := ⟨some 5, _, _, _, _, _⟩) rfl rfl zeroSq ?_; intro g5 w2 hg5 hl hb; have hb5 : w.heap.size + 1 ≤ g5 := (by have := hH.size; simp only [List.length_cons, List.length_nil] at this; omega); (try have hn3_5 : g3 ≠ g5 := (by have := holds_lt hg3; omega)); replace hH := hH.call' hb; (try replace hg3 := holds_below hg3 hb (holds_lt hg3)); clear hb hl) | (refine wpL_storeN (x := .tmp 5) rfl rfl rfl rfl rowSq hg5 (sqc_size _ _) (sqc_ok _ _) ?_; intro w2 hz hO hT; (try replace hg3 := hO _ _ _ (by omega) hg3); replace hg5 := hz; replace hH := hT _ _ hH hb5; clear hz hO hT))
  go_ret
  exact ⟨rfl, hH.below⟩
theorem lawDoubleOfGroup_any (o : Int) (g : Nat → UInt8) (_ : (Lit.int .i64 o).wf = true) (w : World) : Calls Try.prog 3 #[.agg (sqc o g)] w fun e w' => e = .returned (.bool true) ∧ Below w.heap.size w w' := by
  cases hs : sqB o g with
  | false => exact lawDoubleOfGroup_by o g _ _ _ w (hid fun w => specDouble_1 o g w hs) (hid fun w => implDouble_bad o g 1 w (gcode_no (by rw [hs]; rfl)) rfl)
  | true =>
    have hk : (sqB o g && true) = true := by rw [hs]; rfl
    cases hg : groupB o g with
    | false =>
      have hI := hid fun w => implDouble_bad o g 5 w (gcode_5 hk hg) rfl
      cases hl : loopB o g with
      | false => exact lawDoubleOfGroup_by o g _ _ _ w (hid fun w => specDouble_5a o g w hs hl) hI
      | true =>
        obtain ⟨N, rfl, hp, _, _⟩ := loop_true hl
        exact lawDoubleOfGroup_by N g _ _ _ w (hid fun w => specDouble_5b N g w hp.sq.lo hp.sq.hi hs hl (group_out (o := 0) hs hg hl)) hI
    | true =>
      obtain ⟨N, rfl, hG, _, hl⟩ := group_true hg
      have h1 := hG.lp.sq.lo
      have h10 := hG.lp.sq.hi
      have ha : ascB (N : Int) g = true := by unfold groupB at hg; rw [hl] at hg; simpa using hg
      by_cases h5 : N ≤ 5
      · exact lawDoubleOfGroup_by N g _ _ _ w (hid fun w => specDouble_good N g w hs hl ha hG h5) (hid fun w => implDouble_good N g w (gcode_0 hk hg) hG.lp.sq h5)
      · exact lawDoubleOfGroup_by N g _ _ _ w (hid fun w => specDouble_3 N g w h1 h10 hs hl ha (by omega)) (hid fun w => implDouble_big N g w (gcode_0 hk hg) (by omega) h10)
end Go.Proofs.Ytcdlnkjljijlmaa
