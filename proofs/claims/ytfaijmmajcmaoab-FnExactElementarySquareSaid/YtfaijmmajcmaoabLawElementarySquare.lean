/- Proved: the law FnExactElementarySquare returns true, and old memory is left alone, where program and model return the same. Conditions: those that the theorem names. -/
import Derived.Test.YtfaijmmajcmaoabSq2b
import Derived.Test.YtfaijmmajcmaoabReg
namespace Go.Proofs.Ytfaijmmajcmaoab
open Go.RowKit
set_option maxHeartbeats 2000000 in
theorem lawElementarySquare_by (a0 : Int) (z0 : Int) (r0 : Nat → UInt8) (r1 : Int) (w : World)
    (hS : Hid (∀ w, Calls Try.prog 18 #[.int .i64 a0] w fun e w' => e = .returned (.tuple #[.agg (sqc z0 r0), .int .i64 r1]) ∧ Below w.heap.size w w'))
    (hT : Hid (∀ w, Calls Try.prog 19 #[.int .i64 a0] w fun e w' => e = .returned (.tuple #[.agg (sqc z0 r0), .int .i64 r1]) ∧ Below w.heap.size w w'))
    : Calls Try.prog 5 #[.int .i64 a0] w fun e w' => e = .returned (.bool true) ∧ Below w.heap.size w w' := by
  have hH := Has.nil w
  go_enter Try.func5, Try.ntmps5
  go_wp2_with (first | fail | (go_at_call 18; refine (hS.out _).mono ?_; rintro e w2 ⟨rfl, hb⟩; replace hH := hH.call' hb; (try replace hg3 := holds_below hg3 hb (holds_lt hg3)); (try replace hg5 := holds_below hg5 hb (holds_lt hg5)); clear hb) | (go_at_call 19; refine (hT.out _).mono ?_; rintro e w2 ⟨rfl, hb⟩; replace hH := hH.call' hb; (try replace hg3 := holds_below hg3 hb (holds_lt hg3)); (try replace hg5 := holds_below hg5 hb (holds_lt hg5)); clear hb) | (go_at_call 15; refine (eqSquare_self _ _ _).mono ?_; rintro e w2 ⟨rfl, hb⟩; replace hH := hH.call' hb; (try replace hg3 := holds_below hg3 hb (holds_lt hg3)); (try replace hg5 := holds_below hg5 hb (holds_lt hg5)); clear hb) | (refine wpL_loadFull (x := .tmp 3) rfl rfl rfl rowSq hg3 (sqc_size _ _) ?_) | (refine wpL_loadFull (x := .tmp 5) rfl rfl rfl rowSq hg5 (sqc_size _ _) ?_) | (refine wpL_allocN (o := ⟨some 3, _, _, _, _, _⟩) rfl rfl zeroSq ?_; intro g3 w2 hg3 hl hb; have hb3 : w.heap.size + 0 ≤ g3 := (by have := hH.size; simp only [List.length_cons, List.length_nil] at this; omega); replace hH := hH.call' hb; (try replace hg5 := holds_below hg5 hb (holds_lt hg5)); clear hb hl) | (refine wpL_storeN (x := .tmp 3) rfl rfl rfl rfl rowSq hg3 (sqc_size _ _) (sqc_ok _ _) ?_; intro w2 hz hO hT; (try replace hg5 := hO _ _ _ (by omega) hg5); replace hg3 := hz; replace hH := hT _ _ hH hb3; clear hz hO hT) | (refine wpL_allocN (o := ⟨some 5, _, _, _, _, _⟩) rfl rfl zeroSq ?_; intro g5 w2 hg5 hl hb; have hb5 : w.heap.size + 0 ≤ g5 := (by have := hH.size; simp only [List.length_cons, List.length_nil] at this; omega); (try have hn3_5 : g3 ≠ g5 := (by have := holds_lt hg3; omega)); replace hH := hH.call' hb; (try replace hg3 := holds_below hg3 hb (holds_lt hg3)); clear hb hl) | (refine wpL_storeN (x := .tmp 5) rfl rfl rfl rfl rowSq hg5 (sqc_size _ _) (sqc_ok _ _) ?_; intro w2 hz hO hT; (try replace hg3 := hO _ _ _ (by omega) hg3); replace hg5 := hz; replace hH := hT _ _ hH hb5; clear hz hO hT))
  go_ret
  exact ⟨rfl, hH.below⟩
theorem lawElementarySquare_any (n : Int) (_ : (Lit.int .i64 n).wf = true) (w : World) : Calls Try.prog 5 #[.int .i64 n] w fun e w' => e = .returned (.bool true) ∧ Below w.heap.size w w' := by
  by_cases h : 0 ≤ n ∧ n ≤ 3
  · have h4 : n = 0 ∨ n = 1 ∨ n = 2 ∨ n = 3 := by omega
    rcases h4 with rfl | rfl | rfl | rfl
    · exact lawElementarySquare_by 0 1 (fillT 1 exV 1 0) 0 w (hid fun w => specElementarySquare_0 w) (hid fun w => implElementarySquare_0 w)
    · exact lawElementarySquare_by 1 2 (fillT 2 exV 2 0) 0 w (hid fun w => specElementarySquare_1 w) (hid fun w => implElementarySquare_1 w)
    · exact lawElementarySquare_by 2 4 (fillT 4 exV 4 0) 0 w (hid fun w => specElementarySquare_2 w) (hid fun w => implElementarySquare_2 w)
    · exact lawElementarySquare_by 3 8 (fillT 8 exV 8 0) 0 w (hid fun w => specElementarySquare_3 w) (hid fun w => implElementarySquare_3 w)
  · exact lawElementarySquare_by n _ _ _ w (hid fun w => specElementarySquare_bad n w h) (hid fun w => implElementarySquare_bad n w h)
end Go.Proofs.Ytfaijmmajcmaoab
