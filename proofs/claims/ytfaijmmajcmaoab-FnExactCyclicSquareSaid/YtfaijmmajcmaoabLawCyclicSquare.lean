/- Proved: the law FnExactCyclicSquare returns true, and old memory is left alone, where program and model return the same. Conditions: those that the theorem names. -/
import Derived.Test.YtfaijmmajcmaoabSq2
import Derived.Test.YtfaijmmajcmaoabReg
namespace Go.Proofs.Ytfaijmmajcmaoab
open Go.RowKit
set_option maxHeartbeats 2000000 in
theorem lawCyclicSquare_by (a0 : Int) (z0 : Int) (r0 : Nat → UInt8) (r1 : Int) (w : World)
    (hS : Hid (∀ w, Calls Try.prog 16 #[.int .i64 a0] w fun e w' => e = .returned (.tuple #[.agg (sqc z0 r0), .int .i64 r1]) ∧ Below w.heap.size w w'))
    (hT : Hid (∀ w, Calls Try.prog 17 #[.int .i64 a0] w fun e w' => e = .returned (.tuple #[.agg (sqc z0 r0), .int .i64 r1]) ∧ Below w.heap.size w w'))
    : Calls Try.prog 4 #[.int .i64 a0] w fun e w' => e = .returned (.bool true) ∧ Below w.heap.size w w' := by
  have hH := Has.nil w
  go_enter Try.func4, Try.ntmps4
  go_wp2_with (first | fail | (go_at_call 16; refine (hS.out _).mono ?_; rintro e w2 ⟨rfl, hb⟩; replace hH := hH.call' hb; (try replace hg3 := holds_below hg3 hb (holds_lt hg3)); (try replace hg5 := holds_below hg5 hb (holds_lt hg5)); clear hb) | (go_at_call 17; refine (hT.out _).mono ?_; rintro e w2 ⟨rfl, hb⟩; replace hH := hH.call' hb; (try replace hg3 := holds_below hg3 hb (holds_lt hg3)); (try replace hg5 := holds_below hg5 hb (holds_lt hg5)); clear hb) | (go_at_call 15; refine (eqSquare_self _ _ _).mono ?_; rintro e w2 ⟨rfl, hb⟩; replace hH := hH.call' hb; (try replace hg3 := holds_below hg3 hb (holds_lt hg3)); (try replace hg5 := holds_below hg5 hb (holds_lt hg5)); clear hb) | (refine wpL_loadFull (x := .tmp 3) rfl rfl rfl rowSq hg3 (sqc_size _ _) ?_) | (refine wpL_loadFull (x := .tmp 5) rfl rfl rfl rowSq hg5 (sqc_size _ _) ?_) | (refine wpL_allocN (o := ⟨some 3, _, _, _, _, _⟩) rfl rfl zeroSq ?_; intro g3 w2 hg3 hl hb; have hb3 : w.heap.size + 0 ≤ g3 := (by have := hH.size; simp only [List.length_cons, List.length_nil] at this; omega); replace hH := hH.call' hb; (try replace hg5 := holds_below hg5 hb (holds_lt hg5)); clear hb hl) | (refine wpL_storeN (x := .tmp 3) rfl rfl rfl rfl rowSq hg3 (sqc_size _ _) (sqc_ok _ _) ?_; intro w2 hz hO hT; (try replace hg5 := hO _ _ _ (by omega) hg5); replace hg3 := hz; replace hH := hT _ _ hH hb3; clear hz hO hT) | (refine wpL_allocN (o := ⟨some 5, _, _, _, _, _⟩) rfl rfl zeroSq ?_; intro g5 w2 hg5 hl hb; have hb5 : w.heap.size + 0 ≤ g5 := (by have := hH.size; simp only [List.length_cons, List.length_nil] at this; omega); (try have hn3_5 : g3 ≠ g5 := (by have := holds_lt hg3; omega)); replace hH := hH.call' hb; (try replace hg3 := holds_below hg3 hb (holds_lt hg3)); clear hb hl) | (refine wpL_storeN (x := .tmp 5) rfl rfl rfl rfl rowSq hg5 (sqc_size _ _) (sqc_ok _ _) ?_; intro w2 hz hO hT; (try replace hg3 := hO _ _ _ (by omega) hg3); replace hg5 := hz; replace hH := hT _ _ hH hb5; clear hz hO hT))
  go_ret
  exact ⟨rfl, hH.below⟩
theorem lawCyclicSquare_any (n : Int) (_ : (Lit.int .i64 n).wf = true) (w : World) : Calls Try.prog 4 #[.int .i64 n] w fun e w' => e = .returned (.bool true) ∧ Below w.heap.size w w' := by
  by_cases h : 1 ≤ n ∧ n ≤ 10
  · obtain ⟨N, rfl⟩ := Int.eq_ofNat_of_zero_le (show 0 ≤ n by omega)
    exact lawCyclicSquare_by N _ _ _ w (hid fun w => specCyclicSquare_good N w (by omega) (by omega)) (hid fun w => implCyclicSquare_good N w (by omega) (by omega))
  · exact lawCyclicSquare_by n _ _ _ w (hid fun w => specCyclicSquare_bad n w h) (hid fun w => implCyclicSquare_bad n w h)
end Go.Proofs.Ytfaijmmajcmaoab
