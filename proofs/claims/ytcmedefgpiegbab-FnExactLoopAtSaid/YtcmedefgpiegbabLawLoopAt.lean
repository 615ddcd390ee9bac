/- Proved: the law FnExactLoopAt returns true, and old memory is left alone, where program and model return the same. Conditions: those that the theorem names. -/
import Derived.Test.YtcmedefgpiegbabTo2
import Derived.Test.YtcmedefgpiegbabLa3
import Derived.Test.YtcmedefgpiegbabReg
namespace Go.Proofs.Ytcmedefgpiegbab
set_option linter.unusedVariables false
set_option linter.unusedSimpArgs false
open Go.RowKit
set_option maxRecDepth 20000 in
set_option maxHeartbeats 2000000 in
theorem lawLoopAt_by (o0 : Int) (a0 : Nat → UInt8) (a1 : UInt8) (a2 : UInt8) (z0 : Int) (r0 : Nat → UInt8) (r1 : Int) (w : World)
    (hS : Hid (∀ w, Calls Try.prog 29 #[.agg (sqc o0 a0), .int .u8 a1.toNat, .int .u8 a2.toNat] w fun e w' => e = .returned (.tuple #[.agg (sqc z0 r0), .int .i64 r1]) ∧ Below w.heap.size w w'))
    (hT : Hid (∀ w, Calls Try.prog 30 #[.agg (sqc o0 a0), .int .u8 a1.toNat, .int .u8 a2.toNat] w fun e w' => e = .returned (.tuple #[.agg (sqc z0 r0), .int .i64 r1]) ∧ Below w.heap.size w w'))
    : Calls Try.prog 8 #[.agg (sqc o0 a0), .int .u8 a1.toNat, .int .u8 a2.toNat] w fun e w' => e = .returned (.bool true) ∧ Below w.heap.size w w' := by
  have hH := Has.start1 w (sqc o0 a0) 38
  go_enter Try.func8, Try.ntmps8
  go_wp2_with (first | fail | (refine wpL_loadFull rfl rfl rfl rowSl hH.h0 (sqc_size _ _) ?_) | (go_at_call 24; refine (toSquare_any _ _ _).mono ?_; rintro e w2 ⟨rfl, hb⟩; replace hH := hH.call' hb; (try replace hg7 := holds_below hg7 hb (holds_lt hg7)); (try replace hg9 := holds_below hg9 hb (holds_lt hg9)); clear hb) | (go_at_call 29; refine (hS.out _).mono ?_; rintro e w2 ⟨rfl, hb⟩; replace hH := hH.call' hb; (try replace hg7 := holds_below hg7 hb (holds_lt hg7)); (try replace hg9 := holds_below hg9 hb (holds_lt hg9)); clear hb) | (go_at_call 30; refine (hT.out _).mono ?_; rintro e w2 ⟨rfl, hb⟩; replace hH := hH.call' hb; (try replace hg7 := holds_below hg7 hb (holds_lt hg7)); (try replace hg9 := holds_below hg9 hb (holds_lt hg9)); clear hb) | (go_at_call 26; refine (eqSquare_self _ _ _).mono ?_; rintro e w2 ⟨rfl, hb⟩; replace hH := hH.call' hb; (try replace hg7 := holds_below hg7 hb (holds_lt hg7)); (try replace hg9 := holds_below hg9 hb (holds_lt hg9)); clear hb) | (refine wpL_loadFull (x := .tmp 7) rfl rfl rfl rowSq hg7 (sqc_size _ _) ?_) | (refine wpL_loadFull (x := .tmp 9) rfl rfl rfl rowSq hg9 (sqc_size _ _) ?_) | (refine wpL_allocN (o := ⟨some 7, _, _, _, _, _⟩) rfl rfl zeroSq ?_; intro g7 w2 hg7 hl hb; have hb7 : w.heap.size + 1 ≤ g7 := (by have := hH.size; simp only [List.length_cons, List.length_nil] at this; omega); replace hH := hH.call' hb; (try replace hg9 := holds_below hg9 hb (holds_lt hg9)); clear hb hl) | (refine wpL_storeN (x := .tmp 7) rfl rfl rfl rfl rowSq hg7 (sqc_size _ _) (sqc_ok _ _) ?_; intro w2 hz hO hT; (try replace hg9 := hO _ _ _ (by omega) hg9); replace hg7 := hz; replace hH := hT _ _ hH hb7; clear hz hO hT) | (refine wpL_allocN (o := ⟨some 9, _, _, _, _, _⟩) rfl rfl zeroSq ?_; intro g9 w2 hg9 hl hb; have hb9 : w.heap.size + 1 ≤ g9 := (by have := hH.size; simp only [List.length_cons, List.length_nil] at this; omega); (try have hn7_9 : g7 ≠ g9 := (by have := holds_lt hg7; omega)); replace hH := hH.call' hb; (try replace hg7 := holds_below hg7 hb (holds_lt hg7)); clear hb hl) | (refine wpL_storeN (x := .tmp 9) rfl rfl rfl rfl rowSq hg9 (sqc_size _ _) (sqc_ok _ _) ?_; intro w2 hz hO hT; (try replace hg7 := hO _ _ _ (by omega) hg7); replace hg9 := hz; replace hH := hT _ _ hH hb9; clear hz hO hT))
  go_ret
  exact ⟨rfl, hH.below⟩
theorem lawLoopAt_any (o : Int) (g : Nat → UInt8) (_ : (Lit.int .i64 o).wf = true) (x y : UInt8) (w : World) : Calls Try.prog 8 #[.agg (sqc o g), .int .u8 x.toNat, .int .u8 y.toNat] w fun e w' => e = .returned (.bool true) ∧ Below w.heap.size w w' := by
  cases hs : sqB o g with
  | false => exact lawLoopAt_by o g x y _ _ _ w (hid fun w => specLoopAt_no o g x y w hs) (hid fun w => implLoopAt_no o g x y w hs)
  | true =>
    obtain ⟨N, rfl, hq⟩ := sqB_true.1 hs
    by_cases h : N ≤ x.toNat ∨ N ≤ y.toNat
    · exact lawLoopAt_by N g x y _ _ _ w (hid fun w => specLoopAt_far N g x y w hs h) (hid fun w => implLoopAt_far N g x y w hs h)
    · exact lawLoopAt_by N g x y _ _ _ w (hid fun w => specLoopAt_in N g x y w hs hq (by omega) (by omega)) (hid fun w => implLoopAt_in N g x y w hs hq (by omega) (by omega))
end Go.Proofs.Ytcmedefgpiegbab
