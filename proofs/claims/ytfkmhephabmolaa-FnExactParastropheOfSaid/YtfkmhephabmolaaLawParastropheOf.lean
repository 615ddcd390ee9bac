/- Proved: the law FnExactParastropheOf returns true, and old memory is left alone, where program and model return the same. Conditions: those that the theorem names. -/
import Derived.Test.YtfkmhephabmolaaTo2
import Derived.Test.YtfkmhephabmolaaPb
import Derived.Test.YtfkmhephabmolaaPd
import Derived.Test.YtfkmhephabmolaaReg
namespace Go.Proofs.Ytfkmhephabmolaa
set_option linter.unusedVariables false
set_option linter.unusedSimpArgs false
open Go.RowKit
set_option maxRecDepth 20000 in
set_option maxHeartbeats 2000000 in
theorem lawParastropheOf_by (o0 : Int) (a0 : Nat → UInt8) (a1 : Int) (z0 : Int) (r0 : Nat → UInt8) (r1 : Int) (w : World)
    (hS : Hid (∀ w, Calls Try.prog 17 #[.agg (sqc o0 a0), .int .i64 a1] w fun e w' => e = .returned (.tuple #[.agg (sqc z0 r0), .int .i64 r1]) ∧ Below w.heap.size w w'))
    (hT : Hid (∀ w, Calls Try.prog 18 #[.agg (sqc o0 a0), .int .i64 a1] w fun e w' => e = .returned (.tuple #[.agg (sqc z0 r0), .int .i64 r1]) ∧ Below w.heap.size w w'))
    : Calls Try.prog 5 #[.agg (sqc o0 a0), .int .i64 a1] w fun e w' => e = .returned (.bool true) ∧ Below w.heap.size w w' := by
  have hH := Has.start1 w (sqc o0 a0) 25
  go_enter Try.func5, Try.ntmps5
  go_wp2_with (first | fail | (refine wpL_loadFull rfl rfl rfl rowSl hH.h0 (sqc_size _ _) ?_) | (go_at_call 13; refine (toSquare_any _ _ _).mono ?_; rintro e w2 ⟨rfl, hb⟩; replace hH := hH.call' hb; (try replace hg5 := holds_below hg5 hb (holds_lt hg5)); (try replace hg7 := holds_below hg7 hb (holds_lt hg7)); clear hb) | (go_at_call 17; refine (hS.out _).mono ?_; rintro e w2 ⟨rfl, hb⟩; replace hH := hH.call' hb; (try replace hg5 := holds_below hg5 hb (holds_lt hg5)); (try replace hg7 := holds_below hg7 hb (holds_lt hg7)); clear hb) | (go_at_call 18; refine (hT.out _).mono ?_; rintro e w2 ⟨rfl, hb⟩; replace hH := hH.call' hb; (try replace hg5 := holds_below hg5 hb (holds_lt hg5)); (try replace hg7 := holds_below hg7 hb (holds_lt hg7)); clear hb) | (go_at_call 19; refine (eqSquare_self _ _ _).mono ?_; rintro e w2 ⟨rfl, hb⟩; replace hH := hH.call' hb; (try replace hg5 := holds_below hg5 hb (holds_lt hg5)); (try replace hg7 := holds_below hg7 hb (holds_lt hg7)); clear hb) | (refine wpL_loadFull (x := .tmp 5) rfl rfl rfl rowSq hg5 (sqc_size _ _) ?_) | (refine wpL_loadFull (x := .tmp 7) rfl rfl rfl rowSq hg7 (sqc_size _ _) ?_) | (refine wpL_allocN (o := ⟨some 5, _, _, _, _, _⟩) rfl rfl zeroSq ?_; intro g5 w2 hg5 hl hb; have hb5 : w.heap.size + 1 ≤ g5 := (by have := hH.size; simp only [List.length_cons, List.length_nil] at this; omega); replace hH := hH.call' hb; (try replace hg7 := holds_below hg7 hb (holds_lt hg7)); clear hb hl) | (refine wpL_storeN (x := .tmp 5) rfl rfl rfl rfl rowSq hg5 (sqc_size _ _) (sqc_ok _ _) ?_; intro w2 hz hO hT; (try replace hg7 := hO _ _ _ (by omega) hg7); replace hg5 := hz; replace hH := hT _ _ hH hb5; clear hz hO hT) | (refine wpL_allocN (o := ⟨some 7, _, _, _, _, _⟩) rfl rfl zeroSq ?_; intro g7 w2 hg7 hl hb; have hb7 : w.heap.size + 1 ≤ g7 := (by have := hH.size; simp only [List.length_cons, List.length_nil] at this; omega); (try have hn5_7 : g5 ≠ g7 := (by have := holds_lt hg5; omega)); replace hH := hH.call' hb; (try replace hg5 := holds_below hg5 hb (holds_lt hg5)); clear hb hl) | (refine wpL_storeN (x := .tmp 7) rfl rfl rfl rfl rowSq hg7 (sqc_size _ _) (sqc_ok _ _) ?_; intro w2 hz hO hT; (try replace hg5 := hO _ _ _ (by omega) hg5); replace hg7 := hz; replace hH := hT _ _ hH hb7; clear hz hO hT))
  go_ret
  exact ⟨rfl, hH.below⟩
theorem lawParastropheOf_any (o : Int) (g : Nat → UInt8) (_ : (Lit.int .i64 o).wf = true) (k : Int) (_ : (Lit.int .i64 k).wf = true) (w : World) : Calls Try.prog 5 #[.agg (sqc o g), .int .i64 k] w fun e w' => e = .returned (.bool true) ∧ Below w.heap.size w w' := by
  cases hs : sqB o g with
  | true =>
    by_cases hk : 0 ≤ k ∧ k ≤ 5
    · obtain ⟨N, rfl, hG⟩ := sqB_true.1 hs
      obtain ⟨K, rfl⟩ := Int.eq_ofNat_of_zero_le hk.1
      have hK : K < 6 := by omega
      exact lawParastropheOf_by N g K _ _ _ w (hid fun w => specParastropheOf_in N K g w hs hG hK) (hid fun w => implParastropheOf_in N K g w hs hG hK)
    · exact lawParastropheOf_by o g k _ _ _ w (hid fun w => specParastropheOf_far o k g w hs hk) (hid fun w => implParastropheOf_far o k g w hs hk)
  | false => exact lawParastropheOf_by o g k _ _ _ w (hid fun w => specParastropheOf_no o k g w hs) (hid fun w => implParastropheOf_no o k g w hs)
end Go.Proofs.Ytfkmhephabmolaa
