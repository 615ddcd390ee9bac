/- Proved: what the program's function that makes a parastrophe, and ParastropheOf, return. Conditions: those that each theorem names. -/
import Derived.Test.YtfkmhephabmolaaPa
import Derived.Test.YtfkmhephabmolaaOp
namespace Go.Proofs.Ytfkmhephabmolaa
set_option linter.unusedVariables false
set_option linter.unusedSimpArgs false
open Go.RowKit
theorem n6_size (n : Int) (a b c d e f : Nat → UInt8) : (six (sqc n a) (sqc n b) (sqc n c) (sqc n d) (sqc n e) (sqc n f)).size = 606 := six_size (sqc_size _ _) (sqc_size _ _) (sqc_size _ _) (sqc_size _ _) (sqc_size _ _) (sqc_size _ _)
theorem n6_0 (n : Int) (a b c d e f : Nat → UInt8) : (six (sqc n a) (sqc n b) (sqc n c) (sqc n d) (sqc n e) (sqc n f)).extract 0 (0 + 101) = sqc n a := six_0 (sqc_size _ _)
theorem n6_1 (n : Int) (a b c d e f : Nat → UInt8) : (six (sqc n a) (sqc n b) (sqc n c) (sqc n d) (sqc n e) (sqc n f)).extract 101 (101 + 101) = sqc n b := six_1 (sqc_size _ _) (sqc_size _ _)
theorem n6_2 (n : Int) (a b c d e f : Nat → UInt8) : (six (sqc n a) (sqc n b) (sqc n c) (sqc n d) (sqc n e) (sqc n f)).extract 202 (202 + 101) = sqc n c := six_2 (sqc_size _ _) (sqc_size _ _) (sqc_size _ _)
theorem n6_3 (n : Int) (a b c d e f : Nat → UInt8) : (six (sqc n a) (sqc n b) (sqc n c) (sqc n d) (sqc n e) (sqc n f)).extract 303 (303 + 101) = sqc n d := six_3 (sqc_size _ _) (sqc_size _ _) (sqc_size _ _) (sqc_size _ _)
theorem n6_4 (n : Int) (a b c d e f : Nat → UInt8) : (six (sqc n a) (sqc n b) (sqc n c) (sqc n d) (sqc n e) (sqc n f)).extract 404 (404 + 101) = sqc n e := six_4 (sqc_size _ _) (sqc_size _ _) (sqc_size _ _) (sqc_size _ _) (sqc_size _ _)
theorem n6_5 (n : Int) (a b c d e f : Nat → UInt8) : (six (sqc n a) (sqc n b) (sqc n c) (sqc n d) (sqc n e) (sqc n f)).extract 505 (505 + 101) = sqc n f := six_5 (sqc_size _ _) (sqc_size _ _) (sqc_size _ _) (sqc_size _ _) (sqc_size _ _) (sqc_size _ _)
theorem n6_ok (n : Int) (a b c d e f : Nat → UInt8) : CellsOk (six (sqc n a) (sqc n b) (sqc n c) (sqc n d) (sqc n e) (sqc n f)) 606 := six_ok (sqc_ok _ _) (sqc_ok _ _) (sqc_ok _ _) (sqc_ok _ _) (sqc_ok _ _) (sqc_ok _ _)
/-- The square behind a parastrophe, before it is turned. -/
def baseF (g : Nat → UInt8) (N k : Nat) : Nat → UInt8 := if k < 2 then g else if k = 2 ∨ k = 4 then unF g N else ovF g N
set_option maxRecDepth 20000 in
set_option maxHeartbeats 8000000 in
theorem parastrophe_any (N k gb : Nat) (g : Nat → UInt8) (w : World) (hq : IsSq N g) (hk : k < 6) (hg : holds w gb (dvc N g (unF g N) (ovF g N)) 97) :
    Calls Try.prog 51 #[.pointer (some ⟨gb, 0, none⟩), .int .i64 k] w fun e w' => e = .returned (.agg (sqc N (paF g N k))) ∧ Below w.heap.size w w' := by
  have hlt := holds_lt hg
  have h1 := hq.lo
  have h10 := hq.hi
  have HQ := hid hq
  have HU := hid (unF_sq hq)
  have HO := hid (ovF_sq hq)
  have BQ := hid (sqB_nat.2 hq)
  have BU := hid (sqB_nat.2 (unF_sq hq))
  have BO := hid (sqB_nat.2 (ovF_sq hq))
  have P0 := hid (pa_0 hq N)
  have P1 := hid (pa_1 hq N)
  have P2 := hid (pa_2 hq N)
  have P3 := hid (pa_3 hq N)
  have P4 := hid (pa_4 hq N)
  have P5 := hid (pa_5 hq N)
  clear hq
  have hH := Has.start1 w (sqc 0 fun _ => 0) 30
  have hgb := holds_alloc hg (.cells (sqc 0 fun _ => 0) 30)
  clear hg
  go_enter Try.func51, Try.ntmps51
  go_wp2_with (first | (refine wpL_alloc rfl rfl zeroSq ?_; intro g hg; (try simp at hg); subst hg))
  refine wp_region_frame (X := Nat) (fun d g5 => [(7, bif d 0 then .pointer (some ⟨gb, 0, none⟩) else undef), (8, bif d 1 then .pointer (some ⟨gb, 0, none⟩) else undef), (9, bif d 2 then .pointer (some ⟨gb, 0, none⟩) else undef), (10, bif d 3 then .agg (sqc N g) else undef), (11, bif d 4 then .pointer (some ⟨gb, 0, none⟩) else undef), (12, bif d 5 then .pointer (some ⟨gb, 0, none⟩) else undef), (13, bif d 6 then .pointer (some ⟨gb, 0, none⟩) else undef), (14, bif d 7 then .agg (sqc N g) else undef), (15, bif d 8 then .pointer (some ⟨gb, 0, none⟩) else undef), (16, bif d 9 then .pointer (some ⟨gb, 0, none⟩) else undef), (17, bif d 10 then .pointer (some ⟨gb, 101, none⟩) else undef), (18, bif d 11 then .agg (sqc N (unF g N)) else undef), (19, bif d 12 then .pointer (some ⟨gb, 0, none⟩) else undef), (20, bif d 13 then .pointer (some ⟨gb, 0, none⟩) else undef), (21, bif d 14 then .pointer (some ⟨gb, 202, none⟩) else undef), (22, bif d 15 then .agg (sqc N (ovF g N)) else undef), (23, bif d 16 then .pointer (some ⟨gb, 0, none⟩) else undef), (24, bif d 17 then .pointer (some ⟨gb, 0, none⟩) else undef), (25, bif d 18 then .pointer (some ⟨gb, 101, none⟩) else undef), (26, bif d 19 then .agg (sqc N (unF g N)) else undef), (27, bif d 20 then .pointer (some ⟨gb, 0, none⟩) else undef), (28, bif d 21 then .pointer (some ⟨gb, 0, none⟩) else undef), (29, bif d 22 then .pointer (some ⟨gb, 202, none⟩) else undef), (30, bif d 23 then .agg (sqc N (ovF g N)) else undef), (31, bif d 24 then .agg (six (sqc N g) (sqc N g) (sqc N (unF g N)) (sqc N (ovF g N)) (sqc N (unF g N)) (sqc N (ovF g N))) else undef), (5, bif d 25 then .pointer (some ⟨g5, 0, none⟩) else undef)])
    (fun d g5 w' => Has w w' [(sqc 0 (fun _ => 0), 30)] ∧ (d 26 = true → d 25 = true) ∧ (d 25 = true → (w.heap.size + 1 ≤ g5) ∧ holds w' g5 (bif d 26 then six (sqc N g) (sqc N g) (sqc N (unF g N)) (sqc N (ovF g N)) (sqc N (unF g N)) (sqc N (ovF g N)) else six (sqc 0 fun _ => 0) (sqc 0 fun _ => 0) (sqc 0 fun _ => 0) (sqc 0 fun _ => 0) (sqc 0 fun _ => 0) (sqc 0 fun _ => 0)) 98) ∧ holds w' gb (dvc N g (unF g N) (ovF g N)) 97) (by kernel_rfl) (by kernel_rfl) ?h0_p ?hs_p ?hq_p
  case h0_p => exact ⟨0, (by simp [lput]), hH.drew, (fun h => by cases h), (fun h => by cases h), holds_drew hgb⟩
  case hs_p =>
    refine ⟨?_, ?_, ?_, ?_, ?_, ?_, ?_, ?_, ?_, ?_, ?_, ?_, ?_, ?_, ?_, ?_, ?_, ?_, ?_, ?_, ?_, ?_, ?_, ?_, ?_, ?_, ?_, trivial⟩
    all_goals
      clear hH hgb
      intro d g5 w1 hd hn hJ
      simp only [needs, Region.binds, reduceCtorEq, Bool.false_eq_true, false_implies, true_and, and_true, true_implies, forall_const] at hn
      obtain ⟨hH, hC, hG, hgb⟩ := hJ
      have hC := hid hC
      have hG := hid hG
      simp only [lput, List.set, hn, cond_true]
      go_wp2_with (first | fail | (refine wpL_loadSub (off := 0) rfl rfl rfl rowSq hgb (by rw [dvc_size]; omega) (dvc_sub0 _ _ _ _) ?_) | (refine wpL_loadSub (off := 101) rfl rfl rfl rowSq hgb (by rw [dvc_size]; omega) (dvc_sub1 _ _ _ _) ?_) | (refine wpL_loadSub (off := 202) rfl rfl rfl rowSq hgb (by rw [dvc_size]; omega) (dvc_sub2 _ _ _ _) ?_) | (refine wpL_alloc rfl rfl zeroSix ?_; intro g1 hg) | (refine wpL_bu6 (T := 98) rfl (by rfl) (by rfl) (by rfl) (by rfl) (by rfl) (by rfl) (by rfl) (builtSix _ _ _ _ _ _ _) ?_) | (refine wpL_storeFull rfl rfl rfl rfl rowSix (hG.out hn.1).2 (bif_size (n6_size _ _ _ _ _ _ _) (n6_size _ _ _ _ _ _ _)) (n6_ok _ _ _ _ _ _ _) ?_))
      first
        | exact ⟨g5, (by simp [lput, done, hn]), hH, hC.out, hG.out, hgb⟩
        | (subst hg
           have hz : d 26 = false := by
             cases e : d 26 with
             | false => rfl
             | true => rw [hC.out e] at hd; cases hd
           exact ⟨_, (by simp [lput, done]), hH.alloc _, (fun _ => rfl), (fun _ => ⟨hH.size, by show holds _ _ (bif d 26 then six (sqc N g) (sqc N g) (sqc N (unF g N)) (sqc N (ovF g N)) (sqc N (unF g N)) (sqc N (ovF g N)) else six (sqc 0 fun _ => 0) (sqc 0 fun _ => 0) (sqc 0 fun _ => 0) (sqc 0 fun _ => 0) (sqc 0 fun _ => 0) (sqc 0 fun _ => 0)) _; rw [hz]; exact holds_new _ _ _⟩), holds_alloc hgb _⟩)
        | exact ⟨g5, (by simp [lput, done, hn]), hH.setRowAbove (hG.out hn.1).1 _, (fun _ => hn.1), (fun _ => ⟨(hG.out hn.1).1, holds_row (hG.out hn.1).2⟩), holds_row_other hgb (by have := (hG.out hn.1).1; omega)⟩
  case hq_p =>
    clear hH hgb
    intro d g5 w1 hd hJ
    simp only [allDone, List.length_cons, List.length_nil, Nat.reduceAdd, and_true] at hd
    obtain ⟨hH, _, hG, hgb⟩ := hJ
    obtain ⟨hb5, hg5⟩ := hG (by simp only [hd])
    simp only [lput, List.set, hd, cond_true] at hg5 ⊢
    clear hG hd hgb
    have hk6 : k = 0 ∨ k = 1 ∨ k = 2 ∨ k = 3 ∨ k = 4 ∨ k = 5 := by omega
    clear hk
    rcases hk6 with rfl | rfl | rfl | rfl | rfl | rfl
    all_goals
      go_wp2_with (first | fail | (refine wpL_loadSub (off := 0) rfl rfl rfl rowSq hg5 (by rw [n6_size]; omega) (n6_0 _ _ _ _ _ _ _) ?_) | (refine wpL_loadSub (off := 101) rfl rfl rfl rowSq hg5 (by rw [n6_size]; omega) (n6_1 _ _ _ _ _ _ _) ?_) | (refine wpL_loadSub (off := 202) rfl rfl rfl rowSq hg5 (by rw [n6_size]; omega) (n6_2 _ _ _ _ _ _ _) ?_) | (refine wpL_loadSub (off := 303) rfl rfl rfl rowSq hg5 (by rw [n6_size]; omega) (n6_3 _ _ _ _ _ _ _) ?_) | (refine wpL_loadSub (off := 404) rfl rfl rfl rowSq hg5 (by rw [n6_size]; omega) (n6_4 _ _ _ _ _ _ _) ?_) | (refine wpL_loadSub (off := 505) rfl rfl rfl rowSq hg5 (by rw [n6_size]; omega) (n6_5 _ _ _ _ _ _ _) ?_) | (refine wpL_allocN (o := ⟨some 6, _, _, _, _, _⟩) rfl rfl zeroSq ?_; intro g6 w2 hg6 hl hb; have hb6 : w.heap.size + 1 ≤ g6 := (by have := hH.size; simp only [List.length_cons, List.length_nil] at this; omega); replace hH := hH.call' hb; clear hb hl hg5 hb5) | (refine wpL_storeN (x := .tmp 6) rfl rfl rfl rfl rowSq hg6 (sqc_size _ _) (sqc_ok _ _) ?_; intro w2 hz hO hT; replace hg6 := hz; replace hH := hT _ _ hH hb6; clear hz hO hT) | (refine wpL_loadFull (x := .tmp 6) rfl rfl rfl rowSq hg6 (sqc_size _ _) ?_) | (go_at_call 73; refine (implOppositeOf_yes N _ _ h1 h10 (by first | with_reducible exact HQ.out | with_reducible exact HU.out | with_reducible exact HO.out) (by first | with_reducible exact BQ.out | with_reducible exact BU.out | with_reducible exact BO.out)).mono ?_; rintro e w2 ⟨rfl, hb⟩; replace hH := hH.call' hb; replace hg6 := holds_below hg6 hb (holds_lt hg6); clear hb) | (refine wpL_storeFull rfl rfl rfl rfl rowSq hH.h0 (sqc_size _ _) (sqc_ok _ _) ?_))
      exact ret_c rfl rfl hH.r0.h0 rowSq (sqc_size _ _) ⟨by first | rw [← P0.out] | rw [← P1.out] | rw [← P2.out] | rw [← P3.out] | rw [← P4.out] | rw [← P5.out], hH.r0.below⟩
set_option maxRecDepth 20000 in
theorem implParastropheOf_no (o k : Int) (g : Nat → UInt8) (w : World) (hs : sqB o g = false) :
    Calls Try.prog 18 #[.agg (sqc o g), .int .i64 k] w fun e w' => e = .returned (.tuple #[.agg (sqc 0 fun _ => 0), .int .i64 1]) ∧ Below w.heap.size w w' := by
  have hH := Has.start2 w (sqc o g) (sqc 0 fun _ => 0) 30 30
  go_enter Try.func18, Try.ntmps18
  go_wp2_with (first | (refine wpL_alloc rfl rfl zeroSq ?_; intro g hg; (try simp at hg); subst hg) | (refine wpL_loadFull rfl rfl rfl rowSq hH.h0 (sqc_size _ _) ?_) | (go_at_call 47; refine (IsSquare_any o g _).mono ?_; rintro e w2 ⟨rfl, hb⟩; replace hH := hH.call' hb; rw [hs]) | (refine wpL_build rfl rfl builtSq ?_) | (refine wpL_storeSame rfl rfl rfl rfl rowSq hH.h1 (sqc_ok _ _) ?_))
  exact ret_ct rfl rfl rfl hH.h1 rowSq (sqc_size _ _) ⟨rfl, hH.below⟩
set_option maxRecDepth 20000 in
theorem implParastropheOf_far (o k : Int) (g : Nat → UInt8) (w : World) (hs : sqB o g = true) (hk : ¬ (0 ≤ k ∧ k ≤ 5)) :
    Calls Try.prog 18 #[.agg (sqc o g), .int .i64 k] w fun e w' => e = .returned (.tuple #[.agg (sqc 0 fun _ => 0), .int .i64 2]) ∧ Below w.heap.size w w' := by
  have hH := Has.start2 w (sqc o g) (sqc 0 fun _ => 0) 30 30
  by_cases hneg : k < 0
  · clear hk
    go_enter Try.func18, Try.ntmps18
    go_wp2_with (first | (refine wpL_guard rfl rfl ?_) | (refine wpL_alloc rfl rfl zeroSq ?_; intro g hg; (try simp at hg); subst hg) | (refine wpL_loadFull rfl rfl rfl rowSq hH.h0 (sqc_size _ _) ?_) | (go_at_call 47; refine (IsSquare_any o g _).mono ?_; rintro e w2 ⟨rfl, hb⟩; replace hH := hH.call' hb; rw [hs]) | (refine wpL_build rfl rfl builtSq ?_) | (refine wpL_storeSame rfl rfl rfl rfl rowSq hH.h1 (sqc_ok _ _) ?_))
    exact ret_ct rfl rfl rfl hH.h1 rowSq (sqc_size _ _) ⟨rfl, hH.below⟩
  · have hge : 6 ≤ k := by omega
    clear hk
    go_enter Try.func18, Try.ntmps18
    go_wp2_with (first | (refine wpL_guard rfl rfl ?_) | (refine wpL_alloc rfl rfl zeroSq ?_; intro g hg; (try simp at hg); subst hg) | (refine wpL_loadFull rfl rfl rfl rowSq hH.h0 (sqc_size _ _) ?_) | (go_at_call 47; refine (IsSquare_any o g _).mono ?_; rintro e w2 ⟨rfl, hb⟩; replace hH := hH.call' hb; rw [hs]) | (refine wpL_build rfl rfl builtSq ?_) | (refine wpL_storeSame rfl rfl rfl rfl rowSq hH.h1 (sqc_ok _ _) ?_))
    exact ret_ct rfl rfl rfl hH.h1 rowSq (sqc_size _ _) ⟨rfl, hH.below⟩
set_option maxRecDepth 20000 in
theorem implParastropheOf_in (N k : Nat) (g : Nat → UInt8) (w : World) (hs : sqB (N : Int) g = true) (hQ : IsSq N g) (hk : k < 6) :
    Calls Try.prog 18 #[.agg (sqc N g), .int .i64 k] w fun e w' => e = .returned (.tuple #[.agg (sqc N (paF g N k)), .int .i64 0]) ∧ Below w.heap.size w w' := by
  have HQ := hid hQ
  clear hQ
  have hk0 : ¬ (k : Int) < 0 := by omega
  have hk6 : (k : Int) < 6 := by omega
  have hH := Has.start2 w (sqc N g) (sqc 0 fun _ => 0) 30 30
  go_enter Try.func18, Try.ntmps18
  go_wp2_with (first | (refine wpL_guard rfl rfl ?_) | (refine wpL_alloc rfl rfl zeroSq ?_; intro g hg; (try simp at hg); subst hg) | (refine wpL_loadFull rfl rfl rfl rowSq hH.h0 (sqc_size _ _) ?_) | (go_at_call 47; refine (IsSquare_any N g _).mono ?_; rintro e w2 ⟨rfl, hb⟩; replace hH := hH.call' hb; clear hb; rw [hs]) | (go_at_call 50; refine (divide_any N g _ HQ.out).mono ?_; rintro e w3 ⟨gb, rfl, hb, hgb, _⟩; replace hH := hH.call' hb; clear hb) | (go_at_call 51; refine (parastrophe_any N k gb g _ HQ.out hk hgb).mono ?_; rintro e w4 ⟨rfl, hb⟩; replace hH := hH.call' hb; clear hb) | (refine wpL_storeFull rfl rfl rfl rfl rowSq hH.h1 (sqc_size _ _) (sqc_ok _ _) ?_))
  exact ret_ct rfl rfl rfl hH.r1.h1 rowSq (sqc_size _ _) ⟨rfl, hH.r1.below⟩
end Go.Proofs.Ytfkmhephabmolaa
