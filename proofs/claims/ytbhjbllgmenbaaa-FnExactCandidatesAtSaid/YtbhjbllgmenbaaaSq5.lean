/- Proved: what the program's IsSquare returns. Conditions: none. -/
import Derived.Test.YtbhjbllgmenbaaaSq4b
namespace Go.Proofs.Ytbhjbllgmenbaaa
set_option linter.unusedVariables false
set_option linter.unusedSimpArgs false
open Go.RowKit
structure Two where
  a : Nat
  b : Nat
set_option maxRecDepth 20000 in
set_option maxHeartbeats 2000000 in
theorem IsSquare_out (o : Int) (g : Nat → UInt8) (w : World) (h : ¬ (1 ≤ o ∧ o ≤ 10)) :
    Calls Try.prog 56 #[.agg (sqc o g)] w fun e w' => e = .returned (.bool false) ∧ Below w.heap.size w w' := by
  have hi := inB_false h
  have hH := Has.start1 w (sqc o g) 29
  go_enter Try.func56, Try.ntmps56
  go_wp2
  refine wp_region_frame (X := Unit) (fun d _ => [(6, bif d 0 then .pointer (some ⟨w.heap.size, 0, none⟩) else undef), (7, bif d 1 then .int .i64 o else undef), (8, bif d 2 then .bool false else undef), (9, bif d 3 then .bool true else undef), (10, bif d 4 then .bool true else undef), (11, bif d 5 then undef else undef), (12, bif d 6 then undef else undef), (13, bif d 7 then undef else undef), (14, bif d 8 then undef else undef), (15, bif d 9 then .bool true else undef)])
    (fun _ _ w' => Has w w' [(sqc o g, 29)]) (by kernel_rfl) (by kernel_rfl) ?h0_is ?hs_is ?hq_is
  case h0_is => exact ⟨(), (by simp [lput]), hH.drew⟩
  case hs_is =>
    refine ⟨?_, ?_, ?_, ?_, ?_, ?_, ?_, ?_, ?_, ?_, trivial⟩
    all_goals
      clear hH
      intro d _ w1 hd hn hH
      simp only [needs, Region.binds, reduceCtorEq, Bool.false_eq_true, false_implies, true_and, and_true, true_implies, forall_const] at hn
      simp only [lput, List.set, hn, cond_true]
      have c0 := hH.c0
      go_wp2_with (first | (refine wpL_guard rfl rfl ?_) | (go_at_call 92; refine (isOrder_any _ _).mono ?_; rintro e w2 ⟨rfl, rfl⟩))
      first | exact ⟨(), (by simp [lput, done, hn]), hH⟩ | exact ⟨(by simp [lput, done, hn]), hH⟩ | exact ⟨(), (by simp [lput, done]), hH⟩ | exact ⟨(by simp [lput, done]), hH⟩
  case hq_is =>
    clear hH
    intro d _ w1 hd hH
    simp only [allDone, List.length_cons, List.length_nil, Nat.reduceAdd, and_true] at hd
    simp only [lput, List.set, hd, cond_true]
    clear hd
    go_wp2
    go_ret
    exact ⟨rfl, hH.below⟩
set_option maxRecDepth 20000 in
set_option maxHeartbeats 2000000 in
theorem IsSquare_nocorner (N : Nat) (g : Nat → UInt8) (w : World) (h1 : 1 ≤ N) (h10 : N ≤ 10) (hE : eqS (N : Int) (N : Int) g (corner g N) = false) :
    Calls Try.prog 56 #[.agg (sqc N g)] w fun e w' => e = .returned (.bool false) ∧ Below w.heap.size w w' := by
  have hi := inB_true (show 1 ≤ (N : Int) by omega) (show (N : Int) ≤ 10 by omega)
  have hH := Has.start1 w (sqc N g) 29
  go_enter Try.func56, Try.ntmps56
  go_wp2
  refine wp_region_frame (X := Unit) (fun d _ => [(6, bif d 0 then .pointer (some ⟨w.heap.size, 0, none⟩) else undef), (7, bif d 1 then .int .i64 N else undef), (8, bif d 2 then .bool true else undef), (9, bif d 3 then .bool false else undef), (10, bif d 4 then .bool false else undef), (11, bif d 5 then .agg (sqc N g) else undef), (12, bif d 6 then .agg (sqc N g) else undef), (13, bif d 7 then .agg (sqc N (corner g N)) else undef), (14, bif d 8 then .bool true else undef), (15, bif d 9 then .bool true else undef)])
    (fun _ _ w' => Has w w' [(sqc N g, 29)]) (by kernel_rfl) (by kernel_rfl) ?h0_is ?hs_is ?hq_is
  case h0_is => exact ⟨(), (by simp [lput]), hH.drew⟩
  case hs_is =>
    refine ⟨?_, ?_, ?_, ?_, ?_, ?_, ?_, ?_, ?_, ?_, trivial⟩
    all_goals
      clear hH
      intro d _ w1 hd hn hH
      simp only [needs, Region.binds, reduceCtorEq, Bool.false_eq_true, false_implies, true_and, and_true, true_implies, forall_const] at hn
      simp only [lput, List.set, hn, cond_true]
      have c0 := hH.c0
      go_wp2_with (first | (refine wpL_guard rfl rfl ?_) | (go_at_call 92; refine (isOrder_any _ _).mono ?_; rintro e w2 ⟨rfl, rfl⟩) | (refine wpL_loadFull rfl rfl rfl rowSq hH.h0 (sqc_size _ _) ?_) | (go_at_call 93; refine (cornerOf_any g N _ h1 h10).mono ?_; rintro e w2 ⟨rfl, hb⟩; replace hH := hH.call' hb) | (refine wpL_neqAgg rfl rfl rfl rfl gdSq (eqSq (N : Int) (N : Int) g (corner g N) _) ?_))
      first | exact ⟨(), (by simp [lput, done, hn]), hH⟩ | exact ⟨(by simp [lput, done, hn]), hH⟩ | exact ⟨(), (by simp [lput, done]), hH⟩ | exact ⟨(by simp [lput, done]), hH⟩
  case hq_is =>
    clear hH
    intro d _ w1 hd hH
    simp only [allDone, List.length_cons, List.length_nil, Nat.reduceAdd, and_true] at hd
    simp only [lput, List.set, hd, cond_true]
    clear hd
    go_wp2
    go_ret
    exact ⟨rfl, hH.below⟩
set_option maxRecDepth 20000 in
set_option maxHeartbeats 4000000 in
theorem IsSquare_corner (N : Nat) (g : Nat → UInt8) (w : World) (h1 : 1 ≤ N) (h10 : N ≤ 10) (hE : eqS (N : Int) (N : Int) g (corner g N) = true) :
    Calls Try.prog 56 #[.agg (sqc N g)] w fun e w' => e = .returned (.bool (sqB N g)) ∧ Below w.heap.size w w' := by
  have hi := inB_true (show 1 ≤ (N : Int) by omega) (show (N : Int) ≤ 10 by omega)
  have hCo := hid (eqS_iff.1 hE).2
  have hH := Has.start1 w (sqc N g) 29
  go_enter Try.func56, Try.ntmps56
  go_wp2
  refine wp_region_frame (X := Unit) (fun d _ => [(6, bif d 0 then .pointer (some ⟨w.heap.size, 0, none⟩) else undef), (7, bif d 1 then .int .i64 N else undef), (8, bif d 2 then .bool true else undef), (9, bif d 3 then .bool false else undef), (10, bif d 4 then .bool false else undef), (11, bif d 5 then .agg (sqc N g) else undef), (12, bif d 6 then .agg (sqc N g) else undef), (13, bif d 7 then .agg (sqc N (corner g N)) else undef), (14, bif d 8 then .bool false else undef), (15, bif d 9 then .bool false else undef)])
    (fun _ _ w' => Has w w' [(sqc N g, 29)]) (by kernel_rfl) (by kernel_rfl) ?h0_is ?hs_is ?hq_is
  case h0_is => exact ⟨(), (by simp [lput]), hH.drew⟩
  case hs_is =>
    refine ⟨?_, ?_, ?_, ?_, ?_, ?_, ?_, ?_, ?_, ?_, trivial⟩
    all_goals
      clear hH
      intro d _ w1 hd hn hH
      simp only [needs, Region.binds, reduceCtorEq, Bool.false_eq_true, false_implies, true_and, and_true, true_implies, forall_const] at hn
      simp only [lput, List.set, hn, cond_true]
      have c0 := hH.c0
      go_wp2_with (first | (refine wpL_guard rfl rfl ?_) | (go_at_call 92; refine (isOrder_any _ _).mono ?_; rintro e w2 ⟨rfl, rfl⟩) | (refine wpL_loadFull rfl rfl rfl rowSq hH.h0 (sqc_size _ _) ?_) | (go_at_call 93; refine (cornerOf_any g N _ h1 h10).mono ?_; rintro e w2 ⟨rfl, hb⟩; replace hH := hH.call' hb) | (refine wpL_neqAgg rfl rfl rfl rfl gdSq (eqSq (N : Int) (N : Int) g (corner g N) _) ?_))
      first | exact ⟨(), (by simp [lput, done, hn]), hH⟩ | exact ⟨(by simp [lput, done, hn]), hH⟩ | exact ⟨(), (by simp [lput, done]), hH⟩ | exact ⟨(by simp [lput, done]), hH⟩
  case hq_is =>
    clear hH
    intro d _ w1 hd hH
    simp only [allDone, List.length_cons, List.length_nil, Nat.reduceAdd, and_true] at hd
    simp only [lput, List.set, hd, cond_true]
    clear hd
    have c0 := hH.c0
    go_wp2
    clear c0
    go_loopw [18] (fun i wr => ∃ k : Nat, k ≤ N ∧ i = .int .i64 k ∧ Has w wr [(sqc N g, 29)] ∧ Hid (BothTo g N k)) (fun i _ => 10 - (intOf i).toNat)
    case atStart => exact ⟨0, by omega, rfl, hH, BothTo.start g N⟩
    case round =>
      clear hH
      obtain ⟨k, hk, rfl, hH, hR⟩ := hrel
      by_cases hlt : k < N
      · have hk10 : k < 10 := by omega
        have hk1 : (k : Int) < 10 := by omega
        have hoff : k * 10 + 10 ≤ 100 := by omega
        go_wp2
        refine wp_region_frame (X := Two) (fun d x => [(21, bif d 0 then .int .i64 k else u21), (22, bif d 1 then .pointer (some ⟨w.heap.size, 1, none⟩) else u22), (23, bif d 2 then .pointer (some ⟨w.heap.size, 1 + k * 10, none⟩) else u23), (24, bif d 3 then .slice (some ⟨w.heap.size, 1 + k * 10, none⟩) 10 10 else u24), (25, bif d 4 then .pointer (some ⟨w.heap.size, 1 + k * 10, none⟩) else u25), (26, bif d 5 then .agg (u8s 10 (rowF g k)) else u26), (27, bif d 6 then .pointer (some ⟨w.heap.size, 1, none⟩) else u27), (28, bif d 7 then .agg (u8s 100 g) else u28), (29, bif d 8 then .int .i64 k else u29), (30, bif d 9 then .agg (u8s 10 (colF g k)) else u30), (4, bif d 10 then .pointer (some ⟨x.a, 0, none⟩) else u4), (5, bif d 11 then .pointer (some ⟨x.b, 0, none⟩) else u5)])
          (fun d x w' => Has w w' [(sqc N g, 29)] ∧ (d 12 = true → d 10 = true) ∧ (d 13 = true → d 11 = true) ∧ (d 10 = true → w.heap.size + 1 ≤ x.a ∧ holds w' x.a (bif d 12 then u8s 10 (rowF g k) else u8s 10 fun _ => 0) 71) ∧
            (d 11 = true → w.heap.size + 1 ≤ x.b ∧ holds w' x.b (bif d 13 then u8s 10 (colF g k) else u8s 10 fun _ => 0) 71) ∧ (d 10 = true → d 11 = true → x.a ≠ x.b)) (by kernel_rfl) (by kernel_rfl) ?h0 ?hs ?hq
        case h0 => exact ⟨⟨0, 0⟩, (by simp [lput]), hH.drew, (fun h => by cases h), (fun h => by cases h), (fun h => by cases h), (fun h => by cases h), (fun h => by cases h)⟩
        case hs =>
          refine ⟨?_, ?_, ?_, ?_, ?_, ?_, ?_, ?_, ?_, ?_, ?_, ?_, ?_, ?_, trivial⟩
          all_goals
            clear hH
            intro d x w1 hd hn hJ
            simp only [needs, Region.binds, reduceCtorEq, Bool.false_eq_true, false_implies, true_and, and_true, true_implies, forall_const] at hn
            obtain ⟨hH, hC1, hC2, hG1, hG2, hNe⟩ := hJ
            have hC1 := hid hC1
            have hC2 := hid hC2
            have hG1 := hid hG1
            have hG2 := hid hG2
            have hNe := hid hNe
            have har := arr10
            simp only [lput, List.set, hn, cond_true]
            go_wp2_with (first | (refine wpL_loadRowSq rfl rfl rfl rowPl hH.h0 hoff ?_) | (refine wpL_loadTab rfl rfl rfl rowTa hH.h0 ?_) | (refine wpL_alloc rfl rfl zeroPl ?_; intro g1 hg) | (go_at_call 94; refine (columnOf_any g k _ hk10).mono ?_; rintro e w2 ⟨rfl, hb⟩; replace hH := hH.call' hb) | (refine wpL_storeFull (x := .tmp 4) rfl rfl rfl rfl rowPl (hG1.out hn.1).2 (bif_size (u8s_size _ _) (u8s_size _ _)) (u8s_ok _ _) ?_) | (refine wpL_storeFull (x := .tmp 5) rfl rfl rfl rfl rowPl (hG2.out hn.1).2 (bif_size (u8s_size _ _) (u8s_size _ _)) (u8s_ok _ _) ?_))
            first
              | (refine ⟨x, ?_, hH, hC1.out, hC2.out, hG1.out, hG2.out, hNe.out⟩; solve | (simp [lput, done, hn]; done) | (simp [lput, done, hn]; rfl))
              | (refine ⟨x, ?_, hH, hC1.out, hC2.out, (fun h => ⟨(hG1.out h).1, holds_below (hG1.out h).2 hb (holds_lt (hG1.out h).2)⟩), (fun h => ⟨(hG2.out h).1, holds_below (hG2.out h).2 hb (holds_lt (hG2.out h).2)⟩), hNe.out⟩; (simp [lput, done, hn]; done))
              | (subst hg
                 have hz : d 12 = false := by
                   cases e : d 12 with
                   | false => rfl
                   | true => exact absurd (hC1.out e) (by rw [show d 10 = false from hd]; exact Bool.false_ne_true)
                 refine ⟨⟨w1.heap.size, x.b⟩, ?_, hH.alloc _, (fun _ => rfl), hC2.out, (fun _ => ⟨hH.size, by show holds _ _ (bif d 12 then _ else _) _; rw [hz]; exact holds_new _ _ _⟩), (fun h => ⟨(hG2.out h).1, holds_alloc (hG2.out h).2 _⟩), (fun _ h => Nat.ne_of_gt (holds_lt (hG2.out h).2))⟩
                 simp [lput, done])
              | (refine ⟨x, ?_, hH.setRowAbove (hG1.out hn.1).1 _, (fun _ => hn.1), hC2.out, (fun _ => ⟨(hG1.out hn.1).1, holds_row (hG1.out hn.1).2⟩), (fun h => ⟨(hG2.out h).1, holds_row_other (hG2.out h).2 (Ne.symm (hNe.out hn.1 h))⟩), hNe.out⟩; (simp [lput, done, hn]; done))
              | (refine ⟨x, ?_, hH.setRowAbove (hG2.out hn.1).1 _, hC1.out, (fun _ => hn.1), (fun h => ⟨(hG1.out h).1, holds_row_other (hG1.out h).2 (hNe.out h hn.1)⟩), (fun _ => ⟨(hG2.out hn.1).1, holds_row (hG2.out hn.1).2⟩), hNe.out⟩; (simp [lput, done, hn]; done))
              | (subst hg
                 have hz : d 13 = false := by
                   cases e : d 13 with
                   | false => rfl
                   | true => exact absurd (hC2.out e) (by rw [show d 11 = false from hd]; exact Bool.false_ne_true)
                 refine ⟨⟨x.a, w1.heap.size⟩, ?_, hH.alloc _, hC1.out, (fun _ => rfl), (fun h => ⟨(hG1.out h).1, holds_alloc (hG1.out h).2 _⟩), (fun _ => ⟨hH.size, by show holds _ _ (bif d 13 then _ else _) _; rw [hz]; exact holds_new _ _ _⟩), (fun h _ => Nat.ne_of_lt (holds_lt (hG1.out h).2))⟩
                 simp [lput, done])
        case hq =>
          clear hH
          intro d x w1 hd hJ
          simp only [allDone, List.length_cons, List.length_nil, Nat.reduceAdd, and_true] at hd
          obtain ⟨hH, _, _, hG1, hG2, _⟩ := hJ
          obtain ⟨_, hg1⟩ := hG1 (by simp only [hd])
          obtain ⟨_, hg2⟩ := hG2 (by simp only [hd])
          simp only [lput, List.set, hd, cond_true] at hg1 hg2 ⊢
          clear hG1 hG2 hd
          have c0 := hH.c0
          cases hp : permB (rowF g k) (N : Int) with
          | false =>
            have hq := hid (sqB_norow hlt hp)
            go_wp2_with (first | (refine wpL_guard rfl rfl ?_) | (refine wpL_loadFull (x := .tmp 4) rfl rfl rfl rowPl hg1 (u8s_size _ _) ?_) | (go_at_call 95; refine (IsPermutation_any _ _ _).mono ?_; rintro e w2 ⟨rfl, hb⟩; replace hH := hH.call' hb; replace hg2 := holds_below hg2 hb (holds_lt hg2); clear c0; have c0 := hH.c0; clear hb))
            go_ret
            exact ⟨by rw [hq.out]; rfl, hH.below⟩
          | true =>
            cases hp2 : permB (colF g k) (N : Int) with
            | false =>
              have hq := hid (sqB_nocol hlt hp2)
              go_wp2_with (first | (refine wpL_guard rfl rfl ?_) | (refine wpL_loadFull (x := .tmp 4) rfl rfl rfl rowPl hg1 (u8s_size _ _) ?_) | (refine wpL_loadFull (x := .tmp 5) rfl rfl rfl rowPl hg2 (u8s_size _ _) ?_) | (go_at_call 95; refine (IsPermutation_any _ _ _).mono ?_; rintro e w2 ⟨rfl, hb⟩; replace hH := hH.call' hb; replace hg2 := holds_below hg2 hb (holds_lt hg2); clear c0; have c0 := hH.c0; clear hb))
              go_ret
              exact ⟨by rw [hq.out]; rfl, hH.below⟩
            | true =>
              have hR' := hid (hR.out.step hp hp2)
              go_wp2_with (first | (refine wpL_guard rfl rfl ?_) | (refine wpL_loadFull (x := .tmp 4) rfl rfl rfl rowPl hg1 (u8s_size _ _) ?_) | (refine wpL_loadFull (x := .tmp 5) rfl rfl rfl rowPl hg2 (u8s_size _ _) ?_) | (go_at_call 95; refine (IsPermutation_any _ _ _).mono ?_; rintro e w2 ⟨rfl, hb⟩; replace hH := hH.call' hb; replace hg2 := holds_below hg2 hb (holds_lt hg2); clear c0; have c0 := hH.c0; clear hb))
              go_roundw
              case rel => exact ⟨k + 1, by omega, by go_num, hH, hR'⟩
              case measure => simp [intOf]; omega
      · obtain rfl : k = N := by omega
        have hq := hid (sqB_both h1 h10 hCo.out hR.out)
        go_wp2
        go_ret
        exact ⟨by rw [hq.out]; rfl, hH.below⟩
theorem IsSquare_any (o : Int) (g : Nat → UInt8) (w : World) :
    Calls Try.prog 56 #[.agg (sqc o g)] w fun e w' => e = .returned (.bool (sqB o g)) ∧ Below w.heap.size w w' := by
  by_cases h : 1 ≤ o ∧ o ≤ 10
  · obtain ⟨N, rfl⟩ := Int.eq_ofNat_of_zero_le (show 0 ≤ o by omega)
    cases hE : eqS (N : Int) (N : Int) g (corner g N) with
    | true => exact IsSquare_corner N g w (by omega) (by omega) hE
    | false =>
      rw [sqB_nocorner (N := N) (g := g) (fun h' => by rw [eqS_iff.2 ⟨rfl, h'⟩] at hE; cases hE)]
      exact IsSquare_nocorner N g w (by omega) (by omega) hE
  · rw [sqB_out h]; exact IsSquare_out o g w h
end Go.Proofs.Ytbhjbllgmenbaaa
