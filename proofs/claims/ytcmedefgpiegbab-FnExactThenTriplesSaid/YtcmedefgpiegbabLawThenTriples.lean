/- Proved: the law FnExactThenTriples returns true, and old memory is left alone, where program and model return the same. Conditions: those that the theorem names. -/
import Derived.Test.YtcmedefgpiegbabTr2
import Derived.Test.YtcmedefgpiegbabTu
import Derived.Test.YtcmedefgpiegbabReg
namespace Go.Proofs.Ytcmedefgpiegbab
open Go.RowKit
set_option maxRecDepth 20000 in
set_option maxHeartbeats 2000000 in
theorem lawThenTriples_by (a0 : Nat → UInt8) (a1 : Nat → UInt8) (a2 : Int) (r0 : Nat → UInt8) (r1 : Int) (w : World)
    (hS : Hid (∀ w, Calls Try.prog 18 #[.agg (u8s 30 a0), .agg (u8s 30 a1), .int .i64 a2] w fun e w' => e = .returned (.tuple #[.agg (u8s 30 r0), .int .i64 r1]) ∧ Below w.heap.size w w'))
    (hT : Hid (∀ w, Calls Try.prog 19 #[.agg (u8s 30 a0), .agg (u8s 30 a1), .int .i64 a2] w fun e w' => e = .returned (.tuple #[.agg (u8s 30 r0), .int .i64 r1]) ∧ Below w.heap.size w w'))
    : Calls Try.prog 4 #[.agg (u8s 30 a0), .agg (u8s 30 a1), .int .i64 a2] w fun e w' => e = .returned (.bool true) ∧ Below w.heap.size w w' := by
  have hH := Has.start2 w (u8s 30 a0) (u8s 30 a1) 24 24
  go_enter Try.func4, Try.ntmps4
  go_wp2_with (first | fail | (refine wpL_loadFull rfl rfl rfl rowTl hH.h0 (u8s_size _ _) ?_) | (refine wpL_loadFull rfl rfl rfl rowTl hH.h1 (u8s_size _ _) ?_) | (go_at_call 16; refine (toTriple_any _ _).mono ?_; rintro e w2 ⟨rfl, hb⟩; replace hH := hH.call' hb; (try replace hg7 := holds_below hg7 hb (holds_lt hg7)); (try replace hg9 := holds_below hg9 hb (holds_lt hg9)); clear hb) | (go_at_call 18; refine (hS.out _).mono ?_; rintro e w2 ⟨rfl, hb⟩; replace hH := hH.call' hb; (try replace hg7 := holds_below hg7 hb (holds_lt hg7)); (try replace hg9 := holds_below hg9 hb (holds_lt hg9)); clear hb) | (go_at_call 19; refine (hT.out _).mono ?_; rintro e w2 ⟨rfl, hb⟩; replace hH := hH.call' hb; (try replace hg7 := holds_below hg7 hb (holds_lt hg7)); (try replace hg9 := holds_below hg9 hb (holds_lt hg9)); clear hb) | (go_at_call 20; refine (eqTriple_self _ _).mono ?_; rintro e w2 ⟨rfl, hb⟩; replace hH := hH.call' hb; (try replace hg7 := holds_below hg7 hb (holds_lt hg7)); (try replace hg9 := holds_below hg9 hb (holds_lt hg9)); clear hb) | (refine wpL_loadFull (x := .tmp 7) rfl rfl rfl rowTr hg7 (u8s_size _ _) ?_) | (refine wpL_loadFull (x := .tmp 9) rfl rfl rfl rowTr hg9 (u8s_size _ _) ?_))
  refine wp_region_frame (X := Nat) (fun d g => [(12, bif d 0 then .agg (u8s 30 a0) else undef), (13, bif d 1 then .agg (u8s 30 a0) else undef), (14, bif d 2 then .agg (u8s 30 a1) else undef), (15, bif d 3 then .agg (u8s 30 a1) else undef), (16, bif d 4 then .int .i64 a2 else undef), (17, bif d 5 then .tuple #[.agg (u8s 30 r0), .int .i64 r1] else undef), (11, bif d 6 then .tuple #[.agg (u8s 30 r0), .int .i64 r1] else undef), (18, bif d 7 then .agg (u8s 30 r0) else undef), (19, bif d 8 then .int .i64 r1 else undef), (7, bif d 9 then .pointer (some ⟨g, 0, none⟩) else undef), (8, bif d 11 then .int .i64 r1 else undef)])
    (fun d g w' => Has w w' [(u8s 30 a0, 24), (u8s 30 a1, 24)] ∧ (d 10 = true → d 9 = true) ∧ (d 9 = true → (w.heap.size + 2 ≤ g) ∧ holds w' g (bif d 10 then u8s 30 r0 else u8s 30 fun _ => 0) 28)) (by kernel_rfl) (by kernel_rfl) ?h0_1 ?hs_1 ?hq_1
  case h0_1 => exact ⟨0, (by simp [lput]), hH.drew, (fun h => by cases h), (fun h => by cases h)⟩
  case hs_1 =>
    refine ⟨?_, ?_, ?_, ?_, ?_, ?_, ?_, ?_, ?_, ?_, ?_, ?_, trivial⟩
    all_goals
      clear hH
      intro d g w1 hd hn hJ
      simp only [needs, Region.binds, reduceCtorEq, Bool.false_eq_true, false_implies, true_and, and_true, true_implies, forall_const] at hn
      obtain ⟨hH, hC, hG⟩ := hJ
      have hC := hid hC
      have hG := hid hG
      simp only [lput, List.set, hn, cond_true]
      go_wp2_with (first | fail | (refine wpL_loadFull rfl rfl rfl rowTl hH.h0 (u8s_size _ _) ?_) | (refine wpL_loadFull rfl rfl rfl rowTl hH.h1 (u8s_size _ _) ?_) | (refine wpL_alloc rfl rfl zeroTr ?_; intro g1 hg) | (go_at_call 16; refine (toTriple_any _ _).mono ?_; rintro e w2 ⟨rfl, hb⟩; replace hH := hH.call' hb) | (go_at_call 18; refine (hS.out _).mono ?_; rintro e w2 ⟨rfl, hb⟩; replace hH := hH.call' hb) | (go_at_call 19; refine (hT.out _).mono ?_; rintro e w2 ⟨rfl, hb⟩; replace hH := hH.call' hb) | (refine wpL_storeFull rfl rfl rfl rfl rowTr (hG.out hn.1).2 (bif_size (u8s_size _ _) (u8s_size _ _)) (u8s_ok _ _) ?_))
      first
        | exact ⟨g, (by simp [lput, done, hn]), hH, hC.out, hG.out⟩
        | exact ⟨g, (by simp [lput, done, hn]), hH, hC.out, (fun h => ⟨(hG.out h).1, holds_below (hG.out h).2 hb (holds_lt (hG.out h).2)⟩)⟩
        | (subst hg
           have hz : d 10 = false := by
             cases e : d 10 with
             | false => rfl
             | true => rw [hC.out e] at hd; cases hd
           exact ⟨_, (by simp [lput, done]), hH.alloc _, (fun _ => rfl), (fun _ => ⟨hH.size, by show holds _ _ (bif d 10 then u8s 30 r0 else u8s 30 fun _ => 0) _; rw [hz]; exact holds_new _ _ _⟩)⟩)
        | exact ⟨g, (by simp [lput, done, hn]), hH.setRowAbove (hG.out hn.1).1 _, (fun _ => hn.1), (fun _ => ⟨(hG.out hn.1).1, holds_row (hG.out hn.1).2⟩)⟩
  case hq_1 =>
    clear hH
    intro d g7 w1 hd hJ
    simp only [allDone, List.length_cons, List.length_nil, Nat.reduceAdd, and_true] at hd
    obtain ⟨hH, _, hG⟩ := hJ
    obtain ⟨hb7, hg7⟩ := hG (by simp only [hd])
    simp only [lput, List.set, hd, cond_true] at hg7 ⊢
    clear hG hd
    go_wp2_with (first | fail | (refine wpL_loadFull rfl rfl rfl rowTl hH.h0 (u8s_size _ _) ?_) | (refine wpL_loadFull rfl rfl rfl rowTl hH.h1 (u8s_size _ _) ?_) | (go_at_call 16; refine (toTriple_any _ _).mono ?_; rintro e w2 ⟨rfl, hb⟩; replace hH := hH.call' hb; (try replace hg7 := holds_below hg7 hb (holds_lt hg7)); (try replace hg9 := holds_below hg9 hb (holds_lt hg9)); clear hb) | (go_at_call 18; refine (hS.out _).mono ?_; rintro e w2 ⟨rfl, hb⟩; replace hH := hH.call' hb; (try replace hg7 := holds_below hg7 hb (holds_lt hg7)); (try replace hg9 := holds_below hg9 hb (holds_lt hg9)); clear hb) | (go_at_call 19; refine (hT.out _).mono ?_; rintro e w2 ⟨rfl, hb⟩; replace hH := hH.call' hb; (try replace hg7 := holds_below hg7 hb (holds_lt hg7)); (try replace hg9 := holds_below hg9 hb (holds_lt hg9)); clear hb) | (go_at_call 20; refine (eqTriple_self _ _).mono ?_; rintro e w2 ⟨rfl, hb⟩; replace hH := hH.call' hb; (try replace hg7 := holds_below hg7 hb (holds_lt hg7)); (try replace hg9 := holds_below hg9 hb (holds_lt hg9)); clear hb) | (refine wpL_loadFull (x := .tmp 7) rfl rfl rfl rowTr hg7 (u8s_size _ _) ?_) | (refine wpL_loadFull (x := .tmp 9) rfl rfl rfl rowTr hg9 (u8s_size _ _) ?_))
    refine wp_region_frame (X := Nat) (fun d g => [(21, bif d 0 then .agg (u8s 30 a0) else undef), (22, bif d 1 then .agg (u8s 30 a0) else undef), (23, bif d 2 then .agg (u8s 30 a1) else undef), (24, bif d 3 then .agg (u8s 30 a1) else undef), (25, bif d 4 then .int .i64 a2 else undef), (26, bif d 5 then .tuple #[.agg (u8s 30 r0), .int .i64 r1] else undef), (20, bif d 6 then .tuple #[.agg (u8s 30 r0), .int .i64 r1] else undef), (27, bif d 7 then .agg (u8s 30 r0) else undef), (28, bif d 8 then .int .i64 r1 else undef), (9, bif d 9 then .pointer (some ⟨g, 0, none⟩) else undef), (10, bif d 11 then .int .i64 r1 else undef)])
      (fun d g w' => Has w w' [(u8s 30 a0, 24), (u8s 30 a1, 24)] ∧ (d 10 = true → d 9 = true) ∧ (d 9 = true → (w.heap.size + 2 ≤ g ∧ g7 < g) ∧ holds w' g (bif d 10 then u8s 30 r0 else u8s 30 fun _ => 0) 28) ∧ holds w' g7 (u8s 30 r0) 28) (by kernel_rfl) (by kernel_rfl) ?h0_2 ?hs_2 ?hq_2
    case h0_2 => exact ⟨0, (by simp [lput]), hH.drew, (fun h => by cases h), (fun h => by cases h), holds_drew hg7⟩
    case hs_2 =>
      refine ⟨?_, ?_, ?_, ?_, ?_, ?_, ?_, ?_, ?_, ?_, ?_, ?_, trivial⟩
      all_goals
        clear hH hg7
        intro d g w1 hd hn hJ
        simp only [needs, Region.binds, reduceCtorEq, Bool.false_eq_true, false_implies, true_and, and_true, true_implies, forall_const] at hn
        obtain ⟨hH, hC, hG, hg7⟩ := hJ
        have hC := hid hC
        have hG := hid hG
        simp only [lput, List.set, hn, cond_true]
        go_wp2_with (first | fail | (refine wpL_loadFull rfl rfl rfl rowTl hH.h0 (u8s_size _ _) ?_) | (refine wpL_loadFull rfl rfl rfl rowTl hH.h1 (u8s_size _ _) ?_) | (refine wpL_alloc rfl rfl zeroTr ?_; intro g1 hg) | (go_at_call 16; refine (toTriple_any _ _).mono ?_; rintro e w2 ⟨rfl, hb⟩; replace hH := hH.call' hb; replace hg7 := holds_below hg7 hb (holds_lt hg7)) | (go_at_call 18; refine (hS.out _).mono ?_; rintro e w2 ⟨rfl, hb⟩; replace hH := hH.call' hb; replace hg7 := holds_below hg7 hb (holds_lt hg7)) | (go_at_call 19; refine (hT.out _).mono ?_; rintro e w2 ⟨rfl, hb⟩; replace hH := hH.call' hb; replace hg7 := holds_below hg7 hb (holds_lt hg7)) | (refine wpL_storeFull rfl rfl rfl rfl rowTr (hG.out hn.1).2 (bif_size (u8s_size _ _) (u8s_size _ _)) (u8s_ok _ _) ?_))
        first
          | exact ⟨g, (by simp [lput, done, hn]), hH, hC.out, hG.out, hg7⟩
          | exact ⟨g, (by simp [lput, done, hn]), hH, hC.out, (fun h => ⟨(hG.out h).1, holds_below (hG.out h).2 hb (holds_lt (hG.out h).2)⟩), hg7⟩
          | (subst hg
             have hz : d 10 = false := by
               cases e : d 10 with
               | false => rfl
               | true => rw [hC.out e] at hd; cases hd
             exact ⟨_, (by simp [lput, done]), hH.alloc _, (fun _ => rfl), (fun _ => ⟨⟨hH.size, holds_lt hg7⟩, by show holds _ _ (bif d 10 then u8s 30 r0 else u8s 30 fun _ => 0) _; rw [hz]; exact holds_new _ _ _⟩), holds_alloc hg7 _⟩)
          | exact ⟨g, (by simp [lput, done, hn]), hH.setRowAbove (hG.out hn.1).1.1 _, (fun _ => hn.1), (fun _ => ⟨(hG.out hn.1).1, holds_row (hG.out hn.1).2⟩), holds_row_other hg7 (by have := (hG.out hn.1).1; omega)⟩
    case hq_2 =>
      clear hH hg7
      intro d g9 w1 hd hJ
      simp only [allDone, List.length_cons, List.length_nil, Nat.reduceAdd, and_true] at hd
      obtain ⟨hH, _, hG, hg7⟩ := hJ
      obtain ⟨hb9, hg9⟩ := hG (by simp only [hd])
      replace hb9 := hb9.1
      simp only [lput, List.set, hd, cond_true] at hg9 ⊢
      clear hG hd
      go_wp2_with (first | fail | (refine wpL_loadFull rfl rfl rfl rowTl hH.h0 (u8s_size _ _) ?_) | (refine wpL_loadFull rfl rfl rfl rowTl hH.h1 (u8s_size _ _) ?_) | (go_at_call 16; refine (toTriple_any _ _).mono ?_; rintro e w2 ⟨rfl, hb⟩; replace hH := hH.call' hb; (try replace hg7 := holds_below hg7 hb (holds_lt hg7)); (try replace hg9 := holds_below hg9 hb (holds_lt hg9)); clear hb) | (go_at_call 18; refine (hS.out _).mono ?_; rintro e w2 ⟨rfl, hb⟩; replace hH := hH.call' hb; (try replace hg7 := holds_below hg7 hb (holds_lt hg7)); (try replace hg9 := holds_below hg9 hb (holds_lt hg9)); clear hb) | (go_at_call 19; refine (hT.out _).mono ?_; rintro e w2 ⟨rfl, hb⟩; replace hH := hH.call' hb; (try replace hg7 := holds_below hg7 hb (holds_lt hg7)); (try replace hg9 := holds_below hg9 hb (holds_lt hg9)); clear hb) | (go_at_call 20; refine (eqTriple_self _ _).mono ?_; rintro e w2 ⟨rfl, hb⟩; replace hH := hH.call' hb; (try replace hg7 := holds_below hg7 hb (holds_lt hg7)); (try replace hg9 := holds_below hg9 hb (holds_lt hg9)); clear hb) | (refine wpL_loadFull (x := .tmp 7) rfl rfl rfl rowTr hg7 (u8s_size _ _) ?_) | (refine wpL_loadFull (x := .tmp 9) rfl rfl rfl rowTr hg9 (u8s_size _ _) ?_))
      go_ret
      exact ⟨rfl, hH.below⟩
theorem lawThenTriples_any (s t : Nat → UInt8) (n : Int) (_ : (Lit.int .i64 n).wf = true) (w : World) : Calls Try.prog 4 #[.agg (u8s 30 s), .agg (u8s 30 t), .int .i64 n] w fun e w' => e = .returned (.bool true) ∧ Below w.heap.size w w' := by
  cases h : (triB s n && triB t n) with
  | true =>
    have h' : triB s n = true ∧ triB t n = true := by simpa using h
    obtain ⟨N, rfl, hS⟩ := triB_true.1 h'.1
    exact lawThenTriples_by s t N _ _ w (hid fun w => specThenTriples_good s t N w h'.1 h'.2 hS) (hid fun w => implThenTriples_good s t N w h'.1 h'.2 hS)
  | false => exact lawThenTriples_by s t n _ _ w (hid fun w => specThenTriples_bad s t n w h) (hid fun w => implThenTriples_bad s t n w h)
end Go.Proofs.Ytcmedefgpiegbab
