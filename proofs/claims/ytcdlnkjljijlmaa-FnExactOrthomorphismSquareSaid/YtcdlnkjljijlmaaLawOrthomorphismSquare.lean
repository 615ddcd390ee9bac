/- Proved: the law FnExactOrthomorphismSquare returns true, and old memory is left alone, where program and model return the same. Conditions: those that the theorem names. -/
import Derived.Test.YtcdlnkjljijlmaaTo2
import Derived.Test.YtcdlnkjljijlmaaPl2
import Derived.Test.YtcdlnkjljijlmaaMk6
import Derived.Test.YtcdlnkjljijlmaaReg
namespace Go.Proofs.Ytcdlnkjljijlmaa
set_option linter.unusedVariables false
set_option linter.unusedSimpArgs false
open Go.RowKit
set_option maxRecDepth 20000 in
set_option maxHeartbeats 2000000 in
theorem lawOrthomorphismSquare_by (o0 : Int) (a0 : Nat → UInt8) (a1 : Nat → UInt8) (z0 : Int) (r0 : Nat → UInt8) (r1 : Int) (w : World)
    (hS : Hid (∀ w, Calls Try.prog 22 #[.agg (sqc o0 a0), .agg (u8s 10 a1)] w fun e w' => e = .returned (.tuple #[.agg (sqc z0 r0), .int .i64 r1]) ∧ Below w.heap.size w w'))
    (hT : Hid (∀ w, Calls Try.prog 23 #[.agg (sqc o0 a0), .agg (u8s 10 a1)] w fun e w' => e = .returned (.tuple #[.agg (sqc z0 r0), .int .i64 r1]) ∧ Below w.heap.size w w'))
    : Calls Try.prog 5 #[.agg (sqc o0 a0), .agg (u8s 10 a1)] w fun e w' => e = .returned (.bool true) ∧ Below w.heap.size w w' := by
  have hH := Has.start2 w (sqc o0 a0) (u8s 10 a1) 25 22
  go_enter Try.func5, Try.ntmps5
  go_wp2_with (first | fail | (refine wpL_loadFull rfl rfl rfl rowSl hH.h0 (sqc_size _ _) ?_) | (refine wpL_loadFull rfl rfl rfl rowB10 hH.h1 (u8s_size _ _) ?_) | (go_at_call 20; refine (toPlaces_any _ _).mono ?_; rintro e w2 ⟨rfl, hb⟩; replace hH := hH.call' hb; (try replace hg5 := holds_below hg5 hb (holds_lt hg5)); (try replace hg7 := holds_below hg7 hb (holds_lt hg7)); clear hb) | (go_at_call 16; refine (toSquare_any _ _ _).mono ?_; rintro e w2 ⟨rfl, hb⟩; replace hH := hH.call' hb; (try replace hg5 := holds_below hg5 hb (holds_lt hg5)); (try replace hg7 := holds_below hg7 hb (holds_lt hg7)); clear hb) | (go_at_call 22; refine (hS.out _).mono ?_; rintro e w2 ⟨rfl, hb⟩; replace hH := hH.call' hb; (try replace hg5 := holds_below hg5 hb (holds_lt hg5)); (try replace hg7 := holds_below hg7 hb (holds_lt hg7)); clear hb) | (go_at_call 23; refine (hT.out _).mono ?_; rintro e w2 ⟨rfl, hb⟩; replace hH := hH.call' hb; (try replace hg5 := holds_below hg5 hb (holds_lt hg5)); (try replace hg7 := holds_below hg7 hb (holds_lt hg7)); clear hb) | (go_at_call 18; refine (eqSquare_self _ _ _).mono ?_; rintro e w2 ⟨rfl, hb⟩; replace hH := hH.call' hb; (try replace hg5 := holds_below hg5 hb (holds_lt hg5)); (try replace hg7 := holds_below hg7 hb (holds_lt hg7)); clear hb) | (refine wpL_loadFull (x := .tmp 5) rfl rfl rfl rowSq hg5 (sqc_size _ _) ?_) | (refine wpL_loadFull (x := .tmp 7) rfl rfl rfl rowSq hg7 (sqc_size _ _) ?_))
  refine wp_region_frame (X := Nat) (fun d g => [(10, bif d 0 then .agg (sqc o0 a0) else undef), (11, bif d 1 then .agg (sqc o0 a0) else undef), (12, bif d 2 then .agg (u8s 10 a1) else undef), (13, bif d 3 then .agg (u8s 10 a1) else undef), (14, bif d 4 then .tuple #[.agg (sqc z0 r0), .int .i64 r1] else undef), (9, bif d 5 then .tuple #[.agg (sqc z0 r0), .int .i64 r1] else undef), (15, bif d 6 then .agg (sqc z0 r0) else undef), (16, bif d 7 then .int .i64 r1 else undef), (5, bif d 8 then .pointer (some ⟨g, 0, none⟩) else undef), (6, bif d 10 then .int .i64 r1 else undef)])
    (fun d g w' => Has w w' [(sqc o0 a0, 25), (u8s 10 a1, 22)] ∧ (d 9 = true → d 8 = true) ∧ (d 8 = true → (w.heap.size + 2 ≤ g) ∧ holds w' g (bif d 9 then sqc z0 r0 else sqc 0 fun _ => 0) 28)) (by kernel_rfl) (by kernel_rfl) ?h0_1 ?hs_1 ?hq_1
  case h0_1 => exact ⟨0, (by simp [lput]), hH.drew, (fun h => by cases h), (fun h => by cases h)⟩
  case hs_1 =>
    refine ⟨?_, ?_, ?_, ?_, ?_, ?_, ?_, ?_, ?_, ?_, ?_, trivial⟩
    all_goals
      clear hH
      intro d g w1 hd hn hJ
      simp only [needs, Region.binds, reduceCtorEq, Bool.false_eq_true, false_implies, true_and, and_true, true_implies, forall_const] at hn
      obtain ⟨hH, hC, hG⟩ := hJ
      have hC := hid hC
      have hG := hid hG
      simp only [lput, List.set, hn, cond_true]
      go_wp2_with (first | fail | (refine wpL_loadFull rfl rfl rfl rowSl hH.h0 (sqc_size _ _) ?_) | (refine wpL_loadFull rfl rfl rfl rowB10 hH.h1 (u8s_size _ _) ?_) | (refine wpL_alloc rfl rfl zeroSq ?_; intro g1 hg) | (go_at_call 20; refine (toPlaces_any _ _).mono ?_; rintro e w2 ⟨rfl, hb⟩; replace hH := hH.call' hb) | (go_at_call 16; refine (toSquare_any _ _ _).mono ?_; rintro e w2 ⟨rfl, hb⟩; replace hH := hH.call' hb) | (go_at_call 22; refine (hS.out _).mono ?_; rintro e w2 ⟨rfl, hb⟩; replace hH := hH.call' hb) | (go_at_call 23; refine (hT.out _).mono ?_; rintro e w2 ⟨rfl, hb⟩; replace hH := hH.call' hb) | (refine wpL_storeFull rfl rfl rfl rfl rowSq (hG.out hn.1).2 (bif_size (sqc_size _ _) (sqc_size _ _)) (sqc_ok _ _) ?_))
      first
        | exact ⟨g, (by simp [lput, done, hn]), hH, hC.out, hG.out⟩
        | exact ⟨g, (by simp [lput, done, hn]), hH, hC.out, (fun h => ⟨(hG.out h).1, holds_below (hG.out h).2 hb (holds_lt (hG.out h).2)⟩)⟩
        | (subst hg
           have hz : d 9 = false := by
             cases e : d 9 with
             | false => rfl
             | true => rw [hC.out e] at hd; cases hd
           exact ⟨_, (by simp [lput, done]), hH.alloc _, (fun _ => rfl), (fun _ => ⟨hH.size, by show holds _ _ (bif d 9 then sqc z0 r0 else sqc 0 fun _ => 0) _; rw [hz]; exact holds_new _ _ _⟩)⟩)
        | exact ⟨g, (by simp [lput, done, hn]), hH.setRowAbove (hG.out hn.1).1 _, (fun _ => hn.1), (fun _ => ⟨(hG.out hn.1).1, holds_row (hG.out hn.1).2⟩)⟩
  case hq_1 =>
    clear hH
    intro d g5 w1 hd hJ
    simp only [allDone, List.length_cons, List.length_nil, Nat.reduceAdd, and_true] at hd
    obtain ⟨hH, _, hG⟩ := hJ
    obtain ⟨hb5, hg5⟩ := hG (by simp only [hd])
    simp only [lput, List.set, hd, cond_true] at hg5 ⊢
    clear hG hd
    go_wp2_with (first | fail | (refine wpL_loadFull rfl rfl rfl rowSl hH.h0 (sqc_size _ _) ?_) | (refine wpL_loadFull rfl rfl rfl rowB10 hH.h1 (u8s_size _ _) ?_) | (go_at_call 20; refine (toPlaces_any _ _).mono ?_; rintro e w2 ⟨rfl, hb⟩; replace hH := hH.call' hb; (try replace hg5 := holds_below hg5 hb (holds_lt hg5)); (try replace hg7 := holds_below hg7 hb (holds_lt hg7)); clear hb) | (go_at_call 16; refine (toSquare_any _ _ _).mono ?_; rintro e w2 ⟨rfl, hb⟩; replace hH := hH.call' hb; (try replace hg5 := holds_below hg5 hb (holds_lt hg5)); (try replace hg7 := holds_below hg7 hb (holds_lt hg7)); clear hb) | (go_at_call 22; refine (hS.out _).mono ?_; rintro e w2 ⟨rfl, hb⟩; replace hH := hH.call' hb; (try replace hg5 := holds_below hg5 hb (holds_lt hg5)); (try replace hg7 := holds_below hg7 hb (holds_lt hg7)); clear hb) | (go_at_call 23; refine (hT.out _).mono ?_; rintro e w2 ⟨rfl, hb⟩; replace hH := hH.call' hb; (try replace hg5 := holds_below hg5 hb (holds_lt hg5)); (try replace hg7 := holds_below hg7 hb (holds_lt hg7)); clear hb) | (go_at_call 18; refine (eqSquare_self _ _ _).mono ?_; rintro e w2 ⟨rfl, hb⟩; replace hH := hH.call' hb; (try replace hg5 := holds_below hg5 hb (holds_lt hg5)); (try replace hg7 := holds_below hg7 hb (holds_lt hg7)); clear hb) | (refine wpL_loadFull (x := .tmp 5) rfl rfl rfl rowSq hg5 (sqc_size _ _) ?_) | (refine wpL_loadFull (x := .tmp 7) rfl rfl rfl rowSq hg7 (sqc_size _ _) ?_))
    refine wp_region_frame (X := Nat) (fun d g => [(18, bif d 0 then .agg (sqc o0 a0) else undef), (19, bif d 1 then .agg (sqc o0 a0) else undef), (20, bif d 2 then .agg (u8s 10 a1) else undef), (21, bif d 3 then .agg (u8s 10 a1) else undef), (22, bif d 4 then .tuple #[.agg (sqc z0 r0), .int .i64 r1] else undef), (17, bif d 5 then .tuple #[.agg (sqc z0 r0), .int .i64 r1] else undef), (23, bif d 6 then .agg (sqc z0 r0) else undef), (24, bif d 7 then .int .i64 r1 else undef), (7, bif d 8 then .pointer (some ⟨g, 0, none⟩) else undef), (8, bif d 10 then .int .i64 r1 else undef)])
      (fun d g w' => Has w w' [(sqc o0 a0, 25), (u8s 10 a1, 22)] ∧ (d 9 = true → d 8 = true) ∧ (d 8 = true → (w.heap.size + 2 ≤ g ∧ g5 < g) ∧ holds w' g (bif d 9 then sqc z0 r0 else sqc 0 fun _ => 0) 28) ∧ holds w' g5 (sqc z0 r0) 28) (by kernel_rfl) (by kernel_rfl) ?h0_2 ?hs_2 ?hq_2
    case h0_2 => exact ⟨0, (by simp [lput]), hH.drew, (fun h => by cases h), (fun h => by cases h), holds_drew hg5⟩
    case hs_2 =>
      refine ⟨?_, ?_, ?_, ?_, ?_, ?_, ?_, ?_, ?_, ?_, ?_, trivial⟩
      all_goals
        clear hH hg5
        intro d g w1 hd hn hJ
        simp only [needs, Region.binds, reduceCtorEq, Bool.false_eq_true, false_implies, true_and, and_true, true_implies, forall_const] at hn
        obtain ⟨hH, hC, hG, hg5⟩ := hJ
        have hC := hid hC
        have hG := hid hG
        simp only [lput, List.set, hn, cond_true]
        go_wp2_with (first | fail | (refine wpL_loadFull rfl rfl rfl rowSl hH.h0 (sqc_size _ _) ?_) | (refine wpL_loadFull rfl rfl rfl rowB10 hH.h1 (u8s_size _ _) ?_) | (refine wpL_alloc rfl rfl zeroSq ?_; intro g1 hg) | (go_at_call 20; refine (toPlaces_any _ _).mono ?_; rintro e w2 ⟨rfl, hb⟩; replace hH := hH.call' hb; replace hg5 := holds_below hg5 hb (holds_lt hg5)) | (go_at_call 16; refine (toSquare_any _ _ _).mono ?_; rintro e w2 ⟨rfl, hb⟩; replace hH := hH.call' hb; replace hg5 := holds_below hg5 hb (holds_lt hg5)) | (go_at_call 22; refine (hS.out _).mono ?_; rintro e w2 ⟨rfl, hb⟩; replace hH := hH.call' hb; replace hg5 := holds_below hg5 hb (holds_lt hg5)) | (go_at_call 23; refine (hT.out _).mono ?_; rintro e w2 ⟨rfl, hb⟩; replace hH := hH.call' hb; replace hg5 := holds_below hg5 hb (holds_lt hg5)) | (refine wpL_storeFull rfl rfl rfl rfl rowSq (hG.out hn.1).2 (bif_size (sqc_size _ _) (sqc_size _ _)) (sqc_ok _ _) ?_))
        first
          | exact ⟨g, (by simp [lput, done, hn]), hH, hC.out, hG.out, hg5⟩
          | exact ⟨g, (by simp [lput, done, hn]), hH, hC.out, (fun h => ⟨(hG.out h).1, holds_below (hG.out h).2 hb (holds_lt (hG.out h).2)⟩), hg5⟩
          | (subst hg
             have hz : d 9 = false := by
               cases e : d 9 with
               | false => rfl
               | true => rw [hC.out e] at hd; cases hd
             exact ⟨_, (by simp [lput, done]), hH.alloc _, (fun _ => rfl), (fun _ => ⟨⟨hH.size, holds_lt hg5⟩, by show holds _ _ (bif d 9 then sqc z0 r0 else sqc 0 fun _ => 0) _; rw [hz]; exact holds_new _ _ _⟩), holds_alloc hg5 _⟩)
          | exact ⟨g, (by simp [lput, done, hn]), hH.setRowAbove (hG.out hn.1).1.1 _, (fun _ => hn.1), (fun _ => ⟨(hG.out hn.1).1, holds_row (hG.out hn.1).2⟩), holds_row_other hg5 (by have := (hG.out hn.1).1; omega)⟩
    case hq_2 =>
      clear hH hg5
      intro d g7 w1 hd hJ
      simp only [allDone, List.length_cons, List.length_nil, Nat.reduceAdd, and_true] at hd
      obtain ⟨hH, _, hG, hg5⟩ := hJ
      obtain ⟨hb7, hg7⟩ := hG (by simp only [hd])
      replace hb7 := hb7.1
      simp only [lput, List.set, hd, cond_true] at hg7 ⊢
      clear hG hd
      go_wp2_with (first | fail | (refine wpL_loadFull rfl rfl rfl rowSl hH.h0 (sqc_size _ _) ?_) | (refine wpL_loadFull rfl rfl rfl rowB10 hH.h1 (u8s_size _ _) ?_) | (go_at_call 20; refine (toPlaces_any _ _).mono ?_; rintro e w2 ⟨rfl, hb⟩; replace hH := hH.call' hb; (try replace hg5 := holds_below hg5 hb (holds_lt hg5)); (try replace hg7 := holds_below hg7 hb (holds_lt hg7)); clear hb) | (go_at_call 16; refine (toSquare_any _ _ _).mono ?_; rintro e w2 ⟨rfl, hb⟩; replace hH := hH.call' hb; (try replace hg5 := holds_below hg5 hb (holds_lt hg5)); (try replace hg7 := holds_below hg7 hb (holds_lt hg7)); clear hb) | (go_at_call 22; refine (hS.out _).mono ?_; rintro e w2 ⟨rfl, hb⟩; replace hH := hH.call' hb; (try replace hg5 := holds_below hg5 hb (holds_lt hg5)); (try replace hg7 := holds_below hg7 hb (holds_lt hg7)); clear hb) | (go_at_call 23; refine (hT.out _).mono ?_; rintro e w2 ⟨rfl, hb⟩; replace hH := hH.call' hb; (try replace hg5 := holds_below hg5 hb (holds_lt hg5)); (try replace hg7 := holds_below hg7 hb (holds_lt hg7)); clear hb) | (go_at_call 18; refine (eqSquare_self _ _ _).mono ?_; rintro e w2 ⟨rfl, hb⟩; replace hH := hH.call' hb; (try replace hg5 := holds_below hg5 hb (holds_lt hg5)); (try replace hg7 := holds_below hg7 hb (holds_lt hg7)); clear hb) | (refine wpL_loadFull (x := .tmp 5) rfl rfl rfl rowSq hg5 (sqc_size _ _) ?_) | (refine wpL_loadFull (x := .tmp 7) rfl rfl rfl rowSq hg7 (sqc_size _ _) ?_))
      go_ret
      exact ⟨rfl, hH.below⟩
theorem lawOrthomorphismSquare_any (o : Int) (g : Nat → UInt8) (_ : (Lit.int .i64 o).wf = true) (p : Nat → UInt8) (w : World) : Calls Try.prog 5 #[.agg (sqc o g), .agg (u8s 10 p)] w fun e w' => e = .returned (.bool true) ∧ Below w.heap.size w w' := by
  obtain ⟨z, hz⟩ : ∃ z, gcode o g (permB p o) = z := ⟨_, rfl⟩
  by_cases h0 : z = 0
  · subst h0
    obtain ⟨N, rfl, hG, hP⟩ := gcode_good hz
    cases hr : difB (orD g p N) N with
    | true => exact lawOrthomorphismSquare_by N g p _ _ _ w (hid fun w => specOrthoSq_in N g p true w hz hG hP hr) (hid fun w => implOrthoSq_in N g p true w hz hG.lp.sq hP hr)
    | false => exact lawOrthomorphismSquare_by N g p _ _ _ w (hid fun w => specOrthoSq_in N g p false w hz hG hP hr) (hid fun w => implOrthoSq_in N g p false w hz hG.lp.sq hP hr)
  · have hzz : (z == 0) = false := by simpa using h0
    exact lawOrthomorphismSquare_by o g p _ _ _ w (hid fun w => specOrthoSq_bad o g p z w hz hzz) (hid fun w => implOrthoSq_bad o g p z w hz hzz)
end Go.Proofs.Ytcdlnkjljijlmaa
