/- Proved: the law FnExactIsOrthomorphism returns true, and old memory is left alone, where program and model return the same. Conditions: those that the theorem names. -/
import Derived.Test.YtcdlnkjljijlmaaTo2
import Derived.Test.YtcdlnkjljijlmaaPl2
import Derived.Test.YtcdlnkjljijlmaaMk4
import Derived.Test.YtcdlnkjljijlmaaReg
namespace Go.Proofs.Ytcdlnkjljijlmaa
set_option linter.unusedVariables false
set_option linter.unusedSimpArgs false
open Go.RowKit
set_option maxRecDepth 20000 in
set_option maxHeartbeats 2000000 in
theorem lawIsOrthomorphism_by (o0 : Int) (a0 : Nat → UInt8) (a1 : Nat → UInt8) (r0 : Bool) (r1 : Int) (w : World)
    (hS : Hid (∀ w, Calls Try.prog 19 #[.agg (sqc o0 a0), .agg (u8s 10 a1)] w fun e w' => e = .returned (.tuple #[.bool r0, .int .i64 r1]) ∧ Below w.heap.size w w'))
    (hT : Hid (∀ w, Calls Try.prog 21 #[.agg (sqc o0 a0), .agg (u8s 10 a1)] w fun e w' => e = .returned (.tuple #[.bool r0, .int .i64 r1]) ∧ Below w.heap.size w w'))
    : Calls Try.prog 4 #[.agg (sqc o0 a0), .agg (u8s 10 a1)] w fun e w' => e = .returned (.bool true) ∧ Below w.heap.size w w' := by
  have hH := Has.start2 w (sqc o0 a0) (u8s 10 a1) 25 22
  go_enter Try.func4, Try.ntmps4
  go_wp2_with (first | fail | (refine wpL_loadFull rfl rfl rfl rowSl hH.h0 (sqc_size _ _) ?_) | (refine wpL_loadFull rfl rfl rfl rowB10 hH.h1 (u8s_size _ _) ?_) | (go_at_call 20; refine (toPlaces_any _ _).mono ?_; rintro e w2 ⟨rfl, hb⟩; replace hH := hH.call' hb; clear hb) | (go_at_call 16; refine (toSquare_any _ _ _).mono ?_; rintro e w2 ⟨rfl, hb⟩; replace hH := hH.call' hb; clear hb) | (go_at_call 19; refine (hS.out _).mono ?_; rintro e w2 ⟨rfl, hb⟩; replace hH := hH.call' hb; clear hb) | (go_at_call 21; refine (hT.out _).mono ?_; rintro e w2 ⟨rfl, hb⟩; replace hH := hH.call' hb; clear hb))
  refine wp_region_frame (X := Unit) (fun d _ => [(10, bif d 0 then .agg (sqc o0 a0) else undef), (11, bif d 1 then .agg (sqc o0 a0) else undef), (12, bif d 2 then .agg (u8s 10 a1) else undef), (13, bif d 3 then .agg (u8s 10 a1) else undef), (14, bif d 4 then .tuple #[.bool r0, .int .i64 r1] else undef), (9, bif d 5 then .tuple #[.bool r0, .int .i64 r1] else undef), (15, bif d 6 then .bool r0 else undef), (16, bif d 7 then .int .i64 r1 else undef), (5, bif d 8 then .bool r0 else undef), (6, bif d 9 then .int .i64 r1 else undef)])
    (fun d _ w' => Has w w' [(sqc o0 a0, 25), (u8s 10 a1, 22)]) (by kernel_rfl) (by kernel_rfl) ?h0_r1 ?hs_r1 ?hq_r1
  case h0_r1 => exact ⟨(), (by simp [lput]), hH.drew⟩
  case hs_r1 =>
    refine ⟨?_, ?_, ?_, ?_, ?_, ?_, ?_, ?_, ?_, ?_, trivial⟩
    all_goals
      clear hH
      intro d _ w1 hd hn hJ
      simp only [needs, Region.binds, reduceCtorEq, Bool.false_eq_true, false_implies, true_and, and_true, true_implies, forall_const] at hn
      simp only [lput, List.set, hn, cond_true]
      have hH := hJ; clear hJ
      go_wp2_with (first | fail | (refine wpL_loadFull rfl rfl rfl rowSl hH.h0 (sqc_size _ _) ?_) | (refine wpL_loadFull rfl rfl rfl rowB10 hH.h1 (u8s_size _ _) ?_) | (go_at_call 20; refine (toPlaces_any _ _).mono ?_; rintro e w2 ⟨rfl, hb⟩; replace hH := hH.call' hb; clear hb) | (go_at_call 16; refine (toSquare_any _ _ _).mono ?_; rintro e w2 ⟨rfl, hb⟩; replace hH := hH.call' hb; clear hb) | (go_at_call 19; refine (hS.out _).mono ?_; rintro e w2 ⟨rfl, hb⟩; replace hH := hH.call' hb; clear hb) | (go_at_call 21; refine (hT.out _).mono ?_; rintro e w2 ⟨rfl, hb⟩; replace hH := hH.call' hb; clear hb))
      first
        | (refine ⟨(), ?_, hH⟩; (simp [lput, done, hn]; done))
        | (refine ⟨?_, hH⟩; (simp [lput, done, hn]; done))
        | (refine ⟨(), ?_, hH⟩; (simp [lput, done, hn]; rfl))
        | (refine ⟨?_, hH⟩; (simp [lput, done, hn]; rfl))
        | (refine ⟨(), ?_, hH⟩; (simp [lput, done]; done))
        | (refine ⟨?_, hH⟩; (simp [lput, done]; done))
        | (refine ⟨(), ?_, hH⟩; (simp [lput, done]; rfl))
        | (refine ⟨?_, hH⟩; (simp [lput, done]; rfl))
  case hq_r1 =>
    clear hH
    intro d _ w1 hd hJ
    simp only [allDone, List.length_cons, List.length_nil, Nat.reduceAdd, and_true] at hd
    have hH := hJ; clear hJ
    simp only [lput, List.set, hd, cond_true]
    clear hd
    go_wp2_with (first | fail | (refine wpL_loadFull rfl rfl rfl rowSl hH.h0 (sqc_size _ _) ?_) | (refine wpL_loadFull rfl rfl rfl rowB10 hH.h1 (u8s_size _ _) ?_) | (go_at_call 20; refine (toPlaces_any _ _).mono ?_; rintro e w2 ⟨rfl, hb⟩; replace hH := hH.call' hb; clear hb) | (go_at_call 16; refine (toSquare_any _ _ _).mono ?_; rintro e w2 ⟨rfl, hb⟩; replace hH := hH.call' hb; clear hb) | (go_at_call 19; refine (hS.out _).mono ?_; rintro e w2 ⟨rfl, hb⟩; replace hH := hH.call' hb; clear hb) | (go_at_call 21; refine (hT.out _).mono ?_; rintro e w2 ⟨rfl, hb⟩; replace hH := hH.call' hb; clear hb))
    refine wp_region_frame (X := Unit) (fun d _ => [(18, bif d 0 then .agg (sqc o0 a0) else undef), (19, bif d 1 then .agg (sqc o0 a0) else undef), (20, bif d 2 then .agg (u8s 10 a1) else undef), (21, bif d 3 then .agg (u8s 10 a1) else undef), (22, bif d 4 then .tuple #[.bool r0, .int .i64 r1] else undef), (17, bif d 5 then .tuple #[.bool r0, .int .i64 r1] else undef), (23, bif d 6 then .bool r0 else undef), (24, bif d 7 then .int .i64 r1 else undef), (7, bif d 8 then .bool r0 else undef), (8, bif d 9 then .int .i64 r1 else undef)])
      (fun d _ w' => Has w w' [(sqc o0 a0, 25), (u8s 10 a1, 22)]) (by kernel_rfl) (by kernel_rfl) ?h0_r2 ?hs_r2 ?hq_r2
    case h0_r2 => exact ⟨(), (by simp [lput]), hH.drew⟩
    case hs_r2 =>
      refine ⟨?_, ?_, ?_, ?_, ?_, ?_, ?_, ?_, ?_, ?_, trivial⟩
      all_goals
        clear hH
        intro d _ w1 hd hn hJ
        simp only [needs, Region.binds, reduceCtorEq, Bool.false_eq_true, false_implies, true_and, and_true, true_implies, forall_const] at hn
        simp only [lput, List.set, hn, cond_true]
        have hH := hJ; clear hJ
        go_wp2_with (first | fail | (refine wpL_loadFull rfl rfl rfl rowSl hH.h0 (sqc_size _ _) ?_) | (refine wpL_loadFull rfl rfl rfl rowB10 hH.h1 (u8s_size _ _) ?_) | (go_at_call 20; refine (toPlaces_any _ _).mono ?_; rintro e w2 ⟨rfl, hb⟩; replace hH := hH.call' hb; clear hb) | (go_at_call 16; refine (toSquare_any _ _ _).mono ?_; rintro e w2 ⟨rfl, hb⟩; replace hH := hH.call' hb; clear hb) | (go_at_call 19; refine (hS.out _).mono ?_; rintro e w2 ⟨rfl, hb⟩; replace hH := hH.call' hb; clear hb) | (go_at_call 21; refine (hT.out _).mono ?_; rintro e w2 ⟨rfl, hb⟩; replace hH := hH.call' hb; clear hb))
        first
          | (refine ⟨(), ?_, hH⟩; (simp [lput, done, hn]; done))
          | (refine ⟨?_, hH⟩; (simp [lput, done, hn]; done))
          | (refine ⟨(), ?_, hH⟩; (simp [lput, done, hn]; rfl))
          | (refine ⟨?_, hH⟩; (simp [lput, done, hn]; rfl))
          | (refine ⟨(), ?_, hH⟩; (simp [lput, done]; done))
          | (refine ⟨?_, hH⟩; (simp [lput, done]; done))
          | (refine ⟨(), ?_, hH⟩; (simp [lput, done]; rfl))
          | (refine ⟨?_, hH⟩; (simp [lput, done]; rfl))
    case hq_r2 =>
      clear hH
      intro d _ w1 hd hJ
      simp only [allDone, List.length_cons, List.length_nil, Nat.reduceAdd, and_true] at hd
      have hH := hJ; clear hJ
      simp only [lput, List.set, hd, cond_true]
      clear hd
      go_wp2_with (first | fail | (refine wpL_loadFull rfl rfl rfl rowSl hH.h0 (sqc_size _ _) ?_) | (refine wpL_loadFull rfl rfl rfl rowB10 hH.h1 (u8s_size _ _) ?_) | (go_at_call 20; refine (toPlaces_any _ _).mono ?_; rintro e w2 ⟨rfl, hb⟩; replace hH := hH.call' hb; clear hb) | (go_at_call 16; refine (toSquare_any _ _ _).mono ?_; rintro e w2 ⟨rfl, hb⟩; replace hH := hH.call' hb; clear hb) | (go_at_call 19; refine (hS.out _).mono ?_; rintro e w2 ⟨rfl, hb⟩; replace hH := hH.call' hb; clear hb) | (go_at_call 21; refine (hT.out _).mono ?_; rintro e w2 ⟨rfl, hb⟩; replace hH := hH.call' hb; clear hb))
      go_ret
      exact ⟨rfl, hH.below⟩
theorem lawIsOrthomorphism_any (o : Int) (g : Nat → UInt8) (_ : (Lit.int .i64 o).wf = true) (p : Nat → UInt8) (w : World) : Calls Try.prog 4 #[.agg (sqc o g), .agg (u8s 10 p)] w fun e w' => e = .returned (.bool true) ∧ Below w.heap.size w w' := by
  obtain ⟨z, hz⟩ : ∃ z, gcode o g (permB p o) = z := ⟨_, rfl⟩
  by_cases h0 : z = 0
  · subst h0
    obtain ⟨N, rfl, hG, hP⟩ := gcode_good hz
    exact lawIsOrthomorphism_by N g p _ _ w (hid fun w => specIsOrtho_good N g p w hz hG hP) (hid fun w => implIsOrtho_good N g p w hz hG.lp.sq hP)
  · have hzz : (z == 0) = false := by simpa using h0
    exact lawIsOrthomorphism_by o g p _ _ w (hid fun w => specIsOrtho_bad o g p z w hz hzz) (hid fun w => implIsOrtho_bad o g p z w hz hzz)
end Go.Proofs.Ytcdlnkjljijlmaa
