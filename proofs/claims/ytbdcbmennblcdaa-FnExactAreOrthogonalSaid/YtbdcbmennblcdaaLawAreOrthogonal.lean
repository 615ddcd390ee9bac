/- Proved: the law FnExactAreOrthogonal returns true, and old memory is left alone, where program and model return the same. Conditions: those that the theorem names. -/
import Derived.Test.YtbdcbmennblcdaaTo2
import Derived.Test.YtbdcbmennblcdaaAo
import Derived.Test.YtbdcbmennblcdaaReg
namespace Go.Proofs.Ytbdcbmennblcdaa
set_option linter.unusedVariables false
set_option linter.unusedSimpArgs false
open Go.RowKit
set_option maxRecDepth 20000 in
set_option maxHeartbeats 2000000 in
theorem lawAreOrthogonal_by (o0 : Int) (a0 : Nat → UInt8) (o1 : Int) (a1 : Nat → UInt8) (r0 : Bool) (r1 : Int) (w : World)
    (hS : Hid (∀ w, Calls Try.prog 32 #[.agg (sqc o0 a0), .agg (sqc o1 a1)] w fun e w' => e = .returned (.tuple #[.bool r0, .int .i64 r1]) ∧ Below w.heap.size w w'))
    (hT : Hid (∀ w, Calls Try.prog 33 #[.agg (sqc o0 a0), .agg (sqc o1 a1)] w fun e w' => e = .returned (.tuple #[.bool r0, .int .i64 r1]) ∧ Below w.heap.size w w'))
    : Calls Try.prog 7 #[.agg (sqc o0 a0), .agg (sqc o1 a1)] w fun e w' => e = .returned (.bool true) ∧ Below w.heap.size w w' := by
  have hH := Has.start2 w (sqc o0 a0) (sqc o1 a1) 25 25
  go_enter Try.func7, Try.ntmps7
  go_wp2_with (first | fail | (refine wpL_loadFull rfl rfl rfl rowSl hH.h0 (sqc_size _ _) ?_) | (refine wpL_loadFull rfl rfl rfl rowSl hH.h1 (sqc_size _ _) ?_) | (go_at_call 16; refine (toSquare_any _ _ _).mono ?_; rintro e w2 ⟨rfl, hb⟩; replace hH := hH.call' hb; clear hb) | (go_at_call 32; refine (hS.out _).mono ?_; rintro e w2 ⟨rfl, hb⟩; replace hH := hH.call' hb; clear hb) | (go_at_call 33; refine (hT.out _).mono ?_; rintro e w2 ⟨rfl, hb⟩; replace hH := hH.call' hb; clear hb))
  refine wp_region_frame (X := Unit) (fun d _ => [(10, bif d 0 then .agg (sqc o0 a0) else undef), (11, bif d 1 then .agg (sqc o0 a0) else undef), (12, bif d 2 then .agg (sqc o1 a1) else undef), (13, bif d 3 then .agg (sqc o1 a1) else undef), (14, bif d 4 then .tuple #[.bool r0, .int .i64 r1] else undef), (9, bif d 5 then .tuple #[.bool r0, .int .i64 r1] else undef), (15, bif d 6 then .bool r0 else undef), (16, bif d 7 then .int .i64 r1 else undef), (5, bif d 8 then .bool r0 else undef), (6, bif d 9 then .int .i64 r1 else undef)])
    (fun d _ w' => Has w w' [(sqc o0 a0, 25), (sqc o1 a1, 25)]) (by kernel_rfl) (by kernel_rfl) ?h0_r1 ?hs_r1 ?hq_r1
  case h0_r1 => exact ⟨(), (by simp [lput]), hH.drew⟩
  case hs_r1 =>
    refine ⟨?_, ?_, ?_, ?_, ?_, ?_, ?_, ?_, ?_, ?_, trivial⟩
    all_goals
      clear hH
      intro d _ w1 hd hn hJ
      simp only [needs, Region.binds, reduceCtorEq, Bool.false_eq_true, false_implies, true_and, and_true, true_implies, forall_const] at hn
      simp only [lput, List.set, hn, cond_true]
      have hH := hJ; clear hJ
      go_wp2_with (first | fail | (refine wpL_loadFull rfl rfl rfl rowSl hH.h0 (sqc_size _ _) ?_) | (refine wpL_loadFull rfl rfl rfl rowSl hH.h1 (sqc_size _ _) ?_) | (go_at_call 16; refine (toSquare_any _ _ _).mono ?_; rintro e w2 ⟨rfl, hb⟩; replace hH := hH.call' hb; clear hb) | (go_at_call 32; refine (hS.out _).mono ?_; rintro e w2 ⟨rfl, hb⟩; replace hH := hH.call' hb; clear hb) | (go_at_call 33; refine (hT.out _).mono ?_; rintro e w2 ⟨rfl, hb⟩; replace hH := hH.call' hb; clear hb))
      first
        | (refine ⟨(), ?_, hH⟩; (simp [lput, done, hn]; done))
        | (refine ⟨?_, hH⟩; (simp [lput, done, hn]; done))
        | (refine ⟨(), ?_, hH⟩; (simp [lput, done, hn]; rfl))
        | (refine ⟨?_, hH⟩; (simp [lput, done, hn]; rfl))
        | (refine ⟨(), ?_, hH⟩; (simp [lput, done]; done))
        | (refine ⟨?_, hH⟩; (simp [lput, done]; done))
        | (refine ⟨(), ?_, hH⟩; (simp [lput, done]; rfl))
        | (refine ⟨?_, hH⟩; (simp [lput, done]; rfl))
  case hq_r1 =>
    clear hH
    intro d _ w1 hd hJ
    simp only [allDone, List.length_cons, List.length_nil, Nat.reduceAdd, and_true] at hd
    have hH := hJ; clear hJ
    simp only [lput, List.set, hd, cond_true]
    clear hd
    go_wp2_with (first | fail | (refine wpL_loadFull rfl rfl rfl rowSl hH.h0 (sqc_size _ _) ?_) | (refine wpL_loadFull rfl rfl rfl rowSl hH.h1 (sqc_size _ _) ?_) | (go_at_call 16; refine (toSquare_any _ _ _).mono ?_; rintro e w2 ⟨rfl, hb⟩; replace hH := hH.call' hb; clear hb) | (go_at_call 32; refine (hS.out _).mono ?_; rintro e w2 ⟨rfl, hb⟩; replace hH := hH.call' hb; clear hb) | (go_at_call 33; refine (hT.out _).mono ?_; rintro e w2 ⟨rfl, hb⟩; replace hH := hH.call' hb; clear hb))
    refine wp_region_frame (X := Unit) (fun d _ => [(18, bif d 0 then .agg (sqc o0 a0) else undef), (19, bif d 1 then .agg (sqc o0 a0) else undef), (20, bif d 2 then .agg (sqc o1 a1) else undef), (21, bif d 3 then .agg (sqc o1 a1) else undef), (22, bif d 4 then .tuple #[.bool r0, .int .i64 r1] else undef), (17, bif d 5 then .tuple #[.bool r0, .int .i64 r1] else undef), (23, bif d 6 then .bool r0 else undef), (24, bif d 7 then .int .i64 r1 else undef), (7, bif d 8 then .bool r0 else undef), (8, bif d 9 then .int .i64 r1 else undef)])
      (fun d _ w' => Has w w' [(sqc o0 a0, 25), (sqc o1 a1, 25)]) (by kernel_rfl) (by kernel_rfl) ?h0_r2 ?hs_r2 ?hq_r2
    case h0_r2 => exact ⟨(), (by simp [lput]), hH.drew⟩
    case hs_r2 =>
      refine ⟨?_, ?_, ?_, ?_, ?_, ?_, ?_, ?_, ?_, ?_, trivial⟩
      all_goals
        clear hH
        intro d _ w1 hd hn hJ
        simp only [needs, Region.binds, reduceCtorEq, Bool.false_eq_true, false_implies, true_and, and_true, true_implies, forall_const] at hn
        simp only [lput, List.set, hn, cond_true]
        have hH := hJ; clear hJ
        go_wp2_with (first | fail | (refine wpL_loadFull rfl rfl rfl rowSl hH.h0 (sqc_size _ _) ?_) | (refine wpL_loadFull rfl rfl rfl rowSl hH.h1 (sqc_size _ _) ?_) | (go_at_call 16; refine (toSquare_any _ _ _).mono ?_; rintro e w2 ⟨rfl, hb⟩; replace hH := hH.call' hb; clear hb) | (go_at_call 32; refine (hS.out _).mono ?_; rintro e w2 ⟨rfl, hb⟩; replace hH := hH.call' hb; clear hb) | (go_at_call 33; refine (hT.out _).mono ?_; rintro e w2 ⟨rfl, hb⟩; replace hH := hH.call' hb; clear hb))
        first
          | (refine ⟨(), ?_, hH⟩; (simp [lput, done, hn]; done))
          | (refine ⟨?_, hH⟩; (simp [lput, done, hn]; done))
          | (refine ⟨(), ?_, hH⟩; (simp [lput, done, hn]; rfl))
          | (refine ⟨?_, hH⟩; (simp [lput, done, hn]; rfl))
          | (refine ⟨(), ?_, hH⟩; (simp [lput, done]; done))
          | (refine ⟨?_, hH⟩; (simp [lput, done]; done))
          | (refine ⟨(), ?_, hH⟩; (simp [lput, done]; rfl))
          | (refine ⟨?_, hH⟩; (simp [lput, done]; rfl))
    case hq_r2 =>
      clear hH
      intro d _ w1 hd hJ
      simp only [allDone, List.length_cons, List.length_nil, Nat.reduceAdd, and_true] at hd
      have hH := hJ; clear hJ
      simp only [lput, List.set, hd, cond_true]
      clear hd
      go_wp2_with (first | fail | (refine wpL_loadFull rfl rfl rfl rowSl hH.h0 (sqc_size _ _) ?_) | (refine wpL_loadFull rfl rfl rfl rowSl hH.h1 (sqc_size _ _) ?_) | (go_at_call 16; refine (toSquare_any _ _ _).mono ?_; rintro e w2 ⟨rfl, hb⟩; replace hH := hH.call' hb; clear hb) | (go_at_call 32; refine (hS.out _).mono ?_; rintro e w2 ⟨rfl, hb⟩; replace hH := hH.call' hb; clear hb) | (go_at_call 33; refine (hT.out _).mono ?_; rintro e w2 ⟨rfl, hb⟩; replace hH := hH.call' hb; clear hb))
      go_ret
      exact ⟨rfl, hH.below⟩
theorem lawAreOrthogonal_any (o : Int) (g : Nat → UInt8) (_ : (Lit.int .i64 o).wf = true) (z : Int) (h : Nat → UInt8) (_ : (Lit.int .i64 z).wf = true) (w : World) : Calls Try.prog 7 #[.agg (sqc o g), .agg (sqc z h)] w fun e w' => e = .returned (.bool true) ∧ Below w.heap.size w w' := by
  cases hb : (sqB o g && sqB z h) with
  | false => exact lawAreOrthogonal_by o g z h _ _ w (hid fun w => specAreOrthogonal_no o z g h w hb) (hid fun w => implAreOrthogonal_no o z g h w hb)
  | true =>
    have hb' : sqB o g = true ∧ sqB z h = true := by simpa using hb
    by_cases he : o = z
    · subst he
      obtain ⟨N, rfl, hG⟩ := sqB_true.1 hb'.1
      have hG2 := sqB_nat.1 hb'.2
      exact lawAreOrthogonal_by N g N h _ _ w (hid fun w => specAreOrthogonal_in N g h w hb'.1 hb'.2 hG hG2) (hid fun w => implAreOrthogonal_in N g h w hb'.1 hb'.2 hG hG2)
    · exact lawAreOrthogonal_by o g z h _ _ w (hid fun w => specAreOrthogonal_far o z g h w hb'.1 hb'.2 he) (hid fun w => implAreOrthogonal_far o z g h w hb'.1 hb'.2 he)
end Go.Proofs.Ytbdcbmennblcdaa
