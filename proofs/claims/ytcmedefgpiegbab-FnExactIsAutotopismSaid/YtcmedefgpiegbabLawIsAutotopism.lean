/- Proved: the law FnExactIsAutotopism returns true, and old memory is left alone, where program and model return the same. Conditions: those that the theorem names. -/
import Derived.Test.YtcmedefgpiegbabTo2
import Derived.Test.YtcmedefgpiegbabTr2
import Derived.Test.YtcmedefgpiegbabAu
import Derived.Test.YtcmedefgpiegbabReg
namespace Go.Proofs.Ytcmedefgpiegbab
set_option linter.unusedVariables false
set_option linter.unusedSimpArgs false
open Go.RowKit
set_option maxRecDepth 20000 in
set_option maxHeartbeats 2000000 in
theorem lawIsAutotopism_by (o0 : Int) (a0 : Nat → UInt8) (a1 : Nat → UInt8) (r0 : Bool) (r1 : Int) (w : World)
    (hS : Hid (∀ w, Calls Try.prog 27 #[.agg (sqc o0 a0), .agg (u8s 30 a1)] w fun e w' => e = .returned (.tuple #[.bool r0, .int .i64 r1]) ∧ Below w.heap.size w w'))
    (hT : Hid (∀ w, Calls Try.prog 28 #[.agg (sqc o0 a0), .agg (u8s 30 a1)] w fun e w' => e = .returned (.tuple #[.bool r0, .int .i64 r1]) ∧ Below w.heap.size w w'))
    : Calls Try.prog 7 #[.agg (sqc o0 a0), .agg (u8s 30 a1)] w fun e w' => e = .returned (.bool true) ∧ Below w.heap.size w w' := by
  have hH := Has.start2 w (sqc o0 a0) (u8s 30 a1) 38 24
  go_enter Try.func7, Try.ntmps7
  go_wp2_with (first | fail | (refine wpL_loadFull rfl rfl rfl rowSl hH.h0 (sqc_size _ _) ?_) | (refine wpL_loadFull rfl rfl rfl rowTl hH.h1 (u8s_size _ _) ?_) | (go_at_call 24; refine (toSquare_any _ _ _).mono ?_; rintro e w2 ⟨rfl, hb⟩; replace hH := hH.call' hb; clear hb) | (go_at_call 16; refine (toTriple_any _ _).mono ?_; rintro e w2 ⟨rfl, hb⟩; replace hH := hH.call' hb; clear hb) | (go_at_call 27; refine (hS.out _).mono ?_; rintro e w2 ⟨rfl, hb⟩; replace hH := hH.call' hb; clear hb) | (go_at_call 28; refine (hT.out _).mono ?_; rintro e w2 ⟨rfl, hb⟩; replace hH := hH.call' hb; clear hb))
  refine wp_region_frame (X := Unit) (fun d _ => [(10, bif d 0 then .agg (sqc o0 a0) else undef), (11, bif d 1 then .agg (sqc o0 a0) else undef), (12, bif d 2 then .agg (u8s 30 a1) else undef), (13, bif d 3 then .agg (u8s 30 a1) else undef), (14, bif d 4 then .tuple #[.bool r0, .int .i64 r1] else undef), (9, bif d 5 then .tuple #[.bool r0, .int .i64 r1] else undef), (15, bif d 6 then .bool r0 else undef), (16, bif d 7 then .int .i64 r1 else undef), (5, bif d 8 then .bool r0 else undef), (6, bif d 9 then .int .i64 r1 else undef)])
    (fun d _ w' => Has w w' [(sqc o0 a0, 38), (u8s 30 a1, 24)]) (by kernel_rfl) (by kernel_rfl) ?h0_r1 ?hs_r1 ?hq_r1
  case h0_r1 => exact ⟨(), (by simp [lput]), hH.drew⟩
  case hs_r1 =>
    refine ⟨?_, ?_, ?_, ?_, ?_, ?_, ?_, ?_, ?_, ?_, trivial⟩
    all_goals
      clear hH
      intro d _ w1 hd hn hJ
      simp only [needs, Region.binds, reduceCtorEq, Bool.false_eq_true, false_implies, true_and, and_true, true_implies, forall_const] at hn
      simp only [lput, List.set, hn, cond_true]
      have hH := hJ; clear hJ
      go_wp2_with (first | fail | (refine wpL_loadFull rfl rfl rfl rowSl hH.h0 (sqc_size _ _) ?_) | (refine wpL_loadFull rfl rfl rfl rowTl hH.h1 (u8s_size _ _) ?_) | (go_at_call 24; refine (toSquare_any _ _ _).mono ?_; rintro e w2 ⟨rfl, hb⟩; replace hH := hH.call' hb; clear hb) | (go_at_call 16; refine (toTriple_any _ _).mono ?_; rintro e w2 ⟨rfl, hb⟩; replace hH := hH.call' hb; clear hb) | (go_at_call 27; refine (hS.out _).mono ?_; rintro e w2 ⟨rfl, hb⟩; replace hH := hH.call' hb; clear hb) | (go_at_call 28; refine (hT.out _).mono ?_; rintro e w2 ⟨rfl, hb⟩; replace hH := hH.call' hb; clear hb))
      first
        | (refine ⟨(), ?_, hH⟩; (simp [lput, done, hn]; done))
        | (refine ⟨?_, hH⟩; (simp [lput, done, hn]; done))
        | (refine ⟨(), ?_, hH⟩; (simp [lput, done, hn]; rfl))
        | (refine ⟨?_, hH⟩; (simp [lput, done, hn]; rfl))
        | (refine ⟨(), ?_, hH⟩; (simp [lput, done]; done))
        | (refine ⟨?_, hH⟩; (simp [lput, done]; done))
        | (refine ⟨(), ?_, hH⟩; (simp [lput, done]; rfl))
        | (refine ⟨?_, hH⟩; (simp [lput, done]; rfl))
  case hq_r1 =>
    clear hH
    intro d _ w1 hd hJ
    simp only [allDone, List.length_cons, List.length_nil, Nat.reduceAdd, and_true] at hd
    have hH := hJ; clear hJ
    simp only [lput, List.set, hd, cond_true]
    clear hd
    go_wp2_with (first | fail | (refine wpL_loadFull rfl rfl rfl rowSl hH.h0 (sqc_size _ _) ?_) | (refine wpL_loadFull rfl rfl rfl rowTl hH.h1 (u8s_size _ _) ?_) | (go_at_call 24; refine (toSquare_any _ _ _).mono ?_; rintro e w2 ⟨rfl, hb⟩; replace hH := hH.call' hb; clear hb) | (go_at_call 16; refine (toTriple_any _ _).mono ?_; rintro e w2 ⟨rfl, hb⟩; replace hH := hH.call' hb; clear hb) | (go_at_call 27; refine (hS.out _).mono ?_; rintro e w2 ⟨rfl, hb⟩; replace hH := hH.call' hb; clear hb) | (go_at_call 28; refine (hT.out _).mono ?_; rintro e w2 ⟨rfl, hb⟩; replace hH := hH.call' hb; clear hb))
    refine wp_region_frame (X := Unit) (fun d _ => [(18, bif d 0 then .agg (sqc o0 a0) else undef), (19, bif d 1 then .agg (sqc o0 a0) else undef), (20, bif d 2 then .agg (u8s 30 a1) else undef), (21, bif d 3 then .agg (u8s 30 a1) else undef), (22, bif d 4 then .tuple #[.bool r0, .int .i64 r1] else undef), (17, bif d 5 then .tuple #[.bool r0, .int .i64 r1] else undef), (23, bif d 6 then .bool r0 else undef), (24, bif d 7 then .int .i64 r1 else undef), (7, bif d 8 then .bool r0 else undef), (8, bif d 9 then .int .i64 r1 else undef)])
      (fun d _ w' => Has w w' [(sqc o0 a0, 38), (u8s 30 a1, 24)]) (by kernel_rfl) (by kernel_rfl) ?h0_r2 ?hs_r2 ?hq_r2
    case h0_r2 => exact ⟨(), (by simp [lput]), hH.drew⟩
    case hs_r2 =>
      refine ⟨?_, ?_, ?_, ?_, ?_, ?_, ?_, ?_, ?_, ?_, trivial⟩
      all_goals
        clear hH
        intro d _ w1 hd hn hJ
        simp only [needs, Region.binds, reduceCtorEq, Bool.false_eq_true, false_implies, true_and, and_true, true_implies, forall_const] at hn
        simp only [lput, List.set, hn, cond_true]
        have hH := hJ; clear hJ
        go_wp2_with (first | fail | (refine wpL_loadFull rfl rfl rfl rowSl hH.h0 (sqc_size _ _) ?_) | (refine wpL_loadFull rfl rfl rfl rowTl hH.h1 (u8s_size _ _) ?_) | (go_at_call 24; refine (toSquare_any _ _ _).mono ?_; rintro e w2 ⟨rfl, hb⟩; replace hH := hH.call' hb; clear hb) | (go_at_call 16; refine (toTriple_any _ _).mono ?_; rintro e w2 ⟨rfl, hb⟩; replace hH := hH.call' hb; clear hb) | (go_at_call 27; refine (hS.out _).mono ?_; rintro e w2 ⟨rfl, hb⟩; replace hH := hH.call' hb; clear hb) | (go_at_call 28; refine (hT.out _).mono ?_; rintro e w2 ⟨rfl, hb⟩; replace hH := hH.call' hb; clear hb))
        first
          | (refine ⟨(), ?_, hH⟩; (simp [lput, done, hn]; done))
          | (refine ⟨?_, hH⟩; (simp [lput, done, hn]; done))
          | (refine ⟨(), ?_, hH⟩; (simp [lput, done, hn]; rfl))
          | (refine ⟨?_, hH⟩; (simp [lput, done, hn]; rfl))
          | (refine ⟨(), ?_, hH⟩; (simp [lput, done]; done))
          | (refine ⟨?_, hH⟩; (simp [lput, done]; done))
          | (refine ⟨(), ?_, hH⟩; (simp [lput, done]; rfl))
          | (refine ⟨?_, hH⟩; (simp [lput, done]; rfl))
    case hq_r2 =>
      clear hH
      intro d _ w1 hd hJ
      simp only [allDone, List.length_cons, List.length_nil, Nat.reduceAdd, and_true] at hd
      have hH := hJ; clear hJ
      simp only [lput, List.set, hd, cond_true]
      clear hd
      go_wp2_with (first | fail | (refine wpL_loadFull rfl rfl rfl rowSl hH.h0 (sqc_size _ _) ?_) | (refine wpL_loadFull rfl rfl rfl rowTl hH.h1 (u8s_size _ _) ?_) | (go_at_call 24; refine (toSquare_any _ _ _).mono ?_; rintro e w2 ⟨rfl, hb⟩; replace hH := hH.call' hb; clear hb) | (go_at_call 16; refine (toTriple_any _ _).mono ?_; rintro e w2 ⟨rfl, hb⟩; replace hH := hH.call' hb; clear hb) | (go_at_call 27; refine (hS.out _).mono ?_; rintro e w2 ⟨rfl, hb⟩; replace hH := hH.call' hb; clear hb) | (go_at_call 28; refine (hT.out _).mono ?_; rintro e w2 ⟨rfl, hb⟩; replace hH := hH.call' hb; clear hb))
      go_ret
      exact ⟨rfl, hH.below⟩
theorem lawIsAutotopism_any (o : Int) (g : Nat → UInt8) (_ : (Lit.int .i64 o).wf = true) (t : Nat → UInt8) (w : World) : Calls Try.prog 7 #[.agg (sqc o g), .agg (u8s 30 t)] w fun e w' => e = .returned (.bool true) ∧ Below w.heap.size w w' := by
  cases h : (sqB o g && triB t o) with
  | true =>
    have h' : sqB o g = true ∧ triB t o = true := by simpa using h
    obtain ⟨N, rfl, hG⟩ := sqB_true.1 h'.1
    obtain ⟨M, e, hT⟩ := triB_true.1 h'.2
    have : N = M := by omega
    subst this
    exact lawIsAutotopism_by N g t _ _ w (hid fun w => specIsAutotopism_good N g t w h'.1 h'.2 hG hT) (hid fun w => implIsAutotopism_good N g t w h'.1 h'.2 hG hT)
  | false => exact lawIsAutotopism_by o g t _ _ w (hid fun w => specIsAutotopism_bad o g t w h) (hid fun w => implIsAutotopism_bad o g t w h)
end Go.Proofs.Ytcmedefgpiegbab
