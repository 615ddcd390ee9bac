/- Proved: what IsAutotopism returns, of program and model alike. Conditions: those that each theorem names. -/
import Derived.Test.YtcmedefgpiegbabIt3
namespace Go.Proofs.Ytcmedefgpiegbab
set_option linter.unusedVariables false
set_option linter.unusedSimpArgs false
open Go.RowKit
set_option maxRecDepth 20000 in
set_option maxHeartbeats 2000000 in
theorem specIsAutotopism_bad (o : Int) (g t : Nat → UInt8) (w : World) (hbad : (sqB o g && triB t o) = false) :
    Calls Try.prog 27 #[.agg (sqc o g), .agg (u8s 30 t)] w fun e w' => e = .returned (.tuple #[.bool false, .int .i64 1]) ∧ Below w.heap.size w w' := by
  have hH := Has.start2 w (sqc o g) (u8s 30 t) 41 28
  go_enter Try.func27, Try.ntmps27
  go_wp2_with (first | (refine wpL_guard rfl rfl ?_) | (refine wpL_loadFull rfl rfl rfl rowSq hH.h0 (sqc_size _ _) ?_) | (refine wpL_loadFull rfl rfl rfl rowTr hH.h1 (u8s_size _ _) ?_) | (go_at_call 60; refine (l02Code_bad o g t _ hbad).mono ?_; rintro e w2 ⟨rfl, hb⟩; replace hH := hH.call' hb; clear hb))
  go_ret2
  exact ⟨rfl, hH.below⟩
set_option maxRecDepth 20000 in
set_option maxHeartbeats 2000000 in
theorem specIsAutotopism_good (N : Nat) (g t : Nat → UInt8) (w : World) (hs : sqB (N : Int) g = true) (ht : triB t (N : Int) = true) (hG : IsSq N g) (hT : IsTri t N) :
    Calls Try.prog 27 #[.agg (sqc N g), .agg (u8s 30 t)] w fun e w' => e = .returned (.tuple #[.bool (eqS N N (isoP g t N N 0) g), .int .i64 0]) ∧ Below w.heap.size w w' := by
  have HG := hid hG
  have HT := hid hT
  clear hG hT
  have hH := Has.start2 w (sqc N g) (u8s 30 t) 41 28
  go_enter Try.func27, Try.ntmps27
  go_wp2_with (first | (refine wpL_guard rfl rfl ?_) | (refine wpL_loadFull rfl rfl rfl rowSq hH.h0 (sqc_size _ _) ?_) | (refine wpL_loadFull rfl rfl rfl rowTr hH.h1 (u8s_size _ _) ?_) | (go_at_call 60; refine (l02Code_good N g t _ hs ht).mono ?_; rintro e w2 ⟨rfl, hb⟩; replace hH := hH.call' hb; clear hb))
  refine wp_region_frame (X := Unit) (fun d _ => [(13, bif d 0 then .agg (sqc N g) else undef), (14, bif d 1 then .agg (u8s 30 t) else undef), (15, bif d 2 then .agg (sqc N (isoP g t N N 0)) else undef), (16, bif d 3 then .agg (sqc N g) else undef), (17, bif d 4 then .bool (eqS N N (isoP g t N N 0) g) else undef), (4, bif d 5 then .bool (eqS N N (isoP g t N N 0) g) else .bool false), (5, bif d 6 then .int .i64 0 else .int .i64 0)])
    (fun d _ w' => Has w w' [(sqc N g, 41), (u8s 30 t, 28)]) (by kernel_rfl) (by kernel_rfl) ?h0_au ?hs_au ?hq_au
  case h0_au => exact ⟨(), (by simp [lput]), hH.drew⟩
  case hs_au =>
    refine ⟨?_, ?_, ?_, ?_, ?_, ?_, ?_, trivial⟩
    all_goals
      clear hH
      intro d _ w1 hd hn hJ
      simp only [needs, Region.binds, reduceCtorEq, Bool.false_eq_true, false_implies, true_and, and_true, true_implies, forall_const] at hn
      simp only [lput, List.set, hn, cond_true]
      have hH := hJ; clear hJ
      go_wp2_with (first | fail | (refine wpL_loadFull rfl rfl rfl rowSq hH.h0 (sqc_size _ _) ?_) | (refine wpL_loadFull rfl rfl rfl rowTr hH.h1 (u8s_size _ _) ?_) | (go_at_call 61; refine (l02Isotope_any N g t _ HG.out HT.out).mono ?_; rintro e w2 ⟨rfl, hb⟩; replace hH := hH.call' hb; clear hb) | (refine wpL_eqlAgg rfl rfl rfl rfl gdSq (eqSq _ _ _ _ _) ?_))
      first
        | (refine ⟨(), ?_, hH⟩; (simp [lput, done, hn]; done))
        | (refine ⟨?_, hH⟩; (simp [lput, done, hn]; done))
        | (refine ⟨(), ?_, hH⟩; (simp [lput, done, hn]; rfl))
        | (refine ⟨?_, hH⟩; (simp [lput, done, hn]; rfl))
        | (refine ⟨(), ?_, hH⟩; (simp [lput, done]; done))
        | (refine ⟨?_, hH⟩; (simp [lput, done]; done))
        | (refine ⟨(), ?_, hH⟩; (simp [lput, done]; rfl))
        | (refine ⟨?_, hH⟩; (simp [lput, done]; rfl))
  case hq_au =>
    clear hH
    intro d _ w1 hd hJ
    simp only [allDone, List.length_cons, List.length_nil, Nat.reduceAdd, and_true] at hd
    have hH := hJ; clear hJ
    simp only [lput, List.set, hd, cond_true]
    clear hd
    go_wp2
    go_ret2
    exact ⟨rfl, hH.below⟩
set_option maxRecDepth 20000 in
set_option maxHeartbeats 2000000 in
theorem implIsAutotopism_bad (o : Int) (g t : Nat → UInt8) (w : World) (hbad : (sqB o g && triB t o) = false) :
    Calls Try.prog 28 #[.agg (sqc o g), .agg (u8s 30 t)] w fun e w' => e = .returned (.tuple #[.bool false, .int .i64 1]) ∧ Below w.heap.size w w' := by
  have hH := Has.start2 w (sqc o g) (u8s 30 t) 41 28
  go_enter Try.func28, Try.ntmps28
  go_wp2_with (first | (refine wpL_allocN (o := ⟨some 6, _, _, _, _, _⟩) rfl rfl zeroSq ?_; intro gb w2 hg hl hb; have hlo : w.heap.size + 2 ≤ gb := (by have := hH.size; simp only [List.length_cons, List.length_nil] at this; omega); replace hH := hH.call' hb; clear hb hl) | (refine wpL_guard rfl rfl ?_) | (refine wpL_loadFull rfl rfl rfl rowSq hH.h0 (sqc_size _ _) ?_) | (refine wpL_loadFull rfl rfl rfl rowTr hH.h1 (u8s_size _ _) ?_) | (go_at_call 25; refine (implIsotopeOf_bad o g t _ hbad).mono ?_; rintro e w2 ⟨rfl, hb⟩; replace hH := hH.call' hb; clear hb) | (refine wpL_storeN (x := .tmp 6) rfl rfl rfl rfl rowSq hg (sqc_size _ _) (sqc_ok _ _) ?_; intro w2 hz hO hT; replace hg := hz; replace hH := hT _ _ hH hlo; clear hz hO hT))
  go_ret2
  exact ⟨rfl, hH.below⟩
set_option maxRecDepth 20000 in
set_option maxHeartbeats 2000000 in
theorem implIsAutotopism_good (N : Nat) (g t : Nat → UInt8) (w : World) (hs : sqB (N : Int) g = true) (ht : triB t (N : Int) = true) (hG : IsSq N g) (hT : IsTri t N) :
    Calls Try.prog 28 #[.agg (sqc N g), .agg (u8s 30 t)] w fun e w' => e = .returned (.tuple #[.bool (eqS N N (isoP g t N N 0) g), .int .i64 0]) ∧ Below w.heap.size w w' := by
  have HG := hid hG
  have HT := hid hT
  clear hG hT
  have hH := Has.start2 w (sqc N g) (u8s 30 t) 41 28
  go_enter Try.func28, Try.ntmps28
  go_wp2_with (first | (refine wpL_allocN (o := ⟨some 6, _, _, _, _, _⟩) rfl rfl zeroSq ?_; intro gb w2 hg hl hb; have hlo : w.heap.size + 2 ≤ gb := (by have := hH.size; simp only [List.length_cons, List.length_nil] at this; omega); replace hH := hH.call' hb; clear hb hl) | (refine wpL_guard rfl rfl ?_) | (refine wpL_loadFull rfl rfl rfl rowSq hH.h0 (sqc_size _ _) ?_) | (refine wpL_loadFull rfl rfl rfl rowTr hH.h1 (u8s_size _ _) ?_) | (refine wpL_loadFull (x := .tmp 6) rfl rfl rfl rowSq hg (sqc_size _ _) ?_) | (go_at_call 25; refine (implIsotopeOf_good N g t _ hs ht HG.out HT.out).mono ?_; rintro e w2 ⟨rfl, hb⟩; replace hH := hH.call' hb; clear hb) | (refine wpL_storeN (x := .tmp 6) rfl rfl rfl rfl rowSq hg (sqc_size _ _) (sqc_ok _ _) ?_; intro w2 hz hO hT; replace hg := hz; replace hH := hT _ _ hH hlo; clear hz hO hT) | (refine wpL_eqlAgg rfl rfl rfl rfl gdSq (eqSq _ _ _ _ _) ?_))
  go_ret2
  exact ⟨rfl, hH.below⟩
end Go.Proofs.Ytcmedefgpiegbab
