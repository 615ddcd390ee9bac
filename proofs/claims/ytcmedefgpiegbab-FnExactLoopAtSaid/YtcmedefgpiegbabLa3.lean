/- Proved: what LoopAt returns, of program and model alike. Conditions: those that each theorem names. -/
import Derived.Test.YtcmedefgpiegbabLa2
namespace Go.Proofs.Ytcmedefgpiegbab
set_option linter.unusedVariables false
set_option linter.unusedSimpArgs false
open Go.RowKit
set_option maxRecDepth 20000 in
set_option maxHeartbeats 2000000 in
theorem specLoopAt_no (o : Int) (g : Nat → UInt8) (a b : UInt8) (w : World) (hs : sqB o g = false) :
    Calls Try.prog 29 #[.agg (sqc o g), .int .u8 a.toNat, .int .u8 b.toNat] w fun e w' => e = .returned (.tuple #[.agg (sqc 0 fun _ => 0), .int .i64 1]) ∧ Below w.heap.size w w' := by
  have hH := Has.start2 w (sqc o g) (sqc 0 fun _ => 0) 41 41
  go_enter Try.func29, Try.ntmps29
  go_wp2_with (first | (refine wpL_guard rfl rfl ?_) | (refine wpL_alloc rfl rfl zeroSq ?_; intro g hg; (try simp at hg); subst hg) | (refine wpL_loadFull rfl rfl rfl rowSq hH.h0 (sqc_size _ _) ?_) | (go_at_call 65; refine (l01Is_any _ _ _).mono ?_; rintro e w2 ⟨rfl, hb⟩; replace hH := hH.call' hb; clear hb; rw [hs]; have c0 := hH.c0 0; rw [sqc_get0] at c0) | (refine wpL_build rfl rfl builtSq ?_) | (refine wpL_storeSame rfl rfl rfl rfl rowSq hH.h1 (sqc_ok _ _) ?_))
  exact ret_ct rfl rfl rfl hH.h1 rowSq (sqc_size _ _) ⟨rfl, hH.below⟩
set_option maxRecDepth 20000 in
set_option maxHeartbeats 2000000 in
theorem specLoopAt_far (N : Nat) (g : Nat → UInt8) (a b : UInt8) (w : World) (hs : sqB (N : Int) g = true) (h : N ≤ a.toNat ∨ N ≤ b.toNat) :
    Calls Try.prog 29 #[.agg (sqc N g), .int .u8 a.toNat, .int .u8 b.toNat] w fun e w' => e = .returned (.tuple #[.agg (sqc 0 fun _ => 0), .int .i64 2]) ∧ Below w.heap.size w w' := by
  have hH := Has.start2 w (sqc N g) (sqc 0 fun _ => 0) 41 41
  have bda := u8_bd a
  have bdb := u8_bd b
  by_cases hx : N ≤ a.toNat
  · have hx' : (N : Int) ≤ (a.toNat : Int) := by omega
    clear h hx
    go_enter Try.func29, Try.ntmps29
    go_wp2_with (first | (refine wpL_guard rfl rfl ?_) | (refine wpL_alloc rfl rfl zeroSq ?_; intro g hg; (try simp at hg); subst hg) | (refine wpL_loadFull rfl rfl rfl rowSq hH.h0 (sqc_size _ _) ?_) | (go_at_call 65; refine (l01Is_any _ _ _).mono ?_; rintro e w2 ⟨rfl, hb⟩; replace hH := hH.call' hb; clear hb; rw [hs]; have c0 := hH.c0 0; rw [sqc_get0] at c0) | (refine wpL_build rfl rfl builtSq ?_) | (refine wpL_storeSame rfl rfl rfl rfl rowSq hH.h1 (sqc_ok _ _) ?_))
    exact ret_ct rfl rfl rfl hH.h1 rowSq (sqc_size _ _) ⟨rfl, hH.below⟩
  · have hx' : (a.toNat : Int) < (N : Int) := by omega
    have hy' : (N : Int) ≤ (b.toNat : Int) := by omega
    clear h hx
    go_enter Try.func29, Try.ntmps29
    go_wp2_with (first | (refine wpL_guard rfl rfl ?_) | (refine wpL_alloc rfl rfl zeroSq ?_; intro g hg; (try simp at hg); subst hg) | (refine wpL_loadFull rfl rfl rfl rowSq hH.h0 (sqc_size _ _) ?_) | (go_at_call 65; refine (l01Is_any _ _ _).mono ?_; rintro e w2 ⟨rfl, hb⟩; replace hH := hH.call' hb; clear hb; rw [hs]; have c0 := hH.c0 0; rw [sqc_get0] at c0) | (refine wpL_build rfl rfl builtSq ?_) | (refine wpL_storeSame rfl rfl rfl rfl rowSq hH.h1 (sqc_ok _ _) ?_))
    exact ret_ct rfl rfl rfl hH.h1 rowSq (sqc_size _ _) ⟨rfl, hH.below⟩
set_option maxRecDepth 20000 in
set_option maxHeartbeats 2000000 in
theorem specLoopAt_in (N : Nat) (g : Nat → UInt8) (a b : UInt8) (w : World) (hs : sqB (N : Int) g = true) (hQ : IsSq N g) (ha : a.toNat < N) (hb : b.toNat < N) :
    Calls Try.prog 29 #[.agg (sqc N g), .int .u8 a.toNat, .int .u8 b.toNat] w fun e w' => e = .returned (.tuple #[.agg (sqc N (isoP g (toT g N a.toNat b.toNat) N N 0)), .int .i64 0]) ∧ Below w.heap.size w w' := by
  have HQ := hid hQ
  have HT := hid (toT_is hQ ha hb)
  clear hQ
  have hH := Has.start2 w (sqc N g) (sqc 0 fun _ => 0) 41 41
  have bda := u8_bd a
  have bdb := u8_bd b
  have hx' : (a.toNat : Int) < (N : Int) := by omega
  have hy' : (b.toNat : Int) < (N : Int) := by omega
  have d1 : decide (N ≤ a.toNat) = false := by simp; omega
  have d2 : decide (N ≤ b.toNat) = false := by simp; omega
  go_enter Try.func29, Try.ntmps29
  go_wp2_with (first | (refine wpL_guard rfl rfl ?_) | (refine wpL_alloc rfl rfl zeroSq ?_; intro g hg; (try simp at hg); subst hg) | (refine wpL_loadFull rfl rfl rfl rowSq hH.h0 (sqc_size _ _) ?_) | (go_at_call 65; refine (l01Is_any _ _ _).mono ?_; rintro e w2 ⟨rfl, hb⟩; replace hH := hH.call' hb; clear hb; rw [hs]; have c0 := hH.c0 0; rw [sqc_get0] at c0) | (refine wpL_build rfl rfl builtSq ?_) | (refine wpL_storeSame rfl rfl rfl rfl rowSq hH.h1 (sqc_ok _ _) ?_))
  clear c0
  refine wp_region_frame (X := Unit) (fun d _ => [(27, bif d 0 then .agg (sqc N g) else undef), (28, bif d 1 then .agg (sqc N g) else undef), (29, bif d 2 then .int .u8 a.toNat else undef), (30, bif d 3 then .int .u8 b.toNat else undef), (31, bif d 4 then .agg (u8s 30 (toT g N a.toNat b.toNat)) else undef), (32, bif d 5 then .agg (sqc N (isoP g (toT g N a.toNat b.toNat) N N 0)) else undef), (7, bif d 7 then .int .i64 0 else .int .i64 0)])
    (fun d _ w' => Has w w' [(sqc N g, 41), (bif d 6 then sqc N (isoP g (toT g N a.toNat b.toNat) N N 0) else sqc 0 (fun _ => 0), 41)]) (by kernel_rfl) (by kernel_rfl) ?h0_ls ?hs_ls ?hq_ls
  case h0_ls => exact ⟨(), (by simp [lput]), hH.drew⟩
  case hs_ls =>
    refine ⟨?_, ?_, ?_, ?_, ?_, ?_, ?_, ?_, trivial⟩
    all_goals
      clear hH
      intro d _ w1 hd hn hJ
      simp only [needs, Region.binds, reduceCtorEq, Bool.false_eq_true, false_implies, true_and, and_true, true_implies, forall_const] at hn
      simp only [lput, List.set, hn, cond_true]
      try simp only [hd, cond_false] at hJ
      have hH := hJ; clear hJ
      go_wp2_with (first | fail | (refine wpL_loadFull rfl rfl rfl rowSq hH.h0 (sqc_size _ _) ?_) | (go_at_call 66; refine (l02To_any N g a b _ HQ.out ha hb).mono ?_; rintro e w3 ⟨rfl, hb⟩; replace hH := hH.call' hb; clear hb) | (go_at_call 61; refine (l02Isotope_any N g (toT g N a.toNat b.toNat) _ HQ.out HT.out).mono ?_; rintro e w3 ⟨rfl, hb⟩; replace hH := hH.call' hb; clear hb) | (refine wpL_storeFull rfl rfl rfl rfl rowSq hH.h1 (sqc_size _ _) (sqc_ok _ _) ?_; replace hH := hH.r1 (cs' := sqc N (isoP g (toT g N a.toNat b.toNat) N N 0))))
      first
        | (refine ⟨(), ?_, hH⟩; (simp [lput, done, hn]; done))
        | (refine ⟨?_, hH⟩; (simp [lput, done, hn]; done))
        | (refine ⟨(), ?_, hH⟩; (simp [lput, done, hn]; rfl))
        | (refine ⟨?_, hH⟩; (simp [lput, done, hn]; rfl))
        | (refine ⟨(), ?_, hH⟩; (simp [lput, done]; done))
        | (refine ⟨?_, hH⟩; (simp [lput, done]; done))
        | (refine ⟨(), ?_, hH⟩; (simp [lput, done]; rfl))
        | (refine ⟨?_, hH⟩; (simp [lput, done]; rfl))
  case hq_ls =>
    clear hH
    intro d _ w1 hd hJ
    simp only [allDone, List.length_cons, List.length_nil, Nat.reduceAdd, and_true] at hd
    have hH := hJ; clear hJ
    simp only [hd, cond_true] at hH
    simp only [lput, List.set, hd, cond_true]
    clear hd
    go_wp2
    exact ret_ct rfl rfl rfl hH.h1 rowSq (sqc_size _ _) ⟨rfl, hH.below⟩
set_option maxRecDepth 20000 in
set_option maxHeartbeats 2000000 in
theorem implLoopAt_no (o : Int) (g : Nat → UInt8) (a b : UInt8) (w : World) (hs : sqB o g = false) :
    Calls Try.prog 30 #[.agg (sqc o g), .int .u8 a.toNat, .int .u8 b.toNat] w fun e w' => e = .returned (.tuple #[.agg (sqc 0 fun _ => 0), .int .i64 1]) ∧ Below w.heap.size w w' := by
  have hH := Has.start3 w (sqc o g) (sqc 0 fun _ => 0) (u8s 2 (pairF a b)) 41 41 5
  have h0 := Has.start2 w (sqc o g) (sqc 0 fun _ => 0) 41 41
  go_enter Try.func30, Try.ntmps30
  go_wp2_with (first | (refine wpL_alloc rfl rfl zeroSq ?_; intro g hg; (try simp at hg); subst hg) | (refine wpL_loadFull rfl rfl rfl rowSq h0.h0 (sqc_size _ _) ?_) | (refine wpL_slice2 (x := a) (y := b) rfl rfl rfl rfl ?_) | (go_at_call 67; refine (elementCode_no o g 2 _ _ hs).mono ?_; rintro e w2 ⟨rfl, hb⟩; replace hH := hH.call' hb; clear hb) | (refine wpL_build rfl rfl builtSq ?_) | (refine wpL_storeSame rfl rfl rfl rfl rowSq hH.h1 (sqc_ok _ _) ?_))
  exact ret_ct rfl rfl rfl hH.h1 rowSq (sqc_size _ _) ⟨rfl, hH.below⟩
set_option maxRecDepth 20000 in
set_option maxHeartbeats 2000000 in
theorem implLoopAt_far (N : Nat) (g : Nat → UInt8) (a b : UInt8) (w : World) (hs : sqB (N : Int) g = true) (h : N ≤ a.toNat ∨ N ≤ b.toNat) :
    Calls Try.prog 30 #[.agg (sqc N g), .int .u8 a.toNat, .int .u8 b.toNat] w fun e w' => e = .returned (.tuple #[.agg (sqc 0 fun _ => 0), .int .i64 2]) ∧ Below w.heap.size w w' := by
  obtain ⟨k0, hf⟩ := pairF_far h
  have HF := hid hf; clear hf h
  have hH := Has.start3 w (sqc N g) (sqc 0 fun _ => 0) (u8s 2 (pairF a b)) 41 41 5
  have h0 := Has.start2 w (sqc N g) (sqc 0 fun _ => 0) 41 41
  go_enter Try.func30, Try.ntmps30
  go_wp2_with (first | (refine wpL_alloc rfl rfl zeroSq ?_; intro g hg; (try simp at hg); subst hg) | (refine wpL_loadFull rfl rfl rfl rowSq h0.h0 (sqc_size _ _) ?_) | (refine wpL_slice2 (x := a) (y := b) rfl rfl rfl rfl ?_) | (go_at_call 67; refine (elementCode_far N g (pairF a b) 2 _ k0 _ (by omega) hs hH.h2 HF.out).mono ?_; rintro e w2 ⟨rfl, hb⟩; replace hH := hH.call' hb; clear hb) | (refine wpL_build rfl rfl builtSq ?_) | (refine wpL_storeSame rfl rfl rfl rfl rowSq hH.h1 (sqc_ok _ _) ?_))
  exact ret_ct rfl rfl rfl hH.h1 rowSq (sqc_size _ _) ⟨rfl, hH.below⟩
set_option maxRecDepth 20000 in
set_option maxHeartbeats 2000000 in
theorem implLoopAt_in (N : Nat) (g : Nat → UInt8) (a b : UInt8) (w : World) (hs : sqB (N : Int) g = true) (hQ : IsSq N g) (ha : a.toNat < N) (hb : b.toNat < N) :
    Calls Try.prog 30 #[.agg (sqc N g), .int .u8 a.toNat, .int .u8 b.toNat] w fun e w' => e = .returned (.tuple #[.agg (sqc N (isoP g (toT g N a.toNat b.toNat) N N 0)), .int .i64 0]) ∧ Below w.heap.size w w' := by
  have HQ := hid hQ
  have HT := hid (toT_is hQ ha hb)
  have HF := hid (pairF_lt ha hb)
  clear hQ
  have hH := Has.start3 w (sqc N g) (sqc 0 fun _ => 0) (u8s 2 (pairF a b)) 41 41 5
  have h0 := Has.start2 w (sqc N g) (sqc 0 fun _ => 0) 41 41
  go_enter Try.func30, Try.ntmps30
  go_wp2_with (first | (refine wpL_alloc rfl rfl zeroSq ?_; intro g hg; (try simp at hg); subst hg) | (refine wpL_loadFull rfl rfl rfl rowSq h0.h0 (sqc_size _ _) ?_) | (refine wpL_slice2 (x := a) (y := b) rfl rfl rfl rfl ?_) | (go_at_call 67; refine (elementCode_in N g (pairF a b) 2 _ _ (by omega) hs hH.h2 HF.out).mono ?_; rintro e w2 ⟨rfl, hb⟩; replace hH := hH.call' hb; clear hb))
  clear h0
  refine wp_region_frame (X := Unit) (fun d _ => [(18, bif d 0 then .agg (sqc N g) else undef), (19, bif d 1 then .agg (sqc N g) else undef), (20, bif d 2 then .int .u8 a.toNat else undef), (21, bif d 3 then .int .u8 b.toNat else undef), (22, bif d 4 then .agg (u8s 30 (toT g N a.toNat b.toNat)) else undef), (23, bif d 5 then .agg (sqc N (isoP g (toT g N a.toNat b.toNat) N N 0)) else undef), (7, bif d 7 then .int .i64 0 else .int .i64 0)])
    (fun d _ w' => Has w w' [(sqc N g, 41), (bif d 6 then sqc N (isoP g (toT g N a.toNat b.toNat) N N 0) else sqc 0 (fun _ => 0), 41), (u8s 2 (pairF a b), 5)]) (by kernel_rfl) (by kernel_rfl) ?h0_li ?hs_li ?hq_li
  case h0_li => exact ⟨(), (by simp [lput]), hH.drew⟩
  case hs_li =>
    refine ⟨?_, ?_, ?_, ?_, ?_, ?_, ?_, ?_, trivial⟩
    all_goals
      clear hH
      intro d _ w1 hd hn hJ
      simp only [needs, Region.binds, reduceCtorEq, Bool.false_eq_true, false_implies, true_and, and_true, true_implies, forall_const] at hn
      simp only [lput, List.set, hn, cond_true]
      try simp only [hd, cond_false] at hJ
      have hH := hJ; clear hJ
      go_wp2_with (first | fail | (refine wpL_loadFull rfl rfl rfl rowSq hH.h0 (sqc_size _ _) ?_) | (go_at_call 68; refine (tripleAt_any N g a b _ HQ.out ha hb).mono ?_; rintro e w3 ⟨rfl, hb⟩; replace hH := hH.call' hb; clear hb) | (go_at_call 63; refine (isotopeBy_any N g (toT g N a.toNat b.toNat) _ HQ.out HT.out).mono ?_; rintro e w3 ⟨rfl, hb⟩; replace hH := hH.call' hb; clear hb) | (refine wpL_storeFull rfl rfl rfl rfl rowSq hH.h1 (sqc_size _ _) (sqc_ok _ _) ?_; replace hH := hH.r1 (cs' := sqc N (isoP g (toT g N a.toNat b.toNat) N N 0))))
      first
        | (refine ⟨(), ?_, hH⟩; (simp [lput, done, hn]; done))
        | (refine ⟨?_, hH⟩; (simp [lput, done, hn]; done))
        | (refine ⟨(), ?_, hH⟩; (simp [lput, done, hn]; rfl))
        | (refine ⟨?_, hH⟩; (simp [lput, done, hn]; rfl))
        | (refine ⟨(), ?_, hH⟩; (simp [lput, done]; done))
        | (refine ⟨?_, hH⟩; (simp [lput, done]; done))
        | (refine ⟨(), ?_, hH⟩; (simp [lput, done]; rfl))
        | (refine ⟨?_, hH⟩; (simp [lput, done]; rfl))
  case hq_li =>
    clear hH
    intro d _ w1 hd hJ
    simp only [allDone, List.length_cons, List.length_nil, Nat.reduceAdd, and_true] at hd
    have hH := hJ; clear hJ
    simp only [hd, cond_true] at hH
    simp only [lput, List.set, hd, cond_true]
    clear hd
    go_wp2
    exact ret_ct rfl rfl rfl hH.h1 rowSq (sqc_size _ _) ⟨rfl, hH.below⟩
end Go.Proofs.Ytcmedefgpiegbab
