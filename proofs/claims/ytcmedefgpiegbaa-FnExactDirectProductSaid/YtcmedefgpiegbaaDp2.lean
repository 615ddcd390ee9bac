/- Proved: what the program's DirectProduct and the model's return: the same. Conditions: none. -/
import Derived.Test.YtcmedefgpiegbaaDp
namespace Go.Proofs.Ytcmedefgpiegbaa
open Go.RowKit
set_option maxRecDepth 20000 in
set_option maxHeartbeats 2000000 in
theorem specDirectProduct_bad (o z : Int) (g h : Nat → UInt8) (w : World) (hbad : (sqB o g && sqB z h) = false) :
    Calls Try.prog 25 #[.agg (sqc o g), .agg (sqc z h)] w fun e w' => e = .returned (.tuple #[.agg (sqc 0 fun _ => 0), .int .i64 1]) ∧ Below w.heap.size w w' := by
  have hH := Has.start3 w (sqc o g) (sqc z h) (sqc 0 fun _ => 0) 30 30 30
  cases hs : sqB o g with
  | false =>
    go_enter Try.func25, Try.ntmps25
    go_wp2_with (first | (refine wpL_guard rfl rfl ?_) | (refine wpL_alloc rfl rfl zeroSq ?_; intro g hg; (try simp at hg); subst hg) | (refine wpL_loadFull rfl rfl rfl rowSq hH.h0 (sqc_size _ _) ?_) | (refine wpL_loadFull rfl rfl rfl rowSq hH.h1 (sqc_size _ _) ?_) | (go_at_call 67; refine (l01Is_any _ _ _).mono ?_; rintro e w2 ⟨rfl, hb⟩; replace hH := hH.call' hb; clear hb; (first | rw [hs] | rw [ht])) | (refine wpL_build rfl rfl builtSq ?_) | (refine wpL_storeSame rfl rfl rfl rfl rowSq hH.h2 (sqc_ok _ _) ?_))
    exact ret_ct rfl rfl rfl hH.h2 rowSq (sqc_size _ _) ⟨rfl, hH.below⟩
  | true =>
    have ht : sqB z h = false := by simpa [hs] using hbad
    clear hbad
    go_enter Try.func25, Try.ntmps25
    go_wp2_with (first | (refine wpL_guard rfl rfl ?_) | (refine wpL_alloc rfl rfl zeroSq ?_; intro g hg; (try simp at hg); subst hg) | (refine wpL_loadFull rfl rfl rfl rowSq hH.h0 (sqc_size _ _) ?_) | (refine wpL_loadFull rfl rfl rfl rowSq hH.h1 (sqc_size _ _) ?_) | (go_at_call 67; refine (l01Is_any _ _ _).mono ?_; rintro e w2 ⟨rfl, hb⟩; replace hH := hH.call' hb; clear hb; (first | rw [hs] | rw [ht])) | (refine wpL_build rfl rfl builtSq ?_) | (refine wpL_storeSame rfl rfl rfl rfl rowSq hH.h2 (sqc_ok _ _) ?_))
    exact ret_ct rfl rfl rfl hH.h2 rowSq (sqc_size _ _) ⟨rfl, hH.below⟩
set_option maxRecDepth 20000 in
set_option maxHeartbeats 2000000 in
theorem specDirectProduct_limit (N M : Nat) (g h : Nat → UInt8) (w : World) (hs : sqB (N : Int) g = true) (ht : sqB (M : Int) h = true) (hl : 10 < N * M) :
    Calls Try.prog 25 #[.agg (sqc N g), .agg (sqc M h)] w fun e w' => e = .returned (.tuple #[.agg (sqc 0 fun _ => 0), .int .i64 3]) ∧ Below w.heap.size w w' := by
  have hN : N ≤ 10 := by have := sqB_range hs; omega
  have hM : M ≤ 10 := by have := sqB_range ht; omega
  have hK100 := Nat.mul_le_mul hN hM
  obtain ⟨K, hK⟩ : ∃ K, N * M = K := ⟨_, rfl⟩
  have hKi : (N : Int) * (M : Int) = (K : Int) := by rw [← hK]; simp
  rw [hK] at hl hK100
  clear hK
  have hH := Has.start3 w (sqc N g) (sqc M h) (sqc 0 fun _ => 0) 30 30 30
  go_enter Try.func25, Try.ntmps25
  go_wp2_with (first | (refine wpL_guard rfl rfl ?_) | (refine wpL_alloc rfl rfl zeroSq ?_; intro g hg; (try simp at hg); subst hg) | (refine wpL_loadFull rfl rfl rfl rowSq hH.h0 (sqc_size _ _) ?_) | (refine wpL_loadFull rfl rfl rfl rowSq hH.h1 (sqc_size _ _) ?_) | (go_at_call 67; refine (l01Is_any _ _ _).mono ?_; rintro e w2 ⟨rfl, hb⟩; replace hH := hH.call' hb; clear hb; (first | rw [hs] | rw [ht]); have cz0 : w2.cell? ⟨w.heap.size, 0, none⟩ = some (.int .i64 N) := (by rw [hH.c0, sqc_get0]); have cz1 : w2.cell? ⟨w.heap.size + 1, 0, none⟩ = some (.int .i64 M) := (by rw [hH.c1, sqc_get0])) | (refine wpL_build rfl rfl builtSq ?_) | (refine wpL_storeSame rfl rfl rfl rfl rowSq hH.h2 (sqc_ok _ _) ?_))
  exact ret_ct rfl rfl rfl hH.h2 rowSq (sqc_size _ _) ⟨rfl, hH.below⟩
set_option maxRecDepth 20000 in
set_option maxHeartbeats 2000000 in
theorem implDirectProduct_bad (o z : Int) (g h : Nat → UInt8) (w : World) (hbad : (sqB o g && sqB z h) = false) :
    Calls Try.prog 26 #[.agg (sqc o g), .agg (sqc z h)] w fun e w' => e = .returned (.tuple #[.agg (sqc 0 fun _ => 0), .int .i64 1]) ∧ Below w.heap.size w w' := by
  have hH := Has.start3 w (sqc o g) (sqc z h) (sqc 0 fun _ => 0) 30 30 30
  cases hs : sqB o g with
  | false =>
    go_enter Try.func26, Try.ntmps26
    go_wp2_with (first | (refine wpL_guard rfl rfl ?_) | (refine wpL_alloc rfl rfl zeroSq ?_; intro g hg; (try simp at hg); subst hg) | (refine wpL_loadFull rfl rfl rfl rowSq hH.h0 (sqc_size _ _) ?_) | (refine wpL_loadFull rfl rfl rfl rowSq hH.h1 (sqc_size _ _) ?_) | (go_at_call 50; refine (IsSquare_any _ _ _).mono ?_; rintro e w2 ⟨rfl, hb⟩; replace hH := hH.call' hb; clear hb; (first | rw [hs] | rw [ht])) | (refine wpL_build rfl rfl builtSq ?_) | (refine wpL_storeSame rfl rfl rfl rfl rowSq hH.h2 (sqc_ok _ _) ?_))
    exact ret_ct rfl rfl rfl hH.h2 rowSq (sqc_size _ _) ⟨rfl, hH.below⟩
  | true =>
    have ht : sqB z h = false := by simpa [hs] using hbad
    clear hbad
    go_enter Try.func26, Try.ntmps26
    go_wp2_with (first | (refine wpL_guard rfl rfl ?_) | (refine wpL_alloc rfl rfl zeroSq ?_; intro g hg; (try simp at hg); subst hg) | (refine wpL_loadFull rfl rfl rfl rowSq hH.h0 (sqc_size _ _) ?_) | (refine wpL_loadFull rfl rfl rfl rowSq hH.h1 (sqc_size _ _) ?_) | (go_at_call 50; refine (IsSquare_any _ _ _).mono ?_; rintro e w2 ⟨rfl, hb⟩; replace hH := hH.call' hb; clear hb; (first | rw [hs] | rw [ht])) | (refine wpL_build rfl rfl builtSq ?_) | (refine wpL_storeSame rfl rfl rfl rfl rowSq hH.h2 (sqc_ok _ _) ?_))
    exact ret_ct rfl rfl rfl hH.h2 rowSq (sqc_size _ _) ⟨rfl, hH.below⟩
set_option maxRecDepth 20000 in
set_option maxHeartbeats 2000000 in
theorem implDirectProduct_limit (N M : Nat) (g h : Nat → UInt8) (w : World) (hs : sqB (N : Int) g = true) (ht : sqB (M : Int) h = true) (hl : 10 < N * M) :
    Calls Try.prog 26 #[.agg (sqc N g), .agg (sqc M h)] w fun e w' => e = .returned (.tuple #[.agg (sqc 0 fun _ => 0), .int .i64 3]) ∧ Below w.heap.size w w' := by
  have hN : N ≤ 10 := by have := sqB_range hs; omega
  have hM : M ≤ 10 := by have := sqB_range ht; omega
  have hK100 := Nat.mul_le_mul hN hM
  obtain ⟨K, hK⟩ : ∃ K, N * M = K := ⟨_, rfl⟩
  have hKi : (N : Int) * (M : Int) = (K : Int) := by rw [← hK]; simp
  rw [hK] at hl hK100
  clear hK
  have hH := Has.start3 w (sqc N g) (sqc M h) (sqc 0 fun _ => 0) 30 30 30
  go_enter Try.func26, Try.ntmps26
  go_wp2_with (first | (refine wpL_guard rfl rfl ?_) | (refine wpL_alloc rfl rfl zeroSq ?_; intro g hg; (try simp at hg); subst hg) | (refine wpL_loadFull rfl rfl rfl rowSq hH.h0 (sqc_size _ _) ?_) | (refine wpL_loadFull rfl rfl rfl rowSq hH.h1 (sqc_size _ _) ?_) | (go_at_call 50; refine (IsSquare_any _ _ _).mono ?_; rintro e w2 ⟨rfl, hb⟩; replace hH := hH.call' hb; clear hb; (first | rw [hs] | rw [ht]); have cz0 : w2.cell? ⟨w.heap.size, 0, none⟩ = some (.int .i64 N) := (by rw [hH.c0, sqc_get0]); have cz1 : w2.cell? ⟨w.heap.size + 1, 0, none⟩ = some (.int .i64 M) := (by rw [hH.c1, sqc_get0])) | (refine wpL_build rfl rfl builtSq ?_) | (refine wpL_storeSame rfl rfl rfl rfl rowSq hH.h2 (sqc_ok _ _) ?_))
  exact ret_ct rfl rfl rfl hH.h2 rowSq (sqc_size _ _) ⟨rfl, hH.below⟩
set_option maxRecDepth 20000 in
set_option maxHeartbeats 2000000 in
theorem specDirectProduct_good (N M : Nat) (g h : Nat → UInt8) (w : World) (hs : sqB (N : Int) g = true) (ht : sqB (M : Int) h = true) (hl : N * M ≤ 10) :
    Calls Try.prog 25 #[.agg (sqc N g), .agg (sqc M h)] w fun e w' => e = .returned (.tuple #[.agg (sqc (N * M : Nat) (fillT (N * M) (dpV M g h) (N * M) 0)), .int .i64 0]) ∧ Below w.heap.size w w' := by
  have HD := hid (fun w => l01Direct_any N M g h w (sqB_nat.1 hs) (sqB_nat.1 ht) hl)
  obtain ⟨K, hK⟩ : ∃ K, N * M = K := ⟨_, rfl⟩
  have hKi : (N : Int) * (M : Int) = (K : Int) := by rw [← hK]; simp
  rw [hK] at HD hl ⊢
  clear hK
  have hH := Has.start3 w (sqc N g) (sqc M h) (sqc 0 fun _ => 0) 30 30 30
  go_enter Try.func25, Try.ntmps25
  go_wp2_with (first | (refine wpL_guard rfl rfl ?_) | (refine wpL_alloc rfl rfl zeroSq ?_; intro g hg; (try simp at hg); subst hg) | (refine wpL_loadFull rfl rfl rfl rowSq hH.h0 (sqc_size _ _) ?_) | (refine wpL_loadFull rfl rfl rfl rowSq hH.h1 (sqc_size _ _) ?_) | (go_at_call 67; refine (l01Is_any _ _ _).mono ?_; rintro e w2 ⟨rfl, hb⟩; replace hH := hH.call' hb; clear hb; (first | rw [hs] | rw [ht]); have cz0 : w2.cell? ⟨w.heap.size, 0, none⟩ = some (.int .i64 N) := (by rw [hH.c0, sqc_get0]); have cz1 : w2.cell? ⟨w.heap.size + 1, 0, none⟩ = some (.int .i64 M) := (by rw [hH.c1, sqc_get0])) | (go_at_call 68; refine (HD.out _).mono ?_; rintro e w2 ⟨rfl, hb⟩; replace hH := hH.call' hb; clear hb) | (refine wpL_storeFull rfl rfl rfl rfl rowSq hH.h2 (sqc_size _ _) (sqc_ok _ _) ?_))
  exact ret_ct rfl rfl rfl hH.r2.h2 rowSq (sqc_size _ _) ⟨rfl, hH.r2.below⟩
set_option maxRecDepth 20000 in
set_option maxHeartbeats 4000000 in
theorem implDirectProduct_good (N M : Nat) (g h : Nat → UInt8) (w : World) (hs : sqB (N : Int) g = true) (ht : sqB (M : Int) h = true) (hl : N * M ≤ 10) :
    Calls Try.prog 26 #[.agg (sqc N g), .agg (sqc M h)] w fun e w' => e = .returned (.tuple #[.agg (sqc (N * M : Nat) (fillT (N * M) (dpV M g h) (N * M) 0)), .int .i64 0]) ∧ Below w.heap.size w w' := by
  have HB := hid (fun x y (hx : x < N * M) (hy : y < N * M) => dp_bd (sqB_nat.1 hs) (sqB_nat.1 ht) hx hy)
  have hN := (sqB_nat.1 hs).hi
  have hM := (sqB_nat.1 ht).hi
  have hM1 := (sqB_nat.1 ht).lo
  have hM1' : 1 ≤ (M : Int) := by omega
  have hM2' : (M : Int) ≤ 10 := by omega
  obtain ⟨K, hK⟩ : ∃ K, N * M = K := ⟨_, rfl⟩
  have hKi : (N : Int) * (M : Int) = (K : Int) := by rw [← hK]; simp
  rw [hK] at HB hl ⊢
  clear hK
  have hH := Has.start3 w (sqc N g) (sqc M h) (sqc 0 fun _ => 0) 30 30 30
  go_enter Try.func26, Try.ntmps26
  go_wp2_with (first | (refine wpL_guard rfl rfl ?_) | (refine wpL_allocN (o := ⟨some 8, _, _, _, _, _⟩) rfl rfl zeroSq ?_; intro gb w2 hg hl hb; have hlo : w.heap.size + 3 ≤ gb := (by have := hH.size; simp only [List.length_cons, List.length_nil] at this; omega); replace hH := hH.call' hb; clear hb hl) | (refine wpL_alloc rfl rfl zeroSq ?_; intro g hg; (try simp at hg); subst hg) | (refine wpL_loadFull rfl rfl rfl rowSq hH.h0 (sqc_size _ _) ?_) | (refine wpL_loadFull rfl rfl rfl rowSq hH.h1 (sqc_size _ _) ?_) | (go_at_call 50; refine (IsSquare_any _ _ _).mono ?_; rintro e w2 ⟨rfl, hb⟩; replace hH := hH.call' hb; clear hb; (first | rw [hs] | rw [ht]); have cz0 : w2.cell? ⟨w.heap.size, 0, none⟩ = some (.int .i64 N) := (by rw [hH.c0, sqc_get0]); have cz1 : w2.cell? ⟨w.heap.size + 1, 0, none⟩ = some (.int .i64 M) := (by rw [hH.c1, sqc_get0])) | (refine wpL_build1 rfl rfl rfl (builtSqO _) ?_) | (refine wpL_storeN (x := .tmp 8) rfl rfl rfl rfl rowSq hg (sqc_size _ _) (sqc_ok _ _) ?_; intro w2 hz hO hT; replace hg := hz; replace hH := hT _ _ hH hlo; clear hz hO hT))
  clear hKi
  go_loopw [34] (fun i wr => ∃ k : Nat, k ≤ K ∧ i = .int .i64 k ∧ Has w wr [(sqc N g, 30), (sqc M h, 30), (sqc 0 (fun _ => 0), 30)] ∧ holds wr gb (sqc K (fillT K (dpV M g h) k 0)) 30) (fun i _ => 10 - (intOf i).toNat)
  case atStart => exact ⟨0, by omega, rfl, hH, by rw [fillT_zero]; exact hg⟩
  case round =>
    clear hH hg
    obtain ⟨k, hk, rfl, hH, hg⟩ := hrel
    by_cases hlt : k < K
    · have hk10 : k < 10 := by omega
      obtain ⟨wo, hwo⟩ : ∃ wo : World, wo = wr := ⟨_, rfl⟩
      subst hwo
      go_wp2
      go_loopw [38] (fun i wr => ∃ j : Nat, j ≤ K ∧ i = .int .i64 j ∧ Has w wr [(sqc N g, 30), (sqc M h, 30), (sqc 0 (fun _ => 0), 30)] ∧ holds wr gb (sqc K (fillT K (dpV M g h) k j)) 30) (fun i _ => 10 - (intOf i).toNat)
      case atStart => exact ⟨0, by omega, rfl, hH, hg⟩
      case round =>
        clear hH hg
        obtain ⟨j, hj, rfl, hH, hg⟩ := hrel
        by_cases hlt2 : j < K
        · have hj10 : j < 10 := by omega
          obtain ⟨ka, kb, kc, kd, hp⟩ := parts M k j
          obtain ⟨ba, bb, bc, bd, be⟩ := HB.out k j hlt hlt2
          obtain ⟨v, hv⟩ : ∃ v, (g (ka * 10 + kb)).toNat = v := ⟨_, rfl⟩
          obtain ⟨u, hu⟩ : ∃ u, (h (kc * 10 + kd)).toNat = u := ⟨_, rfl⟩
          rw [hp.a, hp.b, hp.c, hp.d, hv, hu] at be
          rw [hp.a] at ba
          rw [hp.b] at bb
          rw [hp.c] at bc
          rw [hp.d] at bd
          have HV := hid (show (g (k / M * 10 + j / M)).toNat = v by rw [hp.a, hp.b]; exact hv)
          have HU := hid (show (h (k % M * 10 + j % M)).toNat = u by rw [hp.c, hp.d]; exact hu)
          have Hv := hid hv
          have Hu := hid hu
          have HP := hid hp
          have be1 : (M : Int) * (v : Int) + (u : Int) < (K : Int) := by
            have : ((M * v + u : Nat) : Int) < (K : Int) := by omega
            simpa using this
          have be2 : 0 ≤ (M : Int) * (v : Int) := by
            have : 0 ≤ ((M * v : Nat) : Int) := by omega
            simpa using this
          have ba' : (ka : Int) < 10 := by omega
          have bb' : (kb : Int) < 10 := by omega
          have bc' : (kc : Int) < 10 := by omega
          have bd' : (kd : Int) < 10 := by omega
          clear hv hu hp
          go_wp2
          refine wp_region_frame (X := Unit) (fun d _ => [(41, bif d 0 then .int .i64 k else u41), (42, bif d 1 then .int .i64 M else u42), (43, bif d 2 then .int .i64 ka else u43), (44, bif d 3 then .int .i64 j else u44), (45, bif d 4 then .int .i64 M else u45), (46, bif d 5 then .int .i64 kb else u46), (47, bif d 6 then .pointer (some ⟨w.heap.size, 1, none⟩) else u47), (48, bif d 7 then .pointer (some ⟨w.heap.size, 1 + ka * 10, none⟩) else u48), (49, bif d 8 then .pointer (some ⟨w.heap.size, 1 + ka * 10 + kb, none⟩) else u49), (50, bif d 9 then .int .u8 v else u50), (51, bif d 10 then .int .i64 k else u51), (52, bif d 11 then .int .i64 M else u52), (53, bif d 12 then .int .i64 kc else u53), (54, bif d 13 then .int .i64 j else u54), (55, bif d 14 then .int .i64 M else u55), (56, bif d 15 then .int .i64 kd else u56), (57, bif d 16 then .pointer (some ⟨w.heap.size + 1, 1, none⟩) else u57), (58, bif d 17 then .pointer (some ⟨w.heap.size + 1, 1 + kc * 10, none⟩) else u58), (59, bif d 18 then .pointer (some ⟨w.heap.size + 1, 1 + kc * 10 + kd, none⟩) else u59), (60, bif d 19 then .int .u8 u else u60), (11, bif d 20 then .int .u8 v else u11), (12, bif d 21 then .int .u8 u else u12)])
            (fun d _ w' => Has w w' [(sqc N g, 30), (sqc M h, 30), (sqc 0 (fun _ => 0), 30)] ∧ holds w' gb (sqc K (fillT K (dpV M g h) k j)) 30) (by kernel_rfl) (by kernel_rfl) ?h0_dpi ?hs_dpi ?hq_dpi
          case h0_dpi => exact ⟨(), (by simp [lput]), hH.drew, (show _ from hg)⟩
          case hs_dpi =>
            refine ⟨?_, ?_, ?_, ?_, ?_, ?_, ?_, ?_, ?_, ?_, ?_, ?_, ?_, ?_, ?_, ?_, ?_, ?_, ?_, ?_, ?_, ?_, trivial⟩
            all_goals
              clear hH hg
              intro d _ w1 hd hn hJ
              simp only [needs, Region.binds, reduceCtorEq, Bool.false_eq_true, false_implies, true_and, and_true, true_implies, forall_const] at hn
              simp only [lput, List.set, hn, cond_true]
              obtain ⟨hH, hg⟩ := hJ
              have c0 : w1.cell? ⟨w.heap.size, 1 + ka * 10 + kb, none⟩ = some (.int .u8 v) := by rw [hH.c0, Nat.add_assoc, sqc_get _ _ _ (by omega), Hv.out]
              have c1 : w1.cell? ⟨w.heap.size + 1, 1 + kc * 10 + kd, none⟩ = some (.int .u8 u) := by rw [hH.c1, Nat.add_assoc, sqc_get _ _ _ (by omega), Hu.out]
              have ia := HP.out.ia
              have ib := HP.out.ib
              have ic := HP.out.ic
              have idd := HP.out.id
              go_wp2_with (first | fail)
              first
                | (refine ⟨(), ?_, hH, hg⟩; (simp [lput, done, hn, ia, ib, ic, idd]; done))
                | (refine ⟨?_, hH, hg⟩; (simp [lput, done, hn, ia, ib, ic, idd]; done))
                | (refine ⟨(), ?_, hH, hg⟩; (simp [lput, done, hn, ia, ib, ic, idd]; rfl))
                | (refine ⟨?_, hH, hg⟩; (simp [lput, done, hn, ia, ib, ic, idd]; rfl))
                | (refine ⟨(), ?_, hH, hg⟩; (simp [lput, done, ia, ib, ic, idd]; done))
                | (refine ⟨?_, hH, hg⟩; (simp [lput, done, ia, ib, ic, idd]; done))
                | (refine ⟨(), ?_, hH, hg⟩; (simp [lput, done, ia, ib, ic, idd]; rfl))
                | (refine ⟨?_, hH, hg⟩; (simp [lput, done, ia, ib, ic, idd]; rfl))
          case hq_dpi =>
            clear hH hg
            intro d _ w1 hd hJ
            simp only [allDone, List.length_cons, List.length_nil, Nat.reduceAdd, and_true] at hd
            obtain ⟨hH, hg⟩ := hJ
            simp only [lput, List.set, hd, cond_true]
            clear hd
            have c3' : w1.cell? ⟨gb, 1 + k * 10 + j, none⟩ = some (.int .u8 (fillT K (dpV M g h) k j (k * 10 + j)).toNat) := by rw [holds_cell hg, Nat.add_assoc, sqc_get _ _ _ (by omega)]
            have f3' : w1.frozen? ⟨gb, 1 + k * 10 + j, none⟩ = false := holds_frozen hg _
            go_wp2
            go_roundw
            case rel => exact ⟨j + 1, by omega, by go_num, hH.setCellAbove hlo _ _, by
              have e : (sqc K (fillT K (dpV M g h) k j)).setIfInBounds (1 + k * 10 + j) (.int .u8 ((M : Int) * (v : Int) + (u : Int))) = sqc K (fillT K (dpV M g h) k (j + 1)) := by rw [Nat.add_assoc]; exact sqc_setv _ _ _ _ _ (dpV M g h k j) (dpV_int HV.out HU.out (by omega)) (fun i _ => fillT_step K (dpV M g h) k j hj10 i)
              rw [← e]; exact holds_set hg _ _⟩
            case measure => simp [intOf]; omega
        · obtain rfl : j = K := by omega
          go_wp2
          go_roundw
          case rel => exact ⟨k + 1, by omega, by go_num, hH, by rw [fillT_row]; exact hg⟩
          case measure => simp [intOf]; omega
    · obtain rfl : k = K := by omega
      go_wp2_with (first | (refine wpL_loadFull rfl rfl rfl rowSq hg (sqc_size _ _) ?_) | (refine wpL_storeFull rfl rfl rfl rfl rowSq hH.h2 (sqc_size _ _) (sqc_ok _ _) ?_))
      exact ret_ct rfl rfl rfl hH.r2.h2 rowSq (sqc_size _ _) ⟨rfl, hH.r2.below⟩
end Go.Proofs.Ytcmedefgpiegbaa
