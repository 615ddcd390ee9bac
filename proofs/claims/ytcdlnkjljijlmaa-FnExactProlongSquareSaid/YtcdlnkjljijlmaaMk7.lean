/- Proved: what the model's ProlongSquare returns. Conditions: those that each theorem names. -/
import Derived.Test.YtcdlnkjljijlmaaMk5
namespace Go.Proofs.Ytcdlnkjljijlmaa
set_option linter.unusedVariables false
set_option linter.unusedSimpArgs false
open Go.RowKit
set_option maxRecDepth 20000 in
set_option maxHeartbeats 2000000 in
theorem l08Transversal_any (N : Nat) (g p : Nat → UInt8) (w : World) (hq : IsSq N g) (hp : IsPerm p N) :
    Calls Try.prog 64 #[.agg (sqc N g), .agg (u8s 10 p)] w fun e w' => e = .returned (.bool (difB (trD g p) N)) ∧ Below w.heap.size w w' := by
  have h10 := hq.hi
  have h1 := hq.lo
  have HQ := hid hq
  have HP := hid hp
  clear hq hp
  have hH := Has.start3 w (sqc N g) (u8s 10 p) (bls 10 fun _ => false) 28 36 90
  go_enter Try.func64, Try.ntmps64
  go_wp2_with (first | fail | (refine wpL_alloc rfl rfl zeroBo ?_; intro g hg; (try simp at hg); subst hg) | (refine wpL_build rfl rfl builtBo ?_) | (refine wpL_storeSame rfl rfl rfl rfl rowBo hH.h2 ⟨bls_size _ _, bls_one _ _⟩ ?_))
  go_loopw [6] (fun i wr => ∃ k : Nat, k ≤ N ∧ i = .int .i64 k ∧ Has w wr [(sqc N g, 28), (u8s 10 p, 36), (bls 10 (metD (trD g p) k), 90)] ∧ Hid (DifTo (trD g p) k)) (fun i _ => 10 - (intOf i).toNat)
  case atStart => exact ⟨0, by omega, rfl, by rw [show metD (trD g p) 0 = fun _ => false from funext (metD_zero _)]; exact hH, hid (fun i j hi hj => absurd hj (by omega))⟩
  case round =>
    clear hH
    obtain ⟨k, hk, rfl, hH, hd⟩ := hrel
    have c0 : wr.cell? ⟨w.heap.size, 0, none⟩ = some (.int .i64 N) := by rw [hH.c0, sqc_get0]
    by_cases hlt : k < N
    · have hk10 : (k : Int) < 10 := by omega
      have hlt' : (k : Int) < N := by omega
      obtain ⟨v, hv⟩ : ∃ v, p k = v := ⟨_, rfl⟩
      have hvl : v.toNat < N := by rw [← hv]; exact HP.out.lt k hlt
      obtain ⟨u, hu⟩ : ∃ u, g (k * 10 + v.toNat) = u := ⟨_, rfl⟩
      have hul : u.toNat < N := by rw [← hu]; exact (HQ.out.rows _ hlt).lt _ hvl
      have HE := hid (show trD g p k = u by unfold trD; rw [hv, hu])
      have HV := hid hv
      have HU := hid hu
      clear hv hu
      have hv' : (v.toNat : Int) < 10 := by omega
      have hu' : (u.toNat : Int) < 10 := by omega
      go_wp2
      clear c0
      refine wp_region_frame (X := Unit) (fun d _ => [(15, bif d 0 then .int .i64 k else u15), (16, bif d 1 then .int .i64 k else u16), (17, bif d 2 then .pointer (some ⟨w.heap.size + 1, k, none⟩) else u17), (18, bif d 3 then .int .u8 v.toNat else u18), (19, bif d 4 then .pointer (some ⟨w.heap.size, 1, none⟩) else u19), (20, bif d 5 then .pointer (some ⟨w.heap.size, 1 + k * 10, none⟩) else u20), (21, bif d 6 then .pointer (some ⟨w.heap.size, 1 + k * 10 + v.toNat, none⟩) else u21), (22, bif d 7 then .int .u8 u.toNat else u22), (7, bif d 8 then .int .u8 u.toNat else u7)])
        (fun d _ w' => Has w w' [(sqc N g, 28), (u8s 10 p, 36), (bls 10 (metD (trD g p) k), 90)]) (by kernel_rfl) (by kernel_rfl) ?h0_tt ?hs_tt ?hq_tt
      case h0_tt => exact ⟨(), (by simp [lput]), hH.drew⟩
      case hs_tt =>
        refine ⟨?_, ?_, ?_, ?_, ?_, ?_, ?_, ?_, ?_, trivial⟩
        all_goals
          clear hH
          intro d _ w1 hd hn hJ
          simp only [needs, Region.binds, reduceCtorEq, Bool.false_eq_true, false_implies, true_and, and_true, true_implies, forall_const] at hn
          simp only [lput, List.set, hn, cond_true]
          have hH := hJ; clear hJ
          have c1 : w1.cell? ⟨w.heap.size + 1, k, none⟩ = some (.int .u8 v.toNat) := by rw [hH.c1, u8s_get _ _ _ (by omega), HV.out]
          have c2 : w1.cell? ⟨w.heap.size, 1 + k * 10 + v.toNat, none⟩ = some (.int .u8 u.toNat) := by rw [hH.c0, Nat.add_assoc, sqc_get _ _ _ (by omega), HU.out]
          go_wp2_with (first | fail)
          first
            | (refine ⟨(), ?_, hH⟩; (simp [lput, done, hn]; done))
            | (refine ⟨?_, hH⟩; (simp [lput, done, hn]; done))
            | (refine ⟨(), ?_, hH⟩; (simp [lput, done, hn]; rfl))
            | (refine ⟨?_, hH⟩; (simp [lput, done, hn]; rfl))
            | (refine ⟨(), ?_, hH⟩; (simp [lput, done]; done))
            | (refine ⟨?_, hH⟩; (simp [lput, done]; done))
            | (refine ⟨(), ?_, hH⟩; (simp [lput, done]; rfl))
            | (refine ⟨?_, hH⟩; (simp [lput, done]; rfl))
      case hq_tt =>
        clear hH
        intro d _ w1 hd hJ
        simp only [allDone, List.length_cons, List.length_nil, Nat.reduceAdd, and_true] at hd
        have hH := hJ; clear hJ
        simp only [lput, List.set, hd, cond_true]
        clear hd
        have c3 := hH.c2 u.toNat
        rw [bls_get _ _ _ (by omega)] at c3
        have f3 := hH.f2 u.toNat
        cases hm : metD (trD g p) k u.toNat with
        | true =>
          rw [hm] at c3
          have HM := hid (difB_met (d := trD g p) hlt (by rw [HE.out]; exact hm))
          clear hm
          go_wp2
          go_ret
          exact ⟨by rw [HM.out]; rfl, hH.below⟩
        | false =>
          rw [hm] at c3
          have hd2 := hid (hd.out.step (by rw [HE.out]; exact hm))
          clear hm
          go_wp2
          go_roundw
          case rel => exact ⟨k + 1, by omega, by go_num, hH.s2 _ _ (bls_step 10 _ _ u.toNat true (fun j _ => by rw [metD_succ, HE.out])), hd2⟩
          case measure => simp [intOf]; omega
    · obtain rfl : k = N := by omega
      have HT := hid (difB_yes h1 h10 (fun i hi => show (trD g p i).toNat < k from (HQ.out.rows _ hi).lt _ (HP.out.lt i hi)) (fun i j hi hj => hd.out i j hi hj))
      go_wp2
      go_ret
      exact ⟨by rw [HT.out]; rfl, hH.below⟩
set_option maxRecDepth 20000 in
set_option maxHeartbeats 1600000 in
theorem specPro_1a (o : Int) (g c : Nat → UInt8) (w : World) (hs : sqB o g = false) :
    Calls Try.prog 24 #[.agg (sqc o g), .agg (u8s 10 c)] w fun e w' => e = .returned (.tuple #[.agg (sqc 0 fun _ => 0), .int .i64 1]) ∧ Below w.heap.size w w' := by
  have hH := Has.start3 w (sqc o g) (u8s 10 c) (sqc 0 fun _ => 0) 28 36 28
  go_enter Try.func24, Try.ntmps24
  go_wp2_with (first | fail | (refine wpL_guard rfl rfl ?_) | (refine wpL_alloc (o := ⟨some 4, _, _, _, _, _⟩) rfl rfl zeroSq ?_; intro g hg; (try simp at hg); subst hg) | (refine wpL_loadFull rfl rfl rfl rowSq hH.h0 (sqc_size _ _) ?_) | (refine wpL_loadFull rfl rfl rfl rowPl hH.h1 (u8s_size _ _) ?_) | (go_at_call 50; refine (l01Is_any _ _ _).mono ?_; rintro e w3 ⟨rfl, hb⟩; rw [hs]; replace hH := hH.call' hb; clear hb) | (refine wpL_build rfl rfl builtSq ?_) | (refine wpL_storeSame rfl rfl rfl rfl rowSq hH.h2 (sqc_ok _ _) ?_))
  exact ret_ct rfl rfl rfl hH.h2 rowSq (sqc_size _ _) ⟨rfl, hH.below⟩
set_option maxRecDepth 20000 in
set_option maxHeartbeats 1600000 in
theorem specPro_1b (o : Int) (g c : Nat → UInt8) (w : World) (hs : sqB o g = true) (hpb : permB c o = false) :
    Calls Try.prog 24 #[.agg (sqc o g), .agg (u8s 10 c)] w fun e w' => e = .returned (.tuple #[.agg (sqc 0 fun _ => 0), .int .i64 1]) ∧ Below w.heap.size w w' := by
  have hH := Has.start3 w (sqc o g) (u8s 10 c) (sqc 0 fun _ => 0) 28 36 28
  go_enter Try.func24, Try.ntmps24
  go_wp2_with (first | fail | (refine wpL_guard rfl rfl ?_) | (refine wpL_alloc (o := ⟨some 4, _, _, _, _, _⟩) rfl rfl zeroSq ?_; intro g hg; (try simp at hg); subst hg) | (refine wpL_loadFull rfl rfl rfl rowSq hH.h0 (sqc_size _ _) ?_) | (refine wpL_loadFull rfl rfl rfl rowPl hH.h1 (u8s_size _ _) ?_) | (go_at_call 50; refine (l01Is_any _ _ _).mono ?_; rintro e w3 ⟨rfl, hb⟩; rw [hs]; replace hH := hH.call' hb; clear hb; have c0 := hH.c0 0; rw [sqc_get0] at c0) | (go_at_call 63; refine (l01Perm_any _ _ _).mono ?_; rintro e w3 ⟨rfl, hb⟩; rw [hpb]; replace hH := hH.call' hb; clear hb) | (refine wpL_build rfl rfl builtSq ?_) | (refine wpL_storeSame rfl rfl rfl rfl rowSq hH.h2 (sqc_ok _ _) ?_))
  exact ret_ct rfl rfl rfl hH.h2 rowSq (sqc_size _ _) ⟨rfl, hH.below⟩
set_option maxRecDepth 20000 in
set_option maxHeartbeats 1600000 in
theorem specPro_f (N : Nat) (g c : Nat → UInt8) (w : World) (hs : sqB (N : Int) g = true) (hpb : permB c (N : Int) = true) (hq : IsSq N g) (hp : IsPerm c N) (hr : difB (trD g c) N = false) :
    Calls Try.prog 24 #[.agg (sqc N g), .agg (u8s 10 c)] w fun e w' => e = .returned (.tuple #[.agg (sqc 0 fun _ => 0), .int .i64 5]) ∧ Below w.heap.size w w' := by
  have HQ := hid hq
  have HP := hid hp
  have HR := hid hr
  have h10 := hq.hi
  clear hq hp hr
  have hH := Has.start3 w (sqc N g) (u8s 10 c) (sqc 0 fun _ => 0) 28 36 28
  go_enter Try.func24, Try.ntmps24
  go_wp2_with (first | fail | (refine wpL_guard rfl rfl ?_) | (refine wpL_alloc (o := ⟨some 4, _, _, _, _, _⟩) rfl rfl zeroSq ?_; intro g hg; (try simp at hg); subst hg) | (refine wpL_loadFull rfl rfl rfl rowSq hH.h0 (sqc_size _ _) ?_) | (refine wpL_loadFull rfl rfl rfl rowPl hH.h1 (u8s_size _ _) ?_) | (go_at_call 50; refine (l01Is_any _ _ _).mono ?_; rintro e w3 ⟨rfl, hb⟩; rw [hs]; replace hH := hH.call' hb; clear hb; have c0 := hH.c0 0; rw [sqc_get0] at c0) | (go_at_call 63; refine (l01Perm_any _ _ _).mono ?_; rintro e w3 ⟨rfl, hb⟩; rw [hpb]; replace hH := hH.call' hb; clear hb) | (go_at_call 64; refine (l08Transversal_any N g c _ HQ.out HP.out).mono ?_; rintro e w3 ⟨rfl, hb⟩; rw [HR.out]; replace hH := hH.call' hb; clear hb; have c0 := hH.c0 0; rw [sqc_get0] at c0) | (refine wpL_build rfl rfl builtSq ?_) | (refine wpL_storeSame rfl rfl rfl rfl rowSq hH.h2 (sqc_ok _ _) ?_))
  exact ret_ct rfl rfl rfl hH.h2 rowSq (sqc_size _ _) ⟨rfl, hH.below⟩
set_option maxRecDepth 20000 in
set_option maxHeartbeats 1600000 in
theorem specPro_10 (N : Nat) (g c : Nat → UInt8) (w : World) (hs : sqB (N : Int) g = true) (hpb : permB c (N : Int) = true) (hq : IsSq N g) (hp : IsPerm c N) (hr : difB (trD g c) N = true) (hN : N = 10) :
    Calls Try.prog 24 #[.agg (sqc N g), .agg (u8s 10 c)] w fun e w' => e = .returned (.tuple #[.agg (sqc 0 fun _ => 0), .int .i64 3]) ∧ Below w.heap.size w w' := by
  have HQ := hid hq
  have HP := hid hp
  have HR := hid hr
  have h10 := hq.hi
  have HNi := hid (show (N : Int) = 10 by omega)
  clear hq hp hr hN
  have hH := Has.start3 w (sqc N g) (u8s 10 c) (sqc 0 fun _ => 0) 28 36 28
  go_enter Try.func24, Try.ntmps24
  go_wp2_with (first | fail | (refine wpL_guard rfl rfl ?_) | (refine wpL_alloc (o := ⟨some 4, _, _, _, _, _⟩) rfl rfl zeroSq ?_; intro g hg; (try simp at hg); subst hg) | (refine wpL_loadFull rfl rfl rfl rowSq hH.h0 (sqc_size _ _) ?_) | (refine wpL_loadFull rfl rfl rfl rowPl hH.h1 (u8s_size _ _) ?_) | (go_at_call 50; refine (l01Is_any _ _ _).mono ?_; rintro e w3 ⟨rfl, hb⟩; rw [hs]; replace hH := hH.call' hb; clear hb; have c0 := hH.c0 0; rw [sqc_get0] at c0) | (go_at_call 63; refine (l01Perm_any _ _ _).mono ?_; rintro e w3 ⟨rfl, hb⟩; rw [hpb]; replace hH := hH.call' hb; clear hb) | (go_at_call 64; refine (l08Transversal_any N g c _ HQ.out HP.out).mono ?_; rintro e w3 ⟨rfl, hb⟩; rw [HR.out]; replace hH := hH.call' hb; clear hb; have c0 := hH.c0 0; rw [sqc_get0, HNi.out] at c0) | (refine wpL_build rfl rfl builtSq ?_) | (refine wpL_storeSame rfl rfl rfl rfl rowSq hH.h2 (sqc_ok _ _) ?_))
  exact ret_ct rfl rfl rfl hH.h2 rowSq (sqc_size _ _) ⟨rfl, hH.below⟩
end Go.Proofs.Ytcdlnkjljijlmaa
