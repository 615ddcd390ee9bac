/- Proved: what the program's DirectProduct and the model's return: the same. Conditions: none. -/
import Derived.Test.YtcmedefgpiegbaaSq5
import Derived.Test.YtcmedefgpiegbaaSq3b
namespace Go.Proofs.Ytcmedefgpiegbaa
open Go.RowKit
def dpV (M : Nat) (g h : Nat → UInt8) (x y : Nat) : UInt8 := UInt8.ofNat (M * (g (x / M * 10 + y / M)).toNat + (h (x % M * 10 + y % M)).toNat)
theorem IsSq.lt {N : Nat} {g : Nat → UInt8} (h : IsSq N g) {x y : Nat} (hx : x < N) (hy : y < N) : (g (x * 10 + y)).toNat < N := (h.rows x hx).lt y hy
theorem dp_bd {N M : Nat} {g h : Nat → UInt8} (hg : IsSq N g) (hh : IsSq M h) {x y : Nat} (hx : x < N * M) (hy : y < N * M) :
    x / M < N ∧ y / M < N ∧ x % M < M ∧ y % M < M ∧ M * (g (x / M * 10 + y / M)).toNat + (h (x % M * 10 + y % M)).toNat < N * M := by
  have h1 := hh.lo
  have a := Nat.div_lt_of_lt_mul (by rw [Nat.mul_comm]; exact hx : x < M * N)
  have b := Nat.div_lt_of_lt_mul (by rw [Nat.mul_comm]; exact hy : y < M * N)
  have c := Nat.mod_lt x (show 0 < M by omega)
  have d := Nat.mod_lt y (show 0 < M by omega)
  have e := hg.lt a b
  have f := hh.lt c d
  have k := Nat.mul_le_mul_left M (show (g (x / M * 10 + y / M)).toNat + 1 ≤ N by omega)
  rw [Nat.mul_add, Nat.mul_one, Nat.mul_comm M N] at k
  exact ⟨a, b, c, d, by omega⟩
theorem dpV_int {M : Nat} {g h : Nat → UInt8} {x y v u : Nat} (hv : (g (x / M * 10 + y / M)).toNat = v) (hu : (h (x % M * 10 + y % M)).toNat = u) (hb : M * v + u < 256) :
    Value.int .u8 ((M : Int) * (v : Int) + (u : Int)) = .int .u8 (dpV M g h x y).toNat := by
  unfold dpV
  rw [hv, hu, u8_of _ hb]
  simp
/-- The parts of two numbers by M, under names of their own. -/
structure Parts (M x y a b c d : Nat) : Prop where
  a : x / M = a
  b : y / M = b
  c : x % M = c
  d : y % M = d
theorem parts (M x y : Nat) : ∃ a b c d, Parts M x y a b c d := ⟨_, _, _, _, rfl, rfl, rfl, rfl⟩
theorem Parts.ia {M x y a b c d : Nat} (h : Parts M x y a b c d) : (x : Int) / (M : Int) = (a : Int) := by rw [← h.a]; simp
theorem Parts.ib {M x y a b c d : Nat} (h : Parts M x y a b c d) : (y : Int) / (M : Int) = (b : Int) := by rw [← h.b]; simp
theorem Parts.ic {M x y a b c d : Nat} (h : Parts M x y a b c d) : (x : Int) % (M : Int) = (c : Int) := by rw [← h.c]; simp
theorem Parts.id {M x y a b c d : Nat} (h : Parts M x y a b c d) : (y : Int) % (M : Int) = (d : Int) := by rw [← h.d]; simp
set_option maxRecDepth 20000 in
set_option maxHeartbeats 4000000 in
theorem l01Direct_any (N M : Nat) (g h : Nat → UInt8) (w : World) (hg : IsSq N g) (hh : IsSq M h) (hl : N * M ≤ 10) :
    Calls Try.prog 68 #[.agg (sqc N g), .agg (sqc M h)] w fun e w' => e = .returned (.agg (sqc (N * M : Nat) (fillT (N * M) (dpV M g h) (N * M) 0))) ∧ Below w.heap.size w w' := by
  have HB := hid (fun x y (hx : x < N * M) (hy : y < N * M) => dp_bd hg hh hx hy)
  have hN := hg.hi
  have hM := hh.hi
  have hM1 := hh.lo
  have hM1' : 1 ≤ (M : Int) := by omega
  have hM2' : (M : Int) ≤ 10 := by omega
  clear hg hh
  obtain ⟨K, hK⟩ : ∃ K, N * M = K := ⟨_, rfl⟩
  have hKi : (N : Int) * (M : Int) = (K : Int) := by rw [← hK]; simp
  rw [hK] at HB hl ⊢
  clear hK
  have hS := Has.start4 w (sqc N g) (sqc M h) (sqc 0 fun _ => 0) (sqc 0 fun _ => 0) 30 30 30 30
  have hH := hS.r3 (cs' := sqc K fun _ => 0)
  have s0 : (((w.alloc (.cells (sqc N g) 30)).alloc (.cells (sqc M h) 30)).alloc (.cells (sqc 0 fun _ => 0) 30)).cell? ⟨w.heap.size, 0, none⟩ = some (.int .i64 N) := by rw [(Has.start3 w (sqc N g) (sqc M h) (sqc 0 fun _ => 0) 30 30 30).c0, sqc_get0]
  have s1 : (((w.alloc (.cells (sqc N g) 30)).alloc (.cells (sqc M h) 30)).alloc (.cells (sqc 0 fun _ => 0) 30)).cell? ⟨w.heap.size + 1, 0, none⟩ = some (.int .i64 M) := by rw [(Has.start3 w (sqc N g) (sqc M h) (sqc 0 fun _ => 0) 30 30 30).c1, sqc_get0]
  go_enter Try.func68, Try.ntmps68
  go_wp2_with (first | (refine wpL_alloc rfl rfl zeroSq ?_; intro g hg; (try simp at hg); subst hg) | (refine wpL_build1 rfl rfl rfl (builtSqO _) ?_) | (refine wpL_storeFull rfl rfl rfl rfl rowSq hS.h3 (sqc_size _ _) (sqc_ok _ _) ?_))
  clear hS s0 s1 hKi
  go_loopw [7] (fun i wr => ∃ k : Nat, k ≤ K ∧ i = .int .i64 k ∧ Has w wr [(sqc N g, 30), (sqc M h, 30), (sqc 0 (fun _ => 0), 30), (sqc K (fillT K (dpV M g h) k 0), 30)]) (fun i _ => 10 - (intOf i).toNat)
  case atStart => exact ⟨0, by omega, rfl, by rw [fillT_zero]; exact hH⟩
  case round =>
    clear hH
    obtain ⟨k, hk, rfl, hH⟩ := hrel
    have c3 : wr.cell? ⟨w.heap.size + 1 + 1 + 1, 0, none⟩ = some (.int .i64 K) := by rw [hH.c3, sqc_get0]
    by_cases hlt : k < K
    · have hk10 : k < 10 := by omega
      obtain ⟨wo, hwo⟩ : ∃ wo : World, wo = wr := ⟨_, rfl⟩
      subst hwo
      go_wp2
      clear c3
      go_loopw [8] (fun i wr => ∃ j : Nat, j ≤ K ∧ i = .int .i64 j ∧ Has w wr [(sqc N g, 30), (sqc M h, 30), (sqc 0 (fun _ => 0), 30), (sqc K (fillT K (dpV M g h) k j), 30)]) (fun i _ => 10 - (intOf i).toNat)
      case atStart => exact ⟨0, by omega, rfl, hH⟩
      case round =>
        clear hH
        obtain ⟨j, hj, rfl, hH⟩ := hrel
        have c3 : wr.cell? ⟨w.heap.size + 1 + 1 + 1, 0, none⟩ = some (.int .i64 K) := by rw [hH.c3, sqc_get0]
        by_cases hlt2 : j < K
        · have hj10 : j < 10 := by omega
          obtain ⟨ka, kb, kc, kd, hp⟩ := parts M k j
          obtain ⟨ba, bb, bc, bd, be⟩ := HB.out k j hlt hlt2
          obtain ⟨v, hv⟩ : ∃ v, (g (ka * 10 + kb)).toNat = v := ⟨_, rfl⟩
          obtain ⟨u, hu⟩ : ∃ u, (h (kc * 10 + kd)).toNat = u := ⟨_, rfl⟩
          rw [hp.a, hp.b, hp.c, hp.d, hv, hu] at be
          rw [hp.a] at ba
          rw [hp.b] at bb
          rw [hp.c] at bc
          rw [hp.d] at bd
          have HV := hid (show (g (k / M * 10 + j / M)).toNat = v by rw [hp.a, hp.b]; exact hv)
          have HU := hid (show (h (k % M * 10 + j % M)).toNat = u by rw [hp.c, hp.d]; exact hu)
          have Hv := hid hv
          have Hu := hid hu
          have HP := hid hp
          have be1 : (M : Int) * (v : Int) + (u : Int) < (K : Int) := by
            have : ((M * v + u : Nat) : Int) < (K : Int) := by omega
            simpa using this
          have be2 : 0 ≤ (M : Int) * (v : Int) := by
            have : 0 ≤ ((M * v : Nat) : Int) := by omega
            simpa using this
          have ba' : (ka : Int) < 10 := by omega
          have bb' : (kb : Int) < 10 := by omega
          have bc' : (kc : Int) < 10 := by omega
          have bd' : (kd : Int) < 10 := by omega
          clear hv hu hp
          go_wp2
          refine wp_region_frame (X := Unit) (fun d _ => [(30, bif d 0 then .int .i64 k else u30), (31, bif d 1 then .int .i64 M else u31), (32, bif d 2 then .int .i64 ka else u32), (33, bif d 3 then .int .i64 j else u33), (34, bif d 4 then .int .i64 M else u34), (35, bif d 5 then .int .i64 kb else u35), (36, bif d 6 then .pointer (some ⟨w.heap.size, 1, none⟩) else u36), (37, bif d 7 then .pointer (some ⟨w.heap.size, 1 + ka * 10, none⟩) else u37), (38, bif d 8 then .pointer (some ⟨w.heap.size, 1 + ka * 10 + kb, none⟩) else u38), (39, bif d 9 then .int .u8 v else u39), (40, bif d 10 then .int .i64 k else u40), (41, bif d 11 then .int .i64 M else u41), (42, bif d 12 then .int .i64 kc else u42), (43, bif d 13 then .int .i64 j else u43), (44, bif d 14 then .int .i64 M else u44), (45, bif d 15 then .int .i64 kd else u45), (46, bif d 16 then .pointer (some ⟨w.heap.size + 1, 1, none⟩) else u46), (47, bif d 17 then .pointer (some ⟨w.heap.size + 1, 1 + kc * 10, none⟩) else u47), (48, bif d 18 then .pointer (some ⟨w.heap.size + 1, 1 + kc * 10 + kd, none⟩) else u48), (49, bif d 19 then .int .u8 u else u49), (9, bif d 20 then .int .u8 v else u9), (10, bif d 21 then .int .u8 u else u10)])
            (fun d _ w' => Has w w' [(sqc N g, 30), (sqc M h, 30), (sqc 0 (fun _ => 0), 30), (sqc K (fillT K (dpV M g h) k j), 30)]) (by kernel_rfl) (by kernel_rfl) ?h0_dp ?hs_dp ?hq_dp
          case h0_dp => exact ⟨(), (by simp [lput]), hH.drew⟩
          case hs_dp =>
            refine ⟨?_, ?_, ?_, ?_, ?_, ?_, ?_, ?_, ?_, ?_, ?_, ?_, ?_, ?_, ?_, ?_, ?_, ?_, ?_, ?_, ?_, ?_, trivial⟩
            all_goals
              clear hH
              intro d _ w1 hd hn hJ
              simp only [needs, Region.binds, reduceCtorEq, Bool.false_eq_true, false_implies, true_and, and_true, true_implies, forall_const] at hn
              simp only [lput, List.set, hn, cond_true]
              have hH := hJ; clear hJ
              have c0 : w1.cell? ⟨w.heap.size, 1 + ka * 10 + kb, none⟩ = some (.int .u8 v) := by rw [hH.c0, Nat.add_assoc, sqc_get _ _ _ (by omega), Hv.out]
              have c1 : w1.cell? ⟨w.heap.size + 1, 1 + kc * 10 + kd, none⟩ = some (.int .u8 u) := by rw [hH.c1, Nat.add_assoc, sqc_get _ _ _ (by omega), Hu.out]
              have ia := HP.out.ia
              have ib := HP.out.ib
              have ic := HP.out.ic
              have idd := HP.out.id
              go_wp2_with (first | fail)
              first
                | (refine ⟨(), ?_, hH⟩; (simp [lput, done, hn, ia, ib, ic, idd]; done))
                | (refine ⟨?_, hH⟩; (simp [lput, done, hn, ia, ib, ic, idd]; done))
                | (refine ⟨(), ?_, hH⟩; (simp [lput, done, hn, ia, ib, ic, idd]; rfl))
                | (refine ⟨?_, hH⟩; (simp [lput, done, hn, ia, ib, ic, idd]; rfl))
                | (refine ⟨(), ?_, hH⟩; (simp [lput, done, ia, ib, ic, idd]; done))
                | (refine ⟨?_, hH⟩; (simp [lput, done, ia, ib, ic, idd]; done))
                | (refine ⟨(), ?_, hH⟩; (simp [lput, done, ia, ib, ic, idd]; rfl))
                | (refine ⟨?_, hH⟩; (simp [lput, done, ia, ib, ic, idd]; rfl))
          case hq_dp =>
            clear hH
            intro d _ w1 hd hJ
            simp only [allDone, List.length_cons, List.length_nil, Nat.reduceAdd, and_true] at hd
            have hH := hJ; clear hJ
            simp only [lput, List.set, hd, cond_true]
            clear hd
            have c3' : w1.cell? ⟨w.heap.size + 1 + 1 + 1, 1 + k * 10 + j, none⟩ = some (.int .u8 (fillT K (dpV M g h) k j (k * 10 + j)).toNat) := by rw [hH.c3, Nat.add_assoc, sqc_get _ _ _ (by omega)]
            have f3' : w1.frozen? ⟨w.heap.size + 1 + 1 + 1, 1 + k * 10 + j, none⟩ = false := hH.f3 _
            go_wp2
            go_roundw
            case rel => exact ⟨j + 1, by omega, by go_num, hH.s3 _ _ (by rw [Nat.add_assoc]; exact sqc_setv _ _ _ _ _ (dpV M g h k j) (dpV_int HV.out HU.out (by omega)) (fun i _ => fillT_step K (dpV M g h) k j hj10 i))⟩
            case measure => simp [intOf]; omega
        · obtain rfl : j = K := by omega
          go_wp2
          go_roundw
          case rel => exact ⟨k + 1, by omega, by go_num, by rw [fillT_row]; exact hH⟩
          case measure => simp [intOf]; omega
    · obtain rfl : k = K := by omega
      go_wp2_with (first | (refine wpL_loadFull rfl rfl rfl rowSq hH.h3 (sqc_size _ _) ?_) | (refine wpL_storeFull rfl rfl rfl rfl rowSq hH.h2 (sqc_size _ _) (sqc_ok _ _) ?_))
      exact ret_c rfl rfl hH.r2.h2 rowSq (sqc_size _ _) ⟨rfl, hH.r2.below⟩
end Go.Proofs.Ytcmedefgpiegbaa
