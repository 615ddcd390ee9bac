/- Proved: what the program's function that makes the quotients of a square returns. Conditions: those that each theorem names. -/
import Derived.Test.YtbhjbllgmenbaaaPa1
import Derived.Test.YtbhjbllgmenbaaaSq1
namespace Go.Proofs.Ytbhjbllgmenbaaa
set_option linter.unusedVariables false
set_option linter.unusedSimpArgs false
open Go.RowKit
/-- What divide gives: a block of its own with the square and its quotients. -/
def Dvd (N : Nat) (g : Nat → UInt8) (w : World) (e : Ending) (w' : World) : Prop := ∃ gb, e = .returned (.pointer (some ⟨gb, 0, none⟩)) ∧ Below w.heap.size w w' ∧ holds w' gb (dvc N g (unF g N) (ovF g N)) 140 ∧ w.heap.size ≤ gb
set_option maxRecDepth 20000 in
set_option maxHeartbeats 4000000 in
theorem divide_any (N : Nat) (g : Nat → UInt8) (w : World) (hq : IsSq N g) :
    Calls Try.prog 84 #[.agg (sqc N g)] w (Dvd N g w) := by
  have h10 := hq.hi
  have hN2 : (N : Int) ≤ 10 := by omega
  have HQ := hid hq
  have hd1 := hid (unS_done hq N)
  have hd2 := hid (ovS_done hq N)
  clear hq
  have hS := Has.start1 w (sqc N g) 29
  have s0 := hS.c0 0
  rw [sqc_get0] at s0
  have hH := Has.start2 w (sqc N g) (dvc N g (fun _ => 0) (fun _ => 0)) 29 140
  have s1 := hH.c0 0
  rw [sqc_get0] at s1
  go_enter Try.func84, Try.ntmps84
  go_wp2_with (first | (refine wpL_loadFull rfl rfl rfl rowSq hS.h0 (sqc_size _ _) ?_) | (refine wpL_build1 rfl rfl rfl (builtSqO _) ?_) | (refine wpL_bu3 (T := 140) rfl (by rfl) (by rfl) (by rfl) (by rfl) (builtDv _ _ _ _) ?_))
  clear s0 s1 hS
  go_loopw [19] (fun i wr => ∃ k : Nat, k ≤ N ∧ i = .int .u8 k ∧ Has w wr [(sqc N g, 29), (dvc N g (unS g N k 0) (ovS g N k 0), 140)]) (fun i _ => 10 - (intOf i).toNat)
  case atStart => exact ⟨0, by omega, rfl, by rw [unS_zero, ovS_zero]; exact hH⟩
  case round =>
    clear hH
    obtain ⟨k, hk, rfl, hH⟩ := hrel
    have c0 : wr.cell? ⟨w.heap.size, 0, none⟩ = some (.int .i64 N) := by rw [hH.c0, sqc_get0]
    by_cases hlt : k < N
    · have hk10 : k < 10 := by omega
      have hk1 : (k : Int) < 10 := by omega
      go_wp2
      clear c0
      go_loopw [25] (fun i wr => ∃ j : Nat, j ≤ N ∧ i = .int .u8 j ∧ Has w wr [(sqc N g, 29), (dvc N g (unS g N k j) (ovS g N k j), 140)]) (fun i _ => 10 - (intOf i).toNat)
      case atStart => exact ⟨0, by omega, rfl, hH⟩
      case round =>
        clear hH
        obtain ⟨j, hj, rfl, hH⟩ := hrel
        by_cases hlt2 : j < N
        · have hj10 : j < 10 := by omega
          have hj1 : (j : Int) < 10 := by omega
          obtain ⟨kv, hkv⟩ : ∃ kv, (g (k * 10 + j)).toNat = kv := ⟨_, rfl⟩
          have bv := (HQ.out.rows k hlt).lt j hlt2
          change (g (k * 10 + j)).toNat < N at bv
          rw [hkv] at bv
          have bv' : (kv : Int) < 10 := by omega
          have bv10 : kv < 10 := by omega
          have hs1 : ∀ i, i < 100 → unS g N k (j + 1) i = if i = k * 10 + kv then UInt8.ofNat j else unS g N k j i := fun i hi => by rw [unS_step HQ.out hlt hlt2 i, hkv]
          have hs2 : ∀ i, i < 100 → ovS g N k (j + 1) i = if i = kv * 10 + j then UInt8.ofNat k else ovS g N k j i := fun i hi => by rw [ovS_step HQ.out hlt hlt2 i, hkv]
          have HS1 := hid hs1
          have HS2 := hid hs2
          have hj' : Value.int .u8 (j : Int) = .int .u8 (UInt8.ofNat j).toNat := by rw [u8_of _ (by omega)]
          have hk' : Value.int .u8 (k : Int) = .int .u8 (UInt8.ofNat k).toNat := by rw [u8_of _ (by omega)]
          have HJ := hid hj'
          have HK := hid hk'
          have ca : wr.cell? ⟨w.heap.size, 1 + k * 10 + j, none⟩ = some (.int .u8 kv) := by rw [hH.c0, Nat.add_assoc, sqc_get _ _ _ (by omega), hkv]
          clear hs1 hs2 hkv hj' hk'
          go_wp2
          clear ca
          refine wp_region_frame (X := Unit) (fun d _ => [(34, bif d 0 then .pointer (some ⟨w.heap.size + 1, 0, none⟩) else u34), (35, bif d 1 then .int .u8 k else u35), (36, bif d 2 then .int .u8 kv else u36), (37, bif d 3 then .pointer (some ⟨w.heap.size + 1, 0, none⟩) else u37), (38, bif d 4 then .int .u8 kv else u38), (39, bif d 5 then .int .u8 j else u39), (40, bif d 6 then .int .u8 j else u40), (41, bif d 7 then .int .u8 k else u41), (42, bif d 8 then .pointer (some ⟨w.heap.size + 1, 0, none⟩) else u42), (43, bif d 9 then .pointer (some ⟨w.heap.size + 1, 101, none⟩) else u43), (44, bif d 10 then .pointer (some ⟨w.heap.size + 1, 102, none⟩) else u44), (45, bif d 11 then .pointer (some ⟨w.heap.size + 1, 102 + k * 10, none⟩) else u45), (46, bif d 12 then .pointer (some ⟨w.heap.size + 1, 102 + k * 10 + kv, none⟩) else u46), (47, bif d 14 then .pointer (some ⟨w.heap.size + 1, 0, none⟩) else u47), (48, bif d 15 then .pointer (some ⟨w.heap.size + 1, 202, none⟩) else u48), (49, bif d 16 then .pointer (some ⟨w.heap.size + 1, 203, none⟩) else u49), (50, bif d 17 then .pointer (some ⟨w.heap.size + 1, 203 + kv * 10, none⟩) else u50), (51, bif d 18 then .pointer (some ⟨w.heap.size + 1, 203 + kv * 10 + j, none⟩) else u51)])
            (fun d _ w' => Has w w' [(sqc N g, 29), (dvc N g (bif d 13 then unS g N k (j + 1) else unS g N k j) (bif d 19 then ovS g N k (j + 1) else ovS g N k j), 140)]) (by kernel_rfl) (by kernel_rfl) ?h0_dv ?hs_dv ?hq_dv
          case h0_dv => exact ⟨(), (by simp [lput]), hH.drew⟩
          case hs_dv =>
            refine ⟨?_, ?_, ?_, ?_, ?_, ?_, ?_, ?_, ?_, ?_, ?_, ?_, ?_, ?_, ?_, ?_, ?_, ?_, ?_, ?_, trivial⟩
            all_goals
              clear hH
              intro d _ w1 hd hn hJ
              simp only [needs, Region.binds, reduceCtorEq, Bool.false_eq_true, false_implies, true_and, and_true, true_implies, forall_const] at hn
              simp only [lput, List.set, hn, cond_true]
              try simp only [hd, cond_false] at hJ
              have hH := hJ; clear hJ
              obtain ⟨v1, c1⟩ : ∃ v : Int, w1.cell? ⟨w.heap.size + 1, 102 + k * 10 + kv, none⟩ = some (.int .u8 v) := ⟨_, by rw [hH.c1, Nat.add_assoc, dvc_byte1 _ _ _ _ _ (by omega)]⟩
              obtain ⟨v2, c2⟩ : ∃ v : Int, w1.cell? ⟨w.heap.size + 1, 203 + kv * 10 + j, none⟩ = some (.int .u8 v) := ⟨_, by rw [hH.c1, Nat.add_assoc, dvc_byte2 _ _ _ _ _ (by omega)]⟩
              have f1 := hH.f1
              go_wp2_with (first | fail)
              first
                | (refine ⟨(), ?_, hH.s1 _ _ (by rw [show 102 + k * 10 + kv = 101 + (1 + (k * 10 + kv)) by omega]; exact dvc_set1 _ _ _ _ _ _ _ _ HJ.out (by omega) HS1.out)⟩; (simp [lput, done, hn]; done))
                | (refine ⟨?_, hH.s1 _ _ (by rw [show 102 + k * 10 + kv = 101 + (1 + (k * 10 + kv)) by omega]; exact dvc_set1 _ _ _ _ _ _ _ _ HJ.out (by omega) HS1.out)⟩; (simp [lput, done, hn]; done))
                | (refine ⟨(), ?_, hH.s1 _ _ (by rw [show 203 + kv * 10 + j = 202 + (1 + (kv * 10 + j)) by omega]; exact dvc_set2 _ _ _ _ _ _ _ _ HK.out (by omega) HS2.out)⟩; (simp [lput, done, hn]; done))
                | (refine ⟨?_, hH.s1 _ _ (by rw [show 203 + kv * 10 + j = 202 + (1 + (kv * 10 + j)) by omega]; exact dvc_set2 _ _ _ _ _ _ _ _ HK.out (by omega) HS2.out)⟩; (simp [lput, done, hn]; done))
                | (refine ⟨(), ?_, hH⟩; (simp [lput, done, hn]; done))
                | (refine ⟨?_, hH⟩; (simp [lput, done, hn]; done))
                | (refine ⟨(), ?_, hH⟩; (simp [lput, done, hn]; rfl))
                | (refine ⟨?_, hH⟩; (simp [lput, done, hn]; rfl))
                | (refine ⟨(), ?_, hH⟩; (simp [lput, done]; done))
                | (refine ⟨?_, hH⟩; (simp [lput, done]; done))
                | (refine ⟨(), ?_, hH⟩; (simp [lput, done]; rfl))
                | (refine ⟨?_, hH⟩; (simp [lput, done]; rfl))
          case hq_dv =>
            clear hH
            intro d _ w1 hd hJ
            simp only [allDone, List.length_cons, List.length_nil, Nat.reduceAdd, and_true] at hd
            have hH := hJ; clear hJ
            simp only [hd, cond_true] at hH
            simp only [lput, List.set, hd, cond_true]
            clear hd
            go_wp2
            go_roundw
            case rel => exact ⟨j + 1, by omega, by go_num, hH⟩
            case measure => simp [intOf]; omega
        · obtain rfl : j = N := by omega
          have hr1 := hid (unS_row g j k)
          have hr2 := hid (ovS_row g j k)
          go_wp2
          go_roundw
          case rel => exact ⟨k + 1, by omega, by go_num, by rw [hr1.out, hr2.out]; exact hH⟩
          case measure => simp [intOf]; omega
    · obtain rfl : k = N := by omega
      have hend : dvc k g (unS g k k 0) (ovS g k k 0) = dvc k g (unF g k) (ovF g k) := by unfold dvc; rw [hd1.out, hd2.out]
      rw [hend] at hH
      have HE := hid hH
      go_wp2
      go_ret
      exact ⟨_, rfl, HE.out.below, HE.out.h1, by omega⟩
end Go.Proofs.Ytbhjbllgmenbaaa
