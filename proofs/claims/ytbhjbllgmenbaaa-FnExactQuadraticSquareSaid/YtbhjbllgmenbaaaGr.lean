/- Proved: what the program's IsGroup returns. Conditions: none. -/
import Derived.Test.YtbhjbllgmenbaaaGr1
namespace Go.Proofs.Ytbhjbllgmenbaaa
set_option linter.unusedVariables false
set_option linter.unusedSimpArgs false
open Go.RowKit
theorem groupB_noloop {o : Int} {g : Nat → UInt8} (h : loopB o g = false) : groupB o g = false := by simp [groupB, h]
theorem groupB_loop {o : Int} {g : Nat → UInt8} (h : loopB o g = true) : groupB o g = ascB o g := by simp [groupB, h]
set_option maxRecDepth 20000 in
set_option maxHeartbeats 4000000 in
theorem IsGroup_noloop (o : Int) (g : Nat → UInt8) (w : World) (hs : loopB o g = false) :
    Calls Try.prog 123 #[.agg (sqc o g)] w fun e w' => e = .returned (.bool (groupB o g)) ∧ Below w.heap.size w w' := by
  have hq := hid (groupB_noloop hs)
  have hH := Has.start1 w (sqc o g) 29
  go_enter Try.func123, Try.ntmps123
  go_wp2_with (first | (refine wpL_loadFull rfl rfl rfl rowSq hH.h0 (sqc_size _ _) ?_) | (go_at_call 118; refine (IsLoop_any o g _).mono ?_; rintro e w2 ⟨rfl, hb⟩; replace hH := hH.call' hb; rw [hs]))
  go_ret
  exact ⟨by rw [hq.out]; rfl, hH.below⟩
set_option maxRecDepth 20000 in
set_option maxHeartbeats 4000000 in
theorem IsGroup_loop (N : Nat) (g : Nat → UInt8) (w : World) (h1 : 1 ≤ N) (h10 : N ≤ 10) (hs : sqB (N : Int) g = true) (hl : loopB (N : Int) g = true) :
    Calls Try.prog 123 #[.agg (sqc N g)] w fun e w' => e = .returned (.bool (ascB N g)) ∧ Below w.heap.size w w' := by
  have hN1 : 1 ≤ (N : Int) := by omega
  have hN2 : (N : Int) ≤ 10 := by omega
  have hH := Has.start1 w (sqc N g) 29
  go_enter Try.func123, Try.ntmps123
  go_wp2_with (first | (refine wpL_loadFull rfl rfl rfl rowSq hH.h0 (sqc_size _ _) ?_) | (go_at_call 118; refine (IsLoop_any N g _).mono ?_; rintro e w2 ⟨rfl, hb⟩; replace hH := hH.call' hb; rw [hl]; have c0 := hH.c0))
  clear c0
  go_loopw [11] (fun i wr => ∃ x : Nat, x ≤ N ∧ i = .int .i64 x ∧ Has w wr [(sqc N g, 29)] ∧ Hid (ascTo g N x 0 0)) (fun i _ => 10 - (intOf i).toNat)
  case atStart => exact ⟨0, by omega, rfl, hH, hid (ascTo.start g N)⟩
  case round =>
    clear hH
    obtain ⟨x, hx, rfl, hH, hU⟩ := hrel
    have c0 := hH.c0
    by_cases hltx : x < N
    · have hx1 : (x : Int) < 10 := by omega
      obtain ⟨wo, hwo⟩ : ∃ wo : World, wo = wr := ⟨_, rfl⟩
      subst hwo
      go_wp2
      clear c0
      go_loopw [16] (fun i wr => ∃ y : Nat, y ≤ N ∧ i = .int .i64 y ∧ Has w wr [(sqc N g, 29)] ∧ Hid (ascTo g N x y 0)) (fun i _ => 10 - (intOf i).toNat)
      case atStart => exact ⟨0, by omega, rfl, hH, hU⟩
      case round =>
        clear hH hU
        obtain ⟨y, hy, rfl, hH, hU⟩ := hrel
        have c0 := hH.c0
        by_cases hlty : y < N
        · have hy1 : (y : Int) < 10 := by omega
          obtain ⟨wo, hwo⟩ : ∃ wo : World, wo = wr := ⟨_, rfl⟩
          subst hwo
          go_wp2
          clear c0
          go_loopw [21] (fun i wr => ∃ z : Nat, z ≤ N ∧ i = .int .i64 z ∧ Has w wr [(sqc N g, 29)] ∧ Hid (ascTo g N x y z)) (fun i _ => 10 - (intOf i).toNat)
          case atStart => exact ⟨0, by omega, rfl, hH, hU⟩
          case round =>
            clear hH hU
            obtain ⟨z, hz, rfl, hH, hU⟩ := hrel
            have c0 := hH.c0
            by_cases hltz : z < N
            · have hz1 : (z : Int) < 10 := by omega
              have hP : ((g (x * 10 + y)).toNat : Int) < 10 := by have := sq_lt hs hltx hlty; omega
              have hR : ((g (y * 10 + z)).toNat : Int) < 10 := by have := sq_lt hs hlty hltz; omega
              by_cases e : asg g x y z
              · have e' : ((g ((g (x * 10 + y)).toNat * 10 + z)).toNat : Int) = ((g (x * 10 + (g (y * 10 + z)).toNat)).toNat : Int) := by rw [show g ((g (x * 10 + y)).toNat * 10 + z) = _ from e]
                have hU' := hid (hU.out.stepz e)
                clear e hU
                go_wp2
                clear c0
                refine wp_region_frame (X := Unit) (fun d _ => [(24, bif d 0 then .int .i64 x else u24), (25, bif d 1 then .int .i64 y else u25), (26, bif d 2 then .pointer (some ⟨w.heap.size, 1, none⟩) else u26), (27, bif d 3 then .pointer (some ⟨w.heap.size, 1 + x * 10, none⟩) else u27), (28, bif d 4 then .pointer (some ⟨w.heap.size, 1 + x * 10 + y, none⟩) else u28), (29, bif d 5 then .int .u8 (g (x * 10 + y)).toNat else u29), (30, bif d 6 then .int .i64 z else u30), (31, bif d 7 then .pointer (some ⟨w.heap.size, 1, none⟩) else u31), (32, bif d 8 then .pointer (some ⟨w.heap.size, 1 + (g (x * 10 + y)).toNat * 10, none⟩) else u32), (33, bif d 9 then .pointer (some ⟨w.heap.size, 1 + (g (x * 10 + y)).toNat * 10 + z, none⟩) else u33), (34, bif d 10 then .int .u8 (g ((g (x * 10 + y)).toNat * 10 + z)).toNat else u34), (35, bif d 11 then .int .i64 x else u35), (36, bif d 12 then .int .i64 y else u36), (37, bif d 13 then .int .i64 z else u37), (38, bif d 14 then .pointer (some ⟨w.heap.size, 1, none⟩) else u38), (39, bif d 15 then .pointer (some ⟨w.heap.size, 1 + y * 10, none⟩) else u39), (40, bif d 16 then .pointer (some ⟨w.heap.size, 1 + y * 10 + z, none⟩) else u40), (41, bif d 17 then .int .u8 (g (y * 10 + z)).toNat else u41), (42, bif d 18 then .pointer (some ⟨w.heap.size, 1, none⟩) else u42), (43, bif d 19 then .pointer (some ⟨w.heap.size, 1 + x * 10, none⟩) else u43), (44, bif d 20 then .pointer (some ⟨w.heap.size, 1 + x * 10 + (g (y * 10 + z)).toNat, none⟩) else u44), (45, bif d 21 then .int .u8 (g (x * 10 + (g (y * 10 + z)).toNat)).toNat else u45), (46, bif d 22 then .bool false else u46)])
                  (fun _ _ w' => Has w w' [(sqc N g, 29)]) (by kernel_rfl) (by kernel_rfl) ?h0_as1 ?hs_as1 ?hq_as1
                case h0_as1 => exact ⟨(), (by simp [lput]), hH.drew⟩
                case hs_as1 =>
                  refine ⟨?_, ?_, ?_, ?_, ?_, ?_, ?_, ?_, ?_, ?_, ?_, ?_, ?_, ?_, ?_, ?_, ?_, ?_, ?_, ?_, ?_, ?_, ?_, trivial⟩
                  all_goals
                    clear hH
                    intro d _ w1 hd hn hH
                    simp only [needs, Region.binds, reduceCtorEq, Bool.false_eq_true, false_implies, true_and, and_true, true_implies, forall_const] at hn
                    simp only [lput, List.set, hn, cond_true]
                    have ca : w1.cell? ⟨w.heap.size, 1 + x * 10 + y, none⟩ = some (.int .u8 (g (x * 10 + y)).toNat) := by rw [hH.c0, Nat.add_assoc, sqc_get _ _ _ (by omega)]
                    have cb : w1.cell? ⟨w.heap.size, 1 + (g (x * 10 + y)).toNat * 10 + z, none⟩ = some (.int .u8 (g ((g (x * 10 + y)).toNat * 10 + z)).toNat) := by rw [hH.c0, Nat.add_assoc, sqc_get _ _ _ (by omega)]
                    have cc : w1.cell? ⟨w.heap.size, 1 + y * 10 + z, none⟩ = some (.int .u8 (g (y * 10 + z)).toNat) := by rw [hH.c0, Nat.add_assoc, sqc_get _ _ _ (by omega)]
                    have cd : w1.cell? ⟨w.heap.size, 1 + x * 10 + (g (y * 10 + z)).toNat, none⟩ = some (.int .u8 (g (x * 10 + (g (y * 10 + z)).toNat)).toNat) := by rw [hH.c0, Nat.add_assoc, sqc_get _ _ _ (by omega)]
                    go_wp2_with (fail)
                    first
                      | (refine ⟨(), ?_, hH⟩; solve | (simp [lput, done, hn]; done) | (simp [lput, done, hn]; exact e') | (simp [lput, done, hn, e']; done) | (simp [lput, done, hn]; omega))
                      | (refine ⟨?_, hH⟩; solve | (simp [lput, done, hn]; done) | (simp [lput, done, hn]; exact e'))
                case hq_as1 =>
                  clear hH
                  intro d _ w1 hd hH
                  simp only [allDone, List.length_cons, List.length_nil, Nat.reduceAdd, and_true] at hd
                  simp only [lput, List.set, hd, cond_true]
                  clear hd
                  go_wp2
                  go_roundw
                  case rel => exact ⟨z + 1, by omega, by go_num, hH, hU'⟩
                  case measure => simp [intOf]; omega
              · have e' : ¬ ((g ((g (x * 10 + y)).toNat * 10 + z)).toNat : Int) = ((g (x * 10 + (g (y * 10 + z)).toNat)).toNat : Int) := fun h => e (UInt8.toNat_inj.1 (by omega))
                have hq := hid (ascB_no hltx hlty hltz e)
                clear e hU
                go_wp2
                clear c0
                refine wp_region_frame (X := Unit) (fun d _ => [(24, bif d 0 then .int .i64 x else u24), (25, bif d 1 then .int .i64 y else u25), (26, bif d 2 then .pointer (some ⟨w.heap.size, 1, none⟩) else u26), (27, bif d 3 then .pointer (some ⟨w.heap.size, 1 + x * 10, none⟩) else u27), (28, bif d 4 then .pointer (some ⟨w.heap.size, 1 + x * 10 + y, none⟩) else u28), (29, bif d 5 then .int .u8 (g (x * 10 + y)).toNat else u29), (30, bif d 6 then .int .i64 z else u30), (31, bif d 7 then .pointer (some ⟨w.heap.size, 1, none⟩) else u31), (32, bif d 8 then .pointer (some ⟨w.heap.size, 1 + (g (x * 10 + y)).toNat * 10, none⟩) else u32), (33, bif d 9 then .pointer (some ⟨w.heap.size, 1 + (g (x * 10 + y)).toNat * 10 + z, none⟩) else u33), (34, bif d 10 then .int .u8 (g ((g (x * 10 + y)).toNat * 10 + z)).toNat else u34), (35, bif d 11 then .int .i64 x else u35), (36, bif d 12 then .int .i64 y else u36), (37, bif d 13 then .int .i64 z else u37), (38, bif d 14 then .pointer (some ⟨w.heap.size, 1, none⟩) else u38), (39, bif d 15 then .pointer (some ⟨w.heap.size, 1 + y * 10, none⟩) else u39), (40, bif d 16 then .pointer (some ⟨w.heap.size, 1 + y * 10 + z, none⟩) else u40), (41, bif d 17 then .int .u8 (g (y * 10 + z)).toNat else u41), (42, bif d 18 then .pointer (some ⟨w.heap.size, 1, none⟩) else u42), (43, bif d 19 then .pointer (some ⟨w.heap.size, 1 + x * 10, none⟩) else u43), (44, bif d 20 then .pointer (some ⟨w.heap.size, 1 + x * 10 + (g (y * 10 + z)).toNat, none⟩) else u44), (45, bif d 21 then .int .u8 (g (x * 10 + (g (y * 10 + z)).toNat)).toNat else u45), (46, bif d 22 then .bool true else u46)])
                  (fun _ _ w' => Has w w' [(sqc N g, 29)]) (by kernel_rfl) (by kernel_rfl) ?h0_as2 ?hs_as2 ?hq_as2
                case h0_as2 => exact ⟨(), (by simp [lput]), hH.drew⟩
                case hs_as2 =>
                  refine ⟨?_, ?_, ?_, ?_, ?_, ?_, ?_, ?_, ?_, ?_, ?_, ?_, ?_, ?_, ?_, ?_, ?_, ?_, ?_, ?_, ?_, ?_, ?_, trivial⟩
                  all_goals
                    clear hH
                    intro d _ w1 hd hn hH
                    simp only [needs, Region.binds, reduceCtorEq, Bool.false_eq_true, false_implies, true_and, and_true, true_implies, forall_const] at hn
                    simp only [lput, List.set, hn, cond_true]
                    have ca : w1.cell? ⟨w.heap.size, 1 + x * 10 + y, none⟩ = some (.int .u8 (g (x * 10 + y)).toNat) := by rw [hH.c0, Nat.add_assoc, sqc_get _ _ _ (by omega)]
                    have cb : w1.cell? ⟨w.heap.size, 1 + (g (x * 10 + y)).toNat * 10 + z, none⟩ = some (.int .u8 (g ((g (x * 10 + y)).toNat * 10 + z)).toNat) := by rw [hH.c0, Nat.add_assoc, sqc_get _ _ _ (by omega)]
                    have cc : w1.cell? ⟨w.heap.size, 1 + y * 10 + z, none⟩ = some (.int .u8 (g (y * 10 + z)).toNat) := by rw [hH.c0, Nat.add_assoc, sqc_get _ _ _ (by omega)]
                    have cd : w1.cell? ⟨w.heap.size, 1 + x * 10 + (g (y * 10 + z)).toNat, none⟩ = some (.int .u8 (g (x * 10 + (g (y * 10 + z)).toNat)).toNat) := by rw [hH.c0, Nat.add_assoc, sqc_get _ _ _ (by omega)]
                    go_wp2_with (fail)
                    first
                      | (refine ⟨(), ?_, hH⟩; solve | (simp [lput, done, hn]; done) | (simp [lput, done, hn]; exact e') | (simp [lput, done, hn, e']; done) | (simp [lput, done, hn]; omega))
                      | (refine ⟨?_, hH⟩; solve | (simp [lput, done, hn]; done) | (simp [lput, done, hn]; exact e'))
                case hq_as2 =>
                  clear hH
                  intro d _ w1 hd hH
                  simp only [allDone, List.length_cons, List.length_nil, Nat.reduceAdd, and_true] at hd
                  simp only [lput, List.set, hd, cond_true]
                  clear hd
                  go_wp2
                  go_ret
                  exact ⟨by rw [hq.out]; rfl, hH.below⟩
            · obtain rfl : z = N := by omega
              have hU' := hid hU.out.stepy
              go_wp2
              go_roundw
              case rel => exact ⟨y + 1, by omega, by go_num, hH, hU'⟩
              case measure => simp [intOf]; omega
        · obtain rfl : y = N := by omega
          have hU' := hid hU.out.stepx
          go_wp2
          go_roundw
          case rel => exact ⟨x + 1, by omega, by go_num, hH, hU'⟩
          case measure => simp [intOf]; omega
    · obtain rfl : x = N := by omega
      have hq := hid (ascB_yes hU.out)
      go_wp2
      go_ret
      exact ⟨by rw [hq.out]; rfl, hH.below⟩
theorem IsGroup_any (o : Int) (g : Nat → UInt8) (w : World) :
    Calls Try.prog 123 #[.agg (sqc o g)] w fun e w' => e = .returned (.bool (groupB o g)) ∧ Below w.heap.size w w' := by
  cases hs : loopB o g with
  | false => exact IsGroup_noloop o g w hs
  | true =>
    have hq := loopB_sq hs
    obtain ⟨h1, h10⟩ := sqB_range hq
    obtain ⟨N, rfl⟩ := Int.eq_ofNat_of_zero_le (show 0 ≤ o by omega)
    rw [groupB_loop hs]
    exact IsGroup_loop N g w (by omega) (by omega) hq hs
end Go.Proofs.Ytbhjbllgmenbaaa
