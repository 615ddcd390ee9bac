/- Proved: what the model's l03Apply, l03Parastrophe and ParastropheOf return. Conditions: those that each theorem names. -/
import Derived.Test.YtfkmhephabmolaaPa0
import Derived.Test.YtfkmhephabmolaaSq1
import Derived.Test.YtfkmhephabmolaaSq3b
namespace Go.Proofs.Ytfkmhephabmolaa
set_option linter.unusedVariables false
set_option linter.unusedSimpArgs false
open Go.RowKit
theorem l01Left_nat (N x z : Nat) (g : Nat → UInt8) (w : World) (hq : IsSq N g) (hx : x < N) (hz : z < N) :
    Calls Try.prog 79 #[.agg (sqc N g), .int .u8 x, .int .u8 z] w fun e w' => e = .returned (.int .u8 (backF (rowF g x) N z).toNat) ∧ Below w.heap.size w w' := by
  have h10 := hq.hi
  have e1 := u8_of x (by omega)
  have e2 := u8_of z (by omega)
  have := l01Left_any N g (UInt8.ofNat x) (UInt8.ofNat z) w hq (by omega) (by omega)
  rwa [e1, e2] at this
theorem l01Right_nat (N z y : Nat) (g : Nat → UInt8) (w : World) (hq : IsSq N g) (hz : z < N) (hy : y < N) :
    Calls Try.prog 78 #[.agg (sqc N g), .int .u8 z, .int .u8 y] w fun e w' => e = .returned (.int .u8 (backF (colF g y) N z).toNat) ∧ Below w.heap.size w w' := by
  have h10 := hq.hi
  have e1 := u8_of z (by omega)
  have e2 := u8_of y (by omega)
  have := l01Right_any N g (UInt8.ofNat z) (UInt8.ofNat y) w hq (by omega) (by omega)
  rwa [e1, e2] at this
set_option maxRecDepth 20000 in
theorem l03Apply_42 (N a b : Nat) (g : Nat → UInt8) (w : World) (hq : IsSq N g) (ha : a < N) (hb : b < N) :
    Calls Try.prog 72 #[.agg (sqc N g), .int .u8 42, .int .u8 a, .int .u8 b] w fun e w' => e = .returned (.int .u8 (g (a * 10 + b)).toNat) ∧ Below w.heap.size w w' := by
  have h10 := hq.hi
  have HQ := hid hq
  have ha1 : (a : Int) < 10 := by omega
  have hb1 : (b : Int) < 10 := by omega
  have hH := Has.start1 w (sqc N g) 30
  have ca := hH.c0 (1 + a * 10 + b)
  rw [Nat.add_assoc, sqc_get _ _ _ (by omega), ← Nat.add_assoc] at ca
  clear hq
  go_enter Try.func72, Try.ntmps72
  go_wp2_with (first | fail | (refine wpL_loadFull rfl rfl rfl rowSq hH.h0 (sqc_size _ _) ?_))
  go_ret
  exact ⟨rfl, hH.below⟩
set_option maxRecDepth 20000 in
theorem l03Apply_92 (N a b : Nat) (g : Nat → UInt8) (w : World) (hq : IsSq N g) (ha : a < N) (hb : b < N) :
    Calls Try.prog 72 #[.agg (sqc N g), .int .u8 92, .int .u8 a, .int .u8 b] w fun e w' => e = .returned (.int .u8 (backF (rowF g a) N b).toNat) ∧ Below w.heap.size w w' := by
  have h10 := hq.hi
  have HQ := hid hq
  have ha1 : (a : Int) < 10 := by omega
  have hb1 : (b : Int) < 10 := by omega
  have hH := Has.start1 w (sqc N g) 30
  have ca := hH.c0 (1 + a * 10 + b)
  rw [Nat.add_assoc, sqc_get _ _ _ (by omega), ← Nat.add_assoc] at ca
  clear hq
  go_enter Try.func72, Try.ntmps72
  go_wp2_with (first | fail | (refine wpL_loadFull rfl rfl rfl rowSq hH.h0 (sqc_size _ _) ?_) | (go_at_call 79; refine (l01Left_nat N a b g _ HQ.out ha hb).mono ?_; rintro e w2 ⟨rfl, hw⟩; replace hH := hH.call' hw; clear hw))
  go_ret
  exact ⟨rfl, hH.below⟩
set_option maxRecDepth 20000 in
theorem l03Apply_47 (N a b : Nat) (g : Nat → UInt8) (w : World) (hq : IsSq N g) (ha : a < N) (hb : b < N) :
    Calls Try.prog 72 #[.agg (sqc N g), .int .u8 47, .int .u8 a, .int .u8 b] w fun e w' => e = .returned (.int .u8 (backF (colF g b) N a).toNat) ∧ Below w.heap.size w w' := by
  have h10 := hq.hi
  have HQ := hid hq
  have ha1 : (a : Int) < 10 := by omega
  have hb1 : (b : Int) < 10 := by omega
  have hH := Has.start1 w (sqc N g) 30
  have ca := hH.c0 (1 + a * 10 + b)
  rw [Nat.add_assoc, sqc_get _ _ _ (by omega), ← Nat.add_assoc] at ca
  clear hq
  go_enter Try.func72, Try.ntmps72
  go_wp2_with (first | fail | (refine wpL_loadFull rfl rfl rfl rowSq hH.h0 (sqc_size _ _) ?_) | (go_at_call 78; refine (l01Right_nat N a b g _ HQ.out ha hb).mono ?_; rintro e w2 ⟨rfl, hw⟩; replace hH := hH.call' hw; clear hw))
  go_ret
  exact ⟨rfl, hH.below⟩
def opsC : Array Value := #[.int .u8 42, .int .u8 42, .int .u8 92, .int .u8 47, .int .u8 92, .int .u8 47]
set_option maxRecDepth 20000 in
set_option maxHeartbeats 4000000 in
theorem l03Para_0 (N : Nat) (g : Nat → UInt8) (w : World) (hq : IsSq N g) :
    Calls Try.prog 49 #[.agg (sqc N g), .int .i64 0] w fun e w' => e = .returned (.agg (sqc N (paF g N 0))) ∧ Below w.heap.size w w' := by
  have h10 := hq.hi
  have HQ := hid hq
  have hN2 : (N : Int) ≤ 10 := by omega
  clear hq
  have hS := Has.start4 w (sqc N g) (sqc 0 fun _ => 0) opsC (sqc 0 fun _ => 0) 30 30 5 30
  have hH := hS.r3 (cs' := sqc N fun _ => 0)
  have s0 := (Has.start3 w (sqc N g) (sqc 0 fun _ => 0) opsC 30 30 5).c0 0
  rw [sqc_get0] at s0
  go_enter Try.func49, Try.ntmps49
  go_wp2_with (first | fail | (refine wpL_guard rfl rfl ?_) | (refine wpL_alloc rfl rfl zeroSq ?_; intro g hg; (try simp at hg); subst hg) | (refine wpL_build1 rfl rfl rfl (builtSqO _) ?_) | (refine wpL_storeFull rfl rfl rfl rfl rowSq hS.h3 (sqc_size _ _) (sqc_ok _ _) ?_; clear s0 hS))
  go_loopw [8] (fun i wr => ∃ x : Nat, x ≤ N ∧ i = .int .u8 x ∧ Has w wr [(sqc N g, 30), (sqc 0 (fun _ => 0), 30), (opsC, 5), (sqc N (fillT N (opV g N 0) x 0), 30)]) (fun i _ => 10 - (intOf i).toNat)
  case atStart => exact ⟨0, by omega, rfl, by rw [fillT_zero]; exact hH⟩
  case round =>
    clear hH
    obtain ⟨x, hx, rfl, hH⟩ := hrel
    have c0 := hH.c0 0
    rw [sqc_get0] at c0
    by_cases hlt : x < N
    · have hx10 : (x : Int) < 10 := by omega
      go_wp2
      clear c0
      go_loopw [9] (fun i wr => ∃ y : Nat, y ≤ N ∧ i = .int .u8 y ∧ Has w wr [(sqc N g, 30), (sqc 0 (fun _ => 0), 30), (opsC, 5), (sqc N (fillT N (opV g N 0) x y), 30)]) (fun i _ => 10 - (intOf i).toNat)
      case atStart => exact ⟨0, by omega, rfl, hH⟩
      case round =>
        clear hH
        obtain ⟨y, hy, rfl, hH⟩ := hrel
        have c0 := hH.c0 0
        rw [sqc_get0] at c0
        by_cases hlt2 : y < N
        · have hy10 : (y : Int) < 10 := by omega
          have hst : ∀ i, i < 100 → fillT N (opV g N 0) x (y + 1) i = if i = x * 10 + y then opV g N 0 x y else fillT N (opV g N 0) x y i := fun i _ => fillT_step N _ x y (by omega) i
          have HS := hid hst
          clear hst
          go_wp2
          clear c0
          refine wp_region_frame (X := Unit) (fun d _ => [(48, bif d 0 then .int .u8 x else u48), (49, bif d 1 then .int .u8 y else u49), (50, bif d 2 then .agg (sqc N g) else u50), (51, bif d 3 then .slice (some ⟨w.heap.size + 1 + 1, 0, none⟩) 6 6 else u51), (52, bif d 4 then .int .i64 0 else u52), (53, bif d 5 then .pointer (some ⟨w.heap.size + 1 + 1, 0, none⟩) else u53), (54, bif d 6 then .int .u8 42 else u54), (55, bif d 7 then .int .u8 x else u55), (56, bif d 8 then .int .u8 y else u56), (57, bif d 9 then .int .u8 (opV g N 0 x y).toNat else u57), (58, bif d 10 then .pointer (some ⟨w.heap.size + 1 + 1 + 1, 1, none⟩) else u58), (59, bif d 11 then .pointer (some ⟨w.heap.size + 1 + 1 + 1, 1 + x * 10, none⟩) else u59), (60, bif d 12 then .pointer (some ⟨w.heap.size + 1 + 1 + 1, 1 + x * 10 + y, none⟩) else u60)])
            (fun d _ w' => Has w w' [(sqc N g, 30), (sqc 0 (fun _ => 0), 30), (opsC, 5), (sqc N (bif d 13 then fillT N (opV g N 0) x (y + 1) else fillT N (opV g N 0) x y), 30)]) (by kernel_rfl) (by kernel_rfl) ?h0_pa ?hs_pa ?hq_pa
          case h0_pa => exact ⟨(), (by simp [lput]), hH.drew⟩
          case hs_pa =>
            refine ⟨?_, ?_, ?_, ?_, ?_, ?_, ?_, ?_, ?_, ?_, ?_, ?_, ?_, ?_, trivial⟩
            all_goals
              clear hH
              intro d _ w1 hd hn hJ
              simp only [needs, Region.binds, reduceCtorEq, Bool.false_eq_true, false_implies, true_and, and_true, true_implies, forall_const] at hn
              simp only [lput, List.set, hn, cond_true]
              try simp only [hd, cond_false] at hJ
              have hH := hJ; clear hJ
              have c2 : w1.cell? ⟨w.heap.size + 1 + 1, 0, none⟩ = some (.int .u8 42) := by rw [hH.c2]; rfl
              obtain ⟨v3, c3⟩ : ∃ v : Int, w1.cell? ⟨w.heap.size + 1 + 1 + 1, 1 + x * 10 + y, none⟩ = some (.int .u8 v) := ⟨_, by rw [hH.c3, Nat.add_assoc, sqc_get _ _ _ (by omega)]⟩
              have f3 : w1.frozen? ⟨w.heap.size + 1 + 1 + 1, 1 + x * 10 + y, none⟩ = false := hH.f3 _
              go_wp2_with (first | fail | (refine wpL_loadFull rfl rfl rfl rowSq hH.h0 (sqc_size _ _) ?_) | (go_at_call 72; refine (l03Apply_42 N x y g _ HQ.out (by omega) (by omega)).mono ?_; rintro e w3 ⟨rfl, hb⟩; replace hH := hH.call' hb; clear hb))
              first
                | (refine ⟨(), ?_, hH.s3 _ _ (by rw [Nat.add_assoc]; exact sqc_set _ _ _ _ _ HS.out)⟩; (simp [lput, done, hn]; done))
                | (refine ⟨?_, hH.s3 _ _ (by rw [Nat.add_assoc]; exact sqc_set _ _ _ _ _ HS.out)⟩; (simp [lput, done, hn]; done))
                | (refine ⟨(), ?_, hH⟩; (simp [lput, done, hn, opV]; done))
                | (refine ⟨?_, hH⟩; (simp [lput, done, hn, opV]; done))
                | (refine ⟨(), ?_, hH⟩; (simp [lput, done, hn, opV]; rfl))
                | (refine ⟨?_, hH⟩; (simp [lput, done, hn, opV]; rfl))
                | (refine ⟨(), ?_, hH⟩; (simp [lput, done, opV]; done))
                | (refine ⟨?_, hH⟩; (simp [lput, done, opV]; done))
                | (refine ⟨(), ?_, hH⟩; (simp [lput, done, opV]; rfl))
                | (refine ⟨?_, hH⟩; (simp [lput, done, opV]; rfl))
          case hq_pa =>
            clear hH
            intro d _ w1 hd hJ
            simp only [allDone, List.length_cons, List.length_nil, Nat.reduceAdd, and_true] at hd
            have hH := hJ; clear hJ
            simp only [hd, cond_true] at hH
            simp only [lput, List.set, hd, cond_true]
            clear hd
            go_wp2
            go_roundw
            case rel => exact ⟨y + 1, by omega, by go_num, hH⟩
            case measure => simp [intOf]; omega
        · obtain rfl : y = N := by omega
          have hr := hid (fillT_row y (opV g y 0) x)
          go_wp2
          go_roundw
          case rel => exact ⟨x + 1, by omega, by go_num, by rw [hr.out]; exact hH⟩
          case measure => simp [intOf]; omega
    · obtain rfl : x = N := by omega
      have hend : fillT x (opV g x 0) x 0 = paF g x 0 := rfl
      rw [hend] at hH
      go_wp2_with (first | (refine wpL_loadFull rfl rfl rfl rowSq hH.h3 (sqc_size _ _) ?_) | (refine wpL_storeFull rfl rfl rfl rfl rowSq hH.h1 (sqc_size _ _) (sqc_ok _ _) ?_))
      exact ret_c rfl rfl hH.r1.h1 rowSq (sqc_size _ _) ⟨rfl, hH.r1.below⟩
set_option maxRecDepth 20000 in
set_option maxHeartbeats 4000000 in
theorem l03Para_1 (N : Nat) (g : Nat → UInt8) (w : World) (hq : IsSq N g) :
    Calls Try.prog 49 #[.agg (sqc N g), .int .i64 1] w fun e w' => e = .returned (.agg (sqc N (paF g N 1))) ∧ Below w.heap.size w w' := by
  have h10 := hq.hi
  have HQ := hid hq
  have hN2 : (N : Int) ≤ 10 := by omega
  clear hq
  have hS := Has.start4 w (sqc N g) (sqc 0 fun _ => 0) opsC (sqc 0 fun _ => 0) 30 30 5 30
  have hH := hS.r3 (cs' := sqc N fun _ => 0)
  have s0 := (Has.start3 w (sqc N g) (sqc 0 fun _ => 0) opsC 30 30 5).c0 0
  rw [sqc_get0] at s0
  go_enter Try.func49, Try.ntmps49
  go_wp2_with (first | fail | (refine wpL_guard rfl rfl ?_) | (refine wpL_alloc rfl rfl zeroSq ?_; intro g hg; (try simp at hg); subst hg) | (refine wpL_build1 rfl rfl rfl (builtSqO _) ?_) | (refine wpL_storeFull rfl rfl rfl rfl rowSq hS.h3 (sqc_size _ _) (sqc_ok _ _) ?_; clear s0 hS))
  go_loopw [8] (fun i wr => ∃ x : Nat, x ≤ N ∧ i = .int .u8 x ∧ Has w wr [(sqc N g, 30), (sqc 0 (fun _ => 0), 30), (opsC, 5), (sqc N (fillT N (opV g N 1) x 0), 30)]) (fun i _ => 10 - (intOf i).toNat)
  case atStart => exact ⟨0, by omega, rfl, by rw [fillT_zero]; exact hH⟩
  case round =>
    clear hH
    obtain ⟨x, hx, rfl, hH⟩ := hrel
    have c0 := hH.c0 0
    rw [sqc_get0] at c0
    by_cases hlt : x < N
    · have hx10 : (x : Int) < 10 := by omega
      go_wp2
      clear c0
      go_loopw [9] (fun i wr => ∃ y : Nat, y ≤ N ∧ i = .int .u8 y ∧ Has w wr [(sqc N g, 30), (sqc 0 (fun _ => 0), 30), (opsC, 5), (sqc N (fillT N (opV g N 1) x y), 30)]) (fun i _ => 10 - (intOf i).toNat)
      case atStart => exact ⟨0, by omega, rfl, hH⟩
      case round =>
        clear hH
        obtain ⟨y, hy, rfl, hH⟩ := hrel
        have c0 := hH.c0 0
        rw [sqc_get0] at c0
        by_cases hlt2 : y < N
        · have hy10 : (y : Int) < 10 := by omega
          have hst : ∀ i, i < 100 → fillT N (opV g N 1) x (y + 1) i = if i = x * 10 + y then opV g N 1 x y else fillT N (opV g N 1) x y i := fun i _ => fillT_step N _ x y (by omega) i
          have HS := hid hst
          clear hst
          go_wp2
          clear c0
          refine wp_region_frame (X := Unit) (fun d _ => [(35, bif d 0 then .int .u8 x else u35), (36, bif d 1 then .int .u8 y else u36), (37, bif d 2 then .agg (sqc N g) else u37), (38, bif d 3 then .slice (some ⟨w.heap.size + 1 + 1, 0, none⟩) 6 6 else u38), (39, bif d 4 then .int .i64 1 else u39), (40, bif d 5 then .pointer (some ⟨w.heap.size + 1 + 1, 1, none⟩) else u40), (41, bif d 6 then .int .u8 42 else u41), (42, bif d 7 then .int .u8 y else u42), (43, bif d 8 then .int .u8 x else u43), (44, bif d 9 then .int .u8 (opV g N 1 x y).toNat else u44), (45, bif d 10 then .pointer (some ⟨w.heap.size + 1 + 1 + 1, 1, none⟩) else u45), (46, bif d 11 then .pointer (some ⟨w.heap.size + 1 + 1 + 1, 1 + x * 10, none⟩) else u46), (47, bif d 12 then .pointer (some ⟨w.heap.size + 1 + 1 + 1, 1 + x * 10 + y, none⟩) else u47)])
            (fun d _ w' => Has w w' [(sqc N g, 30), (sqc 0 (fun _ => 0), 30), (opsC, 5), (sqc N (bif d 13 then fillT N (opV g N 1) x (y + 1) else fillT N (opV g N 1) x y), 30)]) (by kernel_rfl) (by kernel_rfl) ?h0_pa ?hs_pa ?hq_pa
          case h0_pa => exact ⟨(), (by simp [lput]), hH.drew⟩
          case hs_pa =>
            refine ⟨?_, ?_, ?_, ?_, ?_, ?_, ?_, ?_, ?_, ?_, ?_, ?_, ?_, ?_, trivial⟩
            all_goals
              clear hH
              intro d _ w1 hd hn hJ
              simp only [needs, Region.binds, reduceCtorEq, Bool.false_eq_true, false_implies, true_and, and_true, true_implies, forall_const] at hn
              simp only [lput, List.set, hn, cond_true]
              try simp only [hd, cond_false] at hJ
              have hH := hJ; clear hJ
              have c2 : w1.cell? ⟨w.heap.size + 1 + 1, 1, none⟩ = some (.int .u8 42) := by rw [hH.c2]; rfl
              obtain ⟨v3, c3⟩ : ∃ v : Int, w1.cell? ⟨w.heap.size + 1 + 1 + 1, 1 + x * 10 + y, none⟩ = some (.int .u8 v) := ⟨_, by rw [hH.c3, Nat.add_assoc, sqc_get _ _ _ (by omega)]⟩
              have f3 : w1.frozen? ⟨w.heap.size + 1 + 1 + 1, 1 + x * 10 + y, none⟩ = false := hH.f3 _
              go_wp2_with (first | fail | (refine wpL_loadFull rfl rfl rfl rowSq hH.h0 (sqc_size _ _) ?_) | (go_at_call 72; refine (l03Apply_42 N y x g _ HQ.out (by omega) (by omega)).mono ?_; rintro e w3 ⟨rfl, hb⟩; replace hH := hH.call' hb; clear hb))
              first
                | (refine ⟨(), ?_, hH.s3 _ _ (by rw [Nat.add_assoc]; exact sqc_set _ _ _ _ _ HS.out)⟩; (simp [lput, done, hn]; done))
                | (refine ⟨?_, hH.s3 _ _ (by rw [Nat.add_assoc]; exact sqc_set _ _ _ _ _ HS.out)⟩; (simp [lput, done, hn]; done))
                | (refine ⟨(), ?_, hH⟩; (simp [lput, done, hn, opV]; done))
                | (refine ⟨?_, hH⟩; (simp [lput, done, hn, opV]; done))
                | (refine ⟨(), ?_, hH⟩; (simp [lput, done, hn, opV]; rfl))
                | (refine ⟨?_, hH⟩; (simp [lput, done, hn, opV]; rfl))
                | (refine ⟨(), ?_, hH⟩; (simp [lput, done, opV]; done))
                | (refine ⟨?_, hH⟩; (simp [lput, done, opV]; done))
                | (refine ⟨(), ?_, hH⟩; (simp [lput, done, opV]; rfl))
                | (refine ⟨?_, hH⟩; (simp [lput, done, opV]; rfl))
          case hq_pa =>
            clear hH
            intro d _ w1 hd hJ
            simp only [allDone, List.length_cons, List.length_nil, Nat.reduceAdd, and_true] at hd
            have hH := hJ; clear hJ
            simp only [hd, cond_true] at hH
            simp only [lput, List.set, hd, cond_true]
            clear hd
            go_wp2
            go_roundw
            case rel => exact ⟨y + 1, by omega, by go_num, hH⟩
            case measure => simp [intOf]; omega
        · obtain rfl : y = N := by omega
          have hr := hid (fillT_row y (opV g y 1) x)
          go_wp2
          go_roundw
          case rel => exact ⟨x + 1, by omega, by go_num, by rw [hr.out]; exact hH⟩
          case measure => simp [intOf]; omega
    · obtain rfl : x = N := by omega
      have hend : fillT x (opV g x 1) x 0 = paF g x 1 := rfl
      rw [hend] at hH
      go_wp2_with (first | (refine wpL_loadFull rfl rfl rfl rowSq hH.h3 (sqc_size _ _) ?_) | (refine wpL_storeFull rfl rfl rfl rfl rowSq hH.h1 (sqc_size _ _) (sqc_ok _ _) ?_))
      exact ret_c rfl rfl hH.r1.h1 rowSq (sqc_size _ _) ⟨rfl, hH.r1.below⟩
set_option maxRecDepth 20000 in
set_option maxHeartbeats 4000000 in
theorem l03Para_2 (N : Nat) (g : Nat → UInt8) (w : World) (hq : IsSq N g) :
    Calls Try.prog 49 #[.agg (sqc N g), .int .i64 2] w fun e w' => e = .returned (.agg (sqc N (paF g N 2))) ∧ Below w.heap.size w w' := by
  have h10 := hq.hi
  have HQ := hid hq
  have hN2 : (N : Int) ≤ 10 := by omega
  clear hq
  have hS := Has.start4 w (sqc N g) (sqc 0 fun _ => 0) opsC (sqc 0 fun _ => 0) 30 30 5 30
  have hH := hS.r3 (cs' := sqc N fun _ => 0)
  have s0 := (Has.start3 w (sqc N g) (sqc 0 fun _ => 0) opsC 30 30 5).c0 0
  rw [sqc_get0] at s0
  go_enter Try.func49, Try.ntmps49
  go_wp2_with (first | fail | (refine wpL_guard rfl rfl ?_) | (refine wpL_alloc rfl rfl zeroSq ?_; intro g hg; (try simp at hg); subst hg) | (refine wpL_build1 rfl rfl rfl (builtSqO _) ?_) | (refine wpL_storeFull rfl rfl rfl rfl rowSq hS.h3 (sqc_size _ _) (sqc_ok _ _) ?_; clear s0 hS))
  go_loopw [8] (fun i wr => ∃ x : Nat, x ≤ N ∧ i = .int .u8 x ∧ Has w wr [(sqc N g, 30), (sqc 0 (fun _ => 0), 30), (opsC, 5), (sqc N (fillT N (opV g N 2) x 0), 30)]) (fun i _ => 10 - (intOf i).toNat)
  case atStart => exact ⟨0, by omega, rfl, by rw [fillT_zero]; exact hH⟩
  case round =>
    clear hH
    obtain ⟨x, hx, rfl, hH⟩ := hrel
    have c0 := hH.c0 0
    rw [sqc_get0] at c0
    by_cases hlt : x < N
    · have hx10 : (x : Int) < 10 := by omega
      go_wp2
      clear c0
      go_loopw [9] (fun i wr => ∃ y : Nat, y ≤ N ∧ i = .int .u8 y ∧ Has w wr [(sqc N g, 30), (sqc 0 (fun _ => 0), 30), (opsC, 5), (sqc N (fillT N (opV g N 2) x y), 30)]) (fun i _ => 10 - (intOf i).toNat)
      case atStart => exact ⟨0, by omega, rfl, hH⟩
      case round =>
        clear hH
        obtain ⟨y, hy, rfl, hH⟩ := hrel
        have c0 := hH.c0 0
        rw [sqc_get0] at c0
        by_cases hlt2 : y < N
        · have hy10 : (y : Int) < 10 := by omega
          have hst : ∀ i, i < 100 → fillT N (opV g N 2) x (y + 1) i = if i = x * 10 + y then opV g N 2 x y else fillT N (opV g N 2) x y i := fun i _ => fillT_step N _ x y (by omega) i
          have HS := hid hst
          clear hst
          go_wp2
          clear c0
          refine wp_region_frame (X := Unit) (fun d _ => [(48, bif d 0 then .int .u8 x else u48), (49, bif d 1 then .int .u8 y else u49), (50, bif d 2 then .agg (sqc N g) else u50), (51, bif d 3 then .slice (some ⟨w.heap.size + 1 + 1, 0, none⟩) 6 6 else u51), (52, bif d 4 then .int .i64 2 else u52), (53, bif d 5 then .pointer (some ⟨w.heap.size + 1 + 1, 2, none⟩) else u53), (54, bif d 6 then .int .u8 92 else u54), (55, bif d 7 then .int .u8 x else u55), (56, bif d 8 then .int .u8 y else u56), (57, bif d 9 then .int .u8 (opV g N 2 x y).toNat else u57), (58, bif d 10 then .pointer (some ⟨w.heap.size + 1 + 1 + 1, 1, none⟩) else u58), (59, bif d 11 then .pointer (some ⟨w.heap.size + 1 + 1 + 1, 1 + x * 10, none⟩) else u59), (60, bif d 12 then .pointer (some ⟨w.heap.size + 1 + 1 + 1, 1 + x * 10 + y, none⟩) else u60)])
            (fun d _ w' => Has w w' [(sqc N g, 30), (sqc 0 (fun _ => 0), 30), (opsC, 5), (sqc N (bif d 13 then fillT N (opV g N 2) x (y + 1) else fillT N (opV g N 2) x y), 30)]) (by kernel_rfl) (by kernel_rfl) ?h0_pa ?hs_pa ?hq_pa
          case h0_pa => exact ⟨(), (by simp [lput]), hH.drew⟩
          case hs_pa =>
            refine ⟨?_, ?_, ?_, ?_, ?_, ?_, ?_, ?_, ?_, ?_, ?_, ?_, ?_, ?_, trivial⟩
            all_goals
              clear hH
              intro d _ w1 hd hn hJ
              simp only [needs, Region.binds, reduceCtorEq, Bool.false_eq_true, false_implies, true_and, and_true, true_implies, forall_const] at hn
              simp only [lput, List.set, hn, cond_true]
              try simp only [hd, cond_false] at hJ
              have hH := hJ; clear hJ
              have c2 : w1.cell? ⟨w.heap.size + 1 + 1, 2, none⟩ = some (.int .u8 92) := by rw [hH.c2]; rfl
              obtain ⟨v3, c3⟩ : ∃ v : Int, w1.cell? ⟨w.heap.size + 1 + 1 + 1, 1 + x * 10 + y, none⟩ = some (.int .u8 v) := ⟨_, by rw [hH.c3, Nat.add_assoc, sqc_get _ _ _ (by omega)]⟩
              have f3 : w1.frozen? ⟨w.heap.size + 1 + 1 + 1, 1 + x * 10 + y, none⟩ = false := hH.f3 _
              go_wp2_with (first | fail | (refine wpL_loadFull rfl rfl rfl rowSq hH.h0 (sqc_size _ _) ?_) | (go_at_call 72; refine (l03Apply_92 N x y g _ HQ.out (by omega) (by omega)).mono ?_; rintro e w3 ⟨rfl, hb⟩; replace hH := hH.call' hb; clear hb))
              first
                | (refine ⟨(), ?_, hH.s3 _ _ (by rw [Nat.add_assoc]; exact sqc_set _ _ _ _ _ HS.out)⟩; (simp [lput, done, hn]; done))
                | (refine ⟨?_, hH.s3 _ _ (by rw [Nat.add_assoc]; exact sqc_set _ _ _ _ _ HS.out)⟩; (simp [lput, done, hn]; done))
                | (refine ⟨(), ?_, hH⟩; (simp [lput, done, hn, opV]; done))
                | (refine ⟨?_, hH⟩; (simp [lput, done, hn, opV]; done))
                | (refine ⟨(), ?_, hH⟩; (simp [lput, done, hn, opV]; rfl))
                | (refine ⟨?_, hH⟩; (simp [lput, done, hn, opV]; rfl))
                | (refine ⟨(), ?_, hH⟩; (simp [lput, done, opV]; done))
                | (refine ⟨?_, hH⟩; (simp [lput, done, opV]; done))
                | (refine ⟨(), ?_, hH⟩; (simp [lput, done, opV]; rfl))
                | (refine ⟨?_, hH⟩; (simp [lput, done, opV]; rfl))
          case hq_pa =>
            clear hH
            intro d _ w1 hd hJ
            simp only [allDone, List.length_cons, List.length_nil, Nat.reduceAdd, and_true] at hd
            have hH := hJ; clear hJ
            simp only [hd, cond_true] at hH
            simp only [lput, List.set, hd, cond_true]
            clear hd
            go_wp2
            go_roundw
            case rel => exact ⟨y + 1, by omega, by go_num, hH⟩
            case measure => simp [intOf]; omega
        · obtain rfl : y = N := by omega
          have hr := hid (fillT_row y (opV g y 2) x)
          go_wp2
          go_roundw
          case rel => exact ⟨x + 1, by omega, by go_num, by rw [hr.out]; exact hH⟩
          case measure => simp [intOf]; omega
    · obtain rfl : x = N := by omega
      have hend : fillT x (opV g x 2) x 0 = paF g x 2 := rfl
      rw [hend] at hH
      go_wp2_with (first | (refine wpL_loadFull rfl rfl rfl rowSq hH.h3 (sqc_size _ _) ?_) | (refine wpL_storeFull rfl rfl rfl rfl rowSq hH.h1 (sqc_size _ _) (sqc_ok _ _) ?_))
      exact ret_c rfl rfl hH.r1.h1 rowSq (sqc_size _ _) ⟨rfl, hH.r1.below⟩
set_option maxRecDepth 20000 in
set_option maxHeartbeats 4000000 in
theorem l03Para_3 (N : Nat) (g : Nat → UInt8) (w : World) (hq : IsSq N g) :
    Calls Try.prog 49 #[.agg (sqc N g), .int .i64 3] w fun e w' => e = .returned (.agg (sqc N (paF g N 3))) ∧ Below w.heap.size w w' := by
  have h10 := hq.hi
  have HQ := hid hq
  have hN2 : (N : Int) ≤ 10 := by omega
  clear hq
  have hS := Has.start4 w (sqc N g) (sqc 0 fun _ => 0) opsC (sqc 0 fun _ => 0) 30 30 5 30
  have hH := hS.r3 (cs' := sqc N fun _ => 0)
  have s0 := (Has.start3 w (sqc N g) (sqc 0 fun _ => 0) opsC 30 30 5).c0 0
  rw [sqc_get0] at s0
  go_enter Try.func49, Try.ntmps49
  go_wp2_with (first | fail | (refine wpL_guard rfl rfl ?_) | (refine wpL_alloc rfl rfl zeroSq ?_; intro g hg; (try simp at hg); subst hg) | (refine wpL_build1 rfl rfl rfl (builtSqO _) ?_) | (refine wpL_storeFull rfl rfl rfl rfl rowSq hS.h3 (sqc_size _ _) (sqc_ok _ _) ?_; clear s0 hS))
  go_loopw [8] (fun i wr => ∃ x : Nat, x ≤ N ∧ i = .int .u8 x ∧ Has w wr [(sqc N g, 30), (sqc 0 (fun _ => 0), 30), (opsC, 5), (sqc N (fillT N (opV g N 3) x 0), 30)]) (fun i _ => 10 - (intOf i).toNat)
  case atStart => exact ⟨0, by omega, rfl, by rw [fillT_zero]; exact hH⟩
  case round =>
    clear hH
    obtain ⟨x, hx, rfl, hH⟩ := hrel
    have c0 := hH.c0 0
    rw [sqc_get0] at c0
    by_cases hlt : x < N
    · have hx10 : (x : Int) < 10 := by omega
      go_wp2
      clear c0
      go_loopw [9] (fun i wr => ∃ y : Nat, y ≤ N ∧ i = .int .u8 y ∧ Has w wr [(sqc N g, 30), (sqc 0 (fun _ => 0), 30), (opsC, 5), (sqc N (fillT N (opV g N 3) x y), 30)]) (fun i _ => 10 - (intOf i).toNat)
      case atStart => exact ⟨0, by omega, rfl, hH⟩
      case round =>
        clear hH
        obtain ⟨y, hy, rfl, hH⟩ := hrel
        have c0 := hH.c0 0
        rw [sqc_get0] at c0
        by_cases hlt2 : y < N
        · have hy10 : (y : Int) < 10 := by omega
          have hst : ∀ i, i < 100 → fillT N (opV g N 3) x (y + 1) i = if i = x * 10 + y then opV g N 3 x y else fillT N (opV g N 3) x y i := fun i _ => fillT_step N _ x y (by omega) i
          have HS := hid hst
          clear hst
          go_wp2
          clear c0
          refine wp_region_frame (X := Unit) (fun d _ => [(48, bif d 0 then .int .u8 x else u48), (49, bif d 1 then .int .u8 y else u49), (50, bif d 2 then .agg (sqc N g) else u50), (51, bif d 3 then .slice (some ⟨w.heap.size + 1 + 1, 0, none⟩) 6 6 else u51), (52, bif d 4 then .int .i64 3 else u52), (53, bif d 5 then .pointer (some ⟨w.heap.size + 1 + 1, 3, none⟩) else u53), (54, bif d 6 then .int .u8 47 else u54), (55, bif d 7 then .int .u8 x else u55), (56, bif d 8 then .int .u8 y else u56), (57, bif d 9 then .int .u8 (opV g N 3 x y).toNat else u57), (58, bif d 10 then .pointer (some ⟨w.heap.size + 1 + 1 + 1, 1, none⟩) else u58), (59, bif d 11 then .pointer (some ⟨w.heap.size + 1 + 1 + 1, 1 + x * 10, none⟩) else u59), (60, bif d 12 then .pointer (some ⟨w.heap.size + 1 + 1 + 1, 1 + x * 10 + y, none⟩) else u60)])
            (fun d _ w' => Has w w' [(sqc N g, 30), (sqc 0 (fun _ => 0), 30), (opsC, 5), (sqc N (bif d 13 then fillT N (opV g N 3) x (y + 1) else fillT N (opV g N 3) x y), 30)]) (by kernel_rfl) (by kernel_rfl) ?h0_pa ?hs_pa ?hq_pa
          case h0_pa => exact ⟨(), (by simp [lput]), hH.drew⟩
          case hs_pa =>
            refine ⟨?_, ?_, ?_, ?_, ?_, ?_, ?_, ?_, ?_, ?_, ?_, ?_, ?_, ?_, trivial⟩
            all_goals
              clear hH
              intro d _ w1 hd hn hJ
              simp only [needs, Region.binds, reduceCtorEq, Bool.false_eq_true, false_implies, true_and, and_true, true_implies, forall_const] at hn
              simp only [lput, List.set, hn, cond_true]
              try simp only [hd, cond_false] at hJ
              have hH := hJ; clear hJ
              have c2 : w1.cell? ⟨w.heap.size + 1 + 1, 3, none⟩ = some (.int .u8 47) := by rw [hH.c2]; rfl
              obtain ⟨v3, c3⟩ : ∃ v : Int, w1.cell? ⟨w.heap.size + 1 + 1 + 1, 1 + x * 10 + y, none⟩ = some (.int .u8 v) := ⟨_, by rw [hH.c3, Nat.add_assoc, sqc_get _ _ _ (by omega)]⟩
              have f3 : w1.frozen? ⟨w.heap.size + 1 + 1 + 1, 1 + x * 10 + y, none⟩ = false := hH.f3 _
              go_wp2_with (first | fail | (refine wpL_loadFull rfl rfl rfl rowSq hH.h0 (sqc_size _ _) ?_) | (go_at_call 72; refine (l03Apply_47 N x y g _ HQ.out (by omega) (by omega)).mono ?_; rintro e w3 ⟨rfl, hb⟩; replace hH := hH.call' hb; clear hb))
              first
                | (refine ⟨(), ?_, hH.s3 _ _ (by rw [Nat.add_assoc]; exact sqc_set _ _ _ _ _ HS.out)⟩; (simp [lput, done, hn]; done))
                | (refine ⟨?_, hH.s3 _ _ (by rw [Nat.add_assoc]; exact sqc_set _ _ _ _ _ HS.out)⟩; (simp [lput, done, hn]; done))
                | (refine ⟨(), ?_, hH⟩; (simp [lput, done, hn, opV]; done))
                | (refine ⟨?_, hH⟩; (simp [lput, done, hn, opV]; done))
                | (refine ⟨(), ?_, hH⟩; (simp [lput, done, hn, opV]; rfl))
                | (refine ⟨?_, hH⟩; (simp [lput, done, hn, opV]; rfl))
                | (refine ⟨(), ?_, hH⟩; (simp [lput, done, opV]; done))
                | (refine ⟨?_, hH⟩; (simp [lput, done, opV]; done))
                | (refine ⟨(), ?_, hH⟩; (simp [lput, done, opV]; rfl))
                | (refine ⟨?_, hH⟩; (simp [lput, done, opV]; rfl))
          case hq_pa =>
            clear hH
            intro d _ w1 hd hJ
            simp only [allDone, List.length_cons, List.length_nil, Nat.reduceAdd, and_true] at hd
            have hH := hJ; clear hJ
            simp only [hd, cond_true] at hH
            simp only [lput, List.set, hd, cond_true]
            clear hd
            go_wp2
            go_roundw
            case rel => exact ⟨y + 1, by omega, by go_num, hH⟩
            case measure => simp [intOf]; omega
        · obtain rfl : y = N := by omega
          have hr := hid (fillT_row y (opV g y 3) x)
          go_wp2
          go_roundw
          case rel => exact ⟨x + 1, by omega, by go_num, by rw [hr.out]; exact hH⟩
          case measure => simp [intOf]; omega
    · obtain rfl : x = N := by omega
      have hend : fillT x (opV g x 3) x 0 = paF g x 3 := rfl
      rw [hend] at hH
      go_wp2_with (first | (refine wpL_loadFull rfl rfl rfl rowSq hH.h3 (sqc_size _ _) ?_) | (refine wpL_storeFull rfl rfl rfl rfl rowSq hH.h1 (sqc_size _ _) (sqc_ok _ _) ?_))
      exact ret_c rfl rfl hH.r1.h1 rowSq (sqc_size _ _) ⟨rfl, hH.r1.below⟩
set_option maxRecDepth 20000 in
set_option maxHeartbeats 4000000 in
theorem l03Para_4 (N : Nat) (g : Nat → UInt8) (w : World) (hq : IsSq N g) :
    Calls Try.prog 49 #[.agg (sqc N g), .int .i64 4] w fun e w' => e = .returned (.agg (sqc N (paF g N 4))) ∧ Below w.heap.size w w' := by
  have h10 := hq.hi
  have HQ := hid hq
  have hN2 : (N : Int) ≤ 10 := by omega
  clear hq
  have hS := Has.start4 w (sqc N g) (sqc 0 fun _ => 0) opsC (sqc 0 fun _ => 0) 30 30 5 30
  have hH := hS.r3 (cs' := sqc N fun _ => 0)
  have s0 := (Has.start3 w (sqc N g) (sqc 0 fun _ => 0) opsC 30 30 5).c0 0
  rw [sqc_get0] at s0
  go_enter Try.func49, Try.ntmps49
  go_wp2_with (first | fail | (refine wpL_guard rfl rfl ?_) | (refine wpL_alloc rfl rfl zeroSq ?_; intro g hg; (try simp at hg); subst hg) | (refine wpL_build1 rfl rfl rfl (builtSqO _) ?_) | (refine wpL_storeFull rfl rfl rfl rfl rowSq hS.h3 (sqc_size _ _) (sqc_ok _ _) ?_; clear s0 hS))
  go_loopw [8] (fun i wr => ∃ x : Nat, x ≤ N ∧ i = .int .u8 x ∧ Has w wr [(sqc N g, 30), (sqc 0 (fun _ => 0), 30), (opsC, 5), (sqc N (fillT N (opV g N 4) x 0), 30)]) (fun i _ => 10 - (intOf i).toNat)
  case atStart => exact ⟨0, by omega, rfl, by rw [fillT_zero]; exact hH⟩
  case round =>
    clear hH
    obtain ⟨x, hx, rfl, hH⟩ := hrel
    have c0 := hH.c0 0
    rw [sqc_get0] at c0
    by_cases hlt : x < N
    · have hx10 : (x : Int) < 10 := by omega
      go_wp2
      clear c0
      go_loopw [9] (fun i wr => ∃ y : Nat, y ≤ N ∧ i = .int .u8 y ∧ Has w wr [(sqc N g, 30), (sqc 0 (fun _ => 0), 30), (opsC, 5), (sqc N (fillT N (opV g N 4) x y), 30)]) (fun i _ => 10 - (intOf i).toNat)
      case atStart => exact ⟨0, by omega, rfl, hH⟩
      case round =>
        clear hH
        obtain ⟨y, hy, rfl, hH⟩ := hrel
        have c0 := hH.c0 0
        rw [sqc_get0] at c0
        by_cases hlt2 : y < N
        · have hy10 : (y : Int) < 10 := by omega
          have hst : ∀ i, i < 100 → fillT N (opV g N 4) x (y + 1) i = if i = x * 10 + y then opV g N 4 x y else fillT N (opV g N 4) x y i := fun i _ => fillT_step N _ x y (by omega) i
          have HS := hid hst
          clear hst
          go_wp2
          clear c0
          refine wp_region_frame (X := Unit) (fun d _ => [(35, bif d 0 then .int .u8 x else u35), (36, bif d 1 then .int .u8 y else u36), (37, bif d 2 then .agg (sqc N g) else u37), (38, bif d 3 then .slice (some ⟨w.heap.size + 1 + 1, 0, none⟩) 6 6 else u38), (39, bif d 4 then .int .i64 4 else u39), (40, bif d 5 then .pointer (some ⟨w.heap.size + 1 + 1, 4, none⟩) else u40), (41, bif d 6 then .int .u8 92 else u41), (42, bif d 7 then .int .u8 y else u42), (43, bif d 8 then .int .u8 x else u43), (44, bif d 9 then .int .u8 (opV g N 4 x y).toNat else u44), (45, bif d 10 then .pointer (some ⟨w.heap.size + 1 + 1 + 1, 1, none⟩) else u45), (46, bif d 11 then .pointer (some ⟨w.heap.size + 1 + 1 + 1, 1 + x * 10, none⟩) else u46), (47, bif d 12 then .pointer (some ⟨w.heap.size + 1 + 1 + 1, 1 + x * 10 + y, none⟩) else u47)])
            (fun d _ w' => Has w w' [(sqc N g, 30), (sqc 0 (fun _ => 0), 30), (opsC, 5), (sqc N (bif d 13 then fillT N (opV g N 4) x (y + 1) else fillT N (opV g N 4) x y), 30)]) (by kernel_rfl) (by kernel_rfl) ?h0_pa ?hs_pa ?hq_pa
          case h0_pa => exact ⟨(), (by simp [lput]), hH.drew⟩
          case hs_pa =>
            refine ⟨?_, ?_, ?_, ?_, ?_, ?_, ?_, ?_, ?_, ?_, ?_, ?_, ?_, ?_, trivial⟩
            all_goals
              clear hH
              intro d _ w1 hd hn hJ
              simp only [needs, Region.binds, reduceCtorEq, Bool.false_eq_true, false_implies, true_and, and_true, true_implies, forall_const] at hn
              simp only [lput, List.set, hn, cond_true]
              try simp only [hd, cond_false] at hJ
              have hH := hJ; clear hJ
              have c2 : w1.cell? ⟨w.heap.size + 1 + 1, 4, none⟩ = some (.int .u8 92) := by rw [hH.c2]; rfl
              obtain ⟨v3, c3⟩ : ∃ v : Int, w1.cell? ⟨w.heap.size + 1 + 1 + 1, 1 + x * 10 + y, none⟩ = some (.int .u8 v) := ⟨_, by rw [hH.c3, Nat.add_assoc, sqc_get _ _ _ (by omega)]⟩
              have f3 : w1.frozen? ⟨w.heap.size + 1 + 1 + 1, 1 + x * 10 + y, none⟩ = false := hH.f3 _
              go_wp2_with (first | fail | (refine wpL_loadFull rfl rfl rfl rowSq hH.h0 (sqc_size _ _) ?_) | (go_at_call 72; refine (l03Apply_92 N y x g _ HQ.out (by omega) (by omega)).mono ?_; rintro e w3 ⟨rfl, hb⟩; replace hH := hH.call' hb; clear hb))
              first
                | (refine ⟨(), ?_, hH.s3 _ _ (by rw [Nat.add_assoc]; exact sqc_set _ _ _ _ _ HS.out)⟩; (simp [lput, done, hn]; done))
                | (refine ⟨?_, hH.s3 _ _ (by rw [Nat.add_assoc]; exact sqc_set _ _ _ _ _ HS.out)⟩; (simp [lput, done, hn]; done))
                | (refine ⟨(), ?_, hH⟩; (simp [lput, done, hn, opV]; done))
                | (refine ⟨?_, hH⟩; (simp [lput, done, hn, opV]; done))
                | (refine ⟨(), ?_, hH⟩; (simp [lput, done, hn, opV]; rfl))
                | (refine ⟨?_, hH⟩; (simp [lput, done, hn, opV]; rfl))
                | (refine ⟨(), ?_, hH⟩; (simp [lput, done, opV]; done))
                | (refine ⟨?_, hH⟩; (simp [lput, done, opV]; done))
                | (refine ⟨(), ?_, hH⟩; (simp [lput, done, opV]; rfl))
                | (refine ⟨?_, hH⟩; (simp [lput, done, opV]; rfl))
          case hq_pa =>
            clear hH
            intro d _ w1 hd hJ
            simp only [allDone, List.length_cons, List.length_nil, Nat.reduceAdd, and_true] at hd
            have hH := hJ; clear hJ
            simp only [hd, cond_true] at hH
            simp only [lput, List.set, hd, cond_true]
            clear hd
            go_wp2
            go_roundw
            case rel => exact ⟨y + 1, by omega, by go_num, hH⟩
            case measure => simp [intOf]; omega
        · obtain rfl : y = N := by omega
          have hr := hid (fillT_row y (opV g y 4) x)
          go_wp2
          go_roundw
          case rel => exact ⟨x + 1, by omega, by go_num, by rw [hr.out]; exact hH⟩
          case measure => simp [intOf]; omega
    · obtain rfl : x = N := by omega
      have hend : fillT x (opV g x 4) x 0 = paF g x 4 := rfl
      rw [hend] at hH
      go_wp2_with (first | (refine wpL_loadFull rfl rfl rfl rowSq hH.h3 (sqc_size _ _) ?_) | (refine wpL_storeFull rfl rfl rfl rfl rowSq hH.h1 (sqc_size _ _) (sqc_ok _ _) ?_))
      exact ret_c rfl rfl hH.r1.h1 rowSq (sqc_size _ _) ⟨rfl, hH.r1.below⟩
set_option maxRecDepth 20000 in
set_option maxHeartbeats 4000000 in
theorem l03Para_5 (N : Nat) (g : Nat → UInt8) (w : World) (hq : IsSq N g) :
    Calls Try.prog 49 #[.agg (sqc N g), .int .i64 5] w fun e w' => e = .returned (.agg (sqc N (paF g N 5))) ∧ Below w.heap.size w w' := by
  have h10 := hq.hi
  have HQ := hid hq
  have hN2 : (N : Int) ≤ 10 := by omega
  clear hq
  have hS := Has.start4 w (sqc N g) (sqc 0 fun _ => 0) opsC (sqc 0 fun _ => 0) 30 30 5 30
  have hH := hS.r3 (cs' := sqc N fun _ => 0)
  have s0 := (Has.start3 w (sqc N g) (sqc 0 fun _ => 0) opsC 30 30 5).c0 0
  rw [sqc_get0] at s0
  go_enter Try.func49, Try.ntmps49
  go_wp2_with (first | fail | (refine wpL_guard rfl rfl ?_) | (refine wpL_alloc rfl rfl zeroSq ?_; intro g hg; (try simp at hg); subst hg) | (refine wpL_build1 rfl rfl rfl (builtSqO _) ?_) | (refine wpL_storeFull rfl rfl rfl rfl rowSq hS.h3 (sqc_size _ _) (sqc_ok _ _) ?_; clear s0 hS))
  go_loopw [8] (fun i wr => ∃ x : Nat, x ≤ N ∧ i = .int .u8 x ∧ Has w wr [(sqc N g, 30), (sqc 0 (fun _ => 0), 30), (opsC, 5), (sqc N (fillT N (opV g N 5) x 0), 30)]) (fun i _ => 10 - (intOf i).toNat)
  case atStart => exact ⟨0, by omega, rfl, by rw [fillT_zero]; exact hH⟩
  case round =>
    clear hH
    obtain ⟨x, hx, rfl, hH⟩ := hrel
    have c0 := hH.c0 0
    rw [sqc_get0] at c0
    by_cases hlt : x < N
    · have hx10 : (x : Int) < 10 := by omega
      go_wp2
      clear c0
      go_loopw [9] (fun i wr => ∃ y : Nat, y ≤ N ∧ i = .int .u8 y ∧ Has w wr [(sqc N g, 30), (sqc 0 (fun _ => 0), 30), (opsC, 5), (sqc N (fillT N (opV g N 5) x y), 30)]) (fun i _ => 10 - (intOf i).toNat)
      case atStart => exact ⟨0, by omega, rfl, hH⟩
      case round =>
        clear hH
        obtain ⟨y, hy, rfl, hH⟩ := hrel
        have c0 := hH.c0 0
        rw [sqc_get0] at c0
        by_cases hlt2 : y < N
        · have hy10 : (y : Int) < 10 := by omega
          have hst : ∀ i, i < 100 → fillT N (opV g N 5) x (y + 1) i = if i = x * 10 + y then opV g N 5 x y else fillT N (opV g N 5) x y i := fun i _ => fillT_step N _ x y (by omega) i
          have HS := hid hst
          clear hst
          go_wp2
          clear c0
          refine wp_region_frame (X := Unit) (fun d _ => [(35, bif d 0 then .int .u8 x else u35), (36, bif d 1 then .int .u8 y else u36), (37, bif d 2 then .agg (sqc N g) else u37), (38, bif d 3 then .slice (some ⟨w.heap.size + 1 + 1, 0, none⟩) 6 6 else u38), (39, bif d 4 then .int .i64 5 else u39), (40, bif d 5 then .pointer (some ⟨w.heap.size + 1 + 1, 5, none⟩) else u40), (41, bif d 6 then .int .u8 47 else u41), (42, bif d 7 then .int .u8 y else u42), (43, bif d 8 then .int .u8 x else u43), (44, bif d 9 then .int .u8 (opV g N 5 x y).toNat else u44), (45, bif d 10 then .pointer (some ⟨w.heap.size + 1 + 1 + 1, 1, none⟩) else u45), (46, bif d 11 then .pointer (some ⟨w.heap.size + 1 + 1 + 1, 1 + x * 10, none⟩) else u46), (47, bif d 12 then .pointer (some ⟨w.heap.size + 1 + 1 + 1, 1 + x * 10 + y, none⟩) else u47)])
            (fun d _ w' => Has w w' [(sqc N g, 30), (sqc 0 (fun _ => 0), 30), (opsC, 5), (sqc N (bif d 13 then fillT N (opV g N 5) x (y + 1) else fillT N (opV g N 5) x y), 30)]) (by kernel_rfl) (by kernel_rfl) ?h0_pa ?hs_pa ?hq_pa
          case h0_pa => exact ⟨(), (by simp [lput]), hH.drew⟩
          case hs_pa =>
            refine ⟨?_, ?_, ?_, ?_, ?_, ?_, ?_, ?_, ?_, ?_, ?_, ?_, ?_, ?_, trivial⟩
            all_goals
              clear hH
              intro d _ w1 hd hn hJ
              simp only [needs, Region.binds, reduceCtorEq, Bool.false_eq_true, false_implies, true_and, and_true, true_implies, forall_const] at hn
              simp only [lput, List.set, hn, cond_true]
              try simp only [hd, cond_false] at hJ
              have hH := hJ; clear hJ
              have c2 : w1.cell? ⟨w.heap.size + 1 + 1, 5, none⟩ = some (.int .u8 47) := by rw [hH.c2]; rfl
              obtain ⟨v3, c3⟩ : ∃ v : Int, w1.cell? ⟨w.heap.size + 1 + 1 + 1, 1 + x * 10 + y, none⟩ = some (.int .u8 v) := ⟨_, by rw [hH.c3, Nat.add_assoc, sqc_get _ _ _ (by omega)]⟩
              have f3 : w1.frozen? ⟨w.heap.size + 1 + 1 + 1, 1 + x * 10 + y, none⟩ = false := hH.f3 _
              go_wp2_with (first | fail | (refine wpL_loadFull rfl rfl rfl rowSq hH.h0 (sqc_size _ _) ?_) | (go_at_call 72; refine (l03Apply_47 N y x g _ HQ.out (by omega) (by omega)).mono ?_; rintro e w3 ⟨rfl, hb⟩; replace hH := hH.call' hb; clear hb))
              first
                | (refine ⟨(), ?_, hH.s3 _ _ (by rw [Nat.add_assoc]; exact sqc_set _ _ _ _ _ HS.out)⟩; (simp [lput, done, hn]; done))
                | (refine ⟨?_, hH.s3 _ _ (by rw [Nat.add_assoc]; exact sqc_set _ _ _ _ _ HS.out)⟩; (simp [lput, done, hn]; done))
                | (refine ⟨(), ?_, hH⟩; (simp [lput, done, hn, opV]; done))
                | (refine ⟨?_, hH⟩; (simp [lput, done, hn, opV]; done))
                | (refine ⟨(), ?_, hH⟩; (simp [lput, done, hn, opV]; rfl))
                | (refine ⟨?_, hH⟩; (simp [lput, done, hn, opV]; rfl))
                | (refine ⟨(), ?_, hH⟩; (simp [lput, done, opV]; done))
                | (refine ⟨?_, hH⟩; (simp [lput, done, opV]; done))
                | (refine ⟨(), ?_, hH⟩; (simp [lput, done, opV]; rfl))
                | (refine ⟨?_, hH⟩; (simp [lput, done, opV]; rfl))
          case hq_pa =>
            clear hH
            intro d _ w1 hd hJ
            simp only [allDone, List.length_cons, List.length_nil, Nat.reduceAdd, and_true] at hd
            have hH := hJ; clear hJ
            simp only [hd, cond_true] at hH
            simp only [lput, List.set, hd, cond_true]
            clear hd
            go_wp2
            go_roundw
            case rel => exact ⟨y + 1, by omega, by go_num, hH⟩
            case measure => simp [intOf]; omega
        · obtain rfl : y = N := by omega
          have hr := hid (fillT_row y (opV g y 5) x)
          go_wp2
          go_roundw
          case rel => exact ⟨x + 1, by omega, by go_num, by rw [hr.out]; exact hH⟩
          case measure => simp [intOf]; omega
    · obtain rfl : x = N := by omega
      have hend : fillT x (opV g x 5) x 0 = paF g x 5 := rfl
      rw [hend] at hH
      go_wp2_with (first | (refine wpL_loadFull rfl rfl rfl rowSq hH.h3 (sqc_size _ _) ?_) | (refine wpL_storeFull rfl rfl rfl rfl rowSq hH.h1 (sqc_size _ _) (sqc_ok _ _) ?_))
      exact ret_c rfl rfl hH.r1.h1 rowSq (sqc_size _ _) ⟨rfl, hH.r1.below⟩
theorem l03Parastrophe_any (N k : Nat) (g : Nat → UInt8) (w : World) (hq : IsSq N g) (hk : k < 6) :
    Calls Try.prog 49 #[.agg (sqc N g), .int .i64 k] w fun e w' => e = .returned (.agg (sqc N (paF g N k))) ∧ Below w.heap.size w w' := by
  have hk6 : k = 0 ∨ k = 1 ∨ k = 2 ∨ k = 3 ∨ k = 4 ∨ k = 5 := by omega
  rcases hk6 with rfl | rfl | rfl | rfl | rfl | rfl
  · exact l03Para_0 N g w hq
  · exact l03Para_1 N g w hq
  · exact l03Para_2 N g w hq
  · exact l03Para_3 N g w hq
  · exact l03Para_4 N g w hq
  · exact l03Para_5 N g w hq
end Go.Proofs.Ytfkmhephabmolaa
