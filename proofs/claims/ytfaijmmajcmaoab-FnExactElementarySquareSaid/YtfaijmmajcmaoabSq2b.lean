/- Proved: what ElementarySquare returns, of program and model alike. Conditions: none. -/
import Derived.Test.YtfaijmmajcmaoabSq2
namespace Go.Proofs.Ytfaijmmajcmaoab
open Go.RowKit
def xorN (x y : Nat) : Nat := x ^^^ y
def exV (x y : Nat) : UInt8 := UInt8.ofNat (xorN x y)
theorem xor_small : ∀ x, x < 8 → ∀ y, y < 8 → xorN x y < 8 := by decide
theorem xor_bits : ∀ (x : Nat), x < 8 → ∀ (y : Nat), y < 8 → bits .xor .i64 (x : Int) (y : Int) = (xorN x y : Int) := by decide
theorem exV_int (x y : Nat) (hx : x < 8) (hy : y < 8) : Value.int .u8 (xorN x y : Int) = .int .u8 (exV x y).toNat := by
  have := xor_small x hx y hy
  unfold exV
  rw [u8_of _ (by omega)]
set_option maxHeartbeats 1000000 in
theorem l01Elementary_0 (w : World) :
    Calls Try.prog 43 #[.int .i64 0] w fun e w' => e = .returned (.agg (sqc 1 (fillT 1 exV 1 0))) ∧ Below w.heap.size w w' := by
  go_enter Try.func43, Try.ntmps43
  go_wp2_with (first | (refine wpL_alloc rfl rfl zeroSq ?_; intro g hg; (try simp at hg); subst hg) | (refine wpL_build1 rfl rfl rfl (builtSqO _) ?_) | (refine wpL_storeFull rfl rfl rfl rfl rowSq (Has.start2 _ _ _ _ _).h1 (sqc_size _ _) (sqc_ok _ _) ?_))
  go_loopw [5] (fun i wr => ∃ k : Nat, k ≤ 1 ∧ i = .int .i64 k ∧ Has w wr [(sqc 0 (fun _ => 0), 28), (sqc 1 (fillT 1 (exV) k 0), 28)]) (fun i _ => 10 - (intOf i).toNat)
  case atStart => exact ⟨0, by omega, rfl, by rw [fillT_zero]; exact (Has.start2 w _ _ _ _).r1⟩
  case round =>
    obtain ⟨k, hk, rfl, hH⟩ := hrel
    by_cases hlt : k < 1
    · have hk10 : k < 10 := by omega
      obtain ⟨wo, hwo⟩ : ∃ wo : World, wo = wr := ⟨_, rfl⟩
      subst hwo
      have c1o := hH.c1
      go_wp2
      go_loopw [6] (fun i wr => ∃ j : Nat, j ≤ 1 ∧ i = .int .i64 j ∧ Has w wr [(sqc 0 (fun _ => 0), 28), (sqc 1 (fillT 1 (exV) k j), 28)]) (fun i _ => 10 - (intOf i).toNat)
      case atStart => exact ⟨0, by omega, rfl, hH⟩
      case round =>
        clear hH c1o
        obtain ⟨j, hj, rfl, hH⟩ := hrel
        by_cases hlt2 : j < 1
        · have hj10 : j < 10 := by omega
          have hkj : 1 + k * 10 + j < 101 := by omega
          have hx := hid (xor_bits k (by omega) j (by omega))
          have hx := hx.out
          have hs := xor_small k (by omega) j (by omega)
          have c1' : wr.cell? ⟨w.heap.size + 1, 1 + k * 10 + j, none⟩ = some (.int .u8 (fillT 1 (exV) k j (k * 10 + j)).toNat) := by
            show wr.cell? _ = _
            rw [hH.c1, Nat.add_assoc, sqc_get _ _ _ (by omega)]
          have f1' : wr.frozen? ⟨w.heap.size + 1, 1 + k * 10 + j, none⟩ = false := hH.f1 _
          go_wp2
          go_roundw
          case rel => exact ⟨j + 1, by omega, by go_num, hH.s1 _ _ (by rw [Nat.add_assoc]; exact sqc_setv _ _ _ _ _ (exV k j) (exV_int k j (by omega) (by omega)) (fun i _ => fillT_step 1 (exV) k j hj10 i))⟩
          case measure => simp [intOf]; omega
        · obtain rfl : j = 1 := by omega
          go_wp2
          go_roundw
          case rel => exact ⟨k + 1, by omega, by go_num, by rw [fillT_row]; exact hH⟩
          case measure => simp [intOf]; omega
    · obtain rfl : k = 1 := by omega
      go_wp2_with (first | (refine wpL_loadFull rfl rfl rfl rowSq hH.h1 (sqc_size _ _) ?_) | (refine wpL_storeFull rfl rfl rfl rfl rowSq hH.h0 (sqc_size _ _) (sqc_ok _ _) ?_))
      exact ret_c rfl rfl hH.r0.h0 rowSq (sqc_size _ _) ⟨rfl, hH.r0.below⟩
set_option maxHeartbeats 1000000 in
theorem implElementarySquare_0 (w : World) :
    Calls Try.prog 19 #[.int .i64 0] w fun e w' => e = .returned (.tuple #[.agg (sqc 1 (fillT 1 exV 1 0)), .int .i64 0]) ∧ Below w.heap.size w w' := by
  go_enter Try.func19, Try.ntmps19
  go_wp2_with (first | (refine wpL_alloc rfl rfl zeroSq ?_; intro g hg; (try simp at hg); subst hg) | (refine wpL_build1 rfl rfl rfl (builtSqO _) ?_) | (refine wpL_storeFull rfl rfl rfl rfl rowSq (Has.start2 _ _ _ _ _).h1 (sqc_size _ _) (sqc_ok _ _) ?_))
  go_loopw [20] (fun i wr => ∃ k : Nat, k ≤ 1 ∧ i = .int .i64 k ∧ Has w wr [(sqc 0 (fun _ => 0), 28), (sqc 1 (fillT 1 (exV) k 0), 28)]) (fun i _ => 10 - (intOf i).toNat)
  case atStart => exact ⟨0, by omega, rfl, by rw [fillT_zero]; exact (Has.start2 w _ _ _ _).r1⟩
  case round =>
    obtain ⟨k, hk, rfl, hH⟩ := hrel
    by_cases hlt : k < 1
    · have hk10 : k < 10 := by omega
      obtain ⟨wo, hwo⟩ : ∃ wo : World, wo = wr := ⟨_, rfl⟩
      subst hwo
      have c1o := hH.c1
      go_wp2
      go_loopw [24] (fun i wr => ∃ j : Nat, j ≤ 1 ∧ i = .int .i64 j ∧ Has w wr [(sqc 0 (fun _ => 0), 28), (sqc 1 (fillT 1 (exV) k j), 28)]) (fun i _ => 10 - (intOf i).toNat)
      case atStart => exact ⟨0, by omega, rfl, hH⟩
      case round =>
        clear hH c1o
        obtain ⟨j, hj, rfl, hH⟩ := hrel
        by_cases hlt2 : j < 1
        · have hj10 : j < 10 := by omega
          have hkj : 1 + k * 10 + j < 101 := by omega
          have hx := hid (xor_bits k (by omega) j (by omega))
          have hx := hx.out
          have hs := xor_small k (by omega) j (by omega)
          have c1' : wr.cell? ⟨w.heap.size + 1, 1 + k * 10 + j, none⟩ = some (.int .u8 (fillT 1 (exV) k j (k * 10 + j)).toNat) := by
            show wr.cell? _ = _
            rw [hH.c1, Nat.add_assoc, sqc_get _ _ _ (by omega)]
          have f1' : wr.frozen? ⟨w.heap.size + 1, 1 + k * 10 + j, none⟩ = false := hH.f1 _
          go_wp2
          go_roundw
          case rel => exact ⟨j + 1, by omega, by go_num, hH.s1 _ _ (by rw [Nat.add_assoc]; exact sqc_setv _ _ _ _ _ (exV k j) (exV_int k j (by omega) (by omega)) (fun i _ => fillT_step 1 (exV) k j hj10 i))⟩
          case measure => simp [intOf]; omega
        · obtain rfl : j = 1 := by omega
          go_wp2
          go_roundw
          case rel => exact ⟨k + 1, by omega, by go_num, by rw [fillT_row]; exact hH⟩
          case measure => simp [intOf]; omega
    · obtain rfl : k = 1 := by omega
      go_wp2_with (first | (refine wpL_loadFull rfl rfl rfl rowSq hH.h1 (sqc_size _ _) ?_) | (refine wpL_storeFull rfl rfl rfl rfl rowSq hH.h0 (sqc_size _ _) (sqc_ok _ _) ?_))
      exact ret_ct rfl rfl rfl hH.r0.h0 rowSq (sqc_size _ _) ⟨rfl, hH.r0.below⟩
set_option maxHeartbeats 1000000 in
theorem specElementarySquare_0 (w : World) :
    Calls Try.prog 18 #[.int .i64 0] w fun e w' => e = .returned (.tuple #[.agg (sqc 1 (fillT 1 exV 1 0)), .int .i64 0]) ∧ Below w.heap.size w w' := by
  have hH := Has.start1 w (sqc 0 fun _ => 0) 28
  have hi : inB 0 0 3 = true := rfl
  go_enter Try.func18, Try.ntmps18
  go_wp2_with (first | (refine wpL_alloc rfl rfl zeroSq ?_; intro g hg; (try simp at hg); subst hg) | (go_at_call 40; refine (l01In_any _ _ _ _).mono ?_; rintro e w' ⟨rfl, rfl⟩) | (go_at_call 43; refine (l01Elementary_0 _).mono ?_; rintro e w2 ⟨rfl, hb⟩; replace hH := hH.call' hb) | (refine wpL_storeFull rfl rfl rfl rfl rowSq hH.h0 (sqc_size _ _) (sqc_ok _ _) ?_))
  exact ret_ct rfl rfl rfl hH.r0.h0 rowSq (sqc_size _ _) ⟨rfl, hH.r0.below⟩
set_option maxHeartbeats 1000000 in
theorem l01Elementary_1 (w : World) :
    Calls Try.prog 43 #[.int .i64 1] w fun e w' => e = .returned (.agg (sqc 2 (fillT 2 exV 2 0))) ∧ Below w.heap.size w w' := by
  go_enter Try.func43, Try.ntmps43
  go_wp2_with (first | (refine wpL_alloc rfl rfl zeroSq ?_; intro g hg; (try simp at hg); subst hg) | (refine wpL_build1 rfl rfl rfl (builtSqO _) ?_) | (refine wpL_storeFull rfl rfl rfl rfl rowSq (Has.start2 _ _ _ _ _).h1 (sqc_size _ _) (sqc_ok _ _) ?_))
  go_loopw [5] (fun i wr => ∃ k : Nat, k ≤ 2 ∧ i = .int .i64 k ∧ Has w wr [(sqc 0 (fun _ => 0), 28), (sqc 2 (fillT 2 (exV) k 0), 28)]) (fun i _ => 10 - (intOf i).toNat)
  case atStart => exact ⟨0, by omega, rfl, by rw [fillT_zero]; exact (Has.start2 w _ _ _ _).r1⟩
  case round =>
    obtain ⟨k, hk, rfl, hH⟩ := hrel
    by_cases hlt : k < 2
    · have hk10 : k < 10 := by omega
      obtain ⟨wo, hwo⟩ : ∃ wo : World, wo = wr := ⟨_, rfl⟩
      subst hwo
      have c1o := hH.c1
      go_wp2
      go_loopw [6] (fun i wr => ∃ j : Nat, j ≤ 2 ∧ i = .int .i64 j ∧ Has w wr [(sqc 0 (fun _ => 0), 28), (sqc 2 (fillT 2 (exV) k j), 28)]) (fun i _ => 10 - (intOf i).toNat)
      case atStart => exact ⟨0, by omega, rfl, hH⟩
      case round =>
        clear hH c1o
        obtain ⟨j, hj, rfl, hH⟩ := hrel
        by_cases hlt2 : j < 2
        · have hj10 : j < 10 := by omega
          have hkj : 1 + k * 10 + j < 101 := by omega
          have hx := hid (xor_bits k (by omega) j (by omega))
          have hx := hx.out
          have hs := xor_small k (by omega) j (by omega)
          have c1' : wr.cell? ⟨w.heap.size + 1, 1 + k * 10 + j, none⟩ = some (.int .u8 (fillT 2 (exV) k j (k * 10 + j)).toNat) := by
            show wr.cell? _ = _
            rw [hH.c1, Nat.add_assoc, sqc_get _ _ _ (by omega)]
          have f1' : wr.frozen? ⟨w.heap.size + 1, 1 + k * 10 + j, none⟩ = false := hH.f1 _
          go_wp2
          go_roundw
          case rel => exact ⟨j + 1, by omega, by go_num, hH.s1 _ _ (by rw [Nat.add_assoc]; exact sqc_setv _ _ _ _ _ (exV k j) (exV_int k j (by omega) (by omega)) (fun i _ => fillT_step 2 (exV) k j hj10 i))⟩
          case measure => simp [intOf]; omega
        · obtain rfl : j = 2 := by omega
          go_wp2
          go_roundw
          case rel => exact ⟨k + 1, by omega, by go_num, by rw [fillT_row]; exact hH⟩
          case measure => simp [intOf]; omega
    · obtain rfl : k = 2 := by omega
      go_wp2_with (first | (refine wpL_loadFull rfl rfl rfl rowSq hH.h1 (sqc_size _ _) ?_) | (refine wpL_storeFull rfl rfl rfl rfl rowSq hH.h0 (sqc_size _ _) (sqc_ok _ _) ?_))
      exact ret_c rfl rfl hH.r0.h0 rowSq (sqc_size _ _) ⟨rfl, hH.r0.below⟩
set_option maxHeartbeats 1000000 in
theorem implElementarySquare_1 (w : World) :
    Calls Try.prog 19 #[.int .i64 1] w fun e w' => e = .returned (.tuple #[.agg (sqc 2 (fillT 2 exV 2 0)), .int .i64 0]) ∧ Below w.heap.size w w' := by
  go_enter Try.func19, Try.ntmps19
  go_wp2_with (first | (refine wpL_alloc rfl rfl zeroSq ?_; intro g hg; (try simp at hg); subst hg) | (refine wpL_build1 rfl rfl rfl (builtSqO _) ?_) | (refine wpL_storeFull rfl rfl rfl rfl rowSq (Has.start2 _ _ _ _ _).h1 (sqc_size _ _) (sqc_ok _ _) ?_))
  go_loopw [20] (fun i wr => ∃ k : Nat, k ≤ 2 ∧ i = .int .i64 k ∧ Has w wr [(sqc 0 (fun _ => 0), 28), (sqc 2 (fillT 2 (exV) k 0), 28)]) (fun i _ => 10 - (intOf i).toNat)
  case atStart => exact ⟨0, by omega, rfl, by rw [fillT_zero]; exact (Has.start2 w _ _ _ _).r1⟩
  case round =>
    obtain ⟨k, hk, rfl, hH⟩ := hrel
    by_cases hlt : k < 2
    · have hk10 : k < 10 := by omega
      obtain ⟨wo, hwo⟩ : ∃ wo : World, wo = wr := ⟨_, rfl⟩
      subst hwo
      have c1o := hH.c1
      go_wp2
      go_loopw [24] (fun i wr => ∃ j : Nat, j ≤ 2 ∧ i = .int .i64 j ∧ Has w wr [(sqc 0 (fun _ => 0), 28), (sqc 2 (fillT 2 (exV) k j), 28)]) (fun i _ => 10 - (intOf i).toNat)
      case atStart => exact ⟨0, by omega, rfl, hH⟩
      case round =>
        clear hH c1o
        obtain ⟨j, hj, rfl, hH⟩ := hrel
        by_cases hlt2 : j < 2
        · have hj10 : j < 10 := by omega
          have hkj : 1 + k * 10 + j < 101 := by omega
          have hx := hid (xor_bits k (by omega) j (by omega))
          have hx := hx.out
          have hs := xor_small k (by omega) j (by omega)
          have c1' : wr.cell? ⟨w.heap.size + 1, 1 + k * 10 + j, none⟩ = some (.int .u8 (fillT 2 (exV) k j (k * 10 + j)).toNat) := by
            show wr.cell? _ = _
            rw [hH.c1, Nat.add_assoc, sqc_get _ _ _ (by omega)]
          have f1' : wr.frozen? ⟨w.heap.size + 1, 1 + k * 10 + j, none⟩ = false := hH.f1 _
          go_wp2
          go_roundw
          case rel => exact ⟨j + 1, by omega, by go_num, hH.s1 _ _ (by rw [Nat.add_assoc]; exact sqc_setv _ _ _ _ _ (exV k j) (exV_int k j (by omega) (by omega)) (fun i _ => fillT_step 2 (exV) k j hj10 i))⟩
          case measure => simp [intOf]; omega
        · obtain rfl : j = 2 := by omega
          go_wp2
          go_roundw
          case rel => exact ⟨k + 1, by omega, by go_num, by rw [fillT_row]; exact hH⟩
          case measure => simp [intOf]; omega
    · obtain rfl : k = 2 := by omega
      go_wp2_with (first | (refine wpL_loadFull rfl rfl rfl rowSq hH.h1 (sqc_size _ _) ?_) | (refine wpL_storeFull rfl rfl rfl rfl rowSq hH.h0 (sqc_size _ _) (sqc_ok _ _) ?_))
      exact ret_ct rfl rfl rfl hH.r0.h0 rowSq (sqc_size _ _) ⟨rfl, hH.r0.below⟩
set_option maxHeartbeats 1000000 in
theorem specElementarySquare_1 (w : World) :
    Calls Try.prog 18 #[.int .i64 1] w fun e w' => e = .returned (.tuple #[.agg (sqc 2 (fillT 2 exV 2 0)), .int .i64 0]) ∧ Below w.heap.size w w' := by
  have hH := Has.start1 w (sqc 0 fun _ => 0) 28
  have hi : inB 1 0 3 = true := rfl
  go_enter Try.func18, Try.ntmps18
  go_wp2_with (first | (refine wpL_alloc rfl rfl zeroSq ?_; intro g hg; (try simp at hg); subst hg) | (go_at_call 40; refine (l01In_any _ _ _ _).mono ?_; rintro e w' ⟨rfl, rfl⟩) | (go_at_call 43; refine (l01Elementary_1 _).mono ?_; rintro e w2 ⟨rfl, hb⟩; replace hH := hH.call' hb) | (refine wpL_storeFull rfl rfl rfl rfl rowSq hH.h0 (sqc_size _ _) (sqc_ok _ _) ?_))
  exact ret_ct rfl rfl rfl hH.r0.h0 rowSq (sqc_size _ _) ⟨rfl, hH.r0.below⟩
set_option maxHeartbeats 1000000 in
theorem l01Elementary_2 (w : World) :
    Calls Try.prog 43 #[.int .i64 2] w fun e w' => e = .returned (.agg (sqc 4 (fillT 4 exV 4 0))) ∧ Below w.heap.size w w' := by
  go_enter Try.func43, Try.ntmps43
  go_wp2_with (first | (refine wpL_alloc rfl rfl zeroSq ?_; intro g hg; (try simp at hg); subst hg) | (refine wpL_build1 rfl rfl rfl (builtSqO _) ?_) | (refine wpL_storeFull rfl rfl rfl rfl rowSq (Has.start2 _ _ _ _ _).h1 (sqc_size _ _) (sqc_ok _ _) ?_))
  go_loopw [5] (fun i wr => ∃ k : Nat, k ≤ 4 ∧ i = .int .i64 k ∧ Has w wr [(sqc 0 (fun _ => 0), 28), (sqc 4 (fillT 4 (exV) k 0), 28)]) (fun i _ => 10 - (intOf i).toNat)
  case atStart => exact ⟨0, by omega, rfl, by rw [fillT_zero]; exact (Has.start2 w _ _ _ _).r1⟩
  case round =>
    obtain ⟨k, hk, rfl, hH⟩ := hrel
    by_cases hlt : k < 4
    · have hk10 : k < 10 := by omega
      obtain ⟨wo, hwo⟩ : ∃ wo : World, wo = wr := ⟨_, rfl⟩
      subst hwo
      have c1o := hH.c1
      go_wp2
      go_loopw [6] (fun i wr => ∃ j : Nat, j ≤ 4 ∧ i = .int .i64 j ∧ Has w wr [(sqc 0 (fun _ => 0), 28), (sqc 4 (fillT 4 (exV) k j), 28)]) (fun i _ => 10 - (intOf i).toNat)
      case atStart => exact ⟨0, by omega, rfl, hH⟩
      case round =>
        clear hH c1o
        obtain ⟨j, hj, rfl, hH⟩ := hrel
        by_cases hlt2 : j < 4
        · have hj10 : j < 10 := by omega
          have hkj : 1 + k * 10 + j < 101 := by omega
          have hx := hid (xor_bits k (by omega) j (by omega))
          have hx := hx.out
          have hs := xor_small k (by omega) j (by omega)
          have c1' : wr.cell? ⟨w.heap.size + 1, 1 + k * 10 + j, none⟩ = some (.int .u8 (fillT 4 (exV) k j (k * 10 + j)).toNat) := by
            show wr.cell? _ = _
            rw [hH.c1, Nat.add_assoc, sqc_get _ _ _ (by omega)]
          have f1' : wr.frozen? ⟨w.heap.size + 1, 1 + k * 10 + j, none⟩ = false := hH.f1 _
          go_wp2
          go_roundw
          case rel => exact ⟨j + 1, by omega, by go_num, hH.s1 _ _ (by rw [Nat.add_assoc]; exact sqc_setv _ _ _ _ _ (exV k j) (exV_int k j (by omega) (by omega)) (fun i _ => fillT_step 4 (exV) k j hj10 i))⟩
          case measure => simp [intOf]; omega
        · obtain rfl : j = 4 := by omega
          go_wp2
          go_roundw
          case rel => exact ⟨k + 1, by omega, by go_num, by rw [fillT_row]; exact hH⟩
          case measure => simp [intOf]; omega
    · obtain rfl : k = 4 := by omega
      go_wp2_with (first | (refine wpL_loadFull rfl rfl rfl rowSq hH.h1 (sqc_size _ _) ?_) | (refine wpL_storeFull rfl rfl rfl rfl rowSq hH.h0 (sqc_size _ _) (sqc_ok _ _) ?_))
      exact ret_c rfl rfl hH.r0.h0 rowSq (sqc_size _ _) ⟨rfl, hH.r0.below⟩
set_option maxHeartbeats 1000000 in
theorem implElementarySquare_2 (w : World) :
    Calls Try.prog 19 #[.int .i64 2] w fun e w' => e = .returned (.tuple #[.agg (sqc 4 (fillT 4 exV 4 0)), .int .i64 0]) ∧ Below w.heap.size w w' := by
  go_enter Try.func19, Try.ntmps19
  go_wp2_with (first | (refine wpL_alloc rfl rfl zeroSq ?_; intro g hg; (try simp at hg); subst hg) | (refine wpL_build1 rfl rfl rfl (builtSqO _) ?_) | (refine wpL_storeFull rfl rfl rfl rfl rowSq (Has.start2 _ _ _ _ _).h1 (sqc_size _ _) (sqc_ok _ _) ?_))
  go_loopw [20] (fun i wr => ∃ k : Nat, k ≤ 4 ∧ i = .int .i64 k ∧ Has w wr [(sqc 0 (fun _ => 0), 28), (sqc 4 (fillT 4 (exV) k 0), 28)]) (fun i _ => 10 - (intOf i).toNat)
  case atStart => exact ⟨0, by omega, rfl, by rw [fillT_zero]; exact (Has.start2 w _ _ _ _).r1⟩
  case round =>
    obtain ⟨k, hk, rfl, hH⟩ := hrel
    by_cases hlt : k < 4
    · have hk10 : k < 10 := by omega
      obtain ⟨wo, hwo⟩ : ∃ wo : World, wo = wr := ⟨_, rfl⟩
      subst hwo
      have c1o := hH.c1
      go_wp2
      go_loopw [24] (fun i wr => ∃ j : Nat, j ≤ 4 ∧ i = .int .i64 j ∧ Has w wr [(sqc 0 (fun _ => 0), 28), (sqc 4 (fillT 4 (exV) k j), 28)]) (fun i _ => 10 - (intOf i).toNat)
      case atStart => exact ⟨0, by omega, rfl, hH⟩
      case round =>
        clear hH c1o
        obtain ⟨j, hj, rfl, hH⟩ := hrel
        by_cases hlt2 : j < 4
        · have hj10 : j < 10 := by omega
          have hkj : 1 + k * 10 + j < 101 := by omega
          have hx := hid (xor_bits k (by omega) j (by omega))
          have hx := hx.out
          have hs := xor_small k (by omega) j (by omega)
          have c1' : wr.cell? ⟨w.heap.size + 1, 1 + k * 10 + j, none⟩ = some (.int .u8 (fillT 4 (exV) k j (k * 10 + j)).toNat) := by
            show wr.cell? _ = _
            rw [hH.c1, Nat.add_assoc, sqc_get _ _ _ (by omega)]
          have f1' : wr.frozen? ⟨w.heap.size + 1, 1 + k * 10 + j, none⟩ = false := hH.f1 _
          go_wp2
          go_roundw
          case rel => exact ⟨j + 1, by omega, by go_num, hH.s1 _ _ (by rw [Nat.add_assoc]; exact sqc_setv _ _ _ _ _ (exV k j) (exV_int k j (by omega) (by omega)) (fun i _ => fillT_step 4 (exV) k j hj10 i))⟩
          case measure => simp [intOf]; omega
        · obtain rfl : j = 4 := by omega
          go_wp2
          go_roundw
          case rel => exact ⟨k + 1, by omega, by go_num, by rw [fillT_row]; exact hH⟩
          case measure => simp [intOf]; omega
    · obtain rfl : k = 4 := by omega
      go_wp2_with (first | (refine wpL_loadFull rfl rfl rfl rowSq hH.h1 (sqc_size _ _) ?_) | (refine wpL_storeFull rfl rfl rfl rfl rowSq hH.h0 (sqc_size _ _) (sqc_ok _ _) ?_))
      exact ret_ct rfl rfl rfl hH.r0.h0 rowSq (sqc_size _ _) ⟨rfl, hH.r0.below⟩
set_option maxHeartbeats 1000000 in
theorem specElementarySquare_2 (w : World) :
    Calls Try.prog 18 #[.int .i64 2] w fun e w' => e = .returned (.tuple #[.agg (sqc 4 (fillT 4 exV 4 0)), .int .i64 0]) ∧ Below w.heap.size w w' := by
  have hH := Has.start1 w (sqc 0 fun _ => 0) 28
  have hi : inB 2 0 3 = true := rfl
  go_enter Try.func18, Try.ntmps18
  go_wp2_with (first | (refine wpL_alloc rfl rfl zeroSq ?_; intro g hg; (try simp at hg); subst hg) | (go_at_call 40; refine (l01In_any _ _ _ _).mono ?_; rintro e w' ⟨rfl, rfl⟩) | (go_at_call 43; refine (l01Elementary_2 _).mono ?_; rintro e w2 ⟨rfl, hb⟩; replace hH := hH.call' hb) | (refine wpL_storeFull rfl rfl rfl rfl rowSq hH.h0 (sqc_size _ _) (sqc_ok _ _) ?_))
  exact ret_ct rfl rfl rfl hH.r0.h0 rowSq (sqc_size _ _) ⟨rfl, hH.r0.below⟩
set_option maxHeartbeats 1000000 in
theorem l01Elementary_3 (w : World) :
    Calls Try.prog 43 #[.int .i64 3] w fun e w' => e = .returned (.agg (sqc 8 (fillT 8 exV 8 0))) ∧ Below w.heap.size w w' := by
  go_enter Try.func43, Try.ntmps43
  go_wp2_with (first | (refine wpL_alloc rfl rfl zeroSq ?_; intro g hg; (try simp at hg); subst hg) | (refine wpL_build1 rfl rfl rfl (builtSqO _) ?_) | (refine wpL_storeFull rfl rfl rfl rfl rowSq (Has.start2 _ _ _ _ _).h1 (sqc_size _ _) (sqc_ok _ _) ?_))
  go_loopw [5] (fun i wr => ∃ k : Nat, k ≤ 8 ∧ i = .int .i64 k ∧ Has w wr [(sqc 0 (fun _ => 0), 28), (sqc 8 (fillT 8 (exV) k 0), 28)]) (fun i _ => 10 - (intOf i).toNat)
  case atStart => exact ⟨0, by omega, rfl, by rw [fillT_zero]; exact (Has.start2 w _ _ _ _).r1⟩
  case round =>
    obtain ⟨k, hk, rfl, hH⟩ := hrel
    by_cases hlt : k < 8
    · have hk10 : k < 10 := by omega
      obtain ⟨wo, hwo⟩ : ∃ wo : World, wo = wr := ⟨_, rfl⟩
      subst hwo
      have c1o := hH.c1
      go_wp2
      go_loopw [6] (fun i wr => ∃ j : Nat, j ≤ 8 ∧ i = .int .i64 j ∧ Has w wr [(sqc 0 (fun _ => 0), 28), (sqc 8 (fillT 8 (exV) k j), 28)]) (fun i _ => 10 - (intOf i).toNat)
      case atStart => exact ⟨0, by omega, rfl, hH⟩
      case round =>
        clear hH c1o
        obtain ⟨j, hj, rfl, hH⟩ := hrel
        by_cases hlt2 : j < 8
        · have hj10 : j < 10 := by omega
          have hkj : 1 + k * 10 + j < 101 := by omega
          have hx := hid (xor_bits k (by omega) j (by omega))
          have hx := hx.out
          have hs := xor_small k (by omega) j (by omega)
          have c1' : wr.cell? ⟨w.heap.size + 1, 1 + k * 10 + j, none⟩ = some (.int .u8 (fillT 8 (exV) k j (k * 10 + j)).toNat) := by
            show wr.cell? _ = _
            rw [hH.c1, Nat.add_assoc, sqc_get _ _ _ (by omega)]
          have f1' : wr.frozen? ⟨w.heap.size + 1, 1 + k * 10 + j, none⟩ = false := hH.f1 _
          go_wp2
          go_roundw
          case rel => exact ⟨j + 1, by omega, by go_num, hH.s1 _ _ (by rw [Nat.add_assoc]; exact sqc_setv _ _ _ _ _ (exV k j) (exV_int k j (by omega) (by omega)) (fun i _ => fillT_step 8 (exV) k j hj10 i))⟩
          case measure => simp [intOf]; omega
        · obtain rfl : j = 8 := by omega
          go_wp2
          go_roundw
          case rel => exact ⟨k + 1, by omega, by go_num, by rw [fillT_row]; exact hH⟩
          case measure => simp [intOf]; omega
    · obtain rfl : k = 8 := by omega
      go_wp2_with (first | (refine wpL_loadFull rfl rfl rfl rowSq hH.h1 (sqc_size _ _) ?_) | (refine wpL_storeFull rfl rfl rfl rfl rowSq hH.h0 (sqc_size _ _) (sqc_ok _ _) ?_))
      exact ret_c rfl rfl hH.r0.h0 rowSq (sqc_size _ _) ⟨rfl, hH.r0.below⟩
set_option maxHeartbeats 1000000 in
theorem implElementarySquare_3 (w : World) :
    Calls Try.prog 19 #[.int .i64 3] w fun e w' => e = .returned (.tuple #[.agg (sqc 8 (fillT 8 exV 8 0)), .int .i64 0]) ∧ Below w.heap.size w w' := by
  go_enter Try.func19, Try.ntmps19
  go_wp2_with (first | (refine wpL_alloc rfl rfl zeroSq ?_; intro g hg; (try simp at hg); subst hg) | (refine wpL_build1 rfl rfl rfl (builtSqO _) ?_) | (refine wpL_storeFull rfl rfl rfl rfl rowSq (Has.start2 _ _ _ _ _).h1 (sqc_size _ _) (sqc_ok _ _) ?_))
  go_loopw [20] (fun i wr => ∃ k : Nat, k ≤ 8 ∧ i = .int .i64 k ∧ Has w wr [(sqc 0 (fun _ => 0), 28), (sqc 8 (fillT 8 (exV) k 0), 28)]) (fun i _ => 10 - (intOf i).toNat)
  case atStart => exact ⟨0, by omega, rfl, by rw [fillT_zero]; exact (Has.start2 w _ _ _ _).r1⟩
  case round =>
    obtain ⟨k, hk, rfl, hH⟩ := hrel
    by_cases hlt : k < 8
    · have hk10 : k < 10 := by omega
      obtain ⟨wo, hwo⟩ : ∃ wo : World, wo = wr := ⟨_, rfl⟩
      subst hwo
      have c1o := hH.c1
      go_wp2
      go_loopw [24] (fun i wr => ∃ j : Nat, j ≤ 8 ∧ i = .int .i64 j ∧ Has w wr [(sqc 0 (fun _ => 0), 28), (sqc 8 (fillT 8 (exV) k j), 28)]) (fun i _ => 10 - (intOf i).toNat)
      case atStart => exact ⟨0, by omega, rfl, hH⟩
      case round =>
        clear hH c1o
        obtain ⟨j, hj, rfl, hH⟩ := hrel
        by_cases hlt2 : j < 8
        · have hj10 : j < 10 := by omega
          have hkj : 1 + k * 10 + j < 101 := by omega
          have hx := hid (xor_bits k (by omega) j (by omega))
          have hx := hx.out
          have hs := xor_small k (by omega) j (by omega)
          have c1' : wr.cell? ⟨w.heap.size + 1, 1 + k * 10 + j, none⟩ = some (.int .u8 (fillT 8 (exV) k j (k * 10 + j)).toNat) := by
            show wr.cell? _ = _
            rw [hH.c1, Nat.add_assoc, sqc_get _ _ _ (by omega)]
          have f1' : wr.frozen? ⟨w.heap.size + 1, 1 + k * 10 + j, none⟩ = false := hH.f1 _
          go_wp2
          go_roundw
          case rel => exact ⟨j + 1, by omega, by go_num, hH.s1 _ _ (by rw [Nat.add_assoc]; exact sqc_setv _ _ _ _ _ (exV k j) (exV_int k j (by omega) (by omega)) (fun i _ => fillT_step 8 (exV) k j hj10 i))⟩
          case measure => simp [intOf]; omega
        · obtain rfl : j = 8 := by omega
          go_wp2
          go_roundw
          case rel => exact ⟨k + 1, by omega, by go_num, by rw [fillT_row]; exact hH⟩
          case measure => simp [intOf]; omega
    · obtain rfl : k = 8 := by omega
      go_wp2_with (first | (refine wpL_loadFull rfl rfl rfl rowSq hH.h1 (sqc_size _ _) ?_) | (refine wpL_storeFull rfl rfl rfl rfl rowSq hH.h0 (sqc_size _ _) (sqc_ok _ _) ?_))
      exact ret_ct rfl rfl rfl hH.r0.h0 rowSq (sqc_size _ _) ⟨rfl, hH.r0.below⟩
set_option maxHeartbeats 1000000 in
theorem specElementarySquare_3 (w : World) :
    Calls Try.prog 18 #[.int .i64 3] w fun e w' => e = .returned (.tuple #[.agg (sqc 8 (fillT 8 exV 8 0)), .int .i64 0]) ∧ Below w.heap.size w w' := by
  have hH := Has.start1 w (sqc 0 fun _ => 0) 28
  have hi : inB 3 0 3 = true := rfl
  go_enter Try.func18, Try.ntmps18
  go_wp2_with (first | (refine wpL_alloc rfl rfl zeroSq ?_; intro g hg; (try simp at hg); subst hg) | (go_at_call 40; refine (l01In_any _ _ _ _).mono ?_; rintro e w' ⟨rfl, rfl⟩) | (go_at_call 43; refine (l01Elementary_3 _).mono ?_; rintro e w2 ⟨rfl, hb⟩; replace hH := hH.call' hb) | (refine wpL_storeFull rfl rfl rfl rfl rowSq hH.h0 (sqc_size _ _) (sqc_ok _ _) ?_))
  exact ret_ct rfl rfl rfl hH.r0.h0 rowSq (sqc_size _ _) ⟨rfl, hH.r0.below⟩
theorem specElementarySquare_bad (n : Int) (w : World) (h : ¬ (0 ≤ n ∧ n ≤ 3)) :
    Calls Try.prog 18 #[.int .i64 n] w fun e w' => e = .returned (.tuple #[.agg (sqc 0 fun _ => 0), .int .i64 2]) ∧ Below w.heap.size w w' := by
  have hH := Has.start1 w (sqc 0 fun _ => 0) 28
  have hi := inB_false h
  go_enter Try.func18, Try.ntmps18
  go_wp2_with (first | (refine wpL_alloc rfl rfl zeroSq ?_; intro g hg; (try simp at hg); subst hg) | (go_at_call 40; refine (l01In_any _ _ _ _).mono ?_; rintro e w' ⟨rfl, rfl⟩) | (refine wpL_build rfl rfl builtSq ?_) | (refine wpL_storeSame rfl rfl rfl rfl rowSq hH.h0 (sqc_ok _ _) ?_))
  exact ret_ct rfl rfl rfl hH.h0 rowSq (sqc_size _ _) ⟨rfl, hH.below⟩
theorem implElementarySquare_bad (n : Int) (w : World) (h : ¬ (0 ≤ n ∧ n ≤ 3)) :
    Calls Try.prog 19 #[.int .i64 n] w fun e w' => e = .returned (.tuple #[.agg (sqc 0 fun _ => 0), .int .i64 2]) ∧ Below w.heap.size w w' := by
  have hH := Has.start1 w (sqc 0 fun _ => 0) 28
  by_cases h0 : n < 0
  · have hd : decide (n < 0) = true := by simpa using h0
    go_enter Try.func19, Try.ntmps19
    go_wp2_with (first | (refine wpL_alloc rfl rfl zeroSq ?_; intro g hg; (try simp at hg); subst hg) | (refine wpL_build rfl rfl builtSq ?_) | (refine wpL_storeSame rfl rfl rfl rfl rowSq hH.h0 (sqc_ok _ _) ?_))
    exact ret_ct rfl rfl rfl hH.h0 rowSq (sqc_size _ _) ⟨rfl, hH.below⟩
  · have hd : decide (n < 0) = false := by simpa using h0
    have h3 : 3 < n := by omega
    go_enter Try.func19, Try.ntmps19
    go_wp2_with (first | (refine wpL_alloc rfl rfl zeroSq ?_; intro g hg; (try simp at hg); subst hg) | (refine wpL_build rfl rfl builtSq ?_) | (refine wpL_storeSame rfl rfl rfl rfl rowSq hH.h0 (sqc_ok _ _) ?_))
    exact ret_ct rfl rfl rfl hH.h0 rowSq (sqc_size _ _) ⟨rfl, hH.below⟩
end Go.Proofs.Ytfaijmmajcmaoab
