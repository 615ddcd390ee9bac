/- Proved: what CyclicSquare and ElementarySquare return, of program and model alike. Conditions: none. -/
import Derived.Test.YtbhjbllgmenbaaaSq1
import Derived.Test.YtbhjbllgmenbaaaPl1
import Derived.BigRegion
namespace Go.Proofs.Ytbhjbllgmenbaaa
set_option linter.unusedVariables false
set_option linter.unusedSimpArgs false
open Go.RowKit
def cyV (n : Nat) (x y : Nat) : UInt8 := UInt8.ofNat ((x + y) % n)
theorem cyV_int (n x y : Nat) (h0 : 1 ≤ n) (h : n ≤ 10) : Value.int .u8 (((x : Int) + (y : Int)) % (n : Int)) = .int .u8 (cyV n x y).toNat := by
  have hm : (x + y) % n < n := Nat.mod_lt _ h0
  unfold cyV
  rw [u8_of _ (by omega)]
  simp
theorem implCyclicSquare_bad (n : Int) (w : World) (h : ¬ (1 ≤ n ∧ n ≤ 10)) :
    Calls Try.prog 64 #[.int .i64 n] w fun e w' => e = .returned (.tuple #[.agg (sqc 0 fun _ => 0), .int .i64 2]) ∧ Below w.heap.size w w' := by
  have hH := Has.start1 w (sqc 0 fun _ => 0) 29
  have hi := inB_false h
  go_enter Try.func64, Try.ntmps64
  go_wp2_with (first | (refine wpL_alloc rfl rfl zeroSq ?_; intro g hg; (try simp at hg); subst hg) | (go_at_call 92; refine (isOrder_any _ _).mono ?_; rintro e w' ⟨rfl, rfl⟩) | (refine wpL_build rfl rfl builtSq ?_) | (refine wpL_storeSame rfl rfl rfl rfl rowSq hH.h0 (sqc_ok _ _) ?_))
  exact ret_ct rfl rfl rfl hH.h0 rowSq (sqc_size _ _) ⟨rfl, hH.below⟩
set_option maxRecDepth 20000 in
set_option maxHeartbeats 1000000 in
theorem implCyclicSquare_good (N : Nat) (w : World) (h1 : 1 ≤ N) (h10 : N ≤ 10) :
    Calls Try.prog 64 #[.int .i64 N] w fun e w' => e = .returned (.tuple #[.agg (sqc N (fillT N (cyV N) N 0)), .int .i64 0]) ∧ Below w.heap.size w w' := by
  have hN1 : 1 ≤ (N : Int) := by omega
  have hN2 : (N : Int) ≤ 10 := by omega
  have hi := inB_true hN1 hN2
  go_enter Try.func64, Try.ntmps64
  go_wp2_with (first | (refine wpL_alloc rfl rfl zeroSq ?_; intro g hg; (try simp at hg); subst hg) | (go_at_call 92; refine (isOrder_any _ _).mono ?_; rintro e w' ⟨rfl, rfl⟩) | (refine wpL_build1 rfl rfl rfl (builtSqO _) ?_) | (refine wpL_storeFull rfl rfl rfl rfl rowSq (Has.start2 _ _ _ _ _).h1 (sqc_size _ _) (sqc_ok _ _) ?_))
  go_loopw [14] (fun i wr => ∃ k : Nat, k ≤ N ∧ i = .int .i64 k ∧ Has w wr [(sqc 0 (fun _ => 0), 29), (sqc N (fillT N (cyV N) k 0), 29)]) (fun i _ => 10 - (intOf i).toNat)
  case atStart => exact ⟨0, by omega, rfl, by rw [fillT_zero]; exact (Has.start2 w _ _ _ _).r1⟩
  case round =>
    obtain ⟨k, hk, rfl, hH⟩ := hrel
    by_cases hlt : k < N
    · have hk10 : k < 10 := by omega
      obtain ⟨wo, hwo⟩ : ∃ wo : World, wo = wr := ⟨_, rfl⟩
      subst hwo
      have c1o := hH.c1
      go_wp2
      go_loopw [18] (fun i wr => ∃ j : Nat, j ≤ N ∧ i = .int .i64 j ∧ Has w wr [(sqc 0 (fun _ => 0), 29), (sqc N (fillT N (cyV N) k j), 29)]) (fun i _ => 10 - (intOf i).toNat)
      case atStart => exact ⟨0, by omega, rfl, hH⟩
      case round =>
        clear hH c1o
        obtain ⟨j, hj, rfl, hH⟩ := hrel
        by_cases hlt2 : j < N
        · have hj10 : j < 10 := by omega
          have hkj : 1 + k * 10 + j < 101 := by omega
          have hm0 : 0 ≤ ((k : Int) + (j : Int)) % (N : Int) := Int.emod_nonneg _ (by omega)
          have hm1 : ((k : Int) + (j : Int)) % (N : Int) < 10 := by have := Int.emod_lt_of_pos ((k : Int) + (j : Int)) (show (0 : Int) < N by omega); omega
          have c1' : wr.drew.cell? ⟨w.heap.size + 1, 1 + k * 10 + j, none⟩ = some (.int .u8 (fillT N (cyV N) k j (k * 10 + j)).toNat) := by
            show wr.cell? _ = _
            rw [hH.c1, Nat.add_assoc, sqc_get _ _ _ (by omega)]
          have f1' : wr.drew.frozen? ⟨w.heap.size + 1, 1 + k * 10 + j, none⟩ = false := hH.f1 _
          go_wp2
          go_region
          all_goals
            go_wp2
            go_roundw
            case rel => exact ⟨j + 1, by omega, by go_num, (hH.s1 _ _ (by rw [Nat.add_assoc]; exact sqc_setv _ _ _ _ _ (cyV N k j) (cyV_int N k j h1 h10) (fun i _ => fillT_step N (cyV N) k j hj10 i))).drew⟩
            case measure => simp [intOf]; omega
        · obtain rfl : j = N := by omega
          go_wp2
          go_roundw
          case rel => exact ⟨k + 1, by omega, by go_num, by rw [fillT_row]; exact hH⟩
          case measure => simp [intOf]; omega
    · obtain rfl : k = N := by omega
      go_wp2_with (first | (refine wpL_loadFull rfl rfl rfl rowSq hH.h1 (sqc_size _ _) ?_) | (refine wpL_storeFull rfl rfl rfl rfl rowSq hH.h0 (sqc_size _ _) (sqc_ok _ _) ?_))
      exact ret_ct rfl rfl rfl hH.r0.h0 rowSq (sqc_size _ _) ⟨rfl, hH.r0.below⟩
end Go.Proofs.Ytbhjbllgmenbaaa
