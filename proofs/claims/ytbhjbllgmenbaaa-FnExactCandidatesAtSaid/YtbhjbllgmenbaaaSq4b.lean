/- Proved: what the program's function that takes the corner of a square returns. Conditions: those that the theorem names. -/
import Derived.Test.YtbhjbllgmenbaaaSq4
namespace Go.Proofs.Ytbhjbllgmenbaaa
set_option linter.unusedVariables false
set_option linter.unusedSimpArgs false
open Go.RowKit
def cornP (g : Nat → UInt8) (N k : Nat) : Nat → UInt8 := fun i => if i / 10 < k ∧ i % 10 < N then g i else 0
theorem cornP_zero (g : Nat → UInt8) (N : Nat) : cornP g N 0 = fun _ => 0 := by funext i; simp [cornP]
theorem cornP_step (g : Nat → UInt8) (N k i : Nat) : cornP g N (k + 1) i = if i / 10 = k ∧ i % 10 < N then g i else cornP g N k i := by
  unfold cornP
  by_cases e : i / 10 = k ∧ i % 10 < N
  · rw [if_pos e, if_pos (by omega)]
  · rw [if_neg e]
    have : (i / 10 < k + 1 ∧ i % 10 < N) ↔ (i / 10 < k ∧ i % 10 < N) := by omega
    simp only [this]
theorem cornP_done (g : Nat → UInt8) (N : Nat) : cornP g N N = corner g N := rfl
set_option maxRecDepth 10000 in
set_option maxHeartbeats 2000000 in
theorem cornerOf_any (g : Nat → UInt8) (N : Nat) (w : World) (h1 : 1 ≤ N) (h10 : N ≤ 10) :
    Calls Try.prog 93 #[.agg (sqc N g)] w fun e w' => e = .returned (.agg (sqc N (corner g N))) ∧ Below w.heap.size w w' := by
  have hN1 : 1 ≤ (N : Int) := by omega
  have hN2 : (N : Int) ≤ 10 := by omega
  have hS := Has.start3 w (sqc N g) (sqc 0 fun _ => 0) (sqc 0 fun _ => 0) 29 29 29
  have hH := hS.r2 (cs' := sqc N fun _ => 0)
  go_enter Try.func93, Try.ntmps93
  go_wp2_with (first | (refine wpL_alloc rfl rfl zeroSq ?_; intro g hg; (try simp at hg); subst hg) | (refine wpL_build1 rfl rfl rfl (builtSqO _) ?_) | (refine wpL_storeFull rfl rfl rfl rfl rowSq hS.h2 (sqc_size _ _) (sqc_ok _ _) ?_; have c0 := hH.c0))
  clear hS c0
  go_loopw [10] (fun i wr => ∃ k : Nat, k ≤ N ∧ i = .int .i64 k ∧ Has w wr [(sqc N g, 29), (sqc 0 (fun _ => 0), 29), (sqc N (cornP g N k), 29)]) (fun i _ => 10 - (intOf i).toNat)
  case atStart => exact ⟨0, by omega, rfl, by rw [cornP_zero]; exact hH⟩
  case round =>
    clear hH
    obtain ⟨k, hk, rfl, hH⟩ := hrel
    by_cases hlt : k < N
    · have hk10 : k < 10 := by omega
      have hk1 : (k : Int) < 10 := by omega
      go_wp2
      refine wp_region_frame (X := Unit) (fun d _ => [(13, bif d 0 then .int .i64 k else u13), (14, bif d 1 then .pointer (some ⟨w.heap.size + 1 + 1, 1, none⟩) else u14), (15, bif d 2 then .pointer (some ⟨w.heap.size + 1 + 1, 1 + k * 10, none⟩) else u15), (16, bif d 3 then .pointer (some ⟨w.heap.size, 0, none⟩) else u16), (17, bif d 4 then .int .i64 N else u17), (18, bif d 5 then .slice (some ⟨w.heap.size + 1 + 1, 1 + k * 10, none⟩) N 10 else u18), (19, bif d 6 then .int .i64 k else u19), (20, bif d 7 then .pointer (some ⟨w.heap.size, 1, none⟩) else u20), (21, bif d 8 then .pointer (some ⟨w.heap.size, 1 + k * 10, none⟩) else u21), (22, bif d 9 then .slice (some ⟨w.heap.size, 1 + k * 10, none⟩) 10 10 else u22), (23, bif d 10 then .int .i64 N else u23)])
        (fun d _ w' => Has w w' [(sqc N g, 29), (sqc 0 (fun _ => 0), 29), (sqc N (bif d 10 then cornP g N (k + 1) else cornP g N k), 29)]) (by kernel_rfl) (by kernel_rfl) ?h0 ?hs ?hq
      case h0 => exact ⟨(), (by simp [lput]), hH.drew⟩
      case hs =>
        refine ⟨?_, ?_, ?_, ?_, ?_, ?_, ?_, ?_, ?_, ?_, ?_, trivial⟩
        all_goals
          clear hH
          intro d _ w1 hd hn hH
          simp only [needs, Region.binds, reduceCtorEq, Bool.false_eq_true, false_implies, true_and, and_true, true_implies, forall_const] at hn
          simp only [lput, List.set, hn, cond_true]
          try simp only [hd, cond_false] at hH
          have c0 := hH.c0
          go_wp2_with (first | (refine wpL_copySq (k := k) (N := N) rfl rfl Try.underlying111 sz5 rfl rfl hH.h2 hH.h0 hk10 h10 (fun i _ => cornP_step g N k i) ?_; replace hH := hH.r2 (cs' := sqc N (cornP g N (k + 1)))))
          first | exact ⟨(), (by simp [lput, done, hn]), hH⟩ | exact ⟨(by simp [lput, done, hn]), hH⟩ | exact ⟨(), (by simp [lput, done]), hH⟩ | exact ⟨(by simp [lput, done]), hH⟩
      case hq =>
        clear hH
        intro d _ w1 hd hH
        simp only [allDone, List.length_cons, List.length_nil, Nat.reduceAdd, and_true] at hd
        simp only [hd, cond_true] at hH
        simp only [lput, List.set, hd, cond_true]
        clear hd
        go_wp2
        go_roundw
        case rel => exact ⟨k + 1, by omega, by go_num, hH⟩
        case measure => simp [intOf]; omega
    · obtain rfl : k = N := by omega
      rw [cornP_done] at hH
      go_wp2_with (first | (refine wpL_loadFull rfl rfl rfl rowSq hH.h2 (sqc_size _ _) ?_) | (refine wpL_storeFull rfl rfl rfl rfl rowSq hH.h1 (sqc_size _ _) (sqc_ok _ _) ?_))
      exact ret_c rfl rfl hH.r1.h1 rowSq (sqc_size _ _) ⟨rfl, hH.r1.below⟩
end Go.Proofs.Ytbhjbllgmenbaaa
