/- Proved: what the laws' conversions of an array of bytes, and a table return: the same cells. Conditions: none. -/
import Derived.Test.YtbhjbllgmenbaabSq1
namespace Go.Proofs.Ytbhjbllgmenbaab
set_option linter.unusedVariables false
set_option linter.unusedSimpArgs false
open Go.RowKit
set_option maxHeartbeats 1000000 in
theorem toByteA10_any (p : Nat → UInt8) (w : World) :
    Calls Try.prog 114 #[.agg (u8s 10 p)] w fun e w' => e = .returned (.agg (u8s 10 p)) ∧ Below w.heap.size w w' := by
  go_enter Try.func114, Try.ntmps114
  go_wp2_with (first | (refine wpL_alloc rfl rfl zeroB10 ?_; intro g hg; (try simp at hg); subst hg))
  go_loopw [4] (fun i wr => ∃ k : Nat, k ≤ 10 ∧ i = .int .i64 k ∧ Has w wr [(u8s 10 p, 22), (u8s 10 (fun _ => 0), 22), (u8s 10 (fun i => if i < k then p i else 0), 22)]) (fun i _ => 10 - (intOf i).toNat)
  case atStart => exact ⟨0, by omega, rfl, Has.start3 _ _ _ _ _ _ _⟩
  case round =>
    obtain ⟨k, hk, rfl, hH⟩ := hrel
    by_cases hlt : k < 10
    · have c0 := hH.c0
      have c2 := hH.c2
      have f2 := hH.f2
      go_wp2
      go_roundw
      case rel =>
        refine ⟨k + 1, by omega, by go_num, hH.s2 _ _ (u8s_step 10 _ _ _ _ (fun j hj => ?_))⟩
        by_cases e : j = k
        · subst e; simp
        · simp [e, show j < k + 1 ↔ j < k by omega]
      case measure => simp [intOf]; omega
    · obtain rfl : k = 10 := by omega
      have h1 := hH.h1
      have h2 := hH.h2
      go_wp2_with (first | (refine wpL_loadFull rfl rfl rfl rowB10 h2 (u8s_size _ _) ?_) | (refine wpL_storeFull rfl rfl rfl rfl rowB10 h1 (u8s_size _ _) (u8s_ok _ _) ?_))
      exact ret_c rfl rfl hH.r1.h1 rowB10 (u8s_size _ _) ⟨by rw [u8s_congr 10 _ p (fun i hi => by simp [hi])], hH.r1.below⟩
def upTo (g : Nat → UInt8) (k : Nat) : Nat → UInt8 := fun i => if i / 10 < k then g i else 0
theorem upTo_zero (g : Nat → UInt8) : upTo g 0 = fun _ => 0 := by funext i; simp [upTo]
theorem upTo_row (g : Nat → UInt8) (k i : Nat) : upTo g (k + 1) i = if k * 10 ≤ i ∧ i < k * 10 + 10 then (fun j => g (k * 10 + j)) (i - k * 10) else upTo g k i := by
  simp only [upTo]
  by_cases h : k * 10 ≤ i ∧ i < k * 10 + 10
  · rw [if_pos h, if_pos (by omega), show k * 10 + (i - k * 10) = i by omega]
  · rw [if_neg h]
    have : i / 10 < k + 1 ↔ i / 10 < k := by omega
    simp only [this]
set_option maxHeartbeats 2000000 in
theorem toTable_any (g : Nat → UInt8) (w : World) :
    Calls Try.prog 62 #[.agg (u8s 100 g)] w fun e w' => e = .returned (.agg (u8s 100 g)) ∧ Below w.heap.size w w' := by
  have hH := Has.start3 w (u8s 100 g) (u8s 100 fun _ => 0) (u8s 100 fun _ => 0) 23 30 30
  go_enter Try.func62, Try.ntmps62
  go_wp2_with (first | (refine wpL_alloc rfl rfl zeroTa ?_; intro g hg; (try simp at hg); subst hg))
  go_loopw [4] (fun i wr => ∃ k : Nat, k ≤ 10 ∧ i = .int .i64 k ∧ Has w wr [(u8s 100 g, 23), (u8s 100 (fun _ => 0), 30), (u8s 100 (upTo g k), 30)]) (fun i _ => 10 - (intOf i).toNat)
  case atStart => exact ⟨0, by omega, rfl, by rw [upTo_zero]; exact hH⟩
  case round =>
    clear hH
    obtain ⟨k, hk, rfl, hH⟩ := hrel
    by_cases hlt : k < 10
    · have hk1 : (k : Int) < 10 := by omega
      have hoff : k * 10 + 10 ≤ 100 := by omega
      have hoff' : 0 + k * 10 + 10 ≤ 100 := by omega
      have c0 := hH.c0
      go_wp2_with (first | (refine wpL_loadRow rfl rfl rfl rowB10 hH.h0 hoff ?_) | (go_at_call 114; refine (toByteA10_any _ _).mono ?_; rintro e w2 ⟨rfl, hb⟩; replace hH := hH.call' hb) | (refine wpL_storeRow rfl rfl rfl rfl rowB10 hH.h2 hoff (fun i _ => upTo_row g k i) ?_; replace hH := hH.r2 (cs' := u8s 100 (upTo g (k + 1)))))
      go_roundw
      case rel => exact ⟨k + 1, by omega, by go_num, hH⟩
      case measure => simp [intOf]; omega
    · obtain rfl : k = 10 := by omega
      go_wp2_with (first | (refine wpL_loadFull rfl rfl rfl rowTa hH.h2 (u8s_size _ _) ?_) | (refine wpL_storeFull rfl rfl rfl rfl rowTa hH.h1 (u8s_size _ _) (u8s_ok _ _) ?_))
      exact ret_c rfl rfl hH.r1.h1 rowTa (u8s_size _ _) ⟨by rw [u8s_congr 100 _ g (fun i hi => by simp only [upTo]; rw [if_pos (by omega)])], hH.r1.below⟩
end Go.Proofs.Ytbhjbllgmenbaab
