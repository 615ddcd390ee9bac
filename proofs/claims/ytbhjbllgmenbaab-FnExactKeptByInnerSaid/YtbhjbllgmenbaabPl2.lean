/- Proved: what the helpers of the laws on places return. Conditions: those that each theorem names. -/
import Derived.Test.YtbhjbllgmenbaabPl1
namespace Go.Proofs.Ytbhjbllgmenbaab
set_option linter.unusedVariables false
set_option linter.unusedSimpArgs false
open Go.RowKit

set_option maxHeartbeats 1000000 in
theorem toPlaces_any (p : Nat → UInt8) (w : World) :
    Calls Try.prog 77 #[.agg (u8s 10 p)] w fun e w' => e = .returned (.agg (u8s 10 p)) ∧ Below w.heap.size w w' := by
  go_enter Try.func77, Try.ntmps77
  go_wp2_with (first | (refine wpL_alloc rfl rfl zeroPl ?_; intro g hg; (try simp at hg); subst hg))
  go_loopw [4] (fun i wr => ∃ k : Nat, k ≤ 10 ∧ i = .int .i64 k ∧ Has w wr [(u8s 10 p, 22), (u8s 10 (fun _ => 0), 97), (u8s 10 (fun i => if i < k then p i else 0), 97)]) (fun i _ => 10 - (intOf i).toNat)
  case atStart => exact ⟨0, by omega, rfl, Has.start3 _ _ _ _ _ _ _⟩
  case round =>
    obtain ⟨k, hk, rfl, hH⟩ := hrel
    by_cases hlt : k < 10
    · have c0 := hH.c0
      have c2 := hH.c2
      have f2 := hH.f2
      go_wp2
      go_roundw
      case rel =>
        refine ⟨k + 1, by omega, by go_num, hH.s2 _ _ (u8s_step 10 _ _ _ _ (fun j hj => ?_))⟩
        by_cases e : j = k
        · subst e; simp
        · simp [e, show j < k + 1 ↔ j < k by omega]
      case measure => simp [intOf]; omega
    · obtain rfl : k = 10 := by omega
      have h1 := hH.h1
      have h2 := hH.h2
      go_wp2_with (first | (refine wpL_loadFull rfl rfl rfl rowPl h2 (u8s_size _ _) ?_) | (refine wpL_storeFull rfl rfl rfl rfl rowPl h1 (u8s_size _ _) (u8s_ok _ _) ?_))
      exact ret_c rfl rfl hH.r1.h1 rowPl (u8s_size _ _) ⟨by rw [u8s_congr 10 _ p (fun i hi => by simp [hi])], hH.r1.below⟩
set_option maxHeartbeats 1000000 in
theorem eqPlaces_self (p : Nat → UInt8) (w : World) :
    Calls Try.prog 79 #[.agg (u8s 10 p), .agg (u8s 10 p)] w fun e w' => e = .returned (.bool true) ∧ Below w.heap.size w w' := by
  go_enter Try.func79, Try.ntmps79
  go_wp2
  go_loopw [5] (fun i wr => ∃ k : Nat, k ≤ 10 ∧ i = .int .i64 k ∧ Has w wr [(u8s 10 p, 97), (u8s 10 p, 97)]) (fun i _ => 10 - (intOf i).toNat)
  case atStart => exact ⟨0, by omega, rfl, Has.start2 _ _ _ _ _⟩
  case round =>
    obtain ⟨k, hk, rfl, hH⟩ := hrel
    have c0 := hH.c0
    have c1 := hH.c1
    by_cases hlt : k < 10
    · go_wp2
      go_quiet (fail)
      go_wp2
      go_roundw
      case rel => exact ⟨k + 1, by omega, by go_num, hH.drewN _⟩
      case measure => simp [intOf]; omega
    · go_wp2
      go_ret
      exact ⟨rfl, hH.below⟩
end Go.Proofs.Ytbhjbllgmenbaab
