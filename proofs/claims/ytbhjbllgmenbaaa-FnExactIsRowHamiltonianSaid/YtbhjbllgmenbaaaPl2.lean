/- Proved: what the helpers of the laws on places return. Conditions: those that each theorem names. -/
import Derived.Test.YtbhjbllgmenbaaaPl1
namespace Go.Proofs.Ytbhjbllgmenbaaa
set_option linter.unusedVariables false
set_option linter.unusedSimpArgs false
open Go.RowKit

set_option maxHeartbeats 1000000 in
theorem eqPlaces_self (p : Nat → UInt8) (w : World) :
    Calls Try.prog 90 #[.agg (u8s 10 p), .agg (u8s 10 p)] w fun e w' => e = .returned (.bool true) ∧ Below w.heap.size w w' := by
  go_enter Try.func90, Try.ntmps90
  go_wp2
  go_loopw [5] (fun i wr => ∃ k : Nat, k ≤ 10 ∧ i = .int .i64 k ∧ Has w wr [(u8s 10 p, 71), (u8s 10 p, 71)]) (fun i _ => 10 - (intOf i).toNat)
  case atStart => exact ⟨0, by omega, rfl, Has.start2 _ _ _ _ _⟩
  case round =>
    obtain ⟨k, hk, rfl, hH⟩ := hrel
    have c0 := hH.c0
    have c1 := hH.c1
    by_cases hlt : k < 10
    · go_wp2
      go_quiet (fail)
      go_wp2
      go_roundw
      case rel => exact ⟨k + 1, by omega, by go_num, hH.drewN _⟩
      case measure => simp [intOf]; omega
    · go_wp2
      go_ret
      exact ⟨rfl, hH.below⟩
end Go.Proofs.Ytbhjbllgmenbaaa
