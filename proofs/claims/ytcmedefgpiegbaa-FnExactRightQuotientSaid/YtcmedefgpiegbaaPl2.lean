/- Proved: what the helpers of the laws on places return. Conditions: those that each theorem names. -/
import Derived.Test.YtcmedefgpiegbaaPl1
namespace Go.Proofs.Ytcmedefgpiegbaa
open Go.RowKit

theorem specIsPermutation_any (p : Nat → UInt8) (n : Int) (w : World) :
    Calls Try.prog 48 #[.agg (u8s 10 p), .int .i64 n] w fun e w' => e = .returned (.bool (permB p n)) ∧ Below w.heap.size w w' := by
  go_enter Try.func48, Try.ntmps48
  go_wp2_with (first | (go_at_call 85; refine (l01Perm_any _ _ _).mono ?_; rintro e w1 ⟨rfl, hb⟩) | (refine wpL_loadFull rfl rfl rfl rowPl (Has.start1 _ _ _).h0 (u8s_size _ _) ?_))
  go_ret
  exact ⟨rfl, ((Has.start1 w _ _).call' hb).below⟩
set_option maxHeartbeats 1000000 in
theorem eqPlaces_self (p : Nat → UInt8) (w : World) :
    Calls Try.prog 22 #[.agg (u8s 10 p), .agg (u8s 10 p)] w fun e w' => e = .returned (.bool true) ∧ Below w.heap.size w w' := by
  go_enter Try.func22, Try.ntmps22
  go_wp2
  go_loopw [5] (fun i wr => ∃ k : Nat, k ≤ 10 ∧ i = .int .i64 k ∧ Has w wr [(u8s 10 p, 33), (u8s 10 p, 33)]) (fun i _ => 10 - (intOf i).toNat)
  case atStart => exact ⟨0, by omega, rfl, Has.start2 _ _ _ _ _⟩
  case round =>
    obtain ⟨k, hk, rfl, hH⟩ := hrel
    have c0 := hH.c0
    have c1 := hH.c1
    by_cases hlt : k < 10
    · go_wp2
      go_quiet (fail)
      go_wp2
      go_roundw
      case rel => exact ⟨k + 1, by omega, by go_num, hH.drewN _⟩
      case measure => simp [intOf]; omega
    · go_wp2
      go_ret
      exact ⟨rfl, hH.below⟩
end Go.Proofs.Ytcmedefgpiegbaa
