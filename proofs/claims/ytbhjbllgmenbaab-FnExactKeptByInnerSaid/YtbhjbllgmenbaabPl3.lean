/- Proved: what the functions that compose permutations and lead them back return, of program and model alike. Conditions: those that each theorem names. -/
import Derived.Test.YtbhjbllgmenbaabPl2
namespace Go.Proofs.Ytbhjbllgmenbaab
set_option linter.unusedVariables false
set_option linter.unusedSimpArgs false
open Go.RowKit

def thenF (p q : Nat → UInt8) (N : Nat) : Nat → UInt8 := fun i => if i < N then q (p i).toNat else 0
theorem thenF_step (p q : Nat → UInt8) (k : Nat) (j : Nat) : thenF p q (k + 1) j = if j = k then q (p k).toNat else thenF p q k j := by
  unfold thenF
  by_cases e : j = k
  · subst e; simp
  · simp [e, show j < k + 1 ↔ j < k by omega]
def backF (p : Nat → UInt8) : Nat → Nat → UInt8
  | 0 => fun _ => 0
  | k + 1 => fun j => if j = (p k).toNat then UInt8.ofNat k else backF p k j
theorem thenF_zero (p q : Nat → UInt8) : thenF p q 0 = fun _ => 0 := by funext j; simp [thenF]
set_option maxHeartbeats 1000000 in
theorem l01Then_any (p q : Nat → UInt8) (N : Nat) (w : World) (hN : N ≤ 10) (hp : ∀ i, i < N → (p i).toNat < 10) :
    Calls Try.prog 152 #[.agg (u8s 10 p), .agg (u8s 10 q), .int .i64 N] w fun e w' => e = .returned (.agg (u8s 10 (thenF p q N))) ∧ Below w.heap.size w w' := by
  have HP := hid hp; clear hp
  go_enter Try.func152, Try.ntmps152
  go_wp2_with (first | (refine wpL_alloc rfl rfl zeroPl ?_; intro g hg; (try simp at hg); subst hg) | (refine wpL_build rfl rfl builtPl ?_) | (refine wpL_storeSame rfl rfl rfl rfl rowPl (Has.start4 _ _ _ _ _ _ _ _ _).h3 (u8s_ok _ _) ?_))
  go_loopw [8] (fun i wr => ∃ k : Nat, k ≤ N ∧ i = .int .i64 k ∧ Has w wr [(u8s 10 p, 97), (u8s 10 q, 97), (u8s 10 (fun _ => 0), 97), (u8s 10 (thenF p q k), 97)]) (fun i _ => 10 - (intOf i).toNat)
  case atStart => exact ⟨0, by omega, rfl, by rw [thenF_zero]; exact Has.start4 _ _ _ _ _ _ _ _ _⟩
  case round =>
    obtain ⟨k, hk, rfl, hH⟩ := hrel
    by_cases hlt : k < N
    · have c0 := hH.c0
      have c1 := hH.c1
      have c3 := hH.c3
      have f3 := hH.f3
      have hk10 : k < 10 := by omega
      have hpk := HP.out k hlt
      go_wp2
      go_roundw
      case rel => exact ⟨k + 1, by omega, by go_num, hH.s3 _ _ (u8s_step 10 _ _ _ _ (fun j _ => thenF_step p q k j))⟩
      case measure => simp [intOf]; omega
    · obtain rfl : k = N := by omega
      have h2 := hH.h2
      have h3 := hH.h3
      go_wp2_with (first | (refine wpL_loadFull rfl rfl rfl rowPl h3 (u8s_size _ _) ?_) | (refine wpL_storeFull rfl rfl rfl rfl rowPl h2 (u8s_size _ _) (u8s_ok _ _) ?_))
      exact ret_c rfl rfl hH.r2.h2 rowPl (u8s_size _ _) ⟨rfl, hH.r2.below⟩
set_option maxHeartbeats 1000000 in
theorem thenOf_any (p q : Nat → UInt8) (N : Nat) (w : World) (hN : N ≤ 10) (hp : ∀ i, i < N → (p i).toNat < 10) :
    Calls Try.prog 156 #[.agg (u8s 10 p), .agg (u8s 10 q), .int .i64 N] w fun e w' => e = .returned (.agg (u8s 10 (thenF p q N))) ∧ Below w.heap.size w w' := by
  have HP := hid hp; clear hp
  have hN' : (N : Int) ≤ 10 := by omega
  have hN0 : 0 ≤ (N : Int) := by omega
  go_enter Try.func156, Try.ntmps156
  go_wp2_with (first | (refine wpL_alloc rfl rfl zeroPl ?_; intro g hg; (try simp at hg); subst hg))
  go_loopw [13] (fun i wr => ∃ k : Nat, k ≤ N ∧ i = .int .i64 k ∧ Has w wr [(u8s 10 p, 97), (u8s 10 q, 97), (u8s 10 (fun _ => 0), 97), (u8s 10 (thenF p q k), 97)]) (fun i _ => 10 - (intOf i).toNat)
  case atStart => exact ⟨0, by omega, rfl, by rw [thenF_zero]; exact Has.start4 _ _ _ _ _ _ _ _ _⟩
  case round =>
    obtain ⟨k, hk, rfl, hH⟩ := hrel
    by_cases hlt : k < N
    · have c0 := hH.c0
      have c1 := hH.c1
      have c3 := hH.c3
      have f3 := hH.f3
      have hk10 : k < 10 := by omega
      have hpk := HP.out k hlt
      go_wp2
      go_roundw
      case rel => exact ⟨k + 1, by omega, by go_num, hH.s3 _ _ (u8s_step 10 _ _ _ _ (fun j _ => thenF_step p q k j))⟩
      case measure => simp [intOf]; omega
    · obtain rfl : k = N := by omega
      have h2 := hH.h2
      have h3 := hH.h3
      go_wp2_with (first | (refine wpL_loadFull rfl rfl rfl rowPl h3 (u8s_size _ _) ?_) | (refine wpL_storeFull rfl rfl rfl rfl rowPl h2 (u8s_size _ _) (u8s_ok _ _) ?_))
      exact ret_c rfl rfl hH.r2.h2 rowPl (u8s_size _ _) ⟨rfl, hH.r2.below⟩
set_option maxHeartbeats 1000000 in
theorem l01Back_any (p : Nat → UInt8) (N : Nat) (w : World) (hN : N ≤ 10) (hp : ∀ i, i < N → (p i).toNat < 10) :
    Calls Try.prog 154 #[.agg (u8s 10 p), .int .i64 N] w fun e w' => e = .returned (.agg (u8s 10 (backF p N))) ∧ Below w.heap.size w w' := by
  have HP := hid hp; clear hp
  go_enter Try.func154, Try.ntmps154
  go_wp2_with (first | (refine wpL_alloc rfl rfl zeroPl ?_; intro g hg; (try simp at hg); subst hg) | (refine wpL_build rfl rfl builtPl ?_) | (refine wpL_storeSame rfl rfl rfl rfl rowPl (Has.start3 _ _ _ _ _ _ _).h2 (u8s_ok _ _) ?_))
  go_loopw [6] (fun i wr => ∃ k : Nat, k ≤ N ∧ i = .int .i64 k ∧ Has w wr [(u8s 10 p, 97), (u8s 10 (fun _ => 0), 97), (u8s 10 (backF p k), 97)]) (fun i _ => 10 - (intOf i).toNat)
  case atStart => exact ⟨0, by omega, rfl, Has.start3 _ _ _ _ _ _ _⟩
  case round =>
    obtain ⟨k, hk, rfl, hH⟩ := hrel
    by_cases hlt : k < N
    · have c0 := hH.c0
      have c2 := hH.c2
      have f2 := hH.f2
      have hk10 : k < 10 := by omega
      have hpk := HP.out k hlt
      go_wp2
      go_roundw
      case rel => exact ⟨k + 1, by omega, by go_num, hH.s2 _ _ (u8s_stepv 10 _ _ _ _ (UInt8.ofNat k) (by rw [u8_of k (by omega)]) (fun j _ => rfl))⟩
      case measure => simp [intOf]; omega
    · obtain rfl : k = N := by omega
      have h1 := hH.h1
      have h2 := hH.h2
      go_wp2_with (first | (refine wpL_loadFull rfl rfl rfl rowPl h2 (u8s_size _ _) ?_) | (refine wpL_storeFull rfl rfl rfl rfl rowPl h1 (u8s_size _ _) (u8s_ok _ _) ?_))
      exact ret_c rfl rfl hH.r1.h1 rowPl (u8s_size _ _) ⟨rfl, hH.r1.below⟩
set_option maxHeartbeats 1000000 in
theorem backOf_any (p : Nat → UInt8) (N : Nat) (w : World) (hN : N ≤ 10) (hp : ∀ i, i < N → (p i).toNat < 10) :
    Calls Try.prog 125 #[.agg (u8s 10 p), .int .i64 N] w fun e w' => e = .returned (.agg (u8s 10 (backF p N))) ∧ Below w.heap.size w w' := by
  have HP := hid hp; clear hp
  have hN' : (N : Int) ≤ 10 := by omega
  have hN0 : 0 ≤ (N : Int) := by omega
  go_enter Try.func125, Try.ntmps125
  go_wp2_with (first | (refine wpL_alloc rfl rfl zeroPl ?_; intro g hg; (try simp at hg); subst hg))
  go_loopw [11] (fun i wr => ∃ k : Nat, k ≤ N ∧ i = .int .i64 k ∧ Has w wr [(u8s 10 p, 97), (u8s 10 (fun _ => 0), 97), (u8s 10 (backF p k), 97)]) (fun i _ => 10 - (intOf i).toNat)
  case atStart => exact ⟨0, by omega, rfl, Has.start3 _ _ _ _ _ _ _⟩
  case round =>
    obtain ⟨k, hk, rfl, hH⟩ := hrel
    by_cases hlt : k < N
    · have c0 := hH.c0
      have c2 := hH.c2
      have f2 := hH.f2
      have hk10 : k < 10 := by omega
      have hpk := HP.out k hlt
      go_wp2
      go_roundw
      case rel => exact ⟨k + 1, by omega, by go_num, hH.s2 _ _ (u8s_stepv 10 _ _ _ _ (UInt8.ofNat k) (by rw [u8_of k (by omega)]) (fun j _ => rfl))⟩
      case measure => simp [intOf]; omega
    · obtain rfl : k = N := by omega
      have h1 := hH.h1
      have h2 := hH.h2
      go_wp2_with (first | (refine wpL_loadFull rfl rfl rfl rowPl h2 (u8s_size _ _) ?_) | (refine wpL_storeFull rfl rfl rfl rfl rowPl h1 (u8s_size _ _) (u8s_ok _ _) ?_))
      exact ret_c rfl rfl hH.r1.h1 rowPl (u8s_size _ _) ⟨rfl, hH.r1.below⟩
end Go.Proofs.Ytbhjbllgmenbaab
