/- Proved: what SignOfPlaces returns, of program and model alike. Conditions: none. -/
import Derived.Test.YtfaijmmajcmaoabPl4
namespace Go.Proofs.Ytfaijmmajcmaoab
open Go.RowKit
def sgIn (p : Nat → UInt8) (i : Nat) (s : Int) : Nat → Int
  | 0 => s
  | j + 1 => if (p i).toNat < (p j).toNat then - sgIn p i s j else sgIn p i s j
def sgTo (p : Nat → UInt8) : Nat → Int
  | 0 => 1
  | i + 1 => sgIn p i (sgTo p i) i
theorem sgIn_bd {p : Nat → UInt8} {i : Nat} {s : Int} (h : -1 ≤ s ∧ s ≤ 1) : ∀ j, -1 ≤ sgIn p i s j ∧ sgIn p i s j ≤ 1
  | 0 => h
  | j + 1 => by
    have := sgIn_bd (p := p) (i := i) h j
    simp only [sgIn]
    split <;> omega
theorem sgTo_bd (p : Nat → UInt8) : ∀ i, -1 ≤ sgTo p i ∧ sgTo p i ≤ 1
  | 0 => by simp [sgTo]
  | i + 1 => sgIn_bd (sgTo_bd p i) i
theorem sgIn_yes {p : Nat → UInt8} {i j : Nat} {s : Int} (h : (p i).toNat < (p j).toNat) : sgIn p i s (j + 1) = - sgIn p i s j := by simp [sgIn, h]
theorem sgIn_no {p : Nat → UInt8} {i j : Nat} {s : Int} (h : ¬ (p i).toNat < (p j).toNat) : sgIn p i s (j + 1) = sgIn p i s j := by simp [sgIn, h]
set_option maxHeartbeats 1000000 in
theorem specSignOfPlaces_bad (p : Nat → UInt8) (n : Int) (w : World) (hp : permB p n = false) :
    Calls Try.prog 30 #[.agg (u8s 10 p), .int .i64 n] w fun e w' => e = .returned (.tuple #[.int .i64 0, .int .i64 1]) ∧ Below w.heap.size w w' := by
  have hH := Has.start1 w (u8s 10 p) 39
  go_enter Try.func30, Try.ntmps30
  go_wp2_with (first | (refine wpL_loadFull rfl rfl rfl rowPl hH.h0 (u8s_size _ _) ?_) | (go_at_call 45; refine (l01Perm_any _ _ _).mono ?_; rintro e w1 ⟨rfl, hb⟩; replace hH := hH.call' hb; clear hb))
  go_ret2
  exact ⟨rfl, hH.below⟩
set_option maxHeartbeats 1000000 in
theorem implSignOfPlaces_bad (p : Nat → UInt8) (n : Int) (w : World) (hp : permB p n = false) :
    Calls Try.prog 31 #[.agg (u8s 10 p), .int .i64 n] w fun e w' => e = .returned (.tuple #[.int .i64 0, .int .i64 1]) ∧ Below w.heap.size w w' := by
  have hH := Has.start1 w (u8s 10 p) 39
  go_enter Try.func31, Try.ntmps31
  go_wp2_with (first | (refine wpL_loadFull rfl rfl rfl rowPl hH.h0 (u8s_size _ _) ?_) | (go_at_call 24; refine (IsPermutation_any _ _ _).mono ?_; rintro e w1 ⟨rfl, hb⟩; replace hH := hH.call' hb; clear hb))
  go_ret2
  exact ⟨rfl, hH.below⟩
set_option maxHeartbeats 2000000 in
theorem specSignOfPlaces_good (p : Nat → UInt8) (n : Int) (w : World) (hp : permB p n = true) :
    Calls Try.prog 30 #[.agg (u8s 10 p), .int .i64 n] w fun e w' => e = .returned (.tuple #[.int .i64 (sgTo p n.toNat), .int .i64 0]) ∧ Below w.heap.size w w' := by
  have hH := Has.start1 w (u8s 10 p) 39
  obtain ⟨N, rfl, hP⟩ := perm_nat hp
  have hN := hP.hi
  clear hP
  go_enter Try.func30, Try.ntmps30
  go_wp2_with (first | (refine wpL_loadFull rfl rfl rfl rowPl hH.h0 (u8s_size _ _) ?_) | (go_at_call 45; refine (l01Perm_any _ _ _).mono ?_; rintro e w1 ⟨rfl, hb⟩; replace hH := hH.call' hb; clear hb))
  go_loopw [6, 7] (fun s i wr => ∃ k : Nat, k ≤ N ∧ i = .int .i64 k ∧ s = .int .i64 (sgTo p k) ∧ Has w wr [(u8s 10 p, 39)]) (fun _ i _ => 10 - (intOf i).toNat)
  case atStart => exact ⟨0, by omega, rfl, rfl, hH⟩
  case round =>
    clear hH
    obtain ⟨k, hk, rfl, rfl, hH⟩ := hrel
    by_cases hlt : k < N
    · have hk10 : k < 10 := by omega
      obtain ⟨wo, hwo⟩ : ∃ wo : World, wo = wr := ⟨_, rfl⟩
      subst hwo
      go_wp2
      go_loopw [6, 8] (fun s i wr => ∃ j : Nat, j ≤ k ∧ i = .int .i64 j ∧ s = .int .i64 (sgIn p k (sgTo p k) j) ∧ Has w wr [(u8s 10 p, 39)]) (fun _ i _ => 10 - (intOf i).toNat)
      case atStart => exact ⟨0, by omega, rfl, rfl, hH⟩
      case round =>
        clear hH
        obtain ⟨j, hj, rfl, rfl, hH⟩ := hrel
        have hbd := sgIn_bd (p := p) (i := k) (sgTo_bd p k) j
        obtain ⟨hbd1, hbd2⟩ := hbd
        have c0 := hH.c0
        by_cases hlt2 : j < k
        · have hj10 : j < 10 := by omega
          by_cases hs : (p k).toNat < (p j).toNat
          · have hy := sgIn_yes (s := sgTo p k) hs
            have hy := hid hy
            go_wp2
            go_quiet (fail)
            go_wp2
            go_roundw
            case rel => exact ⟨j + 1, by omega, by go_num, by rw [hy.out], hH.drewN _⟩
            case measure => simp [intOf]; omega
          · have hy := sgIn_no (s := sgTo p k) hs
            have hy := hid hy
            have hs' : (p j).toNat ≤ (p k).toNat := by omega
            go_wp2
            go_quiet (fail)
            go_wp2
            go_roundw
            case rel => exact ⟨j + 1, by omega, by go_num, by rw [hy.out], hH.drewN _⟩
            case measure => simp [intOf]; omega
        · obtain rfl : j = k := by omega
          go_wp2
          go_roundw
          case rel => exact ⟨j + 1, by omega, by go_num, rfl, hH⟩
          case measure => simp [intOf]; omega
    · obtain rfl : k = N := by omega
      go_wp2
      go_ret2
      exact ⟨by simp, hH.below⟩
set_option maxHeartbeats 2000000 in
theorem implSignOfPlaces_good (p : Nat → UInt8) (n : Int) (w : World) (hp : permB p n = true) :
    Calls Try.prog 31 #[.agg (u8s 10 p), .int .i64 n] w fun e w' => e = .returned (.tuple #[.int .i64 (sgTo p n.toNat), .int .i64 0]) ∧ Below w.heap.size w w' := by
  have hH := Has.start1 w (u8s 10 p) 39
  obtain ⟨N, rfl, hP⟩ := perm_nat hp
  have hN := hP.hi
  have hN1 : (N : Int) ≤ 10 := by omega
  clear hP
  go_enter Try.func31, Try.ntmps31
  go_wp2_with (first | (refine wpL_loadFull rfl rfl rfl rowPl hH.h0 (u8s_size _ _) ?_) | (go_at_call 24; refine (IsPermutation_any _ _ _).mono ?_; rintro e w1 ⟨rfl, hb⟩; replace hH := hH.call' hb; clear hb))
  go_loopw [6, 18] (fun s i wr => ∃ k : Nat, k ≤ N ∧ i = .int .i64 k ∧ s = .int .i64 (sgTo p k) ∧ Has w wr [(u8s 10 p, 39)]) (fun _ i _ => 10 - (intOf i).toNat)
  case atStart => exact ⟨0, by omega, rfl, rfl, hH⟩
  case round =>
    clear hH
    obtain ⟨k, hk, rfl, rfl, hH⟩ := hrel
    by_cases hlt : k < N
    · have hk10 : k < 10 := by omega
      have hk1 : (k : Int) ≤ 10 := by omega
      have hk0 : 0 ≤ (k : Int) := by omega
      have c0 := hH.c0
      obtain ⟨wo, hwo⟩ : ∃ wo : World, wo = wr := ⟨_, rfl⟩
      subst hwo
      go_wp2
      go_loop [6, 26] (fun s i => ∃ j : Nat, j ≤ k ∧ i = .int .i64 j ∧ s = .int .i64 (sgIn p k (sgTo p k) j)) (fun _ i => 10 - (intOf i).toNat)
      case atStart => exact ⟨0, by omega, rfl, rfl⟩
      case round =>
        obtain ⟨j, hj, rfl, rfl⟩ := hrel
        have hbd := sgIn_bd (p := p) (i := k) (sgTo_bd p k) j
        obtain ⟨hbd1, hbd2⟩ := hbd
        by_cases hlt2 : j < k
        · have hj10 : j < 10 := by omega
          by_cases hs : (p k).toNat < (p j).toNat
          · have hy := sgIn_yes (s := sgTo p k) hs
            have hy := hid hy
            go_wp2
            go_round
            case rel => exact ⟨j + 1, by omega, by go_num, by rw [hy.out]⟩
            case measure => simp [intOf]; omega
          · have hy := sgIn_no (s := sgTo p k) hs
            have hy := hid hy
            have hs' : (p j).toNat ≤ (p k).toNat := by omega
            go_wp2
            go_round
            case rel => exact ⟨j + 1, by omega, by go_num, by rw [hy.out]⟩
            case measure => simp [intOf]; omega
        · obtain rfl : j = k := by omega
          go_wp2
          go_roundw
          case rel => exact ⟨j + 1, by omega, by go_num, rfl, hH⟩
          case measure => simp [intOf]; omega
    · obtain rfl : k = N := by omega
      go_wp2
      go_ret2
      exact ⟨by simp, hH.below⟩
end Go.Proofs.Ytfaijmmajcmaoab
