/- Proved: what the model's QuadraticSquare returns for a prime. Conditions: those that each theorem names. -/
import Derived.Test.YtbhjbllgmenbaaaQd0
namespace Go.Proofs.Ytbhjbllgmenbaaa
set_option linter.unusedVariables false
set_option linter.unusedSimpArgs false
open Go.RowKit
/-- The numbers that one step reckons. -/
theorem qu_step {p a b k j : Nat} (hp : P357 p) (ha : a < p) (hb : b < p) (hk : k < p) (hj : j < p) : ∃ (D : Int) (S0 s c U U3 : Nat) (R : UInt8),
    ((j : Int) - (k : Int) = D ∧ D + (p : Int) = (S0 : Int) ∧ -7 ≤ D ∧ D ≤ 7 ∧ (S0 : Int) ≤ 14) ∧ ((S0 : Int) % (p : Int) = (s : Int) ∧ Int.tmod (S0 : Int) (p : Int) = (s : Int) ∧ s < p) ∧ (quA p a b s = c) ∧ ((c : Int) * (s : Int) = (U : Int) ∧ (U : Int) ≤ 49) ∧
    ((k : Int) + (U : Int) = (U3 : Int) ∧ (U3 : Int) ≤ 56) ∧ ((U3 : Int) % (p : Int) = (R.toNat : Int) ∧ Int.tmod (U3 : Int) (p : Int) = (R.toNat : Int) ∧ (R.toNat : Int) < 10) ∧ quV p a b k j = R := by
  have h7 : p ≤ 7 := by rcases hp with h | h | h <;> omega
  have h3 : 3 ≤ p := by rcases hp with h | h | h <;> omega
  obtain ⟨S0, hS0⟩ : ∃ S0, j + p - k = S0 := ⟨_, rfl⟩
  obtain ⟨s, hs⟩ : ∃ s, S0 % p = s := ⟨_, rfl⟩
  have hsl : s < p := by rw [← hs]; exact Nat.mod_lt _ (by omega)
  obtain ⟨c, hc⟩ : ∃ c, quA p a b s = c := ⟨_, rfl⟩
  have hcl : c < p := by rw [← hc]; unfold quA; split <;> omega
  obtain ⟨U, hU⟩ : ∃ U, c * s = U := ⟨_, rfl⟩
  have hUl : U ≤ 49 := by rw [← hU]; exact Nat.mul_le_mul (show c ≤ 7 by omega) (show s ≤ 7 by omega)
  obtain ⟨U3, hU3⟩ : ∃ U3, k + U = U3 := ⟨_, rfl⟩
  have hRl : U3 % p < p := Nat.mod_lt _ (by omega)
  obtain ⟨R, hR⟩ := byte_of (U3 % p) (by omega)
  refine ⟨(j : Int) - (k : Int), S0, s, c, U, U3, R, ⟨rfl, by omega, by omega, by omega, by omega⟩, ⟨by rw [← hs]; simp, by rw [← hs]; exact (Int.ofNat_tmod S0 p).symm, hsl⟩, hc, ⟨by rw [← hU]; simp, by omega⟩, ⟨by omega, by omega⟩, ⟨by rw [hR]; simp, by rw [hR]; exact (Int.ofNat_tmod U3 p).symm, by omega⟩, ?_⟩
  unfold quV
  rw [hS0, hs, hc, hU, hU3, ← hR]
  exact UInt8.ofNat_toNat
/-- The numbers that the test reckons. -/
theorem qu_test {p a b : Nat} (hp : P357 p) (ha : a < p) (hb : b < p) : ∃ (U : Nat) (A1 B1 V two : Int), ((a : Int) * (b : Int) = (U : Int) ∧ (U : Int) ≤ 49) ∧ ((U : Int) % (p : Int) = ((a * b % p : Nat) : Int) ∧ Int.tmod (U : Int) (p : Int) = ((a * b % p : Nat) : Int)) ∧
    ((a : Int) - 1 = A1 ∧ (b : Int) - 1 = B1 ∧ A1 * B1 = V ∧ -49 ≤ V ∧ V ≤ 49) ∧ (Int.tmod V (p : Int) = two ∧ (0 ≤ V → V % (p : Int) = two)) ∧ (1 ≤ a → 1 ≤ b → 0 ≤ V ∧ two = (((a - 1) * (b - 1) % p : Nat) : Int)) := by
  have h7 : p ≤ 7 := by rcases hp with h | h | h <;> omega
  have hUl : a * b ≤ 49 := Nat.mul_le_mul (show a ≤ 7 by omega) (show b ≤ 7 by omega)
  refine ⟨a * b, (a : Int) - 1, (b : Int) - 1, ((a : Int) - 1) * ((b : Int) - 1), _, ⟨by simp, by omega⟩, ⟨by simp, (Int.ofNat_tmod (a * b) p).symm⟩, ⟨rfl, rfl, rfl, ?_⟩, ⟨rfl, fun h => (Int.tmod_eq_emod_of_nonneg h).symm⟩, fun h1 h2 => ?_⟩
  · obtain ⟨A1, hA1⟩ : ∃ A1, (a : Int) - 1 = A1 := ⟨_, rfl⟩
    obtain ⟨B1, hB1⟩ : ∃ B1, (b : Int) - 1 = B1 := ⟨_, rfl⟩
    rw [hA1, hB1]
    have : A1 = -1 ∨ A1 = 0 ∨ A1 = 1 ∨ A1 = 2 ∨ A1 = 3 ∨ A1 = 4 ∨ A1 = 5 := by omega
    rcases this with h | h | h | h | h | h | h <;> rw [h] <;> omega
  · have e : ((a : Int) - 1) * ((b : Int) - 1) = (((a - 1) * (b - 1) : Nat) : Int) := by
      rw [show (a : Int) - 1 = ((a - 1 : Nat) : Int) by omega, show (b : Int) - 1 = ((b - 1 : Nat) : Int) by omega]
      simp
    rw [e]
    exact ⟨by omega, (Int.ofNat_tmod _ p).symm⟩
end Go.Proofs.Ytbhjbllgmenbaaa
