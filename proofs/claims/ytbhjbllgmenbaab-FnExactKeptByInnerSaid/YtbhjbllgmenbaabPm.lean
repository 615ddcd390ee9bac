/- Proved: permutations of up to ten numbers reach each number once, and what leads back leads back. Conditions: those that each lemma names. -/
import Derived.Test.YtbhjbllgmenbaabSqm
namespace Go.Proofs.Ytbhjbllgmenbaab
set_option linter.unusedVariables false
set_option linter.unusedSimpArgs false
open Go.RowKit
theorem pigeon : ∀ (N : Nat) (f : Nat → Nat), (∀ i, i < N → f i < N) → (∀ i j, i < j → j < N → f i ≠ f j) → ∀ z, z < N → ∃ i, i < N ∧ f i = z
  | 0, _, _, _, z, hz => by omega
  | N + 1, f, hl, hi, z, hz => by
    by_cases ha : f N = N
    · by_cases e : z = N
      · exact ⟨N, by omega, by omega⟩
      · obtain ⟨i, h1, h2⟩ := pigeon N f (fun i hN => by
            have := hl i (by omega); have := hi i N hN (by omega); omega) (fun i j hij hj => hi i j hij (by omega)) z (by omega)
        exact ⟨i, by omega, h2⟩
    · have haN : f N < N := by have := hl N (by omega); omega
      have hex : ∃ i, i < N ∧ f i = N := by
        by_cases hn : ∃ i, i < N ∧ f i = N
        · exact hn
        · exfalso
          obtain ⟨i, h1, h2⟩ := pigeon N f (fun i hN => by
            have := hl i (by omega)
            have : f i ≠ N := fun e => hn ⟨i, hN, e⟩
            omega) (fun i j hij hj => hi i j hij (by omega)) (f N) haN
          exact hi i N h1 (by omega) h2
      by_cases e : z = N
      · obtain ⟨i, h1, h2⟩ := hex; exact ⟨i, by omega, by omega⟩
      · obtain ⟨i, h1, h2⟩ := pigeon N (fun i => if f i = N then f N else f i) (fun i hN => by
            have := hl i (by omega)
            show (if f i = N then f N else f i) < N
            by_cases e : f i = N
            · rw [if_pos e]; exact haN
            · rw [if_neg e]; omega) (fun i j hij hj => by
            show (if f i = N then f N else f i) ≠ (if f j = N then f N else f j)
            have h3 := hi i j hij (by omega)
            have h4 := hi i N (by omega) (by omega)
            have h5 := hi j N (by omega) (by omega)
            by_cases e1 : f i = N
            · rw [if_pos e1, if_neg (by omega)]; omega
            · rw [if_neg e1]
              by_cases e2 : f j = N
              · rw [if_pos e2]; omega
              · rw [if_neg e2]; exact h3) z (by omega)
        by_cases e1 : f i = N
        · simp only [e1, if_true] at h2; exact ⟨N, by omega, h2⟩
        · simp only [e1, if_false] at h2; exact ⟨i, by omega, h2⟩
theorem IsPerm.onto {p : Nat → UInt8} {N : Nat} (h : IsPerm p N) (z : Nat) (hz : z < N) : ∃ y, y < N ∧ (p y).toNat = z :=
  pigeon N (fun i => (p i).toNat) h.lt h.inj z hz
theorem IsPerm.inj' {p : Nat → UInt8} {N : Nat} (h : IsPerm p N) {i j : Nat} (hi : i < N) (hj : j < N) (e : (p i).toNat = (p j).toNat) : i = j := by
  by_cases h1 : i < j
  · exact absurd e (h.inj i j h1 hj)
  · by_cases h2 : j < i
    · exact absurd e.symm (h.inj j i h2 hi)
    · omega
end Go.Proofs.Ytbhjbllgmenbaab
