/- Proved: powers of an element of a square with 0 as unit come back to 0, and there is a first one that does. Conditions: those that each lemma names. -/
import Derived.Test.YtbhjbllgmenbaaaPm
namespace Go.Proofs.Ytbhjbllgmenbaaa
set_option linter.unusedVariables false
set_option linter.unusedSimpArgs false
open Go.RowKit
/-- The k-th power of x: 0 at first, then x times the one before. -/
def pw (g : Nat → UInt8) (x : Nat) : Nat → UInt8
  | 0 => 0
  | k + 1 => g (x * 10 + (pw g x k).toNat)
theorem pw_lt {g : Nat → UInt8} {N x : Nat} (h : IsSq N g) (hx : x < N) : ∀ k, (pw g x k).toNat < N
  | 0 => by show 0 < N; omega
  | k + 1 => (h.rows x hx).lt _ (pw_lt h hx k)
theorem pw_cancel {g : Nat → UInt8} {N x : Nat} (h : IsSq N g) (hx : x < N) (d : Nat) : ∀ i, (pw g x (i + d)).toNat = (pw g x i).toNat → (pw g x d).toNat = 0
  | 0, e => by rw [Nat.zero_add] at e; exact e
  | i + 1, e => by
    rw [show i + 1 + d = (i + d) + 1 by omega] at e
    exact pw_cancel h hx d i ((h.rows x hx).inj' (pw_lt h hx _) (pw_lt h hx _) e)
theorem least (P : Nat → Prop) (n : Nat) (h : P n) : ∃ m, m ≤ n ∧ P m ∧ ∀ k, k < m → ¬ P k := by
  induction n using Nat.strongRecOn with
  | ind n ih =>
    by_cases hx : ∃ k, k < n ∧ P k
    · obtain ⟨k, hk, hp⟩ := hx
      obtain ⟨m, h1, h2, h3⟩ := ih k hk hp
      exact ⟨m, by omega, h2, h3⟩
    · exact ⟨n, Nat.le_refl _, h, fun k hk hp => hx ⟨k, hk, hp⟩⟩
/-- m is the order of x. -/
structure IsOrd (g : Nat → UInt8) (N x m : Nat) : Prop where
  pos : 1 ≤ m
  le : m ≤ N
  zero : (pw g x m).toNat = 0
  ne : ∀ k, 1 ≤ k → k < m → (pw g x k).toNat ≠ 0
theorem ord_ex {g : Nat → UInt8} {N x : Nat} (h : IsSq N g) (hx : x < N) : ∃ m, IsOrd g N x m := by
  have hex : ∃ k, 1 ≤ k ∧ k ≤ N ∧ (pw g x k).toNat = 0 := by
    apply Classical.byContradiction
    intro hno
    have hne : ∀ k, 1 ≤ k → k ≤ N → (pw g x k).toNat ≠ 0 := fun k h1 h2 h3 => hno ⟨k, h1, h2, h3⟩
    obtain ⟨i, hi, e⟩ := pigeon N (fun i => (pw g x (i + 1)).toNat) (fun i _ => pw_lt h hx _) (fun i j hij hj e => by
      have e2 : (pw g x ((i + 1) + (j - i))).toNat = (pw g x (i + 1)).toNat := by
        rw [show (i + 1) + (j - i) = j + 1 by omega]; exact e.symm
      exact hne (j - i) (by omega) (by omega) (pw_cancel h hx _ _ e2)) 0 (by omega)
    exact hne (i + 1) (by omega) (by omega) e
  obtain ⟨k, h1, h2, h3⟩ := hex
  obtain ⟨m, hm, ⟨a, b⟩, c⟩ := least (fun k => 1 ≤ k ∧ (pw g x k).toNat = 0) k ⟨h1, h3⟩
  exact ⟨m, a, by omega, b, fun k hk hlt e => c k hlt ⟨hk, e⟩⟩
end Go.Proofs.Ytbhjbllgmenbaaa
