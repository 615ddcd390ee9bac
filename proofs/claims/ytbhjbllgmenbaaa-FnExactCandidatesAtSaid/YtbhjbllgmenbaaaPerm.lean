/- Proved: lemmas on permutations of up to ten numbers, without any program. Conditions: those that each lemma names. -/
import Derived.Test.YtbhjbllgmenbaaaLib
namespace Go.Proofs.Ytbhjbllgmenbaaa
set_option linter.unusedVariables false
set_option linter.unusedSimpArgs false
open Go.RowKit

/-- One of the first k numbers of p (of those before N) is j. -/
def metB (p : Nat → UInt8) (N k j : Nat) : Bool := (List.range k).any fun i => decide (i < N) && decide ((p i).toNat = j)
theorem metB_iff {p : Nat → UInt8} {N k j : Nat} : metB p N k j = true ↔ ∃ i, i < k ∧ i < N ∧ (p i).toNat = j := by
  simp [metB]
theorem metB_zero (p : Nat → UInt8) (N j : Nat) : metB p N 0 j = false := by simp [metB]
theorem metB_succ (p : Nat → UInt8) (N k j : Nat) (h : k < N) : metB p N (k + 1) j = if j = (p k).toNat then true else metB p N k j := by
  simp only [metB, List.range_succ, List.any_append, List.any_cons, List.any_nil, Bool.or_false, h, decide_true, Bool.true_and]
  by_cases e : j = (p k).toNat
  · simp [e]
  · simp [e, Ne.symm e]
theorem metB_ge (p : Nat → UInt8) (N k j : Nat) (h : N ≤ k) : metB p N (k + 1) j = metB p N k j := by
  simp [metB, List.range_succ, Nat.not_lt.2 h]
/-- p is a permutation of N numbers. -/
structure IsPerm (p : Nat → UInt8) (N : Nat) : Prop where
  lo : 1 ≤ N
  hi : N ≤ 10
  lt : ∀ i, i < N → (p i).toNat < N
  inj : ∀ i j, i < j → j < N → (p i).toNat ≠ (p j).toNat
  zero : ∀ i, N ≤ i → i < 10 → (p i).toNat = 0
/-- So it is as far as the first k numbers tell. -/
structure PermTo (p : Nat → UInt8) (N k : Nat) : Prop where
  lt : ∀ i, i < k → i < N → (p i).toNat < N
  inj : ∀ i j, i < j → j < k → j < N → (p i).toNat ≠ (p j).toNat
  zero : ∀ i, i < k → N ≤ i → (p i).toNat = 0
theorem PermTo.start (p : Nat → UInt8) (N : Nat) : PermTo p N 0 := ⟨fun _ h => by omega, fun _ _ _ h => by omega, fun _ h => by omega⟩
theorem PermTo.step {p : Nat → UInt8} {N k : Nat} (h : PermTo p N k) (hk : k < N) (h1 : (p k).toNat < N) (h2 : metB p N k (p k).toNat = false) : PermTo p N (k + 1) := by
  have hm : ∀ i, i < k → i < N → (p i).toNat ≠ (p k).toNat := fun i hi hN e => by
    have : metB p N k (p k).toNat = true := metB_iff.2 ⟨i, hi, hN, e⟩
    rw [h2] at this; cases this
  refine ⟨fun i hi hN => ?_, fun i j hij hj hN => ?_, fun i hi hN => h.zero i (by omega) hN⟩
  · by_cases e : i = k
    · subst e; exact h1
    · exact h.lt i (by omega) hN
  · by_cases e : j = k
    · subst e; exact hm i hij (by omega)
    · exact h.inj i j hij (by omega) hN
theorem PermTo.step0 {p : Nat → UInt8} {N k : Nat} (h : PermTo p N k) (hk : N ≤ k) (h1 : (p k).toNat = 0) : PermTo p N (k + 1) := by
  refine ⟨fun i hi hN => h.lt i (by omega) hN, fun i j hij hj hN => h.inj i j hij (by omega) hN, fun i hi hN => ?_⟩
  by_cases e : i = k
  · subst e; exact h1
  · exact h.zero i (by omega) hN
theorem PermTo.done {p : Nat → UInt8} {N : Nat} (h : PermTo p N 10) (h0 : 1 ≤ N) (h1 : N ≤ 10) : IsPerm p N :=
  ⟨h0, h1, fun i hi => h.lt i (by omega) hi, fun i j hij hj => h.inj i j hij (by omega) hj, fun i hi h10 => h.zero i h10 hi⟩
noncomputable def permB (p : Nat → UInt8) (n : Int) : Bool := @decide (0 ≤ n ∧ IsPerm p n.toNat) (Classical.propDecidable _)
theorem permB_true {p : Nat → UInt8} {n : Int} : permB p n = true ↔ 0 ≤ n ∧ IsPerm p n.toNat := by
  unfold permB; exact @decide_eq_true_iff _ (Classical.propDecidable _)
theorem permB_false {p : Nat → UInt8} {n : Int} (h : ¬ (0 ≤ n ∧ IsPerm p n.toNat)) : permB p n = false := by
  cases e : permB p n with
  | false => rfl
  | true => exact absurd (permB_true.1 e) h
theorem permB_nat {p : Nat → UInt8} {N : Nat} : permB p (N : Int) = true ↔ IsPerm p N := by
  rw [permB_true]; simp
theorem permB_out {p : Nat → UInt8} {n : Int} (h : ¬ (1 ≤ n ∧ n ≤ 10)) : permB p n = false :=
  permB_false fun ⟨h0, hp⟩ => h ⟨by have := hp.lo; omega, by have := hp.hi; omega⟩
theorem permB_ge {p : Nat → UInt8} {N k : Nat} (hk : k < N) (h : N ≤ (p k).toNat) : permB p (N : Int) = false := by
  cases e : permB p (N : Int) with
  | false => rfl
  | true => have := (permB_nat.1 e).lt k hk; omega
theorem permB_met {p : Nat → UInt8} {N k : Nat} (hk : k < N) (h : metB p N k (p k).toNat = true) : permB p (N : Int) = false := by
  cases e : permB p (N : Int) with
  | false => rfl
  | true =>
    obtain ⟨i, hi, hN, he⟩ := metB_iff.1 h
    exact absurd he ((permB_nat.1 e).inj i k hi hk)
theorem permB_rest {p : Nat → UInt8} {N k : Nat} (hk : N ≤ k) (h10 : k < 10) (h : 0 < (p k).toNat) : permB p (N : Int) = false := by
  cases e : permB p (N : Int) with
  | false => rfl
  | true => have := (permB_nat.1 e).zero k hk h10; omega
theorem permB_done {p : Nat → UInt8} {N : Nat} (h : PermTo p N 10) (h0 : 1 ≤ N) (h1 : N ≤ 10) : permB p (N : Int) = true := permB_nat.2 (h.done h0 h1)
end Go.Proofs.Ytbhjbllgmenbaaa
