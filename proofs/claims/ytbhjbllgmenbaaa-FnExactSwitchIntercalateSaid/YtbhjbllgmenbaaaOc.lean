/- Proved: lemmas on the cycles of a permutation of numbers, without any program. Conditions: those that each lemma names. -/
import Derived.Test.YtbhjbllgmenbaaaPm
import Derived.Test.YtbhjbllgmenbaaaPw
namespace Go.Proofs.Ytbhjbllgmenbaaa
set_option linter.unusedVariables false
set_option linter.unusedSimpArgs false
open Go.RowKit
/-- f is a permutation of the numbers before N. -/
structure Pmt (N : Nat) (f : Nat → Nat) : Prop where
  lt : ∀ x, x < N → f x < N
  inj : ∀ x y, x < N → y < N → f x = f y → x = y
def it (f : Nat → Nat) (c : Nat) : Nat → Nat
  | 0 => c
  | k + 1 => f (it f c k)
section
variable {N c : Nat} {f : Nat → Nat}
theorem it_lt (h : Pmt N f) (hc : c < N) : ∀ k, it f c k < N
  | 0 => hc
  | k + 1 => h.lt _ (it_lt h hc k)
theorem it_back (h : Pmt N f) (hc : c < N) (d : Nat) : ∀ i, it f c (i + d) = it f c i → it f c d = c
  | 0, e => by rw [Nat.zero_add] at e; exact e
  | i + 1, e => by
    rw [show i + 1 + d = (i + d) + 1 by omega] at e
    exact it_back h hc d i (h.inj _ _ (it_lt h hc _) (it_lt h hc _) e)
/-- t is the number of elements of the cycle of c. -/
structure Cyc (N : Nat) (f : Nat → Nat) (c t : Nat) : Prop where
  pos : 0 < t
  le : t ≤ N
  back : it f c t = c
  far : ∀ i, 0 < i → i < t → it f c i ≠ c
theorem cyc_ex (h : Pmt N f) (hc : c < N) : ∃ t, Cyc N f c t := by
  have hex : ∃ m, 0 < m ∧ m ≤ N ∧ it f c m = c := by
    by_cases hd : ∀ i j, i < j → j < N → it f c (i + 1) ≠ it f c (j + 1)
    · obtain ⟨i, hi, e⟩ := pigeon N (fun i => it f c (i + 1)) (fun i _ => it_lt h hc _) hd c hc
      exact ⟨i + 1, by omega, by omega, e⟩
    · have : ∃ i j, i < j ∧ j < N ∧ it f c (i + 1) = it f c (j + 1) := by
        refine Classical.byContradiction fun hn => hd fun i j hij hj e => hn ⟨i, j, hij, hj, e⟩
      obtain ⟨i, j, hij, hj, e⟩ := this
      refine ⟨j - i, by omega, by omega, it_back h hc (j - i) (i + 1) ?_⟩
      rw [show i + 1 + (j - i) = j + 1 by omega]
      exact e.symm
  obtain ⟨m, hm0, hmN, hm⟩ := hex
  obtain ⟨t, ht1, ⟨ht2, ht3⟩, ht4⟩ := least (fun m => 0 < m ∧ it f c m = c) m ⟨hm0, hm⟩
  exact ⟨t, ht2, by omega, ht3, fun i hi hit e => ht4 i hit ⟨hi, e⟩⟩
theorem Cyc.ne {t : Nat} (hC : Cyc N f c t) (h : Pmt N f) (hc : c < N) {i j : Nat} (hij : i < j) (hj : j < t) : it f c i ≠ it f c j := fun e => by
  refine hC.far (j - i) (by omega) (by omega) (it_back h hc (j - i) i ?_)
  rw [show i + (j - i) = j by omega]; exact e.symm
/-- z is one of the first k elements of the cycle. -/
noncomputable def inO (f : Nat → Nat) (c k z : Nat) : Bool := @decide (∃ i, i < k ∧ it f c i = z) (Classical.propDecidable _)
theorem inO_iff {k z : Nat} : inO f c k z = true ↔ ∃ i, i < k ∧ it f c i = z := by
  unfold inO
  exact @decide_eq_true_iff _ (Classical.propDecidable _)
theorem inO_false {k z : Nat} : inO f c k z = false ↔ ∀ i, i < k → it f c i ≠ z := by
  rw [← Bool.not_eq_true, inO_iff]
  constructor
  · intro h i hi e; exact h ⟨i, hi, e⟩
  · rintro h ⟨i, hi, e⟩; exact h i hi e
theorem inO_zero (f : Nat → Nat) (c : Nat) : inO f c 0 = fun _ => false := by
  funext z; rw [inO_false]; intro i hi; omega
theorem inO_succ (f : Nat → Nat) (c k : Nat) (j : Nat) : inO f c (k + 1) j = if j = it f c k then true else inO f c k j := by
  by_cases e : j = it f c k
  · rw [if_pos e, inO_iff]; exact ⟨k, by omega, e.symm⟩
  · rw [if_neg e]
    cases hb : inO f c k j with
    | true =>
      obtain ⟨i, hi, e2⟩ := inO_iff.1 hb
      exact inO_iff.2 ⟨i, by omega, e2⟩
    | false =>
      rw [inO_false] at hb ⊢
      intro i hi e2
      by_cases c2 : i = k
      · subst c2; exact e e2.symm
      · exact hb i (by omega) e2
theorem Cyc.fresh {t k : Nat} (hC : Cyc N f c t) (h : Pmt N f) (hc : c < N) (hk : k < t) : inO f c k (it f c k) = false :=
  inO_false.2 fun _ hi => hC.ne h hc hi hk
theorem Cyc.full {t : Nat} (hC : Cyc N f c t) : inO f c t (it f c t) = true := inO_iff.2 ⟨0, hC.pos, hC.back.symm⟩
/-- The elements of the cycle are the images of all powers. -/
theorem Cyc.all {t : Nat} (hC : Cyc N f c t) : ∀ k, inO f c t (it f c k) = true
  | 0 => inO_iff.2 ⟨0, hC.pos, rfl⟩
  | k + 1 => by
    obtain ⟨i, hi, e⟩ := inO_iff.1 (hC.all k)
    show inO f c t (f (it f c k)) = true
    rw [← e]
    by_cases h : i + 1 = t
    · rw [show f (it f c i) = it f c (i + 1) from rfl, h]; exact hC.full
    · exact inO_iff.2 ⟨i + 1, by omega, rfl⟩
theorem Cyc.lt {t z : Nat} (_ : Cyc N f c t) (h : Pmt N f) (hc : c < N) (hz : inO f c t z = true) : z < N := by
  obtain ⟨i, _, e⟩ := inO_iff.1 hz
  rw [← e]; exact it_lt h hc i
theorem Cyc.uniq {t t' : Nat} (h1 : Cyc N f c t) (h2 : Cyc N f c t') : t = t' := by
  rcases Nat.lt_trichotomy t t' with h | h | h
  · exact absurd h1.back (h2.far t h1.pos h)
  · exact h
  · exact absurd h2.back (h1.far t' h2.pos h)
/-- The number of the cycle's element z. -/
noncomputable def idxO (f : Nat → Nat) (c t z : Nat) : Nat := @dite Nat (∃ i, i < t ∧ it f c i = z) (Classical.propDecidable _) (fun h => Classical.choose h) (fun _ => 0)
theorem Cyc.idx {t i : Nat} (hC : Cyc N f c t) (h : Pmt N f) (hc : c < N) (hi : i < t) : idxO f c t (it f c i) = i := by
  unfold idxO
  have hx : ∃ j, j < t ∧ it f c j = it f c i := ⟨i, hi, rfl⟩
  rw [dif_pos hx]
  obtain ⟨h1, h2⟩ := Classical.choose_spec hx
  generalize Classical.choose hx = j at h1 h2
  rcases Nat.lt_trichotomy j i with h3 | h3 | h3
  · exact absurd h2 (hC.ne h hc h3 hi)
  · exact h3
  · exact absurd h2.symm (hC.ne h hc h3 h1)
/-- What is left of the way around the cycle: before the first step all, behind the last one nothing. -/
noncomputable def leftO (f : Nat → Nat) (c t : Nat) (fresh : Bool) (y : Nat) : Nat := if fresh then t + 1 else if y = c then 0 else t - idxO f c t y
theorem Cyc.left {t k : Nat} (hC : Cyc N f c t) (h : Pmt N f) (hc : c < N) (hk : k ≤ t) : leftO f c t (decide (k = 0)) (it f c k) = if k = 0 then t + 1 else t - k := by
  unfold leftO
  by_cases h0 : k = 0
  · simp [h0]
  · simp only [h0, decide_false, Bool.false_eq_true, if_false]
    by_cases hkt : k = t
    · rw [hkt, hC.back, if_pos rfl]; omega
    · rw [if_neg (hC.far k (by omega) (by omega)), hC.idx h hc (by omega)]
theorem Cyc.less {t k : Nat} (hC : Cyc N f c t) (h : Pmt N f) (hc : c < N) (hk : k < t) : leftO f c t false (it f c (k + 1)) < leftO f c t (decide (k = 0)) (it f c k) := by
  have h1 := hC.left h hc (k := k) (by omega)
  have h2 := hC.left h hc (k := k + 1) (by omega)
  simp only [Nat.add_one_ne_zero, decide_false, if_false] at h2
  rw [h1, h2]
  split <;> omega
end
end Go.Proofs.Ytbhjbllgmenbaaa
