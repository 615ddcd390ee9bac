/- Proved: lemmas on squares of up to ten rows, without any program. Conditions: those that each lemma names. -/
import Derived.Test.YtbhjbllgmenbaaaPerm
import Derived.Test.YtbhjbllgmenbaaaEq
namespace Go.Proofs.Ytbhjbllgmenbaaa
set_option linter.unusedVariables false
set_option linter.unusedSimpArgs false
open Go.RowKit
def rowF (g : Nat → UInt8) (x : Nat) : Nat → UInt8 := fun j => g (x * 10 + j)
def colF (g : Nat → UInt8) (y : Nat) : Nat → UInt8 := fun i => g (i * 10 + y)
def turn (g : Nat → UInt8) : Nat → UInt8 := fun i => g (i % 10 * 10 + i / 10)
theorem rowF_turn (g : Nat → UInt8) (x j : Nat) (hj : j < 10) : rowF (turn g) x j = colF g x j := by
  unfold rowF turn colF
  rw [show (x * 10 + j) % 10 = j by omega, show (x * 10 + j) / 10 = x by omega]
/-- The rows before N are permutations of N numbers, the other ones 0, as far as k. -/
structure RowsTo (g : Nat → UInt8) (N k : Nat) : Prop where
  perm : ∀ x, x < k → x < N → IsPerm (rowF g x) N
  zero : ∀ x, x < k → N ≤ x → ∀ j, j < 10 → rowF g x j = 0
noncomputable def rowsB (g : Nat → UInt8) (N : Nat) : Bool := @decide (RowsTo g N 10) (Classical.propDecidable _)
theorem rowsB_iff {g : Nat → UInt8} {N : Nat} : rowsB g N = true ↔ RowsTo g N 10 := by
  unfold rowsB; exact @decide_eq_true_iff _ (Classical.propDecidable _)
theorem rowsB_false {g : Nat → UInt8} {N : Nat} (h : ¬ RowsTo g N 10) : rowsB g N = false := by
  cases e : rowsB g N with
  | false => rfl
  | true => exact absurd (rowsB_iff.1 e) h
theorem RowsTo.start (g : Nat → UInt8) (N : Nat) : RowsTo g N 0 := ⟨fun _ h => by omega, fun _ h => by omega⟩
theorem RowsTo.step1 {g : Nat → UInt8} {N k : Nat} (h : RowsTo g N k) (hk : k < N) (hp : permB (rowF g k) (N : Int) = true) : RowsTo g N (k + 1) := by
  refine ⟨fun x hx hN => ?_, fun x hx hN => h.zero x (by omega) hN⟩
  by_cases e : x = k
  · subst e; exact permB_nat.1 hp
  · exact h.perm x (by omega) hN
theorem RowsTo.step2 {g : Nat → UInt8} {N k : Nat} (h : RowsTo g N k) (hk : N ≤ k) (hp : eqU 10 (rowF g k) (fun _ => 0) = true) : RowsTo g N (k + 1) := by
  refine ⟨fun x hx hN => h.perm x (by omega) hN, fun x hx hN => ?_⟩
  by_cases e : x = k
  · subst e; exact eqU_iff.1 hp
  · exact h.zero x (by omega) hN
theorem rowsB_no1 {g : Nat → UInt8} {N k : Nat} (hk : k < N) (h10 : k < 10) (hp : permB (rowF g k) (N : Int) = false) : rowsB g N = false :=
  rowsB_false fun h => by
    have := permB_nat.2 (h.perm k h10 hk)
    rw [hp] at this; cases this
theorem rowsB_no2 {g : Nat → UInt8} {N k : Nat} (hk : N ≤ k) (h10 : k < 10) (hp : eqU 10 (rowF g k) (fun _ => 0) = false) : rowsB g N = false :=
  rowsB_false fun h => by
    have := eqU_iff.2 (h.zero k h10 hk)
    rw [hp] at this; cases this
/-- Is it a square? -/
noncomputable def sqB (o : Int) (g : Nat → UInt8) : Bool := inB o 1 10 && (rowsB g o.toNat && rowsB (turn g) o.toNat)
structure IsSq (N : Nat) (g : Nat → UInt8) : Prop where
  lo : 1 ≤ N
  hi : N ≤ 10
  rows : ∀ x, x < N → IsPerm (rowF g x) N
  cols : ∀ y, y < N → IsPerm (colF g y) N
  zero : ∀ x y, x < 10 → y < 10 → N ≤ x ∨ N ≤ y → g (x * 10 + y) = 0
theorem IsPerm.congr {p q : Nat → UInt8} {N : Nat} (h : IsPerm p N) (e : ∀ i, i < 10 → q i = p i) : IsPerm q N :=
  ⟨h.lo, h.hi, fun i hi => by rw [e i (by have := h.hi; omega)]; exact h.lt i hi,
   fun i j hij hj => by rw [e i (by have := h.hi; omega), e j (by have := h.hi; omega)]; exact h.inj i j hij hj, fun i hi h10 => by rw [e i h10]; exact h.zero i hi h10⟩
theorem u8_zero {x : UInt8} (h : x.toNat = 0) : x = 0 := UInt8.toNat_inj.1 h
theorem isSq_of {N : Nat} {g : Nat → UInt8} (h1 : 1 ≤ N) (h10 : N ≤ 10) (hr : RowsTo g N 10) (hc : RowsTo (turn g) N 10) : IsSq N g := by
  refine ⟨h1, h10, fun x hx => hr.perm x (by omega) hx, fun y hy => (hc.perm y (by omega) hy).congr (fun i hi => (rowF_turn g y i hi).symm), fun x y hx hy h => ?_⟩
  rcases h with h | h
  · exact hr.zero x hx h y hy
  · have := hc.zero y hy h x hx
    rw [rowF_turn g y x hx] at this
    exact this
theorem IsSq.rowsTo {N : Nat} {g : Nat → UInt8} (h : IsSq N g) : RowsTo g N 10 :=
  ⟨fun x _ hN => h.rows x hN, fun x hx hN j hj => h.zero x j hx hj (Or.inl hN)⟩
theorem IsSq.colsTo {N : Nat} {g : Nat → UInt8} (h : IsSq N g) : RowsTo (turn g) N 10 :=
  ⟨fun x hx hN => (h.cols x hN).congr (fun i hi => rowF_turn g x i hi), fun x hx hN j hj => by rw [rowF_turn g x j hj]; exact h.zero j x hj hx (Or.inr hN)⟩
theorem sqB_true {o : Int} {g : Nat → UInt8} : sqB o g = true ↔ ∃ N : Nat, o = N ∧ IsSq N g := by
  simp only [sqB, Bool.and_eq_true, inB_iff, rowsB_iff]
  constructor
  · rintro ⟨⟨h1, h2⟩, hr, hc⟩
    exact ⟨o.toNat, by omega, isSq_of (by omega) (by omega) hr hc⟩
  · rintro ⟨N, rfl, h⟩
    have := h.lo; have := h.hi
    exact ⟨⟨by omega, by omega⟩, by simpa using h.rowsTo, by simpa using h.colsTo⟩
theorem sqB_nat {N : Nat} {g : Nat → UInt8} : sqB (N : Int) g = true ↔ IsSq N g := by
  rw [sqB_true]
  constructor
  · rintro ⟨M, e, h⟩
    have : N = M := by omega
    subst this; exact h
  · exact fun h => ⟨N, rfl, h⟩
theorem sqB_not {o : Int} {g : Nat → UInt8} (h : ∀ N : Nat, o = N → ¬ IsSq N g) : sqB o g = false := by
  cases e : sqB o g with
  | false => rfl
  | true => obtain ⟨N, e, hs⟩ := sqB_true.1 e; exact absurd hs (h N e)
/-- What stands in the first N rows and columns. -/
def corner (g : Nat → UInt8) (N : Nat) : Nat → UInt8 := fun i => if i / 10 < N ∧ i % 10 < N then g i else 0
theorem corner_get (g : Nat → UInt8) (N i : Nat) : corner g N i = if i / 10 < N ∧ i % 10 < N then g i else 0 := rfl
/-- The rows and columns before k are permutations. -/
structure BothTo (g : Nat → UInt8) (N k : Nat) : Prop where
  rows : ∀ x, x < k → IsPerm (rowF g x) N
  cols : ∀ y, y < k → IsPerm (colF g y) N
theorem BothTo.start (g : Nat → UInt8) (N : Nat) : BothTo g N 0 := ⟨fun _ h => by omega, fun _ h => by omega⟩
theorem BothTo.step {g : Nat → UInt8} {N k : Nat} (h : BothTo g N k) (hr : permB (rowF g k) (N : Int) = true) (hc : permB (colF g k) (N : Int) = true) : BothTo g N (k + 1) := by
  refine ⟨fun x hx => ?_, fun x hx => ?_⟩
  · by_cases e : x = k
    · subst e; exact permB_nat.1 hr
    · exact h.rows x (by omega)
  · by_cases e : x = k
    · subst e; exact permB_nat.1 hc
    · exact h.cols x (by omega)
theorem sqB_both {g : Nat → UInt8} {N : Nat} (h1 : 1 ≤ N) (h10 : N ≤ 10) (hE : ∀ i, i < 100 → g i = corner g N i) (h : BothTo g N N) : sqB (N : Int) g = true :=
  sqB_nat.2 ⟨h1, h10, h.rows, h.cols, fun x y hx hy h => by
    rw [hE _ (by omega), corner_get, if_neg (by omega)]⟩
theorem sqB_norow {g : Nat → UInt8} {N k : Nat} (hk : k < N) (hr : permB (rowF g k) (N : Int) = false) : sqB (N : Int) g = false :=
  sqB_not fun M e h => by
    have : N = M := by omega
    subst this
    have := permB_nat.2 (h.rows k hk)
    rw [hr] at this; cases this
theorem sqB_nocol {g : Nat → UInt8} {N k : Nat} (hk : k < N) (hr : permB (colF g k) (N : Int) = false) : sqB (N : Int) g = false :=
  sqB_not fun M e h => by
    have : N = M := by omega
    subst this
    have := permB_nat.2 (h.cols k hk)
    rw [hr] at this; cases this
theorem sqB_nocorner {g : Nat → UInt8} {N : Nat} (hE : ¬ ∀ i, i < 100 → g i = corner g N i) : sqB (N : Int) g = false :=
  sqB_not fun M e h => by
    have : N = M := by omega
    subst this
    refine hE fun i hi => ?_
    rw [corner_get]
    by_cases h' : i / 10 < N ∧ i % 10 < N
    · rw [if_pos h']
    · rw [if_neg h']
      have := h.zero (i / 10) (i % 10) (by omega) (by omega) (by omega)
      rwa [show i / 10 * 10 + i % 10 = i by omega] at this
theorem sqB_out {o : Int} {g : Nat → UInt8} (h : ¬ (1 ≤ o ∧ o ≤ 10)) : sqB o g = false := by simp [sqB, inB_false h]
theorem sq_nat {o : Int} {g : Nat → UInt8} (h : sqB o g = true) : ∃ N : Nat, o = N ∧ IsSq N g := sqB_true.1 h
theorem sqB_range {o : Int} {g : Nat → UInt8} (h : sqB o g = true) : 1 ≤ o ∧ o ≤ 10 := by
  by_cases e : 1 ≤ o ∧ o ≤ 10
  · exact e
  · rw [sqB_out e] at h; cases h
end Go.Proofs.Ytbhjbllgmenbaaa
