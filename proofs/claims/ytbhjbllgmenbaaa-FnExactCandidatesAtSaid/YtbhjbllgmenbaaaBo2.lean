/- Proved: lemmas on the board that a partial square makes, cell by cell, without any program. Conditions: those that each lemma names. -/
import Derived.Test.YtbhjbllgmenbaaaBo1
namespace Go.Proofs.Ytbhjbllgmenbaaa
set_option linter.unusedVariables false
set_option linter.unusedSimpArgs false
open Go.RowKit
/-- The cells of n columns before column y of row x, and those of the rows before. -/
def Prc (n x y x' y' : Nat) : Prop := y' < n ∧ (x' < x ∨ (x' = x ∧ y' < y))
/-- The cell is empty, or has a number that none before it in its row and in its column has. -/
def okc (n : Nat) (f : Nat → Nat → Int) (x y : Nat) : Prop := f x y = -1 ∨ (0 ≤ f x y ∧ f x y < n ∧ (∀ y', y' < y → f x y' ≠ f x y) ∧ ∀ x', x' < x → f x' y ≠ f x y)
/-- The lists are a partial square. -/
def ParG (n : Nat) (m : Nat → Nat) (f : Nat → Nat → Int) : Prop := 1 ≤ n ∧ n ≤ 10 ∧ (∀ x, x < n → m x = n) ∧ ∀ x y, x < n → y < n → okc n f x y
noncomputable def parB (n : Nat) (m : Nat → Nat) (f : Nat → Nat → Int) : Bool := @decide (ParG n m f) (Classical.propDecidable _)
theorem parB_yes {n : Nat} {m : Nat → Nat} {f : Nat → Nat → Int} (h : ParG n m f) : parB n m f = true := @decide_eq_true _ (Classical.propDecidable _) h
theorem parB_no {n : Nat} {m : Nat → Nat} {f : Nat → Nat → Int} (h : ¬ ParG n m f) : parB n m f = false := @decide_eq_false _ (Classical.propDecidable _) h
/-- So it is as far as the cells before (x, y) tell. -/
structure ParTo (n : Nat) (m : Nat → Nat) (f : Nat → Nat → Int) (x y : Nat) : Prop where
  len : ∀ x', x' < x → m x' = n
  ok : ∀ x' y', Prc n x y x' y' → okc n f x' y'
noncomputable def Ffn (n : Nat) (f : Nat → Nat → Int) (x y : Nat) : Nat → Bool := fun p => @decide (∃ x' y', Prc n x y x' y' ∧ 0 ≤ f x' y' ∧ p = x' * 10 + y') (Classical.propDecidable _)
noncomputable def Rfn (n : Nat) (f : Nat → Nat → Int) (x y : Nat) : Nat → Bool := fun p => @decide (∃ x' y', Prc n x y x' y' ∧ 0 ≤ f x' y' ∧ p = x' * 10 + (f x' y').toNat) (Classical.propDecidable _)
noncomputable def Cfn (n : Nat) (f : Nat → Nat → Int) (x y : Nat) : Nat → Bool := fun p => @decide (∃ x' y', Prc n x y x' y' ∧ 0 ≤ f x' y' ∧ p = y' * 10 + (f x' y').toNat) (Classical.propDecidable _)
noncomputable def Tfn (n : Nat) (f : Nat → Nat → Int) (x y : Nat) : Nat → UInt8 := fun p => if Ffn n f x y p then UInt8.ofNat (f (p / 10) (p % 10)).toNat else 0
section
variable {n x y p : Nat} {m : Nat → Nat} {f : Nat → Nat → Int}
theorem Ffn_iff : Ffn n f x y p = true ↔ ∃ x' y', Prc n x y x' y' ∧ 0 ≤ f x' y' ∧ p = x' * 10 + y' := by unfold Ffn; exact @decide_eq_true_iff _ (Classical.propDecidable _)
theorem Rfn_iff : Rfn n f x y p = true ↔ ∃ x' y', Prc n x y x' y' ∧ 0 ≤ f x' y' ∧ p = x' * 10 + (f x' y').toNat := by unfold Rfn; exact @decide_eq_true_iff _ (Classical.propDecidable _)
theorem Cfn_iff : Cfn n f x y p = true ↔ ∃ x' y', Prc n x y x' y' ∧ 0 ≤ f x' y' ∧ p = y' * 10 + (f x' y').toNat := by unfold Cfn; exact @decide_eq_true_iff _ (Classical.propDecidable _)
theorem Prc_succ (hy : y < n) {x' y' : Nat} : Prc n x (y + 1) x' y' ↔ Prc n x y x' y' ∨ (x' = x ∧ y' = y) := by
  unfold Prc
  constructor
  · rintro ⟨h1, h2⟩
    by_cases c : x' = x ∧ y' = y
    · exact .inr c
    · exact .inl ⟨h1, by omega⟩
  · rintro (⟨h1, h2⟩ | ⟨h1, h2⟩)
    · exact ⟨h1, by omega⟩
    · exact ⟨by omega, by omega⟩
theorem Prc_row {x' y' : Nat} : Prc n (x + 1) 0 x' y' ↔ Prc n x n x' y' := by
  unfold Prc
  constructor
  · rintro ⟨h1, h2⟩; exact ⟨h1, by omega⟩
  · rintro ⟨h1, h2⟩; exact ⟨h1, by omega⟩
theorem Prc_none {x' y' : Nat} : ¬ Prc n 0 0 x' y' := by
  rintro ⟨_, h⟩; omega
theorem bd_zero : Ffn n f 0 0 = (fun _ => false) ∧ Rfn n f 0 0 = (fun _ => false) ∧ Cfn n f 0 0 = (fun _ => false) ∧ Tfn n f 0 0 = fun _ => 0 := by
  have hF : Ffn n f 0 0 = fun _ => false := by
    funext p
    rw [← Bool.not_eq_true, Ffn_iff]
    rintro ⟨x', y', h, _⟩; exact Prc_none h
  refine ⟨hF, ?_, ?_, ?_⟩
  · funext p
    rw [← Bool.not_eq_true, Rfn_iff]
    rintro ⟨x', y', h, _⟩; exact Prc_none h
  · funext p
    rw [← Bool.not_eq_true, Cfn_iff]
    rintro ⟨x', y', h, _⟩; exact Prc_none h
  · funext p
    unfold Tfn
    rw [hF]; rfl
theorem bd_row : Ffn n f (x + 1) 0 = Ffn n f x n ∧ Rfn n f (x + 1) 0 = Rfn n f x n ∧ Cfn n f (x + 1) 0 = Cfn n f x n ∧ Tfn n f (x + 1) 0 = Tfn n f x n := by
  have hF : Ffn n f (x + 1) 0 = Ffn n f x n := by
    funext p; rw [Bool.eq_iff_iff, Ffn_iff, Ffn_iff]; simp only [Prc_row]
  refine ⟨hF, ?_, ?_, ?_⟩
  · funext p; rw [Bool.eq_iff_iff, Rfn_iff, Rfn_iff]; simp only [Prc_row]
  · funext p; rw [Bool.eq_iff_iff, Cfn_iff, Cfn_iff]; simp only [Prc_row]
  · funext p; unfold Tfn; rw [hF]
theorem bd_skip (hy : y < n) (h : f x y < 0) : Ffn n f x (y + 1) = Ffn n f x y ∧ Rfn n f x (y + 1) = Rfn n f x y ∧ Cfn n f x (y + 1) = Cfn n f x y ∧ Tfn n f x (y + 1) = Tfn n f x y := by
  have key : ∀ (Q : Nat → Nat → Prop), (∃ x' y', Prc n x (y + 1) x' y' ∧ 0 ≤ f x' y' ∧ Q x' y') ↔ ∃ x' y', Prc n x y x' y' ∧ 0 ≤ f x' y' ∧ Q x' y' := fun Q => by
    constructor
    · rintro ⟨x', y', h1, h2, h3⟩
      rcases (Prc_succ hy).1 h1 with h1 | ⟨rfl, rfl⟩
      · exact ⟨x', y', h1, h2, h3⟩
      · omega
    · rintro ⟨x', y', h1, h2, h3⟩
      exact ⟨x', y', (Prc_succ hy).2 (.inl h1), h2, h3⟩
  have hF : Ffn n f x (y + 1) = Ffn n f x y := by
    funext p; rw [Bool.eq_iff_iff, Ffn_iff, Ffn_iff]; exact key _
  refine ⟨hF, ?_, ?_, ?_⟩
  · funext p; rw [Bool.eq_iff_iff, Rfn_iff, Rfn_iff]; exact key _
  · funext p; rw [Bool.eq_iff_iff, Cfn_iff, Cfn_iff]; exact key _
  · funext p; unfold Tfn; rw [hF]
theorem bd_put (hy : y < n) (h10 : n ≤ 10) (h : 0 ≤ f x y) (z : UInt8) (hz : (z.toNat : Int) = f x y) :
    Ffn n f x (y + 1) = putB (Ffn n f x y) (x * 10 + y) ∧ Rfn n f x (y + 1) = putB (Rfn n f x y) (x * 10 + z.toNat) ∧ Cfn n f x (y + 1) = putB (Cfn n f x y) (y * 10 + z.toNat) ∧ Tfn n f x (y + 1) = putT (Tfn n f x y) (x * 10 + y) z := by
  have hzn : (f x y).toNat = z.toNat := by omega
  have key : ∀ (Q : Nat → Nat → Prop), (∃ x' y', Prc n x (y + 1) x' y' ∧ 0 ≤ f x' y' ∧ Q x' y') ↔ Q x y ∨ ∃ x' y', Prc n x y x' y' ∧ 0 ≤ f x' y' ∧ Q x' y' := fun Q => by
    constructor
    · rintro ⟨x', y', h1, h2, h3⟩
      rcases (Prc_succ hy).1 h1 with h1 | ⟨rfl, rfl⟩
      · exact .inr ⟨x', y', h1, h2, h3⟩
      · exact .inl h3
    · rintro (h3 | ⟨x', y', h1, h2, h3⟩)
      · exact ⟨x, y, (Prc_succ hy).2 (.inr ⟨rfl, rfl⟩), h, h3⟩
      · exact ⟨x', y', (Prc_succ hy).2 (.inl h1), h2, h3⟩
  have pb : ∀ (F : Nat → Bool) (k p : Nat), putB F k p = true ↔ p = k ∨ F p = true := fun F k p => by
    unfold putB
    by_cases e : p = k
    · simp [e]
    · simp [e]
  have hF : Ffn n f x (y + 1) = putB (Ffn n f x y) (x * 10 + y) := by
    funext p; rw [Bool.eq_iff_iff, pb, Ffn_iff, Ffn_iff]; exact key _
  refine ⟨hF, ?_, ?_, ?_⟩
  · funext p; rw [Bool.eq_iff_iff, pb, Rfn_iff, Rfn_iff, key, hzn]
  · funext p; rw [Bool.eq_iff_iff, pb, Cfn_iff, Cfn_iff, key, hzn]
  · funext p
    unfold Tfn putT
    rw [hF]
    unfold putB
    by_cases e : p = x * 10 + y
    · subst e
      rw [if_pos rfl, if_pos rfl, if_pos rfl, show (x * 10 + y) / 10 = x by omega, show (x * 10 + y) % 10 = y by omega, hzn]
      exact UInt8.toNat.inj (u8_of _ (by have := z.toNat_lt; omega))
    · rw [if_neg e, if_neg e]
/-- A number occurs in the row before a cell exactly as the board's row tells. -/
theorem Rfn_at (hP : ParTo n m f x y) (hy : y < n) (h10 : n ≤ 10) {z : Nat} (hz : z < n) : Rfn n f x y (x * 10 + z) = true ↔ ∃ y', y' < y ∧ f x y' = z := by
  rw [Rfn_iff]
  constructor
  · rintro ⟨x', y', h1, h2, h3⟩
    have h4 : f x' y' < n := by
      rcases hP.ok x' y' h1 with e | ⟨_, e, _⟩
      · omega
      · exact e
    have hx : x' = x := by omega
    subst hx
    exact ⟨y', by have := h1.2; omega, by omega⟩
  · rintro ⟨y', h1, h2⟩
    exact ⟨x, y', ⟨by omega, .inr ⟨rfl, h1⟩⟩, by omega, by omega⟩
theorem Cfn_at (hP : ParTo n m f x y) (hy : y < n) (h10 : n ≤ 10) {z : Nat} (hz : z < n) : Cfn n f x y (y * 10 + z) = true ↔ ∃ x', x' < x ∧ f x' y = z := by
  rw [Cfn_iff]
  constructor
  · rintro ⟨x', y', h1, h2, h3⟩
    have h4 : f x' y' < n := by
      rcases hP.ok x' y' h1 with e | ⟨_, e, _⟩
      · omega
      · exact e
    have hyy : y' = y := by omega
    subst hyy
    exact ⟨x', by have := h1.2; omega, by omega⟩
  · rintro ⟨x', h1, h2⟩
    exact ⟨x', y, ⟨hy, .inl h1⟩, by omega, by omega⟩
theorem ParTo.start : ParTo n m f 0 0 := ⟨fun x' h => by omega, fun x' y' h => absurd h Prc_none⟩
theorem ParTo.step (h : ParTo n m f x y) (hy : y < n) (ho : okc n f x y) : ParTo n m f x (y + 1) :=
  ⟨h.len, fun x' y' h1 => by
    rcases (Prc_succ hy).1 h1 with h1 | ⟨rfl, rfl⟩
    · exact h.ok x' y' h1
    · exact ho⟩
theorem ParTo.row (h : ParTo n m f x n) (hm : m x = n) : ParTo n m f (x + 1) 0 :=
  ⟨fun x' hx => by
    by_cases e : x' = x
    · subst e; exact hm
    · exact h.len x' (by omega), fun x' y' h1 => h.ok x' y' (Prc_row.1 h1)⟩
theorem ParTo.done (h : ParTo n m f n 0) (h1 : 1 ≤ n) (h10 : n ≤ 10) : ParG n m f :=
  ⟨h1, h10, h.len, fun x y hx hy => h.ok x y ⟨hy, .inl hx⟩⟩
end
end Go.Proofs.Ytbhjbllgmenbaaa
