/- Proved: lemmas on the candidates of a cell. Conditions: those that each theorem names. -/
import Derived.Test.YtbhjbllgmenbaaaBo5
import Derived.Test.YtbhjbllgmenbaaaBo6
import Derived.Test.YtbhjbllgmenbaaaBo7
namespace Go.Proofs.Ytbhjbllgmenbaaa
set_option linter.unusedVariables false
set_option linter.unusedSimpArgs false
open Go.RowKit
theorem Prc_all {n x y : Nat} : Prc n n 0 x y ↔ y < n ∧ x < n := by
  unfold Prc
  constructor
  · rintro ⟨h1, h2⟩; exact ⟨h1, by omega⟩
  · rintro ⟨h1, h2⟩; exact ⟨h1, .inl h2⟩
section
variable {n : Nat} {m : Nat → Nat} {f : Nat → Nat → Int} {i j z : Nat}
theorem ParG.lt (h : ParG n m f) (hi : i < n) (hj : j < n) : f i j < n := by
  have := h.1
  rcases h.2.2.2 i j hi hj with e | ⟨_, e, _⟩
  · omega
  · exact e
theorem Ffn_all (h : ParG n m f) (hi : i < n) (hj : j < n) : Ffn n f n 0 (i * 10 + j) = true ↔ 0 ≤ f i j := by
  have h10 := h.2.1
  rw [Ffn_iff]
  constructor
  · rintro ⟨x', y', h1, h2, h3⟩
    have := Prc_all.1 h1
    have e1 : x' = i := by omega
    have e2 : y' = j := by omega
    subst e1; subst e2; exact h2
  · intro h2
    exact ⟨i, j, Prc_all.2 ⟨hj, hi⟩, h2, rfl⟩
theorem Rfn_all (h : ParG n m f) (hi : i < n) (hz : z < n) : Rfn n f n 0 (i * 10 + z) = true ↔ ∃ y, y < n ∧ f i y = z := by
  have h10 := h.2.1
  rw [Rfn_iff]
  constructor
  · rintro ⟨x', y', h1, h2, h3⟩
    have h4 := Prc_all.1 h1
    have := h.lt h4.2 h4.1
    have e1 : x' = i := by omega
    subst e1; exact ⟨y', h4.1, by omega⟩
  · rintro ⟨y', h1, h2⟩
    exact ⟨i, y', Prc_all.2 ⟨h1, hi⟩, by omega, by omega⟩
theorem Cfn_all (h : ParG n m f) (hj : j < n) (hz : z < n) : Cfn n f n 0 (j * 10 + z) = true ↔ ∃ x, x < n ∧ f x j = z := by
  have h10 := h.2.1
  rw [Cfn_iff]
  constructor
  · rintro ⟨x', y', h1, h2, h3⟩
    have h4 := Prc_all.1 h1
    have := h.lt h4.2 h4.1
    have e1 : y' = j := by omega
    subst e1; exact ⟨x', h4.2, by omega⟩
  · rintro ⟨x', h1, h2⟩
    exact ⟨x', j, Prc_all.2 ⟨hj, h1⟩, by omega, by omega⟩
theorem cnd_sel (h : ParG n m f) (hi : i < n) (hj : j < n) : selL (fun z => !Rfn n f n 0 (i * 10 + z) && !Cfn n f n 0 (j * 10 + z)) n = selL (cndB n f i j) n := by
  refine selL_congr fun z hz => ?_
  have hR := Rfn_all h hi hz
  have hC := Cfn_all h hj hz
  by_cases q : ∀ k, k < n → f i k ≠ (z : Int) ∧ f k j ≠ (z : Int)
  · rw [cndB_yes q]
    have r0 : Rfn n f n 0 (i * 10 + z) = false := by
      cases e : Rfn n f n 0 (i * 10 + z) with
      | false => rfl
      | true => obtain ⟨y, hy, e2⟩ := hR.1 e
                exact absurd e2 (q y hy).1
    have c0 : Cfn n f n 0 (j * 10 + z) = false := by
      cases e : Cfn n f n 0 (j * 10 + z) with
      | false => rfl
      | true => obtain ⟨x, hx, e2⟩ := hC.1 e
                exact absurd e2 (q x hx).2
    rw [r0, c0]; rfl
  · rw [cndB_no q]
    cases e : Rfn n f n 0 (i * 10 + z) with
    | true => rfl
    | false =>
      cases e2 : Cfn n f n 0 (j * 10 + z) with
      | true => rfl
      | false =>
        refine absurd (fun k hk => ⟨fun a => ?_, fun a => ?_⟩) q
        · rw [hR.2 ⟨k, hk, a⟩] at e; cases e
        · rw [hC.2 ⟨k, hk, a⟩] at e2; cases e2
end
/-- What CandidatesAt returns: the list, and the code. -/
noncomputable def cdL (n : Nat) (m : Nat → Nat) (f : Nat → Nat → Int) (i j : Int) : List Int × Int :=
  bif parB n m f then (if (0 ≤ i ∧ i < n) ∧ (0 ≤ j ∧ j < n) then (if 0 ≤ f i.toNat j.toNat then ([], 5) else (selL (cndB n f i.toNat j.toNat) n, 0)) else ([], 2)) else ([], 1)
end Go.Proofs.Ytbhjbllgmenbaaa
