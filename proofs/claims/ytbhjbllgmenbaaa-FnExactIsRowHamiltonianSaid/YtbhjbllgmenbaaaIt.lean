/- Proved: what the functions that make isotopes return, of program and model alike. Conditions: those that each theorem names. -/
import Derived.Test.YtbhjbllgmenbaaaTt
import Derived.Test.YtbhjbllgmenbaaaQs
import Derived.Test.YtbhjbllgmenbaaaSr
import Derived.Test.YtbhjbllgmenbaaaSq5
namespace Go.Proofs.Ytbhjbllgmenbaaa
set_option linter.unusedVariables false
set_option linter.unusedSimpArgs false
open Go.RowKit
theorem back_lt {p : Nat → UInt8} {N : Nat} (h : IsPerm p N) {z : Nat} (hz : z < N) : (backF p N z).toNat < N ∧ (p (backF p N z).toNat).toNat = z := by
  obtain ⟨y, h1, h2, h3⟩ := backF_of h z hz
  rw [h3]; exact ⟨h1, h2⟩
theorem back_at {p : Nat → UInt8} {N : Nat} (h : IsPerm p N) {y : Nat} (hy : y < N) : (backF p N (p y).toNat).toNat = y := by
  rw [backF_at h y hy N hy (Nat.le_refl _), u8_of _ (by have := h.hi; omega)]
def bkA (t : Nat → UInt8) (N r : Nat) : Nat := (backF (tri t 0) N r).toNat
def bkB (t : Nat → UInt8) (N r : Nat) : Nat := (backF (tri t 10) N r).toNat
/-- The table of an isotope, as far as k rows and j entries of the next row of the square have been led. -/
def isoP (g t : Nat → UInt8) (N k j : Nat) : Nat → UInt8 := fun i =>
  if i / 10 < N ∧ i % 10 < N ∧ (bkA t N (i / 10) < k ∨ (bkA t N (i / 10) = k ∧ bkB t N (i % 10) < j)) then tri t 20 (g (bkA t N (i / 10) * 10 + bkB t N (i % 10))).toNat else 0
theorem isoP_zero (g t : Nat → UInt8) (N : Nat) : isoP g t N 0 0 = fun _ => 0 := by
  funext i; simp [isoP]
theorem isoP_step {g t : Nat → UInt8} {N k j : Nat} (ht : IsTri t N) (hk : k < N) (hj : j < N) (i : Nat) (hi : i < 100) :
    isoP g t N k (j + 1) i = if i = (tri t 0 k).toNat * 10 + (tri t 10 j).toNat then tri t 20 (g (k * 10 + j)).toNat else isoP g t N k j i := by
  have h1 := ht.a.lt k hk
  have h2 := ht.b.lt j hj
  have h10 := ht.a.hi
  by_cases e : i = (tri t 0 k).toNat * 10 + (tri t 10 j).toNat
  · have e1 : i / 10 = (tri t 0 k).toNat := by omega
    have e2 : i % 10 = (tri t 10 j).toNat := by omega
    rw [if_pos e]
    unfold isoP
    have a1 : bkA t N (i / 10) = k := by rw [e1]; exact back_at ht.a hk
    have a2 : bkB t N (i % 10) = j := by rw [e2]; exact back_at ht.b hj
    rw [if_pos ⟨by omega, by omega, .inr ⟨a1, by omega⟩⟩, a1, a2]
  · rw [if_neg e]
    unfold isoP
    by_cases hr : i / 10 < N ∧ i % 10 < N
    · have b1 := back_lt ht.a hr.1
      have b2 := back_lt ht.b hr.2
      have key : ¬ (bkA t N (i / 10) = k ∧ bkB t N (i % 10) = j) := by
        rintro ⟨x, y⟩
        apply e
        have c1 := b1.2
        have c2 := b2.2
        rw [show (backF (tri t 0) N (i / 10)).toNat = k from x] at c1
        rw [show (backF (tri t 10) N (i % 10)).toNat = j from y] at c2
        omega
      have : (i / 10 < N ∧ i % 10 < N ∧ (bkA t N (i / 10) < k ∨ (bkA t N (i / 10) = k ∧ bkB t N (i % 10) < j + 1))) ↔ (i / 10 < N ∧ i % 10 < N ∧ (bkA t N (i / 10) < k ∨ (bkA t N (i / 10) = k ∧ bkB t N (i % 10) < j))) := by omega
      simp only [this]
    · rw [if_neg (by omega), if_neg (by omega)]
theorem isoP_row {g t : Nat → UInt8} {N : Nat} (ht : IsTri t N) (k : Nat) : isoP g t N (k + 1) 0 = isoP g t N k N := by
  funext i
  unfold isoP
  by_cases hr : i / 10 < N ∧ i % 10 < N
  · have b2 := back_lt ht.b hr.2
    have b3 : bkB t N (i % 10) < N := b2.1
    have : (i / 10 < N ∧ i % 10 < N ∧ (bkA t N (i / 10) < k + 1 ∨ (bkA t N (i / 10) = k + 1 ∧ bkB t N (i % 10) < 0))) ↔ (i / 10 < N ∧ i % 10 < N ∧ (bkA t N (i / 10) < k ∨ (bkA t N (i / 10) = k ∧ bkB t N (i % 10) < N))) := by omega
    simp only [this]
  · rw [if_neg (by omega), if_neg (by omega)]
/-- A row, led. -/
def ledF (row back third : Nat → UInt8) (N : Nat) : Nat → UInt8 := thenF (thenF back row N) third N
theorem isoP_led {g t : Nat → UInt8} {N k : Nat} (ht : IsTri t N) (hk : k < N) (i : Nat) (hi : i < 100) :
    isoP g t N (k + 1) 0 i = if (tri t 0 k).toNat * 10 ≤ i ∧ i < (tri t 0 k).toNat * 10 + 10 then ledF (rowF g k) (backF (tri t 10) N) (tri t 20) N (i - (tri t 0 k).toNat * 10) else isoP g t N k 0 i := by
  have h1 := ht.a.lt k hk
  have h10 := ht.a.hi
  by_cases e : (tri t 0 k).toNat * 10 ≤ i ∧ i < (tri t 0 k).toNat * 10 + 10
  · have e1 : i / 10 = (tri t 0 k).toNat := by omega
    have e2 : i - (tri t 0 k).toNat * 10 = i % 10 := by omega
    rw [if_pos e, e2]
    have a1 : bkA t N (i / 10) = k := by rw [e1]; exact back_at ht.a hk
    unfold isoP ledF thenF
    by_cases hs : i % 10 < N
    · rw [if_pos ⟨by omega, hs, .inl (by omega)⟩, if_pos hs, if_pos hs, a1]; rfl
    · rw [if_neg (by omega), if_neg hs]
  · rw [if_neg e]
    unfold isoP
    by_cases hr : i / 10 < N ∧ i % 10 < N
    · have b1 := back_lt ht.a hr.1
      have key : bkA t N (i / 10) ≠ k := by
        intro x
        have c1 := b1.2
        rw [show (backF (tri t 0) N (i / 10)).toNat = k from x] at c1
        omega
      have : (i / 10 < N ∧ i % 10 < N ∧ (bkA t N (i / 10) < k + 1 ∨ (bkA t N (i / 10) = k + 1 ∧ bkB t N (i % 10) < 0))) ↔ (i / 10 < N ∧ i % 10 < N ∧ (bkA t N (i / 10) < k ∨ (bkA t N (i / 10) = k ∧ bkB t N (i % 10) < 0))) := by omega
      simp only [this]
    · rw [if_neg (by omega), if_neg (by omega)]
theorem IsSq.lt' {N : Nat} {g : Nat → UInt8} (h : IsSq N g) {x y : Nat} (hx : x < N) (hy : y < N) : (g (x * 10 + y)).toNat < N := (h.rows x hx).lt y hy
end Go.Proofs.Ytbhjbllgmenbaaa
