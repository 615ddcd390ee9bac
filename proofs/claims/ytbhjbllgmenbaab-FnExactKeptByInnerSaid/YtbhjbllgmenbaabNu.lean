/- Proved: in a loop an associator is 0 exactly where the two products are equal, and a commutator likewise. Conditions: those that each lemma names. -/
import Derived.Test.YtbhjbllgmenbaabPa0
namespace Go.Proofs.Ytbhjbllgmenbaab
set_option linter.unusedVariables false
set_option linter.unusedSimpArgs false
open Go.RowKit
/-- a loop: a square with 0 as unit. -/
structure IsLp (N : Nat) (g : Nat → UInt8) : Prop where
  sq : IsSq N g
  row : ∀ x, x < N → (g x).toNat = x
  col : ∀ x, x < N → (g (x * 10)).toNat = x
/-- The product of two elements. -/
def mu (g : Nat → UInt8) (x y : Nat) : Nat := (g (x * 10 + y)).toNat
theorem mu_lt {g : Nat → UInt8} {N x y : Nat} (h : IsSq N g) (hx : x < N) (hy : y < N) : mu g x y < N := (h.rows x hx).lt y hy
/-- What x has to be multiplied with, so that z comes out. -/
def ld (g : Nat → UInt8) (N x z : Nat) : UInt8 := backF (rowF g x) N z
theorem ld_lt {g : Nat → UInt8} {N x z : Nat} (h : IsSq N g) (hx : x < N) (hz : z < N) : (ld g N x z).toNat < N := (bk_lt (h.rows x hx) hz).1
theorem ld_zero {g : Nat → UInt8} {N x z : Nat} (h : IsLp N g) (hx : x < N) (hz : z < N) : (ld g N x z).toNat = 0 ↔ x = z := by
  have hp := h.sq.rows x hx
  have h1 := h.sq.lo
  constructor
  · intro e
    have e2 := (bk_lt hp hz).2
    rw [show (backF (rowF g x) N z).toNat = 0 from e] at e2
    have e3 := h.col x hx
    exact e3.symm.trans e2
  · intro e
    subst e
    have e3 : (rowF g x 0).toNat = x := h.col x hx
    have := bk_at hp (y := 0) (by omega)
    rw [e3] at this
    exact this
/-- The associator of x, y and z. -/
def asc (g : Nat → UInt8) (N x y z : Nat) : UInt8 := ld g N (mu g x (mu g y z)) (mu g (mu g x y) z)
/-- The commutator of x and y. -/
def cmm (g : Nat → UInt8) (N x y : Nat) : UInt8 := ld g N (mu g y x) (mu g x y)
theorem asc_lt {g : Nat → UInt8} {N x y z : Nat} (h : IsSq N g) (hx : x < N) (hy : y < N) (hz : z < N) : (asc g N x y z).toNat < N :=
  ld_lt h (mu_lt h hx (mu_lt h hy hz)) (mu_lt h (mu_lt h hx hy) hz)
theorem cmm_lt {g : Nat → UInt8} {N x y : Nat} (h : IsSq N g) (hx : x < N) (hy : y < N) : (cmm g N x y).toNat < N := ld_lt h (mu_lt h hy hx) (mu_lt h hx hy)
theorem asc_zero {g : Nat → UInt8} {N x y z : Nat} (h : IsLp N g) (hx : x < N) (hy : y < N) (hz : z < N) : (asc g N x y z).toNat = 0 ↔ mu g (mu g x y) z = mu g x (mu g y z) := by
  have := ld_zero h (mu_lt h.sq hx (mu_lt h.sq hy hz)) (mu_lt h.sq (mu_lt h.sq hx hy) hz)
  exact this.trans ⟨Eq.symm, Eq.symm⟩
theorem cmm_zero {g : Nat → UInt8} {N x y : Nat} (h : IsLp N g) (hx : x < N) (hy : y < N) : (cmm g N x y).toNat = 0 ↔ mu g x y = mu g y x := by
  have := ld_zero h (mu_lt h.sq hy hx) (mu_lt h.sq hx hy)
  exact this.trans ⟨Eq.symm, Eq.symm⟩
end Go.Proofs.Ytbhjbllgmenbaab
