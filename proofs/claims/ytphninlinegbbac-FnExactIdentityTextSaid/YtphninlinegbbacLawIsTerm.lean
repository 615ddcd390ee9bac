/- Proved: the law FnExactIsTerm returns true, and old memory is left alone. Conditions: those that the theorem names. -/
import Derived.Test.YtphninlinegbbacTe2
import Derived.Test.YtphninlinegbbacTe3
namespace Go.Proofs.Ytphninlinegbbac
set_option linter.unusedVariables false
set_option linter.unusedSimpArgs false
open Go.RowKit
theorem GotB.size {n : Nat} {f : Nat → UInt8} {w w' : World} {e : Ending} (h : GotB n f w e w') : ∃ b, e = .returned (.slice (some ⟨b, 0, none⟩) n n) ∧ Below w.heap.size w w' ∧ Hid (BRow w' b n f) := by
  obtain ⟨b, h1, h2, h3, _⟩ := h; exact ⟨b, h1, h2, hid h3⟩
end Go.Proofs.Ytphninlinegbbac
