/- Proved: what the functions that compose permutations and lead them back return, of program and model alike. Conditions: those that each theorem names. -/
import Derived.Test.YtfkmhephabmolaaPl2
namespace Go.Proofs.Ytfkmhephabmolaa
set_option linter.unusedVariables false
set_option linter.unusedSimpArgs false
open Go.RowKit

def thenF (p q : Nat → UInt8) (N : Nat) : Nat → UInt8 := fun i => if i < N then q (p i).toNat else 0
theorem thenF_step (p q : Nat → UInt8) (k : Nat) (j : Nat) : thenF p q (k + 1) j = if j = k then q (p k).toNat else thenF p q k j := by
  unfold thenF
  by_cases e : j = k
  · subst e; simp
  · simp [e, show j < k + 1 ↔ j < k by omega]
def backF (p : Nat → UInt8) : Nat → Nat → UInt8
  | 0 => fun _ => 0
  | k + 1 => fun j => if j = (p k).toNat then UInt8.ofNat k else backF p k j
theorem thenF_zero (p q : Nat → UInt8) : thenF p q 0 = fun _ => 0 := by funext j; simp [thenF]
end Go.Proofs.Ytfkmhephabmolaa
