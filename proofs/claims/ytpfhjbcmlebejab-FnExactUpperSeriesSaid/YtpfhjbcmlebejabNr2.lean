/- Proved: what the model's commutant and centre are. Conditions: those that each theorem names. -/
import Derived.Test.YtpfhjbcmlebejabNr
namespace Go.Proofs.Ytpfhjbcmlebejab
set_option linter.unusedVariables false
set_option linter.unusedSimpArgs false
open Go.RowKit
noncomputable def comB (g : Nat → UInt8) (N a : Nat) : Bool := @decide (∀ x, x < N → mu g a x = mu g x a) (Classical.propDecidable _)
theorem comB_iff {g : Nat → UInt8} {N a : Nat} : comB g N a = true ↔ ∀ x, x < N → mu g a x = mu g x a := by unfold comB; exact @decide_eq_true_iff _ (Classical.propDecidable _)
/-- Is a central? -/
noncomputable def cenB (g : Nat → UInt8) (N a : Nat) : Bool := (regB g N 0 a && (regB g N 1 a && regB g N 2 a)) && comB g N a
/-- b tells whether a commutes with all elements before j. -/
structure CMid (g : Nat → UInt8) (a j : Nat) (b : Bool) : Prop where
  iff : b = true ↔ ∀ x, x < j → mu g a x = mu g x a
theorem bool_of_iff {c : Bool} {p : Prop} (h : c = true ↔ p) {b : Bool} (hb : b = true ↔ p) : c = b := by
  cases c <;> cases b <;> simp_all
theorem OL.row {w : World} {B : Nat} {v : Value} {l : List Int} (h : OL w B v l) (hn : 0 < l.length) : ∃ g cap, v = .slice (some ⟨g, 0, none⟩) l.length cap ∧ B ≤ g ∧ Row w g l.length (fun i => l.getD i 0) := by
  rcases IL.of_own h with ⟨_, e⟩ | ⟨g, cap, e, h1, h2, h3⟩
  · rw [e] at hn; simp at hn
  · exact ⟨g, cap, e, h1, h3⟩
end Go.Proofs.Ytpfhjbcmlebejab
