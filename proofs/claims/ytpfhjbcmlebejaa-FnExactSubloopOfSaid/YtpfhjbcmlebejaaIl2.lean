/- Proved: what the laws' helpers on lists of lists of numbers return. Conditions: those that each theorem names. -/
import Derived.Test.YtpfhjbcmlebejaaIl
import Derived.Test.YtpfhjbcmlebejaaReg
namespace Go.Proofs.Ytpfhjbcmlebejaa
set_option linter.unusedVariables false
set_option linter.unusedSimpArgs false
open Go.RowKit
/-- Block bo begins with n slices of L numbers each, in blocks b 0, b 1 .. of their own: the number at i of the one at j is f j i. -/
structure SS (w : World) (bo : Nat) (b : Nat → Nat) (n L : Nat) (f : Nat → Nat → Int) : Prop where
  outer : ∃ cs, holds w bo cs 40 ∧ ∀ j, j < n → ∃ cap, cs[j]? = some (.slice (some ⟨b j, 0, none⟩) L cap)
  inner : ∀ j, j < n → Row w (b j) L (f j)
  ne : ∀ j, j < n → b j ≠ bo
  inj : ∀ i j, i < j → j < n → b i ≠ b j
section
variable {w w' : World} {bo n L : Nat} {b : Nat → Nat} {f f' : Nat → Nat → Int}
theorem SS.lt (h : SS w bo b n L f) : bo < w.heap.size := by
  obtain ⟨cs, h1, _⟩ := h.outer; exact holds_lt h1
theorem SS.cell (h : SS w bo b n L f) {j : Nat} (hj : j < n) : ∃ cap, w.cell? ⟨bo, j, none⟩ = some (.slice (some ⟨b j, 0, none⟩) L cap) := by
  obtain ⟨cs, h1, h2⟩ := h.outer
  obtain ⟨cap, e⟩ := h2 j hj
  exact ⟨cap, by rw [holds_cell h1]; exact e⟩
theorem SS.kept (h : SS w bo b n L f) (e : ∀ k, k < w.heap.size → w'.heap[k]? = w.heap[k]?) : SS w' bo b n L f := by
  obtain ⟨cs, h1, h2⟩ := h.outer
  exact ⟨⟨cs, by show w'.heap[bo]? = _; rw [e bo (holds_lt h1)]; exact h1, h2⟩, fun j hj => (h.inner j hj).block (e _ (h.inner j hj).lt), h.ne, h.inj⟩
theorem SS.below (h : SS w bo b n L f) (hb : Below w.heap.size w w') : SS w' bo b n L f := h.kept hb.block
theorem SS.drew (h : SS w bo b n L f) : SS w.drew bo b n L f := h.kept fun _ _ => rfl
theorem SS.grown (h : SS w bo b n L f) {j : Nat} (hj : j < n) (hg : w.grownBy w' (some (b j))) (hr : Row w' (b j) L (f' j)) (e : ∀ i, i < n → i ≠ j → f' i = f i) : SS w' bo b n L f' := by
  obtain ⟨cs, h1, h2⟩ := h.outer
  refine ⟨⟨cs, by show w'.heap[bo]? = _; rw [hg.block bo (holds_lt h1) (by simp [Ne.symm (h.ne j hj)])]; exact h1, h2⟩, fun i hi => ?_, h.ne, h.inj⟩
  by_cases c : i = j
  · subst c; exact hr
  · rw [e i hi c]
    refine (h.inner i hi).grown hg ?_
    by_cases l : i < j
    · exact h.inj i j l hj
    · exact (h.inj j i (by omega) hi).symm
theorem SS.congr (h : SS w bo b n L f) (e : ∀ j, j < n → f' j = f j) : SS w bo b n L f' := ⟨h.outer, fun j hj => by rw [e j hj]; exact h.inner j hj, h.ne, h.inj⟩
end
end Go.Proofs.Ytpfhjbcmlebejaa
