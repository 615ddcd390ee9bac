/- Proved: lemmas on lists in memory, for laws that hand a list in and get one back. Conditions: those that each lemma names. -/
import Derived.Test.YtbhjbllgmenbaabLi
import Derived.Test.YtbhjbllgmenbaabOl
import Derived.Test.YtbhjbllgmenbaabIa
namespace Go.Proofs.Ytbhjbllgmenbaab
set_option linter.unusedVariables false
set_option linter.unusedSimpArgs false
open Go.RowKit
structure XB where
  b : Nat
  v : Value
theorem IL.go {w w' : World} {lo : Nat} {v : Value} {l : List Int} (h : IL w lo w.heap.size v l) (hb : Below w.heap.size w w') : IL w' lo w'.heap.size v l := by
  rcases h with h | ⟨g, cap, e, h1, h2, h3⟩
  · exact .inl h
  · exact .inr ⟨g, cap, e, h1, by have := hb.size; omega, h3.below hb⟩
theorem IL.drew {w : World} {lo hi : Nat} {v : Value} {l : List Int} (h : IL w lo hi v l) : IL w.drew lo hi v l := by
  rcases h with h | ⟨g, cap, e, h1, h2, h3⟩
  · exact .inl h
  · exact .inr ⟨g, cap, e, h1, h2, h3.block rfl⟩
theorem IL.grownB {w w' : World} {lo hi b : Nat} {v : Value} {l : List Int} (h : IL w lo hi v l) (hg : w.grownBy w' (some b)) (hne : b < lo ∨ hi ≤ b) : IL w' lo hi v l := by
  rcases h with h | ⟨g, cap, e, h1, h2, h3⟩
  · exact .inl h
  · exact .inr ⟨g, cap, e, h1, h2, h3.grown hg (by omega)⟩
theorem GotN.high {n S : Nat} {f : Nat → Int} {w w' : World} {e : Ending} (h : GotN n f w e w') (hS : S ≤ w.heap.size) : ∃ b, e = .returned (.slice (some ⟨b, 0, none⟩) n n) ∧ Below w.heap.size w w' ∧ Hid (Row w' b n f) ∧ S ≤ b ∧ b < w'.heap.size := by
  obtain ⟨b, h1, h2, h3, h4⟩ := h; exact ⟨b, h1, h2, hid h3, by omega, h3.lt⟩
theorem imp_no {a b : Bool} (h : a = true → b = true) (hb : b = false) : a = false := by
  cases a with
  | false => rfl
  | true => rw [h rfl] at hb; cases hb
theorem mark_one (b n c : Nat) (f : Nat → Int) (w : World) (M : Nat) (hM : 1 + n = M) (hn : n ≤ 1048576) (h : Row w b n f) :
    Calls Try.prog 21 #[.slice (some ⟨b, 0, none⟩) n c, .int .i64 1] w fun e w' => e = .returned (.int .i64 M) ∧ w.grownBy w' (some b) := by
  refine (markInt64S_any b n c 1 f w hn (by omega) (by omega) h).mono ?_
  rintro e w' ⟨rfl, hg, _⟩
  exact ⟨by rw [← hM]; congr 2, hg⟩
end Go.Proofs.Ytbhjbllgmenbaab
