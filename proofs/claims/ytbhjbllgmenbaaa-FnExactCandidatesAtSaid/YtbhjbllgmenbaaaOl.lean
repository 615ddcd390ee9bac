/- Proved: lemmas on a list of numbers that a function makes behind its own start. Conditions: those that each lemma names. -/
import Derived.Test.YtbhjbllgmenbaaaLi
namespace Go.Proofs.Ytbhjbllgmenbaaa
set_option linter.unusedVariables false
set_option linter.unusedSimpArgs false
open Go.RowKit
/-- The numbers l as cells. -/
def icells (l : List Int) : List Value := l.map fun z => .int .i64 z
theorem IL.lower {w : World} {lo lo' hi : Nat} {v : Value} {l : List Int} (h : IL w lo hi v l) (hl : lo' ≤ lo) : IL w lo' hi v l := by
  rcases h with h | ⟨g, cap, e, h1, h2, h3⟩
  · exact .inl h
  · exact .inr ⟨g, cap, e, by omega, h2, h3⟩
/-- v is a list of its own, made behind B, of the numbers l. -/
def OL (w : World) (B : Nat) (v : Value) (l : List Int) : Prop := w.ownsRow B 2 1 v l.length (icells l)
theorem OL.below {w w' : World} {B : Nat} {v : Value} {l : List Int} (h : OL w B v l) (hb : Below w.heap.size w w') : OL w' B v l := own_kept h hb.block
theorem OL.drew {w : World} {B : Nat} {v : Value} {l : List Int} (h : OL w B v l) : OL w.drew B v l := World.ownsRow.drew h
theorem OL.add {w' : World} {B g cap : Nat} {l : List Int} {z : Int} (h : w'.ownsRow B 2 1 (.slice (some ⟨g, 0, none⟩) (l.length + 1) cap) (l.length + 1) (icells l ++ [.int .i64 z])) : OL w' B (.slice (some ⟨g, 0, none⟩) (l.length + 1) cap) (l ++ [z]) := by
  unfold OL icells at *
  simpa using h
theorem OL.made {w : World} {B c : Nat} (h : B ≤ w.heap.size) (hc : c ≤ 1000) (cur : Array Value) (hs : cur.size = c) : OL (w.alloc (.cells cur 2)) B (.slice (some ⟨w.heap.size, 0, none⟩) 0 c) [] :=
  World.ownsRow_made w cur c h (by unfold maxLen; omega) (by omega)
theorem OL.nil (w : World) (B : Nat) : OL w B (.slice none 0 0) [] := World.ownsRow_nil _ _ _ _
theorem OL.got {w w' : World} {B : Nat} {v : Value} {l : List Int} (h : OL w' B v l) (hb : Below w.heap.size w w') (hB : w.heap.size ≤ B) : GotL l 0 w (.returned (.tuple #[v, .int .i64 0])) w' :=
  ⟨v, rfl, hb, (IL.of_own h).lower hB⟩
end Go.Proofs.Ytbhjbllgmenbaaa
