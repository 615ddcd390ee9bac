/- Proved: lemmas on the list of the numbers before k that meet a condition. Conditions: those that each lemma names. -/
import Derived.Test.YtbhjbllgmenbaaaOl
namespace Go.Proofs.Ytbhjbllgmenbaaa
set_option linter.unusedVariables false
set_option linter.unusedSimpArgs false
open Go.RowKit
/-- The numbers before k with p. -/
def selL (p : Nat → Bool) (k : Nat) : List Int := ((List.range k).filter p).map (fun (j : Nat) => (j : Int))
theorem selL_yes {p : Nat → Bool} {k : Nat} (h : p k = true) : selL p (k + 1) = selL p k ++ [(k : Int)] := by simp [selL, List.range_succ, h]
theorem selL_no {p : Nat → Bool} {k : Nat} (h : p k = false) : selL p (k + 1) = selL p k := by simp [selL, List.range_succ, h]
theorem selL_len (p : Nat → Bool) (k : Nat) : (selL p k).length ≤ k := by
  unfold selL
  rw [List.length_map]
  exact Nat.le_trans (List.length_filter_le _ _) (by simp)
theorem selL_congr {p q : Nat → Bool} {k : Nat} (h : ∀ i, i < k → p i = q i) : selL p k = selL q k := by
  unfold selL
  congr 1
  apply List.filter_congr
  intro i hi
  exact h i (List.mem_range.1 hi)
theorem selL_more {p : Nat → Bool} {n : Nat} (h : ∀ i, n ≤ i → p i = false) : ∀ d, selL p (n + d) = selL p n
  | 0 => rfl
  | d + 1 => by rw [show n + (d + 1) = (n + d) + 1 by omega, selL_no (h _ (by omega))]; exact selL_more h d
theorem selL_up {p : Nat → Bool} {n m : Nat} (h : ∀ i, n ≤ i → p i = false) (hm : n ≤ m) : selL p m = selL p n := by
  have := selL_more h (m - n)
  rwa [show n + (m - n) = m by omega] at this
/-- What a function hands back that makes a list alone. -/
def GotV (l : List Int) (w : World) (e : Ending) (w' : World) : Prop :=
  ∃ v, e = .returned v ∧ Below w.heap.size w w' ∧ OL w' w.heap.size v l
theorem OL.alloc {w : World} {B : Nat} {v : Value} {l : List Int} (h : OL w B v l) (o : Obj) : OL (w.alloc o) B v l := own_kept h fun k hk => heap_alloc_old w o hk
theorem OL.lower {w : World} {B B' : Nat} {v : Value} {l : List Int} (h : OL w B v l) (hb : B' ≤ B) : OL w B' v l := by
  refine ⟨h.1, ?_⟩
  rcases h.2 with h2 | ⟨g, cap, cur, e, hB, hr⟩
  · exact .inl h2
  · exact .inr ⟨g, cap, cur, e, by omega, hr⟩
theorem OL.fresh (w : World) {B n : Nat} (h : B ≤ w.heap.size) (hn : w.heap.size = n) : OL (w.alloc (.cells #[] 2)) B (.slice (some ⟨n, 0, none⟩) 0 0) [] := by
  subst hn; exact OL.made h (by omega) #[] rfl
end Go.Proofs.Ytbhjbllgmenbaaa
