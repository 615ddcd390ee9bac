/- Proved: what the model's ListsOfSquare returns. Conditions: those that each theorem names. -/
import Derived.Test.YtbhjbllgmenbaabIl3
import Derived.Test.YtbhjbllgmenbaabSq3b
namespace Go.Proofs.Ytbhjbllgmenbaab
set_option linter.unusedVariables false
set_option linter.unusedSimpArgs false
open Go.RowKit
/-- The state at the head of a round: k lists have been made. -/
structure Mid (w wr : World) (N k : Nat) (g : Nat → UInt8) (v : Value) : Prop where
  has : Has w wr [(sqc N g, 32)]
  ps : ∃ b, PS wr (w.heap.size + 1) v k N (fun x y => ((g (x * 10 + y)).toNat : Int)) b
/-- The state at the head of an inner round: j numbers of the next list have been put into row; ws is the world at the outer round's head. -/
structure Sub (w ws wr : World) (N k j : Nat) (g : Nat → UInt8) (row : Value) : Prop where
  has : Has w wr [(sqc N g, 32)]
  bel : Below ws.heap.size ws wr
  own : wr.ownsRow ws.heap.size 2 1 row j (ints j fun y => ((g (k * 10 + y)).toNat : Int))
theorem Sub.next {w ws wr w' : World} {N k j : Nat} {g : Nat → UInt8} {row : Value} {o : Obj} {r cap : Nat} (h : Sub w ws wr N k j g row) (hw : w.heap.size + 1 ≤ ws.heap.size)
    (how : w'.ownsRow ws.heap.size 2 1 (.slice (some ⟨r, 0, none⟩) (j + 1) cap) (j + 1) (ints j (fun y => ((g (k * 10 + y)).toNat : Int)) ++ [.int .i64 (g (k * 10 + j)).toNat])) (hg : (wr.alloc o).grownBy w' row.ownBlock) :
    Sub w ws w' N k (j + 1) g (.slice (some ⟨r, 0, none⟩) (j + 1) cap) :=
  ⟨(h.has.alloc o).grown hg (fun x hx => by have := (h.own.lt x hx).1; simp; omega),
   Below.grown (h.bel.alloc h.bel.size o) hg (fun x hx => (h.own.lt x hx).1) (Nat.le_refl _),
   by rw [← ints_succ]; exact how⟩
theorem Mid.next {w ws wr w' : World} {N k : Nat} {g : Nat → UInt8} {v row : Value} {o : Obj} {r cap g2 cap2 : Nat} {xs : List Value} (hM : Mid w ws N k g v) (h : Sub w ws wr N k N g row) (hN : 0 < N) (hrow : row = .slice (some ⟨r, 0, none⟩) N cap)
    {b : Nat → Nat} (hp : PS ws (w.heap.size + 1) v k N (fun x y => ((g (x * 10 + y)).toNat : Int)) b) (hx : ∀ j, j < k → ∃ cap, xs[j]? = some (.slice (some ⟨b j, 0, none⟩) N cap)) (hl : xs.length = k)
    (how : w'.ownsRow (w.heap.size + 1) 26 1 (.slice (some ⟨g2, 0, none⟩) (k + 1) cap2) (k + 1) (xs ++ [.slice (some ⟨r, 0, none⟩) N cap])) (hg : (wr.alloc o).grownBy w' v.ownBlock) (hor : v.ownBlock = some g2 ∨ g2 = (wr.alloc o).heap.size) :
    Mid w w' N (k + 1) g (.slice (some ⟨g2, 0, none⟩) (k + 1) cap2) := by
  have hs := hM.has.size
  simp at hs
  obtain ⟨r', cap', e, hb, hR⟩ := own_row h.own hN
  rw [hrow] at e
  obtain ⟨rfl, rfl⟩ : r = r' ∧ cap = cap' := by simpa using e
  exact ⟨(h.has.alloc o).grown hg (fun x hx => by have := (hp.lt x hx).1; simp; omega), _, hp.push hx hl h.bel hR hb hs how hg hor⟩
theorem Mid.parts {w ws : World} {N k : Nat} {g : Nat → UInt8} {v : Value} (h : Mid w ws N k g v) : ∃ b xs, PS ws (w.heap.size + 1) v k N (fun x y => ((g (x * 10 + y)).toNat : Int)) b ∧ ws.ownsRow (w.heap.size + 1) 26 1 v k xs ∧ (∀ j, j < k → ∃ cap, xs[j]? = some (.slice (some ⟨b j, 0, none⟩) N cap)) ∧ xs.length = k := by
  obtain ⟨b, hp⟩ := h.ps
  obtain ⟨xs, h1, h2⟩ := hp.own
  exact ⟨b, xs, hp, h1, h2, by have := h1.1; omega⟩
theorem Mid.got {w wr : World} {N : Nat} {g : Nat → UInt8} {v : Value} (h : Mid w wr N N g v) (hN : 0 < N) : Got N g w (.returned (.tuple #[v, .int .i64 0])) wr := by
  obtain ⟨b, hp⟩ := h.ps
  obtain ⟨bo, c, rfl, hb, hS⟩ := hp.done hN
  exact ⟨bo, c, b, rfl, h.has.below, hS, by omega, fun j hj => by have := hp.lo j hj; omega⟩
end Go.Proofs.Ytbhjbllgmenbaab
