/- Proved: what the program's ListsOfSquare returns. Conditions: those that each theorem names. -/
import Derived.Test.YtbhjbllgmenbaabIl4
import Derived.Test.YtbhjbllgmenbaabSq5
namespace Go.Proofs.Ytbhjbllgmenbaab
set_option linter.unusedVariables false
set_option linter.unusedSimpArgs false
open Go.RowKit
section
variable {ops : Array Oper} {rest : List Oper} {o : Oper} {a : Act} {w : World} {Q : Exit → Act → World → Prop}
theorem wpL_makeI {l c : Operand} (hgd : o.guard = none) (ho : o.op = .makeSlice 26 l c) {n base : Nat} (hl : a.eval l = .int .i64 0) (hc : a.eval c = .int .i64 n) (hn : n ≤ 1000) (hbase : base ≤ w.heap.size)
    (h : ∀ w', w'.ownsRow base 2 1 (.slice (some ⟨w.heap.size, 0, none⟩) 0 n) 0 [] → w.grownBy w' none → wpList Try.prog ops Q rest (a.put o.dst (.slice (some ⟨w.heap.size, 0, none⟩) 0 n)) w') : wpList Try.prog ops Q (o :: rest) a w := by
  obtain ⟨i, hi, hz, h1, h2⟩ := info_parts infoI
  exact wpList_make_own w hgd l c 26 ho base 2 i (.int .i64 0) 1 Try.underlying26 hi hz h1 .i64 .i64 n n hl hc rfl (by rw [h2]; omega) (by unfold maxLen; omega) hbase h
theorem wpL_makeS {l c : Operand} (hgd : o.guard = none) (ho : o.op = .makeSlice 27 l c) {n base : Nat} (hl : a.eval l = .int .i64 0) (hc : a.eval c = .int .i64 n) (hn : n ≤ 1000) (hbase : base ≤ w.heap.size)
    (h : ∀ w', w'.ownsRow base 26 1 (.slice (some ⟨w.heap.size, 0, none⟩) 0 n) 0 [] → w.grownBy w' none → wpList Try.prog ops Q rest (a.put o.dst (.slice (some ⟨w.heap.size, 0, none⟩) 0 n)) w') : wpList Try.prog ops Q (o :: rest) a w := by
  obtain ⟨i, hi, hz, h1, h2⟩ := info_parts infoS
  exact wpList_make_own w hgd l c 27 ho base 26 i (.slice none 0 0) 1 Try.underlying27 hi hz h1 .i64 .i64 n n hl hc rfl (by rw [h2]; omega) (by unfold maxLen; omega) hbase h
end
theorem holds_grown {w w' : World} {b : Nat} {cs : Array Value} {t : TypeId} {r : Option Nat} (h : holds w b cs t) (hg : w.grownBy w' r) (hne : r ≠ some b) : holds w' b cs t := by
  show w'.heap[b]? = _
  rw [hg.block b (holds_lt h) (fun e => hne e.symm)]; exact h
/-- What rowListsOf gives back. -/
def GotR (N : Nat) (g : Nat → UInt8) (w : World) (e : Ending) (w' : World) : Prop := ∃ bo c b, e = .returned (.slice (some ⟨bo, 0, none⟩) N c) ∧ Below w.heap.size w w' ∧ SS w' bo b N N (fun x y => ((g (x * 10 + y)).toNat : Int)) ∧ w.heap.size ≤ bo ∧ ∀ j, j < N → w.heap.size ≤ b j
theorem Mid.gotR {w wr : World} {N : Nat} {g : Nat → UInt8} {v : Value} (h : Mid w wr N N g v) (hN : 0 < N) : GotR N g w (.returned v) wr := by
  obtain ⟨b, hp⟩ := h.ps
  obtain ⟨bo, c, rfl, hb, hS⟩ := hp.done hN
  exact ⟨bo, c, b, rfl, h.has.below, hS, by omega, fun j hj => by have := hp.lo j hj; omega⟩
end Go.Proofs.Ytbhjbllgmenbaab
