/- Proved: laws for builds of three and of six parts, and facts on the types of quotients and lists of six squares. Conditions: those that each theorem names. -/
import Derived.Test.YtbhjbllgmenbaaaPa0
import Derived.Test.YtbhjbllgmenbaaaBase
namespace Go.Proofs.Ytbhjbllgmenbaaa
set_option linter.unusedVariables false
set_option linter.unusedSimpArgs false
open Go.RowKit
section
variable {P : Program} {ops : Array Oper} {rest : List Oper} {o : Oper} {a : Act} {w : World} {Q : Exit → Act → World → Prop}
theorem wpL_bu3 {T : Nat} {x y z : Operand} {v u t : Value} {Z : Array Value} (hgd : o.guard = none) (ho : o.op = .build T #[(0, x), (1, y), (2, z)]) (hx : a.eval x = v) (hy : a.eval y = u) (hz : a.eval z = t) (hZ : P.built T [(0, v), (1, u), (2, t)] = some Z)
    (h : wpList P ops Q rest (a.put o.dst (.agg Z)) w) : wpList P ops Q (o :: rest) a w := by
  refine wpList_build hgd T #[(0, x), (1, y), (2, z)] ho ?_ ?_
  · simp [hx, hy, hz, hZ]
  · simpa [hx, hy, hz, hZ] using h
theorem wpL_bu6 {T : Nat} {x0 x1 x2 x3 x4 x5 : Operand} {v0 v1 v2 v3 v4 v5 : Value} {Z : Array Value} (hgd : o.guard = none) (ho : o.op = .build T #[(0, x0), (1, x1), (2, x2), (3, x3), (4, x4), (5, x5)]) (h0 : a.eval x0 = v0) (h1 : a.eval x1 = v1) (h2 : a.eval x2 = v2) (h3 : a.eval x3 = v3) (h4 : a.eval x4 = v4) (h5 : a.eval x5 = v5) (hZ : P.built T [(0, v0), (1, v1), (2, v2), (3, v3), (4, v4), (5, v5)] = some Z)
    (h : wpList P ops Q rest (a.put o.dst (.agg Z)) w) : wpList P ops Q (o :: rest) a w := by
  refine wpList_build hgd T #[(0, x0), (1, x1), (2, x2), (3, x3), (4, x4), (5, x5)] ho ?_ ?_
  · simp [h0, h1, h2, h3, h4, h5, hZ]
  · simpa [h0, h1, h2, h3, h4, h5, hZ] using h
end
theorem builtDv (n : Int) (g u v : Nat → UInt8) : Try.prog.built 140 [(0, .agg (sqc n g)), (1, .agg (sqc n u)), (2, .agg (sqc n v))] = some (dvc n g u v) := by kernel_rfl
theorem six_ok {a b c d e f : Array Value} (ha : CellsOk a 101) (hb : CellsOk b 101) (hc : CellsOk c 101) (hd : CellsOk d 101) (he : CellsOk e 101) (hf : CellsOk f 101) : CellsOk (six a b c d e f) 606 :=
  ⟨six_size ha.1 hb.1 hc.1 hd.1 he.1 hf.1, by rw [six_eq]; simp [Array.all_append, ha.2, hb.2, hc.2, hd.2, he.2, hf.2]⟩
end Go.Proofs.Ytbhjbllgmenbaaa
