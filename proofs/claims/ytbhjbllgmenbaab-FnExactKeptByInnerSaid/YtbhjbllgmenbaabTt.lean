/- Proved: what the functions that compose triples and lead them back return, of program and model alike. Conditions: those that each theorem names. -/
import Derived.Test.YtbhjbllgmenbaabTr
import Derived.Test.YtbhjbllgmenbaabPl3
import Derived.Test.YtbhjbllgmenbaabReg
namespace Go.Proofs.Ytbhjbllgmenbaab
set_option linter.unusedVariables false
set_option linter.unusedSimpArgs false
open Go.RowKit
/-- A triple of three lists. -/
def mkTri (a b c : Nat → UInt8) : Nat → UInt8 := fun i => if i < 10 then a i else if i < 20 then b (i - 10) else c (i - 20)
theorem builtTr3 (a b c : Nat → UInt8) : Try.prog.built 101 [(0, .agg (u8s 10 a)), (1, .agg (u8s 10 b)), (2, .agg (u8s 10 c))] = some (u8s 30 (mkTri a b c)) := by kernel_rfl
section
variable {P : Program} {ops : Array Oper} {rest : List Oper} {o : Oper} {a : Act} {w : World} {Q : Exit → Act → World → Prop}
theorem wpL_build3 {T : Nat} {x y z : Operand} {v u t : Value} {Z : Array Value} (hgd : o.guard = none) (ho : o.op = .build T #[(0, x), (1, y), (2, z)]) (hx : a.eval x = v) (hy : a.eval y = u) (hz : a.eval z = t) (hZ : P.built T [(0, v), (1, u), (2, t)] = some Z)
    (h : wpList P ops Q rest (a.put o.dst (.agg Z)) w) : wpList P ops Q (o :: rest) a w := by
  refine wpList_build hgd T #[(0, x), (1, y), (2, z)] ho ?_ ?_
  · simp [hx, hy, hz, hZ]
  · simpa [hx, hy, hz, hZ] using h
end
structure IsTri (t : Nat → UInt8) (N : Nat) : Prop where
  a : IsPerm (tri t 0) N
  b : IsPerm (tri t 10) N
  c : IsPerm (tri t 20) N
theorem triB_true {t : Nat → UInt8} {n : Int} : triB t n = true ↔ ∃ N : Nat, n = N ∧ IsTri t N := by
  simp only [triB, Bool.and_eq_true, permB_true]
  constructor
  · rintro ⟨⟨h, a⟩, ⟨_, b⟩, _, c⟩
    exact ⟨n.toNat, by omega, a, b, c⟩
  · rintro ⟨N, rfl, a, b, c⟩
    exact ⟨⟨by omega, by simpa using a⟩, ⟨by omega, by simpa using b⟩, by omega, by simpa using c⟩
theorem IsPerm.lt10 {p : Nat → UInt8} {N : Nat} (h : IsPerm p N) : ∀ i, i < N → (p i).toNat < 10 := fun i hi => by have := h.lt i hi; have := h.hi; omega
def thenT (s t : Nat → UInt8) (N : Nat) : Nat → UInt8 := mkTri (thenF (tri s 0) (tri t 0) N) (thenF (tri s 10) (tri t 10) N) (thenF (tri s 20) (tri t 20) N)
def backT (t : Nat → UInt8) (N : Nat) : Nat → UInt8 := mkTri (backF (tri t 0) N) (backF (tri t 10) N) (backF (tri t 20) N)
end Go.Proofs.Ytbhjbllgmenbaab
