/- Proved: laws for a build of two parts and for a store of a row into a square. Conditions: those that each theorem names. -/
import Derived.Test.YtbhjbllgmenbaabSq0
namespace Go.Proofs.Ytbhjbllgmenbaab
set_option linter.unusedVariables false
set_option linter.unusedSimpArgs false
open Go.RowKit
section
variable {P : Program} {ops : Array Oper} {rest : List Oper} {o : Oper} {a : Act} {w : World} {Q : Exit → Act → World → Prop}
theorem wpL_build2 {T : Nat} {x y : Operand} {v u : Value} {Z : Array Value} (hgd : o.guard = none) (ho : o.op = .build T #[(0, x), (1, y)]) (hx : a.eval x = v) (hy : a.eval y = u) (hz : P.built T [(0, v), (1, u)] = some Z)
    (h : wpList P ops Q rest (a.put o.dst (.agg Z)) w) : wpList P ops Q (o :: rest) a w := by
  refine wpList_build hgd T #[(0, x), (1, y)] ho ?_ ?_
  · simp [hx, hy, hz]
  · simpa [hx, hy, hz] using h
theorem over_rowSq (z : Int) (f r f' : Nat → UInt8) (off : Nat) (hb : off + 10 ≤ 100) (he : ∀ i, i < 100 → f' i = if off ≤ i ∧ i < off + 10 then r (i - off) else f i) : over (sqc z f) (1 + off) (u8s 10 r) = sqc z f' := by
  apply sqc_ext
  · rw [over_size _ _ _ (by simp; omega)]; simp
  · rw [over_get _ _ _ (by simp; omega), if_neg (by omega)]; exact sqc_get0 z f
  · intro i hi
    rw [over_get _ _ _ (by simp; omega), he i hi]
    simp only [u8s_size]
    by_cases h : off ≤ i ∧ i < off + 10
    · rw [if_pos h, if_pos (by omega), show 1 + i - (1 + off) = i - off by omega, u8s_get 10 r _ (by omega)]
    · rw [if_neg h, if_neg (by omega), sqc_get z f i hi]
theorem wpL_storeRowSq {T : Nat} {x y : Operand} {g off : Nat} {z : Int} {f r f' : Nat → UInt8} {t : TypeId} (hgd : o.guard = none) (ho : o.op = .store T x y) (hx : a.eval x = .pointer (some ⟨g, 1 + off, none⟩)) (hy : a.eval y = .agg (u8s 10 r)) (hR : IsRow P T 10)
    (hg : holds w g (sqc z f) t) (hb : off + 10 ≤ 100) (he : ∀ i, i < 100 → f' i = if off ≤ i ∧ i < off + 10 then r (i - off) else f i) (h : wpList P ops Q rest (a.put o.dst undef) (w.setRow g (sqc z f'))) : wpList P ops Q (o :: rest) a w :=
  wpL_storeSub hgd ho hx hy hR hg (u8s_ok _ _) (by rw [sqc_size]; omega) (over_rowSq z f r f' off hb he) h
end
end Go.Proofs.Ytbhjbllgmenbaab
