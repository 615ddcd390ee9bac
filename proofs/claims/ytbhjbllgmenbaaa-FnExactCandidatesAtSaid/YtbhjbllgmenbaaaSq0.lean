/- Proved: laws for loads and stores of rows of tables and squares, and how a table is filled row by row. Conditions: those that each theorem names. -/
import Derived.Test.YtbhjbllgmenbaaaLib
namespace Go.Proofs.Ytbhjbllgmenbaaa
set_option linter.unusedVariables false
set_option linter.unusedSimpArgs false
open Go.RowKit
section
variable {P : Program} {ops : Array Oper} {rest : List Oper} {o : Oper} {a : Act} {w : World} {Q : Exit → Act → World → Prop}
theorem wpL_loadRow {T : Nat} {x : Operand} {g off : Nat} {f : Nat → UInt8} {t : TypeId} (hgd : o.guard = none) (ho : o.op = .load T x) (hx : a.eval x = .pointer (some ⟨g, off, none⟩)) (hR : IsRow P T 10)
    (hg : holds w g (u8s 100 f) t) (hb : off + 10 ≤ 100) (h : wpList P ops Q rest (a.put o.dst (.agg (u8s 10 fun j => f (off + j)))) w) : wpList P ops Q (o :: rest) a w :=
  wpL_loadSub hgd ho hx hR hg (by rw [u8s_size]; exact hb) (u8s_sub 100 10 off f hb) h
theorem wpL_loadRowSq {T : Nat} {x : Operand} {g off : Nat} {z : Int} {f : Nat → UInt8} {t : TypeId} (hgd : o.guard = none) (ho : o.op = .load T x) (hx : a.eval x = .pointer (some ⟨g, 1 + off, none⟩)) (hR : IsRow P T 10)
    (hg : holds w g (sqc z f) t) (hb : off + 10 ≤ 100) (h : wpList P ops Q rest (a.put o.dst (.agg (u8s 10 fun j => f (off + j)))) w) : wpList P ops Q (o :: rest) a w :=
  wpL_loadSub hgd ho hx hR hg (by rw [sqc_size]; omega) (sqc_sub z f off 10 hb) h
theorem wpL_loadTab {T : Nat} {x : Operand} {g : Nat} {z : Int} {f : Nat → UInt8} {t : TypeId} (hgd : o.guard = none) (ho : o.op = .load T x) (hx : a.eval x = .pointer (some ⟨g, 1, none⟩)) (hR : IsRow P T 100)
    (hg : holds w g (sqc z f) t) (h : wpList P ops Q rest (a.put o.dst (.agg (u8s 100 f))) w) : wpList P ops Q (o :: rest) a w :=
  wpL_loadSub hgd ho hx hR hg (by rw [sqc_size]; omega) ((sqc_sub z f 0 100 (by omega)).trans (u8s_congr 100 _ _ (fun i _ => by rw [Nat.zero_add]))) h
theorem over_row (f r f' : Nat → UInt8) (off : Nat) (hb : off + 10 ≤ 100) (he : ∀ i, i < 100 → f' i = if off ≤ i ∧ i < off + 10 then r (i - off) else f i) : over (u8s 100 f) off (u8s 10 r) = u8s 100 f' := by
  apply u8s_ext
  · rw [over_size _ _ _ (by simp; omega)]; simp
  · intro i hi
    rw [over_get _ _ _ (by simp; omega), he i hi]
    simp only [u8s_size]
    by_cases h : off ≤ i ∧ i < off + 10
    · rw [if_pos h, if_pos h, u8s_get 10 r _ (by omega)]
    · rw [if_neg h, if_neg h, u8s_get 100 f i hi]
theorem wpL_storeRow {T : Nat} {x y : Operand} {g off : Nat} {f r f' : Nat → UInt8} {t : TypeId} (hgd : o.guard = none) (ho : o.op = .store T x y) (hx : a.eval x = .pointer (some ⟨g, off, none⟩)) (hy : a.eval y = .agg (u8s 10 r)) (hR : IsRow P T 10)
    (hg : holds w g (u8s 100 f) t) (hb : off + 10 ≤ 100) (he : ∀ i, i < 100 → f' i = if off ≤ i ∧ i < off + 10 then r (i - off) else f i) (h : wpList P ops Q rest (a.put o.dst undef) (w.setRow g (u8s 100 f'))) : wpList P ops Q (o :: rest) a w :=
  wpL_storeSub hgd ho hx hy hR hg (u8s_ok _ _) (by rw [u8s_size]; exact hb) (over_row f r f' off hb he) h
theorem over_tab (z : Int) (f r : Nat → UInt8) : over (sqc z f) 1 (u8s 100 r) = sqc z r := by
  apply sqc_ext
  · rw [over_size _ _ _ (by simp)]; simp
  · rw [over_get _ _ _ (by simp), if_neg (by omega)]; exact sqc_get0 z f
  · intro i hi
    rw [over_get _ _ _ (by simp), if_pos (by simp; omega), Nat.add_sub_cancel_left, u8s_get 100 r i hi]
theorem wpL_storeTab {T : Nat} {x y : Operand} {g : Nat} {z : Int} {f r : Nat → UInt8} {t : TypeId} (hgd : o.guard = none) (ho : o.op = .store T x y) (hx : a.eval x = .pointer (some ⟨g, 1, none⟩)) (hy : a.eval y = .agg (u8s 100 r)) (hR : IsRow P T 100)
    (hg : holds w g (sqc z f) t) (h : wpList P ops Q rest (a.put o.dst undef) (w.setRow g (sqc z r))) : wpList P ops Q (o :: rest) a w :=
  wpL_storeSub hgd ho hx hy hR hg (u8s_ok _ _) (by rw [sqc_size]; omega) (over_tab z f r) h
theorem wpL_build1 {T : Nat} {x : Operand} {v : Value} {Z : Array Value} (hgd : o.guard = none) (ho : o.op = .build T #[(0, x)]) (hx : a.eval x = v) (hz : P.built T [(0, v)] = some Z)
    (h : wpList P ops Q rest (a.put o.dst (.agg Z)) w) : wpList P ops Q (o :: rest) a w := by
  refine wpList_build hgd T #[(0, x)] ho ?_ ?_
  · simp [hx, hz]
  · simpa [hx, hz] using h
end
/-- A table of n rows that is filled with v row by row: k rows are done, and j places of the next. -/
def fillT (n : Nat) (v : Nat → Nat → UInt8) (k j : Nat) : Nat → UInt8 := fun i => if (i / 10 < k ∧ i % 10 < n) ∨ (i / 10 = k ∧ i % 10 < j) then v (i / 10) (i % 10) else 0
theorem fillT_zero (n : Nat) (v : Nat → Nat → UInt8) : fillT n v 0 0 = fun _ => 0 := by
  funext i; simp [fillT]
theorem fillT_step (n : Nat) (v : Nat → Nat → UInt8) (k j : Nat) (hj : j < 10) (i : Nat) : fillT n v k (j + 1) i = if i = k * 10 + j then v k j else fillT n v k j i := by
  unfold fillT
  by_cases e : i = k * 10 + j
  · subst e
    have h1 : (k * 10 + j) / 10 = k := by omega
    have h2 : (k * 10 + j) % 10 = j := by omega
    rw [h1, h2, if_pos (Or.inr ⟨rfl, by omega⟩), if_pos rfl]
  · rw [if_neg e]
    have : ((i / 10 < k ∧ i % 10 < n) ∨ (i / 10 = k ∧ i % 10 < j + 1)) ↔ ((i / 10 < k ∧ i % 10 < n) ∨ (i / 10 = k ∧ i % 10 < j)) := by omega
    simp only [this]
theorem fillT_row (n : Nat) (v : Nat → Nat → UInt8) (k : Nat) : fillT n v (k + 1) 0 = fillT n v k n := by
  funext i
  unfold fillT
  have : ((i / 10 < k + 1 ∧ i % 10 < n) ∨ (i / 10 = k + 1 ∧ i % 10 < 0)) ↔ ((i / 10 < k ∧ i % 10 < n) ∨ (i / 10 = k ∧ i % 10 < n)) := by omega
  simp only [this]
theorem fillT_get (n : Nat) (v : Nat → Nat → UInt8) (x y : Nat) (hx : x < n) (hy : y < n) (hn : n ≤ 10) : fillT n v n 0 (x * 10 + y) = v x y := by
  unfold fillT
  have h1 : (x * 10 + y) / 10 = x := by omega
  have h2 : (x * 10 + y) % 10 = y := by omega
  rw [h1, h2, if_pos (Or.inl ⟨hx, hy⟩)]
end Go.Proofs.Ytbhjbllgmenbaaa
