/- Proved: lemmas on the cells of a board. Conditions: those that each lemma names. -/
import Derived.Test.YtbhjbllgmenbaaaSq1
import Derived.Test.YtbhjbllgmenbaaaIl3
namespace Go.Proofs.Ytbhjbllgmenbaaa
set_option linter.unusedVariables false
set_option linter.unusedSimpArgs false
open Go.RowKit
/-- The cells of a board: the order, the table, what is filled, and the numbers in rows and in columns. -/
def bdv (N : Int) (T : Nat → UInt8) (F R C : Nat → Bool) (i : Nat) : Value := if i = 0 then .int .i64 N else if i ≤ 100 then .int .u8 (T (i - 1)).toNat else if i ≤ 200 then .bool (F (i - 101)) else if i ≤ 300 then .bool (R (i - 201)) else .bool (C (i - 301))
def bdc (N : Int) (T : Nat → UInt8) (F R C : Nat → Bool) : Array Value := ((List.range 401).map (bdv N T F R C)).toArray
section
variable {N : Int} {T T' : Nat → UInt8} {F F' R R' C C' : Nat → Bool}
theorem bdc_size (N : Int) (T : Nat → UInt8) (F R C : Nat → Bool) : (bdc N T F R C).size = 401 := by simp [bdc]
theorem bdc_get {i : Nat} (h : i < 401) : (bdc N T F R C)[i]? = some (bdv N T F R C i) := by simp [bdc, h]
theorem bdc_N : (bdc N T F R C)[0]? = some (.int .i64 N) := by rw [bdc_get (by omega)]; rfl
theorem bdc_T {k : Nat} (h : k < 100) : (bdc N T F R C)[1 + k]? = some (.int .u8 (T k).toNat) := by
  rw [bdc_get (by omega)]; unfold bdv
  rw [if_neg (by omega), if_pos (by omega), show 1 + k - 1 = k by omega]
theorem bdc_F {k : Nat} (h : k < 100) : (bdc N T F R C)[101 + k]? = some (.bool (F k)) := by
  rw [bdc_get (by omega)]; unfold bdv
  rw [if_neg (by omega), if_neg (by omega), if_pos (by omega), show 101 + k - 101 = k by omega]
theorem bdc_R {k : Nat} (h : k < 100) : (bdc N T F R C)[201 + k]? = some (.bool (R k)) := by
  rw [bdc_get (by omega)]; unfold bdv
  rw [if_neg (by omega), if_neg (by omega), if_neg (by omega), if_pos (by omega), show 201 + k - 201 = k by omega]
theorem bdc_C {k : Nat} (h : k < 100) : (bdc N T F R C)[301 + k]? = some (.bool (C k)) := by
  rw [bdc_get (by omega)]; unfold bdv
  rw [if_neg (by omega), if_neg (by omega), if_neg (by omega), if_neg (by omega), show 301 + k - 301 = k by omega]
theorem bdc_set {N' : Int} {i : Nat} {v : Value} (h : ∀ j, j < 401 → bdv N' T' F' R' C' j = if j = i then v else bdv N T F R C j) : (bdc N T F R C).setIfInBounds i v = bdc N' T' F' R' C' := by
  apply Array.ext_getElem?
  intro j
  rw [Array.getElem?_setIfInBounds]
  by_cases hj : j < 401
  · rw [bdc_get (N := N') (T := T') (F := F') (R := R') (C := C') hj, h j hj]
    by_cases e : i = j
    · subst e; rw [if_pos rfl, if_pos rfl, if_pos (by rw [bdc_size]; exact hj)]
    · rw [if_neg e, if_neg (fun q => e q.symm), bdc_get hj]
  · rw [Array.getElem?_eq_none (xs := bdc N' T' F' R' C') (by rw [bdc_size]; omega)]
    by_cases e : i = j
    · subst e; rw [if_pos rfl, if_neg (by rw [bdc_size]; exact hj)]
    · rw [if_neg e, Array.getElem?_eq_none (by rw [bdc_size]; omega)]
theorem bdc_setT {k : Nat} {z : UInt8} (hk : k < 100) (h : ∀ j, T' j = if j = k then z else T j) : (bdc N T F R C).setIfInBounds (1 + k) (.int .u8 z.toNat) = bdc N T' F R C := bdc_set fun j _ => by
  unfold bdv
  by_cases h0 : j = 0
  · rw [if_pos h0, if_neg (by omega), if_pos h0]
  · by_cases h1 : j ≤ 100
    · rw [if_neg h0, if_pos h1, if_neg h0, if_pos h1, h]
      by_cases e : j = 1 + k
      · rw [if_pos e, if_pos (by omega)]
      · rw [if_neg e, if_neg (by omega)]
    · rw [if_neg h0, if_neg h1, if_neg h0, if_neg h1, if_neg (show ¬ j = 1 + k by omega)]
theorem bdc_setF {k : Nat} (hk : k < 100) (h : ∀ j, F' j = if j = k then true else F j) : (bdc N T F R C).setIfInBounds (101 + k) (.bool true) = bdc N T F' R C := bdc_set fun j _ => by
  unfold bdv
  by_cases h0 : j = 0
  · rw [if_pos h0, if_neg (by omega), if_pos h0]
  · by_cases h1 : j ≤ 100
    · rw [if_neg h0, if_pos h1, if_neg h0, if_pos h1, if_neg (by omega)]
    · by_cases h2 : j ≤ 200
      · rw [if_neg h0, if_neg h1, if_pos h2, if_neg h0, if_neg h1, if_pos h2, h]
        by_cases e : j = 101 + k
        · rw [if_pos e, if_pos (by omega)]
        · rw [if_neg e, if_neg (by omega)]
      · rw [if_neg h0, if_neg h1, if_neg h2, if_neg h0, if_neg h1, if_neg h2, if_neg (show ¬ j = 101 + k by omega)]
theorem bdc_setR {k : Nat} (hk : k < 100) (h : ∀ j, R' j = if j = k then true else R j) : (bdc N T F R C).setIfInBounds (201 + k) (.bool true) = bdc N T F R' C := bdc_set fun j _ => by
  unfold bdv
  by_cases h0 : j = 0
  · rw [if_pos h0, if_neg (by omega), if_pos h0]
  · by_cases h1 : j ≤ 100
    · rw [if_neg h0, if_pos h1, if_neg h0, if_pos h1, if_neg (by omega)]
    · by_cases h2 : j ≤ 200
      · rw [if_neg h0, if_neg h1, if_pos h2, if_neg h0, if_neg h1, if_pos h2, if_neg (by omega)]
      · by_cases h3 : j ≤ 300
        · rw [if_neg h0, if_neg h1, if_neg h2, if_pos h3, if_neg h0, if_neg h1, if_neg h2, if_pos h3, h]
          by_cases e : j = 201 + k
          · rw [if_pos e, if_pos (by omega)]
          · rw [if_neg e, if_neg (by omega)]
        · rw [if_neg h0, if_neg h1, if_neg h2, if_neg h3, if_neg h0, if_neg h1, if_neg h2, if_neg h3, if_neg (show ¬ j = 201 + k by omega)]
theorem bdc_setC {k : Nat} (hk : k < 100) (h : ∀ j, C' j = if j = k then true else C j) : (bdc N T F R C).setIfInBounds (301 + k) (.bool true) = bdc N T F R C' := bdc_set fun j _ => by
  unfold bdv
  by_cases h0 : j = 0
  · rw [if_pos h0, if_neg (by omega), if_pos h0]
  · by_cases h1 : j ≤ 100
    · rw [if_neg h0, if_pos h1, if_neg h0, if_pos h1, if_neg (by omega)]
    · by_cases h2 : j ≤ 200
      · rw [if_neg h0, if_neg h1, if_pos h2, if_neg h0, if_neg h1, if_pos h2, if_neg (by omega)]
      · by_cases h3 : j ≤ 300
        · rw [if_neg h0, if_neg h1, if_neg h2, if_pos h3, if_neg h0, if_neg h1, if_neg h2, if_pos h3, if_neg (by omega)]
        · rw [if_neg h0, if_neg h1, if_neg h2, if_neg h3, if_neg h0, if_neg h1, if_neg h2, if_neg h3, h]
          by_cases e : j = 301 + k
          · rw [if_pos e, if_pos (by omega)]
          · rw [if_neg e, if_neg (by omega)]
theorem bdv_one (i : Nat) : (bdv N T F R C i).oneCell' = true := by
  unfold bdv
  split
  · rfl
  · split
    · rfl
    · split
      · rfl
      · split <;> rfl
theorem bdc_ok (N : Int) (T : Nat → UInt8) (F R C : Nat → Bool) : CellsOk (bdc N T F R C) 401 := ⟨bdc_size _ _ _ _ _, by
  rw [Array.all_eq_true]
  intro i hi
  have h : i < 401 := by rwa [bdc_size] at hi
  have e := bdc_get (N := N) (T := T) (F := F) (R := R) (C := C) h
  rw [Array.getElem?_eq_getElem hi] at e
  rw [Option.some.inj e]
  exact bdv_one i⟩
end
section
variable {P : Program} {ops : Array Oper} {rest : List Oper} {o : Oper} {a : Act} {w : World} {Q : Exit → Act → World → Prop}
theorem wpL_cellB {T : Nat} {x y : Operand} {g off : Nat} {v : Value} {cs cs' : Array Value} {t : TypeId} (hgd : o.guard = none) (ho : o.op = .store T x y) (hx : a.eval x = .pointer (some ⟨g, off, none⟩)) (hy : a.eval y = v) (hs : (P.info? T).map (·.size) = some 1) (h1 : v.oneCell' = true)
    (hg : holds w g cs t) (hb : off < cs.size) (e : cs.setIfInBounds off v = cs')
    (h : wpList P ops Q rest (a.put o.dst undef) (w.setRow g cs')) : wpList P ops Q (o :: rest) a w :=
  wpList_plain hgd fun K hK => by
    have hc : v.cells = #[v] := by cases v <;> first | rfl | cases h1
    have hst := run_storeCells_at P g off t [v] 0 cs w hg (by simp; omega) (fun u hu => by simp at hu; subst hu; exact h1)
    have he : over cs off #[v] = cs' := by
      rw [← e]
      apply Array.ext_getElem?
      intro i
      rw [over_get cs off #[v] (by simp; omega) i, Array.getElem?_setIfInBounds]
      by_cases q : off = i
      · subst q; rw [if_pos (by simp), if_pos rfl, if_pos hb]; simp
      · rw [if_neg (by simp; omega), if_neg q]
    simp only [Nat.add_zero] at hst
    have hst' : (storeCells ⟨g, off, none⟩ [v]).run P w = .ok () (w.setRow g cs') := by rw [← he]; exact hst
    cases hq : P.info? T with
    | none => simp [hq] at hs
    | some i =>
      have hs' : i.size = 1 := by simpa [hq] using hs
      have hrun : (storeVar T ⟨g, off, none⟩ v).run P w = .ok () (w.setRow g cs') := by
        simp [storeVar, sizeOf, typeInfo, hq, hc, hs', hst']
      unfold Oper.wp execOp
      simp only [ho, hx, hy, Instr.storeAt, Instr.sureAddr, Sem.run_bind, Sem.run_pure, Result.andThen_ok, hrun]
      exact hK _ _ h
end
theorem grown_row {w w1 : World} {b : Nat} (h : w.grownBy w1 (some b)) (cs : Array Value) : w.grownBy (w1.setRow b cs) (some b) :=
  ⟨h.os, h.tape, h.output, by have := h.size; simpa using this, fun j hj hne => by
    rw [setRow_other w1 b j cs (by intro e; apply hne; simp [e])]; exact h.block j hj hne⟩
theorem rowBd : IsRow Try.prog 81 401 := ⟨.inl ⟨_, Try.underlying81⟩, by kernel_rfl⟩
theorem zeroBd : ZeroIs Try.prog 81 (bdc 0 (fun _ => 0) (fun _ => false) (fun _ => false) (fun _ => false)) := by unfold ZeroIs; kernel_rfl
theorem builtBd : Try.prog.built 81 [] = some (bdc 0 (fun _ => 0) (fun _ => false) (fun _ => false) (fun _ => false)) := by kernel_rfl
theorem builtBdO (n : Int) : Try.prog.built 81 [(0, .agg (sqc n fun _ => 0))] = some (bdc n (fun _ => 0) (fun _ => false) (fun _ => false) (fun _ => false)) := by kernel_rfl
end Go.Proofs.Ytbhjbllgmenbaaa
