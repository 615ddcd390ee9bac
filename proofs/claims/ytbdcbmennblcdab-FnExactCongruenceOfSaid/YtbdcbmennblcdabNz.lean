/- Proved: what the model's functions on congruences and normal closures return. Conditions: those that each theorem names. -/
import Derived.Test.YtbdcbmennblcdabSel
import Derived.Test.YtbdcbmennblcdabNy
import Derived.Test.YtbdcbmennblcdabJz
import Derived.Test.YtbdcbmennblcdabOl
import Derived.Great.Walk
import Derived.Test.YtbdcbmennblcdabLx
namespace Go.Proofs.Ytbdcbmennblcdab
set_option linter.unusedVariables false
set_option linter.unusedSimpArgs false
open Go.RowKit
theorem selL_has {p : Nat → Bool} {k : Nat} {z : Int} : z ∈ selL p k ↔ ∃ j : Nat, j < k ∧ p j = true ∧ z = j := by
  unfold selL
  simp only [List.mem_map, List.mem_filter, List.mem_range]
  constructor
  · rintro ⟨j, ⟨h1, h2⟩, rfl⟩; exact ⟨j, h1, h2, rfl⟩
  · rintro ⟨j, h1, h2, rfl⟩; exact ⟨j, ⟨h1, h2⟩, rfl⟩
theorem selL_in {p : Nat → Bool} {k i : Nat} (h : i < (selL p k).length) : ∃ j : Nat, j < k ∧ p j = true ∧ (selL p k).getD i 0 = j := by
  have hm : (selL p k).getD i 0 ∈ selL p k := by
    rw [List.getD_eq_getElem?_getD, List.getElem?_eq_getElem h]; exact List.getElem_mem h
  exact selL_has.1 hm
theorem selL_at {p : Nat → Bool} {k j : Nat} (hj : j < k) (hp : p j = true) : ∃ i, i < (selL p k).length ∧ (selL p k).getD i 0 = (j : Int) := by
  obtain ⟨i, hi, e⟩ := List.mem_iff_getElem.1 (selL_has.2 ⟨j, hj, hp, rfl⟩)
  exact ⟨i, hi, by rw [List.getD_eq_getElem?_getD, List.getElem?_eq_getElem hi]; exact e⟩
section
variable (C : Nat → Nat) (n : Nat)
/-- x is the least of its class. -/
def isRep (x : Nat) : Bool := decide (∀ y, y < x → C y ≠ C x)
/-- The class of x as a list. -/
def clsL (x : Nat) : List Int := selL (fun y => decide (C y = C x)) n
/-- What of it stands between x and y. -/
def ownL (x y : Nat) : List Int := selL (fun z => decide (x ≤ z) && decide (C z = C x)) y
/-- z is in the class of a number before x. -/
def doneF (x z : Nat) : Bool := decide (z < n) && decide (∃ y, y < x ∧ C y = C z)
/-- How many of the numbers before x are the least of their classes. -/
def cntR (x : Nat) : Nat := ((List.range x).filter (isRep C)).length
def repOf (j : Nat) : Nat := ((List.range n).filter (isRep C)).getD j 0
/-- The class with the number j. -/
def toldL (j : Nat) : List Int := clsL C n (repOf C n j)
end
section
variable {C : Nat → Nat} {n x z : Nat}
theorem isRep_iff : isRep C x = true ↔ ∀ y, y < x → C y ≠ C x := by simp [isRep]
theorem doneF_iff : doneF C n x z = true ↔ z < n ∧ ∃ y, y < x ∧ C y = C z := by simp [doneF]
theorem doneF_self (hx : x < n) : doneF C n x x = !isRep C x := by
  have h : doneF C n x x = true ↔ (!isRep C x) = true := by
    rw [doneF_iff, Bool.not_eq_true', ← Bool.not_eq_true, isRep_iff]
    constructor
    · rintro ⟨_, y, h1, h2⟩ h; exact h y h1 h2
    · intro h
      refine ⟨hx, Classical.byContradiction fun hn => h fun y hy e => hn ⟨y, hy, e⟩⟩
  cases h1 : doneF C n x x <;> cases h2 : isRep C x <;> simp_all
theorem doneF_zero : doneF C n 0 = fun _ => false := by
  funext z
  cases h : doneF C n 0 z with
  | false => rfl
  | true => obtain ⟨_, y, h1, _⟩ := doneF_iff.1 h; omega
theorem doneF_skip (hr : isRep C x = false) : doneF C n (x + 1) = doneF C n x := by
  funext z
  have h : doneF C n (x + 1) z = true ↔ doneF C n x z = true := by
    rw [doneF_iff, doneF_iff]
    constructor
    · rintro ⟨h1, y, h2, h3⟩
      refine ⟨h1, ?_⟩
      by_cases e : y = x
      · subst e
        have : ¬ ∀ u, u < y → C u ≠ C y := fun hn => by rw [isRep_iff.2 hn] at hr; cases hr
        refine Classical.byContradiction fun hn => this fun u hu e2 => hn ⟨u, hu, e2.trans h3⟩
      · exact ⟨y, by omega, h3⟩
    · rintro ⟨h1, y, h2, h3⟩; exact ⟨h1, y, by omega, h3⟩
  cases h1 : doneF C n (x + 1) z <;> cases h2 : doneF C n x z <;> simp_all
theorem cntR_yes (h : isRep C x = true) : cntR C (x + 1) = cntR C x + 1 := by simp [cntR, List.range_succ, h]
theorem cntR_no (h : isRep C x = false) : cntR C (x + 1) = cntR C x := by simp [cntR, List.range_succ, h]
theorem cntR_le : ∀ x, cntR C x ≤ x := fun x => by
  unfold cntR
  exact Nat.le_trans (List.length_filter_le _ _) (by simp)
theorem repOf_cnt (hx : x < n) (h : isRep C x = true) : repOf C n (cntR C x) = x := by
  obtain ⟨d, rfl⟩ : ∃ d, n = x + 1 + d := ⟨n - (x + 1), by omega⟩
  unfold repOf cntR
  rw [List.range_add, List.filter_append, List.range_succ, List.filter_append]
  simp [h, List.getD_eq_getElem?_getD]
theorem ownL_start (x : Nat) : ownL C x x = [] := by
  have h : ∀ z, z ∉ ownL C x x := fun z hz => by
    obtain ⟨j, h1, h2, _⟩ := selL_has.1 hz
    simp at h2; omega
  exact List.eq_nil_iff_forall_not_mem.2 h
theorem ownL_done (h : isRep C x = true) : ownL C x n = clsL C n x := selL_congr fun i _ => by
  by_cases e : C i = C x
  · have : x ≤ i := by
      rcases Nat.lt_or_ge i x with h2 | h2
      · exact absurd e (isRep_iff.1 h i h2)
      · exact h2
    simp [e, this]
  · simp [e]
theorem clsL_pos (hx : x < n) : 0 < (clsL C n x).length := by
  obtain ⟨i, hi, _⟩ := selL_at (p := fun y => decide (C y = C x)) hx (by simp)
  exact Nat.lt_of_le_of_lt (Nat.zero_le _) hi
theorem clsL_len : (clsL C n x).length ≤ n := selL_len _ _
theorem clsL_lt {i : Nat} (h : i < (clsL C n x).length) : ∃ j : Nat, j < n ∧ (clsL C n x).getD i 0 = j := by
  obtain ⟨j, h1, _, h3⟩ := selL_in h; exact ⟨j, h1, h3⟩
/-- The marks while the class of x is being struck off. -/
def strF (C : Nat → Nat) (n x i z : Nat) : Bool := doneF C n x z || inL (fun i => (clsL C n x).getD i 0) i z
theorem strF_zero : strF C n x 0 = doneF C n x := by funext z; simp [strF, inL_zero]
theorem strF_step {i u : Nat} (h : (clsL C n x).getD i 0 = (u : Int)) (z : Nat) : strF C n x (i + 1) z = if z = u then true else strF C n x i z := by
  unfold strF
  rw [inL_step h z]
  by_cases e : z = u
  · simp [e]
  · simp [e]
theorem strF_done : strF C n x (clsL C n x).length = doneF C n (x + 1) := by
  funext z
  have h : strF C n x (clsL C n x).length z = true ↔ doneF C n (x + 1) z = true := by
    unfold strF
    rw [Bool.or_eq_true, doneF_iff, doneF_iff, inL_iff]
    constructor
    · rintro (⟨h1, y, h2, h3⟩ | ⟨i, h1, h2⟩)
      · exact ⟨h1, y, by omega, h3⟩
      · obtain ⟨j, h3, h4, h5⟩ := selL_in (p := fun y => decide (C y = C x)) h1
        have : z = j := by
          have e : (clsL C n x).getD i 0 = (j : Int) := h5
          rw [e] at h2; omega
        subst this
        exact ⟨h3, x, by omega, by simpa using (of_decide_eq_true h4).symm⟩
    · rintro ⟨h1, y, h2, h3⟩
      by_cases e : y = x
      · subst e
        obtain ⟨i, h4, h5⟩ := selL_at (p := fun z => decide (C z = C y)) h1 (by simp [h3])
        exact .inr ⟨i, h4, h5⟩
      · exact .inl ⟨h1, y, by omega, h3⟩
  cases h1 : strF C n x (clsL C n x).length z <;> cases h2 : doneF C n (x + 1) z <;> simp_all
/-- The lists speak of the division alone. -/
theorem isRep_same {D : Nat → Nat} (h : ∀ a b, a < n → b < n → (C a = C b ↔ D a = D b)) (hx : x < n) : isRep C x = isRep D x := by
  unfold isRep
  refine decide_eq_decide.2 ⟨fun h1 y hy e => h1 y hy ((h y x (by omega) hx).2 e), fun h1 y hy e => h1 y hy ((h y x (by omega) hx).1 e)⟩
theorem reps_same {D : Nat → Nat} (h : ∀ a b, a < n → b < n → (C a = C b ↔ D a = D b)) : (List.range n).filter (isRep C) = (List.range n).filter (isRep D) :=
  List.filter_congr fun i hi => isRep_same h (List.mem_range.1 hi)
theorem cntR_same {D : Nat → Nat} (h : ∀ a b, a < n → b < n → (C a = C b ↔ D a = D b)) : cntR C n = cntR D n := by unfold cntR; rw [reps_same h]
theorem repOf_lt {j : Nat} (hn : 0 < n) : repOf C n j < n := by
  unfold repOf
  rw [List.getD_eq_getElem?_getD]
  cases h : ((List.range n).filter (isRep C))[j]? with
  | none => exact hn
  | some v =>
    have := List.mem_of_getElem? h
    exact List.mem_range.1 (List.mem_filter.1 this).1
theorem toldL_same {D : Nat → Nat} (h : ∀ a b, a < n → b < n → (C a = C b ↔ D a = D b)) (hn : 0 < n) (j : Nat) : toldL C n j = toldL D n j := by
  have hr : repOf C n j = repOf D n j := by unfold repOf; rw [reps_same h]
  have hl : repOf D n j < n := repOf_lt hn
  unfold toldL clsL
  rw [hr]
  exact selL_congr fun i hi => decide_eq_decide.2 (h i _ hi hl)
theorem isRep_zero : isRep C 0 = true := isRep_iff.2 fun y hy => by omega
theorem cntR_pos (hn : 0 < n) : 0 < cntR C n := by
  unfold cntR
  have hm : 0 ∈ (List.range n).filter (isRep C) := List.mem_filter.2 ⟨List.mem_range.2 hn, isRep_zero⟩
  cases h : (List.range n).filter (isRep C) with
  | nil => rw [h] at hm; cases hm
  | cons a l => simp
theorem toldL_zero (hn : 0 < n) : toldL C n 0 = clsL C n 0 := by
  have := repOf_cnt (C := C) (x := 0) hn isRep_zero
  unfold toldL
  rw [show cntR C 0 = 0 from rfl] at this
  rw [this]
end
end Go.Proofs.Ytbdcbmennblcdab
namespace Go.Proofs.Ytbdcbmennblcdab
set_option linter.unusedVariables false
set_option linter.unusedSimpArgs false
open Go.RowKit
/-- The cells of n numbers. -/
def zns (n : Nat) (f : Nat → Nat) : Array Value := ((List.range n).map fun i => Value.int .i64 (f i : Nat)).toArray
@[simp, go_sem] theorem zns_size (n : Nat) (f : Nat → Nat) : (zns n f).size = n := by simp [zns]
theorem zns_get (n : Nat) (f : Nat → Nat) (i : Nat) (h : i < n) : (zns n f)[i]? = some (.int .i64 (f i : Nat)) := by simp [zns, h]
@[simp, go_sem] theorem zns_getElem (n : Nat) (f : Nat → Nat) (i : Nat) (h : i < (zns n f).size) : (zns n f)[i]'h = .int .i64 (f i : Nat) := by simp [zns]
theorem zns_ext (n : Nat) (cs : Array Value) (f : Nat → Nat) (hs : cs.size = n) (h : ∀ i, i < n → cs[i]? = some (.int .i64 (f i : Nat))) : cs = zns n f := by
  apply Array.ext_getElem?
  intro j
  by_cases hj : j < n
  · rw [h j hj, zns_get n f j hj]
  · rw [Array.getElem?_eq_none (by omega), Array.getElem?_eq_none (by simp; omega)]
theorem zns_step (n : Nat) (f f' : Nat → Nat) (k v : Nat) (h : ∀ j, j < n → f' j = if j = k then v else f j) : (zns n f).setIfInBounds k (.int .i64 (v : Nat)) = zns n f' := by
  apply zns_ext
  · simp
  · intro i hi
    rw [h i hi, Array.getElem?_setIfInBounds]
    by_cases e : k = i
    · subst e; simp [hi]
    · simp [e, zns_get n f i hi, Ne.symm e]
theorem zns_one (n : Nat) (f : Nat → Nat) : (zns n f).all (·.oneCell') = true := by
  rw [Array.all_eq_true]
  intro i hi
  rw [zns_getElem]; rfl
theorem zns_ok (n : Nat) (f : Nat → Nat) : CellsOk (zns n f) n := ⟨zns_size n f, zns_one n f⟩
theorem zns_congr (n : Nat) (f g : Nat → Nat) (h : ∀ i, i < n → f i = g i) : zns n f = zns n g := by
  apply zns_ext
  · simp
  · intro i hi; rw [zns_get n f i hi, h i hi]
theorem rowZn : IsRow Try.prog 63 10 := ⟨.inr ⟨_, _, Try.underlying63⟩, by kernel_rfl⟩
theorem zeroZn : ZeroIs Try.prog 63 (zns 10 fun _ => 0) := by unfold ZeroIs; kernel_rfl
theorem builtZn : Try.prog.built 63 [] = some (zns 10 fun _ => 0) := by kernel_rfl
/-- The pairs L as cells. -/
def pcs (L : List (Nat × Nat)) : List Value := L.flatMap fun p => [.int .i64 (p.1 : Nat), .int .i64 (p.2 : Nat)]
theorem pcs_len (L : List (Nat × Nat)) : (pcs L).length = L.length * 2 := by
  induction L with
  | nil => rfl
  | cons p L ih => simp [pcs] at ih ⊢; omega
theorem pcs_app (L M : List (Nat × Nat)) : pcs (L ++ M) = pcs L ++ pcs M := by simp [pcs]
theorem pcs_one (L : List (Nat × Nat)) : ∀ u ∈ pcs L, u.oneCell' = true := fun u hu => by
  simp only [pcs, List.mem_flatMap, List.mem_cons, List.not_mem_nil, or_false] at hu
  obtain ⟨p, _, rfl | rfl⟩ := hu <;> rfl
theorem pcs_get : ∀ (L : List (Nat × Nat)) (k : Nat) (hk : k < L.length), (pcs L)[k * 2]? = some (.int .i64 ((L[k]).1 : Nat)) ∧ (pcs L)[k * 2 + 1]? = some (.int .i64 ((L[k]).2 : Nat))
  | [], k, hk => absurd hk (by simp)
  | p :: L, 0, _ => ⟨rfl, rfl⟩
  | p :: L, k + 1, hk => by
    have := pcs_get L k (by simpa using hk)
    rw [show (k + 1) * 2 = (k * 2) + 1 + 1 by omega]
    exact this
/-- v is a list of its own, made behind B, of the pairs L. -/
def OQ (w : World) (B : Nat) (v : Value) (L : List (Nat × Nat)) : Prop := w.ownsRow B 65 2 v L.length (pcs L)
theorem OQ.fresh (w : World) {B n : Nat} (h : B ≤ w.heap.size) (hn : w.heap.size = n) : OQ (w.alloc (.cells #[] 65)) B (.slice (some ⟨n, 0, none⟩) 0 0) [] := by
  subst hn
  exact ⟨rfl, .inr ⟨_, 0, #[], rfl, h, heap_alloc_new w _, Nat.le_refl _, by unfold maxLen; omega, rfl, rfl⟩⟩
theorem OQ.keptB {w w' : World} {B : Nat} {v : Value} {L : List (Nat × Nat)} (h : OQ w B v L) (e : ∀ k, B ≤ k → k < w.heap.size → w'.heap[k]? = w.heap[k]?) : OQ w' B v L := by
  refine ⟨h.1, ?_⟩
  rcases h.2 with h2 | ⟨g, cap, cur, hv, hB, hg, hr⟩
  · exact .inl h2
  · exact .inr ⟨g, cap, cur, hv, hB, by rw [e g hB (Array.getElem?_eq_some_iff.1 hg).1]; exact hg, hr⟩
theorem OQ.keptO {w w' : World} {B : Nat} {v : Value} {L : List (Nat × Nat)} (h : OQ w B v L) (e : ∀ k, v.ownBlock = some k → w'.heap[k]? = w.heap[k]?) : OQ w' B v L := by
  refine ⟨h.1, ?_⟩
  rcases h.2 with h2 | ⟨g, cap, cur, hv, hB, hg, hr⟩
  · exact .inl h2
  · exact .inr ⟨g, cap, cur, hv, hB, by rw [e g (by rw [hv]; rfl)]; exact hg, hr⟩
theorem OQ.set {w : World} {B gb i : Nat} {v u : Value} {L : List (Nat × Nat)} (h : OQ w B v L) (hne : v.ownBlock ≠ some gb) : OQ (w.setCell ⟨gb, i, none⟩ u) B v L :=
  h.keptO fun k hk => heap_setCell_other _ _ _ _ (fun e => hne (by rw [hk]; exact congrArg some e))
theorem OQ.below {w w' : World} {B : Nat} {v : Value} {L : List (Nat × Nat)} (h : OQ w B v L) (hb : Below w.heap.size w w') : OQ w' B v L := h.keptB fun k _ hk => hb.block k hk
theorem OQ.alloc {w : World} {B : Nat} {v : Value} {L : List (Nat × Nat)} (h : OQ w B v L) (o : Obj) : OQ (w.alloc o) B v L := h.keptB fun k _ hk => heap_alloc_old w o hk
theorem OQ.top {w : World} {B : Nat} {v : Value} {L : List (Nat × Nat)} (h : OQ w B v L) : ∀ x, v.ownBlock = some x → B ≤ x ∧ x < w.heap.size := World.ownsRow.lt h
theorem OQ.lower {w : World} {B B' : Nat} {v : Value} {L : List (Nat × Nat)} (h : OQ w B v L) (hb : B' ≤ B) : OQ w B' v L := by
  refine ⟨h.1, ?_⟩
  rcases h.2 with h2 | ⟨g, cap, cur, e, hB, hr⟩
  · exact .inl h2
  · exact .inr ⟨g, cap, cur, e, by omega, hr⟩
theorem OQ.len {w : World} {B : Nat} {v : Value} {L : List (Nat × Nat)} (h : OQ w B v L) : ∃ a c, v = .slice a L.length c := by
  rcases h.2 with ⟨h2, h3⟩ | ⟨g, cap, cur, e, _⟩
  · exact ⟨none, 0, by rw [h3]; exact h2⟩
  · exact ⟨_, _, e⟩
/-- A list that is not empty: where its pairs lie. -/
theorem OQ.form {w : World} {B : Nat} {v : Value} {L : List (Nat × Nat)} (h : OQ w B v L) (hn : 0 < L.length) : ∃ g cap, v = .slice (some ⟨g, 0, none⟩) L.length cap ∧ B ≤ g ∧ g < w.heap.size ∧ ∀ k (hk : k < L.length), w.cell? ⟨g, k * 2, none⟩ = some (.int .i64 ((L[k]).1 : Nat)) ∧ w.cell? ⟨g, k * 2 + 1, none⟩ = some (.int .i64 ((L[k]).2 : Nat)) := by
  rcases h.2 with ⟨_, h0⟩ | ⟨g, cap, cur, hv, hB, hg, hc, _, hs, hx⟩
  · omega
  · refine ⟨g, cap, hv, hB, (Array.getElem?_eq_some_iff.1 hg).1, fun k hk => ?_⟩
    obtain ⟨e1, e2⟩ := pcs_get L k hk
    rw [← hx, List.getElem?_take, if_pos (by omega)] at e1 e2
    have hh : holds w g cur 65 := hg
    rw [holds_cell hh, holds_cell hh]
    exact ⟨by simpa using e1, by simpa using e2⟩
theorem infoPr : (Try.prog.info? 65).map (fun i => (i.zero, i.size, i.bytes)) = some (some (.agg (zns 2 fun _ => 0)), 2, 16) := by kernel_rfl
theorem built2Z (x y : Int) : Try.prog.built 65 [(0, .int .i64 x), (1, .int .i64 y)] = some #[.int .i64 x, .int .i64 y] := by kernel_rfl
theorem builtS1 (x y : Int) : (Try.prog).builtSlice 65 1 [(0, Value.agg #[.int .i64 x, .int .i64 y])] = some #[.int .i64 x, .int .i64 y] := by kernel_rfl
theorem builtS2 (x y u v : Int) : (Try.prog).builtSlice 65 2 [(0, Value.agg #[.int .i64 x, .int .i64 y]), (1, Value.agg #[.int .i64 u, .int .i64 v])] = some #[.int .i64 x, .int .i64 y, .int .i64 u, .int .i64 v] := by kernel_rfl
section
variable {ops : Array Oper} {rest : List Oper} {o : Oper} {a : Act} {w : World} {Q : Exit → Act → World → Prop}
theorem wpL_build2Z {i j : Operand} {x y : Int} (hgd : o.guard = none) (ho : o.op = .build 65 #[(0, i), (1, j)]) (hx : a.eval i = .int .i64 x) (hy : a.eval j = .int .i64 y)
    (h : wpList Try.prog ops Q rest (a.put o.dst (.agg #[.int .i64 x, .int .i64 y])) w) : wpList Try.prog ops Q (o :: rest) a w := by
  refine wpList_build hgd 65 _ ho ?_ ?_
  · simp [hx, hy, built2Z]
  · simpa [hx, hy, built2Z] using h
theorem wpL_sliceZ1 {p : Operand} {x y : Int} (hgd : o.guard = none) (ho : o.op = .buildSlice 66 1 #[(0, p)]) (hx : a.eval p = .agg #[.int .i64 x, .int .i64 y])
    (h : wpList Try.prog ops Q rest (a.put o.dst (.slice (some ⟨w.heap.size, 0, none⟩) 1 1)) (w.alloc (.cells #[.int .i64 x, .int .i64 y] 65))) : wpList Try.prog ops Q (o :: rest) a w := by
  refine Great.wpList_buildSliceTo hgd 66 65 1 _ ho _ rfl o.dst rfl Try.underlying66 #[.int .i64 x, .int .i64 y] ?_ h
  have hp : ((#[(0, p)] : Array (Nat × Operand)).map fun (i, x) => (i, a.eval x)).toList = [(0, Value.agg #[.int .i64 x, .int .i64 y])] := by simp [hx]
  rw [hp]
  exact builtS1 x y
theorem wpL_sliceZ2 {p q : Operand} {x y u v : Int} (hgd : o.guard = none) (ho : o.op = .buildSlice 66 2 #[(0, p), (1, q)]) (hx : a.eval p = .agg #[.int .i64 x, .int .i64 y]) (hy : a.eval q = .agg #[.int .i64 u, .int .i64 v])
    (h : wpList Try.prog ops Q rest (a.put o.dst (.slice (some ⟨w.heap.size, 0, none⟩) 2 2)) (w.alloc (.cells #[.int .i64 x, .int .i64 y, .int .i64 u, .int .i64 v] 65))) : wpList Try.prog ops Q (o :: rest) a w := by
  refine Great.wpList_buildSliceTo hgd 66 65 2 _ ho _ rfl o.dst rfl Try.underlying66 #[.int .i64 x, .int .i64 y, .int .i64 u, .int .i64 v] ?_ h
  have hp : ((#[(0, p), (1, q)] : Array (Nat × Operand)).map fun (i, x) => (i, a.eval x)).toList = [(0, Value.agg #[.int .i64 x, .int .i64 y]), (1, Value.agg #[.int .i64 u, .int .i64 v])] := by simp [hx, hy]
  rw [hp]
  exact builtS2 x y u v
/-- m pairs more. -/
theorem wpL_appZ {s x : Operand} (hgd : o.guard = none) (ho : o.op = .call { callee := .builtin .append, args := #[s, x], argTypes := #[66, 66] }) {v : Value} {base m c gb : Nat} {L : List (Nat × Nat)} (M : List (Nat × Nat))
    (hs : a.eval s = v) (hx : a.eval x = .slice (some ⟨gb, 0, none⟩) m c) (hown : OQ w base v L) (hg : holds w gb (pcs M).toArray 65) (hM : M.length = m) (hm : 0 < m) (hm2 : m ≤ 10) (hn : L.length ≤ 100000) (hbase : base ≤ w.heap.size)
    (h : ∀ g cap w', OQ w' base (.slice (some ⟨g, 0, none⟩) (L.length + m) cap) (L ++ M) → w.grownBy w' v.ownBlock → (v.ownBlock = some g ∨ g = w.heap.size) → g < w'.heap.size → wpList Try.prog ops Q rest (a.put o.dst (.slice (some ⟨g, 0, none⟩) (L.length + m) cap)) w') : wpList Try.prog ops Q (o :: rest) a w := by
  obtain ⟨i, hi, hz, h1, h2⟩ := info_parts infoPr
  refine wpList_append_lies w hgd s x 66 ho base 65 i (.agg (zns 2 fun _ => 0)) 2 16 Try.underlying66 hi hz h1 h2 (by simp [Value.cells]) (by omega) v L.length _ hs hown ⟨gb, 0, none⟩ m c (pcs M) hx (by rw [pcs_len, hM]) (fun j u hj => ?_) (pcs_one M) hm (by unfold maxLen; omega) (by omega) hbase _ rfl (fun g cap w' ho2 hg2 hor hlt => h g cap w' ?_ hg2 hor hlt)
  · have hadd : (⟨gb, 0, none⟩ : Addr).add j = ⟨gb, j, none⟩ := by unfold Addr.add; split <;> simp_all
    rw [hadd, holds_cell hg, List.getElem?_toArray]; exact hj
  · unfold OQ
    rw [List.length_append, hM, pcs_app]
    exact ho2
end
end Go.Proofs.Ytbdcbmennblcdab
namespace Go.Proofs.Ytbdcbmennblcdab
set_option linter.unusedVariables false
set_option linter.unusedSimpArgs false
open Go.RowKit
set_option maxRecDepth 20000 in
set_option maxHeartbeats 1000000 in
theorem l06List_no (o : Int) (g : Nat → UInt8) (v : Value) (w : World) (hs : loopB o g = false) :
    Calls Try.prog 59 #[.agg (sqc o g), v] w fun e w' => e = .returned (.int .i64 1) ∧ Below w.heap.size w w' := by
  have hH := Has.start1 w (sqc o g) 31
  go_enter Try.func59, Try.ntmps59
  go_wp2_with (first | fail | (refine wpL_loadFull rfl rfl rfl rowSq hH.h0 (sqc_size _ _) ?_) | (go_at_call 65; refine (l01Loop_any o g _).mono ?_; rintro e w2 ⟨rfl, hb⟩; replace hH := hH.call' hb; clear hb; rw [hs]))
  go_ret
  exact ⟨rfl, hH.below⟩
set_option maxRecDepth 20000 in
set_option maxHeartbeats 4000000 in
theorem l06List_ok (N b n c : Nat) (g : Nat → UInt8) (f : Nat → Int) (w : World) (hlp : loopB (N : Int) g = true) (h1 : 1 ≤ N) (h10 : N ≤ 10) (hnl : n ≤ 1048576) (hR : Row w b n f) (hok : ∀ i, i < n → OkAt f N i) :
    Calls Try.prog 59 #[.agg (sqc N g), .slice (some ⟨b, 0, none⟩) n c] w fun e w' => e = .returned (.int .i64 0) ∧ Below w.heap.size w w' := by
  have HO := hid hok
  have hn := ok_len hok
  clear hok
  have hN10 : (N : Int) ≤ 10 := by omega
  have hN1 : 1 ≤ (N : Int) := by omega
  have hnl' : (n : Int) ≤ 1048576 := by omega
  have hH := Has.start1 w (sqc N g) 31
  replace hR := hid (hR.alloc (.cells (sqc N g) 31))
  go_enter Try.func59, Try.ntmps59
  go_wp2_with (first | fail | (refine wpL_loadFull rfl rfl rfl rowSq hH.h0 (sqc_size _ _) ?_) | (go_at_call 65; refine (l01Loop_any N g _).mono ?_; rintro e w2 ⟨rfl, hb⟩; replace hH := hH.call' hb; replace hR := hid (hR.out.below hb); clear hb; rw [hlp]))
  go_loopw [5] (fun i wr => ∃ k : Nat, k ≤ n ∧ i = .int .i64 k ∧ Has w wr [(sqc N g, 31)] ∧ Hid (Row wr b n f)) (fun i _ => 1048580 - (intOf i).toNat)
  case atStart => exact ⟨0, by omega, rfl, hH, hR⟩
  case round =>
    clear hH hR
    obtain ⟨k, hk, rfl, hH, hR⟩ := hrel
    by_cases hlt : k < n
    · have hkn : k < n := by omega
      have hn0 : 0 < n := by omega
      have hkn' : (k : Int) < n := by omega
      by_cases hk00 : k = 0
      · obtain rfl : k = 0 := hk00
        have hC := l01InM_yes (f 0) N ⟨(HO.out 0 hlt).1, (HO.out 0 hlt).2.1⟩
        have cl := hR.out.cell (i := 0) hn0
        have cz : wr.cell? ⟨w.heap.size, 0, none⟩ = some (.int .i64 N) := by rw [hH.c0, sqc_get0]
        go_wp2
        go_quiet ((go_at_call 95; exact Calls.quiet_of_same (hC _)))
        go_wp2
        go_roundw
        case rel => exact ⟨0 + 1, by omega, by first | rfl | go_num, hH.drewN _, hid (hR.out.drewS _)⟩
        case measure => simp [intOf]
      · obtain ⟨j, rfl⟩ : ∃ j, k = j + 1 := ⟨k - 1, by omega⟩
        have hC := l01InM_yes (f (j + 1)) N ⟨(HO.out (j + 1) hlt).1, (HO.out (j + 1) hlt).2.1⟩
        have cl := hR.out.cell (i := j + 1) hkn
        have cp := hR.out.cell (i := j) (by omega)
        have cz : wr.cell? ⟨w.heap.size, 0, none⟩ = some (.int .i64 N) := by rw [hH.c0, sqc_get0]
        have hord : f j < f (j + 1) := by have := (HO.out (j + 1) hlt).2.2 (by omega); simpa using this
        obtain ⟨p, hp⟩ : ∃ p, f j = p := ⟨_, rfl⟩
        obtain ⟨q, hqq⟩ : ∃ q, f (j + 1) = q := ⟨_, rfl⟩
        rw [hp] at cp
        rw [hqq] at cl hC
        rw [hp, hqq] at hord
        clear hp hqq
        have hord2 : ¬ q ≤ p := by omega
        have e1 : IntKind.i64.wrap (((j + 1 : Nat) : Int) - 1) = (j : Int) := by rw [IntWalk.i64_in _ (by omega)]; first | done | omega
        have e2 : IntKind.i64.wrap ((N : Int) - 1) = (N : Int) - 1 := IntWalk.i64_in _ (by omega)
        have e3 : (((j + 1 : Nat) : Int)) > 0 := by omega
        go_wp2
        go_quiet ((go_at_call 95; exact Calls.quiet_of_same (hC _)))
        go_wp2
        go_roundw
        case rel => exact ⟨j + 1 + 1, by omega, by go_num, hH.drewN _, hid (hR.out.drewS _)⟩
        case measure => simp [intOf]; omega
    · obtain rfl : k = n := by omega
      go_wp2
      go_ret
      exact ⟨rfl, hH.below⟩
set_option maxRecDepth 20000 in
set_option maxHeartbeats 4000000 in
theorem l06List_bad (N b n c k0 : Nat) (g : Nat → UInt8) (f : Nat → Int) (w : World) (hlp : loopB (N : Int) g = true) (h1 : 1 ≤ N) (h10 : N ≤ 10) (hnl : n ≤ 1048576) (hR : Row w b n f) (hB : BadA f N n k0) :
    Calls Try.prog 59 #[.agg (sqc N g), .slice (some ⟨b, 0, none⟩) n c] w fun e w' => e = .returned (.int .i64 2) ∧ Below w.heap.size w w' := by
  have HO := hid hB.lo
  have HBad := hid hB.bad
  have hk0 := hB.lt
  clear hB
  have hN10 : (N : Int) ≤ 10 := by omega
  have hN1 : 1 ≤ (N : Int) := by omega
  have hnl' : (n : Int) ≤ 1048576 := by omega
  have hH := Has.start1 w (sqc N g) 31
  replace hR := hid (hR.alloc (.cells (sqc N g) 31))
  go_enter Try.func59, Try.ntmps59
  go_wp2_with (first | fail | (refine wpL_loadFull rfl rfl rfl rowSq hH.h0 (sqc_size _ _) ?_) | (go_at_call 65; refine (l01Loop_any N g _).mono ?_; rintro e w2 ⟨rfl, hb⟩; replace hH := hH.call' hb; replace hR := hid (hR.out.below hb); clear hb; rw [hlp]))
  go_loopw [5] (fun i wr => ∃ k : Nat, k ≤ k0 ∧ i = .int .i64 k ∧ Has w wr [(sqc N g, 31)] ∧ Hid (Row wr b n f)) (fun i _ => 1048580 - (intOf i).toNat)
  case atStart => exact ⟨0, by omega, rfl, hH, hR⟩
  case round =>
    clear hH hR
    obtain ⟨k, hk, rfl, hH, hR⟩ := hrel
    by_cases hlt : k < k0
    · have hkn : k < n := by omega
      have hn0 : 0 < n := by omega
      have hkn' : (k : Int) < n := by omega
      by_cases hk00 : k = 0
      · obtain rfl : k = 0 := hk00
        have hC := l01InM_yes (f 0) N ⟨(HO.out 0 hlt).1, (HO.out 0 hlt).2.1⟩
        have cl := hR.out.cell (i := 0) hn0
        have cz : wr.cell? ⟨w.heap.size, 0, none⟩ = some (.int .i64 N) := by rw [hH.c0, sqc_get0]
        go_wp2
        go_quiet ((go_at_call 95; exact Calls.quiet_of_same (hC _)))
        go_wp2
        go_roundw
        case rel => exact ⟨0 + 1, by omega, by first | rfl | go_num, hH.drewN _, hid (hR.out.drewS _)⟩
        case measure => simp [intOf]
      · obtain ⟨j, rfl⟩ : ∃ j, k = j + 1 := ⟨k - 1, by omega⟩
        have hC := l01InM_yes (f (j + 1)) N ⟨(HO.out (j + 1) hlt).1, (HO.out (j + 1) hlt).2.1⟩
        have cl := hR.out.cell (i := j + 1) hkn
        have cp := hR.out.cell (i := j) (by omega)
        have cz : wr.cell? ⟨w.heap.size, 0, none⟩ = some (.int .i64 N) := by rw [hH.c0, sqc_get0]
        have hord : f j < f (j + 1) := by have := (HO.out (j + 1) hlt).2.2 (by omega); simpa using this
        obtain ⟨p, hp⟩ : ∃ p, f j = p := ⟨_, rfl⟩
        obtain ⟨q, hqq⟩ : ∃ q, f (j + 1) = q := ⟨_, rfl⟩
        rw [hp] at cp
        rw [hqq] at cl hC
        rw [hp, hqq] at hord
        clear hp hqq
        have hord2 : ¬ q ≤ p := by omega
        have e1 : IntKind.i64.wrap (((j + 1 : Nat) : Int) - 1) = (j : Int) := by rw [IntWalk.i64_in _ (by omega)]; first | done | omega
        have e2 : IntKind.i64.wrap ((N : Int) - 1) = (N : Int) - 1 := IntWalk.i64_in _ (by omega)
        have e3 : (((j + 1 : Nat) : Int)) > 0 := by omega
        go_wp2
        go_quiet ((go_at_call 95; exact Calls.quiet_of_same (hC _)))
        go_wp2
        go_roundw
        case rel => exact ⟨j + 1 + 1, by omega, by go_num, hH.drewN _, hid (hR.out.drewS _)⟩
        case measure => simp [intOf]; omega
    · obtain rfl : k = k0 := by omega
      have hkn : k < n := by omega
      have hn0 : 0 < n := by omega
      have hkn' : (k : Int) < n := by omega
      have cz : wr.cell? ⟨w.heap.size, 0, none⟩ = some (.int .i64 N) := by rw [hH.c0, sqc_get0]
      have e2 : IntKind.i64.wrap ((N : Int) - 1) = (N : Int) - 1 := IntWalk.i64_in _ (by omega)
      by_cases hin : 0 ≤ f k ∧ f k < N
      · have hk1 : 0 < k := by
          rcases Nat.eq_zero_or_pos k with e | e
          · exact absurd ⟨hin.1, hin.2, fun h => by omega⟩ HBad.out
          · exact e
        have hle : f k ≤ f (k - 1) := by
          by_cases e : f k ≤ f (k - 1)
          · exact e
          · exact absurd ⟨hin.1, hin.2, fun _ => by omega⟩ HBad.out
        clear HBad HO
        obtain ⟨j, rfl⟩ : ∃ j, k = j + 1 := ⟨k - 1, by omega⟩
        simp only [Nat.add_sub_cancel] at hle
        have hC := l01InM_yes (f (j + 1)) N hin
        have cl := hR.out.cell (i := j + 1) hkn
        have cp := hR.out.cell (i := j) (by omega)
        obtain ⟨p, hp⟩ : ∃ p, f j = p := ⟨_, rfl⟩
        obtain ⟨q, hqq⟩ : ∃ q, f (j + 1) = q := ⟨_, rfl⟩
        rw [hp] at cp
        rw [hqq] at cl hC hin
        rw [hp, hqq] at hle
        clear hp hqq hin
        have e1 : IntKind.i64.wrap (((j + 1 : Nat) : Int) - 1) = (j : Int) := by rw [IntWalk.i64_in _ (by omega)]; first | done | omega
        have e3 : (((j + 1 : Nat) : Int)) > 0 := by omega
        go_wp2
        go_quiet ((go_at_call 95; exact Calls.quiet_of_same (hC _)))
        go_wp2
        go_ret
        exact ⟨rfl, (hH.drewN _).below⟩
      · have hC := l01InM_no (f k) N hin
        have cl := hR.out.cell hkn
        clear hin HBad HO
        go_wp2
        go_quiet ((go_at_call 95; exact Calls.quiet_of_same (hC _)))
        go_wp2
        go_ret
        exact ⟨rfl, (hH.drewN _).below⟩
end Go.Proofs.Ytbdcbmennblcdab
namespace Go.Proofs.Ytbdcbmennblcdab
set_option linter.unusedVariables false
set_option linter.unusedSimpArgs false
open Go.RowKit
/-- The world with the blocks before B alone. -/
def lowW (w : World) (B : Nat) : World := { w with heap := w.heap.extract 0 B }
theorem lowW_size {w : World} {B : Nat} (h : B ≤ w.heap.size) : (lowW w B).heap.size = B := by simp [lowW]; omega
theorem lowW_get {w : World} {B k : Nat} (hk : k < B) : (lowW w B).heap[k]? = w.heap[k]? := by simp [lowW, Array.getElem?_extract]; omega
theorem lowW_has {w wr : World} {B : Nat} (h : B ≤ w.heap.size) (hb : Below B w wr) : Has (lowW w B) wr [] := by
  have hs := lowW_size h
  refine ⟨⟨hb.os, hb.tape, hb.output, ?_, fun k hk => ?_⟩, ?_, fun i cs t h => by simp at h⟩
  · rw [hs]; exact Nat.le_trans h hb.size
  · rw [hs] at hk; rw [lowW_get hk]; exact hb.block k hk
  · rw [hs]; simpa using Nat.le_trans h hb.size
theorem lowW_below {w wr : World} {B : Nat} (h : B ≤ w.heap.size) (hH : Has (lowW w B) wr []) (hsz : w.heap.size ≤ wr.heap.size) : Below B w wr := by
  have hb := hH.below
  rw [lowW_size h] at hb
  exact ⟨hb.os, hb.tape, hb.output, hsz, fun k hk => by rw [hb.block k hk, lowW_get hk]⟩
theorem CgInv.congr {N m : Nat} {M : Nat → Nat → Nat} {I : Nat → Nat → Prop} {d d' : Nat → Nat} {Q : List (Nat × Nat)} (h : CgInv N m M I d Q) (hM : ∀ j, j < m → ∀ x, x < N → M j x < N) (hI : ∀ a b, I a b → a < N ∧ b < N) (e : ∀ x, x < N → d' x = d x) : CgInv N m M I d' Q := by
  have hg : ∀ a b, a < N → b < N → (Good N d' Q a b ↔ Good N d Q a b) := fun a b ha hb => by unfold Good; rw [e a ha, e b hb]
  refine ⟨h.inQ, fun x y hx hy e2 => h.sound x y hx hy (by rw [← e x hx, ← e y hy]; exact e2), h.soundQ, fun a b hI2 => (hg a b (hI a b hI2).1 (hI a b hI2).2).2 (h.has a b hI2), fun E hE hk x y hx hy e2 => h.gen E hE (fun a b ha hb hj => hk a b ha hb fun j hjm => (hg _ _ (hM j hjm a ha) (hM j hjm b hb)).2 (hj j hjm)) x y hx hy (by rw [← e x hx, ← e y hy]; exact e2)⟩
/-- As far as the numbers before z, those of the class s have got the class t. -/
def relN (C : Nat → Nat) (s t z : Nat) : Nat → Nat := fun x => if x < z ∧ C x = s then t else C x
theorem relN_zero (C : Nat → Nat) (s t : Nat) : relN C s t 0 = C := by funext x; simp [relN]
theorem relN_at (C : Nat → Nat) (s t z : Nat) : relN C s t z z = C z := by simp [relN]
theorem relN_yes {C : Nat → Nat} {s t z : Nat} (h : C z = s) (x : Nat) : relN C s t (z + 1) x = if x = z then t else relN C s t z x := by
  unfold relN
  by_cases e : x = z
  · subst e; rw [if_pos rfl, if_pos ⟨by omega, h⟩]
  · rw [if_neg e]
    by_cases c : x < z
    · simp [c, show x < z + 1 by omega]
    · simp [c, show ¬ x < z + 1 by omega]
theorem relN_no {C : Nat → Nat} {s t z : Nat} (h : C z ≠ s) : relN C s t (z + 1) = relN C s t z := by
  funext x
  unfold relN
  by_cases e : x = z
  · subst e; simp [h]
  · by_cases c : x < z
    · simp [c, show x < z + 1 by omega]
    · simp [c, show ¬ x < z + 1 by omega]
theorem relN_join {C : Nat → Nat} {s t N : Nat} (x : Nat) (hx : x < N) : relN C s t N x = joinF C s t x := by
  unfold relN joinF
  by_cases e : C x = s
  · rw [if_pos ⟨hx, e⟩, if_pos e]
  · rw [if_neg (fun h => e h.2), if_neg e]
/-- The pairs that one join puts into the list: for each number i before k a pair of products and one of those from the other side. -/
def imN (g : Nat → UInt8) (a b : Nat) : Nat → List (Nat × Nat)
  | 0 => []
  | i + 1 => imN g a b i ++ [((g (a * 10 + i)).toNat, (g (b * 10 + i)).toNat), ((g (i * 10 + a)).toNat, (g (i * 10 + b)).toNat)]
theorem imN_len (g : Nat → UInt8) (a b : Nat) : ∀ k, (imN g a b k).length = 2 * k
  | 0 => rfl
  | k + 1 => by simp only [imN, List.length_append, imN_len g a b k, List.length_cons, List.length_nil]; omega
theorem imN_mem (g : Nat → UInt8) (a b : Nat) (p : Nat × Nat) : ∀ k, p ∈ imN g a b k ↔ ∃ i, i < k ∧ (p = ((g (a * 10 + i)).toNat, (g (b * 10 + i)).toNat) ∨ p = ((g (i * 10 + a)).toNat, (g (i * 10 + b)).toNat))
  | 0 => by simp [imN]
  | k + 1 => by
    simp only [imN, List.mem_append, imN_mem g a b p k, List.mem_cons, List.not_mem_nil, or_false]
    constructor
    · rintro (⟨i, hi, h⟩ | h)
      · exact ⟨i, by omega, h⟩
      · exact ⟨k, by omega, h⟩
    · rintro ⟨i, hi, h⟩
      by_cases e : i = k
      · subst e; exact .inr h
      · exact .inl ⟨i, by omega, h⟩
theorem map_lo {g : Nat → UInt8} {N j x : Nat} (hj : j < N) (hx : x < 10) : mapF (rcF g N) j x = (g (j * 10 + x)).toNat := by
  unfold mapF rcF; rw [catF_lo (by omega)]
theorem map_hi {g : Nat → UInt8} {N j x : Nat} (hx : x < 10) (hj : j < 10) : mapF (rcF g N) (N + j) x = (g (x * 10 + j)).toNat := by
  unfold mapF rcF; rw [show (N + j) * 10 + x = N * 10 + (j * 10 + x) by omega, catF_hi, turnAt _ _ _ hx]
theorem imN_imgs {g : Nat → UInt8} {N a b : Nat} (h10 : N ≤ 10) (ha : a < N) (hb : b < N) (p : Nat × Nat) : p ∈ imN g a b N ↔ p ∈ imgs (mapF (rcF g N)) (N + N) a b := by
  rw [imN_mem, imgs_mem]
  constructor
  · rintro ⟨i, hi, h | h⟩
    · exact ⟨N + i, by omega, by rw [map_hi (by omega) (by omega), map_hi (by omega) (by omega)]; exact h⟩
    · exact ⟨i, by omega, by rw [map_lo hi (by omega), map_lo hi (by omega)]; exact h⟩
  · rintro ⟨j, hj, h⟩
    by_cases c : j < N
    · rw [map_lo c (by omega), map_lo c (by omega)] at h; exact ⟨j, c, .inr h⟩
    · obtain ⟨i, rfl⟩ : ∃ i, j = N + i := ⟨j - N, by omega⟩
      rw [map_hi (by omega) (by omega), map_hi (by omega) (by omega)] at h
      exact ⟨i, by omega, .inl h⟩
/-- What a round of the main loop finds: the classes C, the pairs L, of which k have been joined. -/
structure MInv (N : Nat) (g : Nat → UInt8) (I : Nat → Nat → Prop) (C : Nat → Nat) (L : List (Nat × Nat)) (k : Nat) : Prop where
  cg : CgInv N (N + N) (mapF (rcF g N)) I C (L.drop k)
  lt : ∀ x, x < N → C x < N
  bnd : L.length + 41 * apart N C ≤ 4200
section
variable {N : Nat} {g : Nat → UInt8} {I : Nat → Nat → Prop} {C : Nat → Nat} {L : List (Nat × Nat)} {k : Nat}
theorem MInv.pair (h : MInv N g I C L k) (hk : k < L.length) : ∃ a b, a < N ∧ b < N ∧ L[k] = (a, b) ∧ L.drop k = (a, b) :: L.drop (k + 1) := by
  have e : L.drop k = L[k] :: L.drop (k + 1) := List.drop_eq_getElem_cons hk
  have hq := h.cg.inQ L[k] (by rw [e]; exact List.mem_cons_self ..)
  exact ⟨(L[k]).1, (L[k]).2, hq.1, hq.2, rfl, e⟩
theorem MInv.skip {a b : Nat} (h : MInv N g I C L k) (e : L.drop k = (a, b) :: L.drop (k + 1)) (hc : C a = C b) : MInv N g I C L (k + 1) := by
  have := h.cg
  rw [e] at this
  exact ⟨this.skip hc, h.lt, h.bnd⟩
theorem MInv.join {a b : Nat} (hq : IsSq N g) (hI : ∀ a b, I a b → a < N ∧ b < N) (h : MInv N g I C L k) (hk : k < L.length) (e : L.drop k = (a, b) :: L.drop (k + 1)) (ha : a < N) (hb : b < N) (hc : C a ≠ C b) : MInv N g I (relN C (C b) (C a) N) (L ++ imN g a b N) (k + 1) := by
  have h1 := h.cg
  rw [e] at h1
  have hM := rcF_lt hq
  have hst : (C b = C a ∧ C a = C b) ∨ (C b = C b ∧ C a = C a) := .inr ⟨rfl, rfl⟩
  have h2 := h1.join (Q' := (L ++ imN g a b N).drop (k + 1)) hM hst (fun p => by
    rw [List.drop_append_of_le_length (by omega), List.mem_append, imN_imgs hq.hi ha hb])
  refine ⟨h2.congr hM hI (fun x hx => relN_join x hx), fun x hx => ?_, ?_⟩
  · rw [relN_join x hx]
    unfold joinF
    split
    · exact h.lt a ha
    · exact h.lt x hx
  · have h3 := apart_join ha hb hst hc
    have h4 : apart N (relN C (C b) (C a) N) = apart N (joinF C (C b) (C a)) := apart_congr fun x hx => relN_join x hx
    have h5 := h.bnd
    have h6 := hq.hi
    rw [h4, List.length_append, imN_len]
    omega
theorem MInv.less {a b : Nat} (ha : a < N) (hb : b < N) (hc : C a ≠ C b) : apart N (relN C (C b) (C a) N) + 1 ≤ apart N C := by
  have hst : (C b = C a ∧ C a = C b) ∨ (C b = C b ∧ C a = C a) := .inr ⟨rfl, rfl⟩
  have h3 := apart_join ha hb hst hc
  have h4 : apart N (relN C (C b) (C a) N) = apart N (joinF C (C b) (C a)) := apart_congr fun x hx => relN_join x hx
  omega
theorem MInv.done (hq : IsSq N g) (h : MInv N g I C L L.length) {x y : Nat} (hx : x < N) (hy : y < N) : C x = C y ↔ Cgr N (N + N) (mapF (rcF g N)) I x y := by
  have h1 := h.cg
  rw [List.drop_length] at h1
  exact h1.done (rcF_lt hq) hx hy
end
/-- Each number is its own class. -/
def selfN (k : Nat) : Nat → Nat := fun x => if x < k then x else 0
theorem selfN_step (k j : Nat) : selfN (k + 1) j = if j = k then k else selfN k j := by
  unfold selfN
  by_cases e : j = k
  · subst e; simp
  · by_cases c : j < k
    · simp [e, c, show j < k + 1 by omega]
    · simp [e, c, show ¬ j < k + 1 by omega]
theorem MInv.start {N : Nat} {g : Nat → UInt8} {I : Nat → Nat → Prop} {L : List (Nat × Nat)} (h10 : N ≤ 10) (hL : ∀ p, p ∈ L → p.1 < N ∧ p.2 < N) (hI : ∀ a b, I a b ↔ (a, b) ∈ L) (hl : L.length ≤ 12) : MInv N g I (selfN N) L 0 := by
  have e : ∀ x, x < N → selfN N x = x := fun x hx => by unfold selfN; rw [if_pos hx]
  refine ⟨CgInv.start (fun a b ha hb h => by rwa [e a ha, e b hb] at h) (by simpa using hL) (by simpa using hI), fun x hx => by rw [e x hx]; exact hx, ?_⟩
  have := apart_le h10 (selfN N)
  omega
theorem cellD_zns {w : World} {gb N : Nat} {C : Nat → Nat} {t : TypeId} (h : holds w gb (zns 10 C) t) (h10 : N ≤ 10) : apart N (cellD w gb) = apart N C :=
  apart_congr fun x hx => by
    unfold cellD
    rw [holds_cell h, zns_get _ _ _ (by omega)]
    simp
end Go.Proofs.Ytbdcbmennblcdab
namespace Go.Proofs.Ytbdcbmennblcdab
set_option linter.unusedVariables false
set_option linter.unusedSimpArgs false
open Go.RowKit
structure ZV where
  s : Nat
  v : Value
def offN (v : Value) (a : Nat) : Prop := ∀ y, v.ownBlock = some y → y ≠ a ∧ y ≠ a + 1 ∧ y ≠ a + 1 + 1
theorem own_far {y gz n c a : Nat} {v : Value} {w1 : World} (hy : (Value.slice (some ⟨gz, 0, none⟩) n c).ownBlock = some y) (hor : v.ownBlock = some gz ∨ gz = w1.heap.size) (hT : ∀ x, v.ownBlock = some x → x ≠ a ∧ x ≠ a + 1 ∧ x ≠ a + 1 + 1) (hz : a + 3 ≤ w1.heap.size) : y ≠ a ∧ y ≠ a + 1 ∧ y ≠ a + 1 + 1 := by
  obtain rfl : gz = y := by simpa [Value.ownBlock] using hy
  rcases hor with e | e
  · exact hT _ e
  · omega
set_option maxRecDepth 100000 in
set_option maxHeartbeats 8000000 in
theorem l06Classes_any (N B : Nat) (g : Nat → UInt8) (I : Nat → Nat → Prop) (L0 : List (Nat × Nat)) (v : Value) (w : World) (hq : IsSq N g) (hL : ∀ p, p ∈ L0 → p.1 < N ∧ p.2 < N) (hI : ∀ a b, I a b ↔ (a, b) ∈ L0) (hlen : L0.length ≤ 12) (hB : B ≤ w.heap.size) (hO : OQ w B v L0) :
    Calls Try.prog 54 #[.agg (sqc N g), v] w fun e w' => ∃ C : Nat → Nat, e = .returned (.agg (zns 10 C)) ∧ (∀ x y, x < N → y < N → (C x = C y ↔ Cgr N (N + N) (mapF (rcF g N)) I x y)) ∧ Below B w w' := by
  have h1 := hq.lo
  have h10 := hq.hi
  have HQ := hid hq
  have HI : Hid (∀ a b, I a b → a < N ∧ b < N) := hid (fun a b h => hL _ ((hI a b).1 h))
  have HM0 : Hid (MInv N g I (selfN N) L0 0) := hid (MInv.start h10 hL hI hlen)
  have HT0 := hid hO.top
  have HA := hid (fun (C : Nat → Nat) (wr : World) (h : holds wr (w.heap.size + 1 + 1) (zns 10 C) 63) => cellD_zns h h10)
  clear hq hL hI hlen
  have hN10 : (N : Int) ≤ 10 := by omega
  have hH := Has.start3 w (sqc N g) (zns 10 fun _ => 0) (zns 10 fun _ => 0) 31 63 63
  have HO := hid (((hO.alloc (.cells (sqc N g) 31)).alloc (.cells (zns 10 fun _ => 0) 63)).alloc (.cells (zns 10 fun _ => 0) 63))
  clear hO
  go_enter Try.func54, Try.ntmps54
  go_wp2_with (first | fail | (refine wpL_alloc rfl rfl zeroZn ?_; intro g0 hg0; (try simp at hg0); subst hg0) | (refine wpL_build rfl rfl builtZn ?_) | (refine wpL_storeSame rfl rfl rfl rfl rowZn hH.h2 (zns_ok _ _) ?_))
  go_loopw [6] (fun i wr => ∃ k : Nat, k ≤ N ∧ i = .int .i64 k ∧ Has w wr [(sqc N g, 31), (zns 10 (fun _ => 0), 63), (zns 10 (selfN k), 63)] ∧ Hid (OQ wr B v L0)) (fun i _ => 20 - (intOf i).toNat)
  case atStart => exact ⟨0, by omega, rfl, hH, HO⟩
  case round =>
    clear hH HO
    obtain ⟨k, hk, rfl, hH, HO⟩ := hrel
    have cz : wr.cell? ⟨w.heap.size, 0, none⟩ = some (.int .i64 N) := by rw [hH.c0, sqc_get0]
    by_cases hlt : k < N
    · have hk1 : (k : Int) < N := by omega
      have hk10 : (k : Int) < 10 := by omega
      have f2 := hH.f2 k
      have c2 : wr.cell? ⟨w.heap.size + 1 + 1, k, none⟩ = some (.int .i64 (selfN k k : Nat)) := by rw [hH.c2, zns_get _ _ _ (by omega)]
      go_wp2
      go_roundw
      case rel => exact ⟨k + 1, by omega, by go_num, hH.s2 _ _ (zns_step 10 _ _ k k (fun j _ => selfN_step k j)), hid (HO.out.set (fun e => by have := (HT0.out _ e).2; omega))⟩
      case measure => simp [intOf]; omega
    · obtain rfl : k = N := by omega
      have hH0 := hH.h0
      have hHc : holds wr (w.heap.size + 1 + 1) (zns 10 (selfN k)) 63 := hH.h2
      have hHr : holds wr (w.heap.size + 1) (zns 10 fun _ => 0) 63 := hH.h1
      have hzz := hH.size
      simp only [List.length_cons, List.length_nil] at hzz
      have hHL := lowW_has hB (hH.below.mono hB)
      have HTn : Hid (∀ x, v.ownBlock = some x → x ≠ w.heap.size ∧ x ≠ w.heap.size + 1 ∧ x ≠ w.heap.size + 1 + 1) := hid (fun x hx => by have := (HT0.out x hx).2; omega)
      go_wp2
      clear hH cz HT0
      go_loopw [1, 7] (fun v i wr => ∃ (C : Nat → Nat) (L : List (Nat × Nat)) (n : Nat), n ≤ L.length ∧ i = .int .i64 n ∧ Has (lowW w B) wr [] ∧ holds wr w.heap.size (sqc k g) 31 ∧ holds wr (w.heap.size + 1) (zns 10 fun _ => 0) 63 ∧ holds wr (w.heap.size + 1 + 1) (zns 10 C) 63 ∧ Hid (OQ wr B v L) ∧ Hid (∀ x, v.ownBlock = some x → x ≠ w.heap.size ∧ x ≠ w.heap.size + 1 ∧ x ≠ w.heap.size + 1 + 1) ∧ w.heap.size + 3 ≤ wr.heap.size ∧ Hid (MInv k g I C L n)) (fun v i wr => lenV v - (intOf i).toNat + 41 * apart k (cellD wr (w.heap.size + 1 + 1)))
      case atStart => exact ⟨selfN k, L0, 0, by omega, rfl, hHL, hH0, hHr, hHc, HO, HTn, by omega, HM0⟩
      case round =>
        clear hHL hH0 hHr hHc HO HTn HM0 hzz
        obtain ⟨C, L, n, hnL, rfl, hH, hS, hR, hC, hO, hT, hz3, hM⟩ := hrel
        have HC := hid (HA.out C wr hC)
        have hLl := hM.out.bnd
        have hL1 : (L.length : Int) ≤ 4200 := by omega
        by_cases hlt : n < L.length
        · obtain ⟨a, b, ha, hb, hab, hdr⟩ := hM.out.pair hlt
          obtain ⟨gp, cp, ev, hgB, hgl, hcell⟩ := hO.out.form (by omega)
          obtain ⟨ca, cb⟩ := hcell n hlt
          rw [hab] at ca cb
          have HDR := hid hdr
          have HEV := hid ev
          subst ev
          obtain ⟨len, hlen⟩ : ∃ q, L.length = q := ⟨_, rfl⟩
          have HLEN := hid hlen
          rw [hlen] at hlt hnL hL1 hLl hT HEV hO ⊢
          clear hcell hab hdr hlen
          have hnl1 : (n : Int) < len := by omega
          have ha10 : (a : Int) < 10 := by omega
          have hb10 : (b : Int) < 10 := by omega
          obtain ⟨da, hda⟩ : ∃ q, C a = q := ⟨_, rfl⟩
          obtain ⟨db, hdb⟩ : ∃ q, C b = q := ⟨_, rfl⟩
          have hdal : da < k := by rw [← hda]; exact hM.out.lt a ha
          have hdbl : db < k := by rw [← hdb]; exact hM.out.lt b hb
          have cda : wr.cell? ⟨w.heap.size + 1 + 1, a, none⟩ = some (.int .i64 da) := by rw [holds_cell hC, zns_get _ _ _ (by omega), hda]
          have cdb : wr.cell? ⟨w.heap.size + 1 + 1, b, none⟩ = some (.int .i64 db) := by rw [holds_cell hC, zns_get _ _ _ (by omega), hdb]
          have HDA := hid hda
          have HDB := hid hdb
          clear hda hdb
          go_wp2
          go_quiet (fail)
          go_wp2
          clear ca cb
          obtain ⟨wd, hwd⟩ : ∃ q, wr.drewN nq = q := ⟨_, rfl⟩
          replace hH : Has (lowW w B) wd [] := by rw [← hwd]; exact hH.drewN _
          replace hS : holds wd w.heap.size (sqc k g) 31 := by rw [← hwd]; exact hS
          replace hR : holds wd (w.heap.size + 1) (zns 10 fun _ => 0) 63 := by rw [← hwd]; exact hR
          replace hC : holds wd (w.heap.size + 1 + 1) (zns 10 C) 63 := by rw [← hwd]; exact hC
          replace hO : Hid (OQ wd B (.slice (some ⟨gp, 0, none⟩) len cp) L) := hid (by rw [← hwd]; exact hO.out.keptO fun _ _ => rfl)
          replace hz3 : w.heap.size + 3 ≤ wd.heap.size := by rw [← hwd]; exact hz3
          rw [hwd]
          clear hwd
          have cda : wd.cell? ⟨w.heap.size + 1 + 1, a, none⟩ = some (.int .i64 da) := by rw [holds_cell hC, zns_get _ _ _ (by omega), HDA.out]
          have cdb : wd.cell? ⟨w.heap.size + 1 + 1, b, none⟩ = some (.int .i64 db) := by rw [holds_cell hC, zns_get _ _ _ (by omega), HDB.out]
          by_cases heq : da = db
          · subst heq
            have HMs := hid (hM.out.skip HDR.out (HDA.out.trans HDB.out.symm))
            go_quiet (fail)
            go_wp2
            clear cda cdb
            obtain ⟨we, hwd⟩ : ∃ q, wd.drewN nq = q := ⟨_, rfl⟩
            replace hH : Has (lowW w B) we [] := by rw [← hwd]; exact hH.drewN _
            replace hS : holds we w.heap.size (sqc k g) 31 := by rw [← hwd]; exact hS
            replace hR : holds we (w.heap.size + 1) (zns 10 fun _ => 0) 63 := by rw [← hwd]; exact hR
            replace hC : holds we (w.heap.size + 1 + 1) (zns 10 C) 63 := by rw [← hwd]; exact hC
            replace hO : Hid (OQ we B (.slice (some ⟨gp, 0, none⟩) len cp) L) := hid (by rw [← hwd]; exact hO.out.keptO fun _ _ => rfl)
            replace hz3 : w.heap.size + 3 ≤ we.heap.size := by rw [← hwd]; exact hz3
            rw [hwd]
            clear hwd
            go_wp2
            refine ⟨⟨C, L, n + 1, by rw [HLEN.out]; omega, by go_num, hH, hS, hR, hC, hO, hT, hz3, HMs⟩, ?_⟩
            rw [HC.out, HA.out C _ hC]
            simp [lenV, intOf]
            omega
          · have heq' : ¬ (da : Int) = (db : Int) := by omega
            have hcne : C a ≠ C b := by rw [HDA.out, HDB.out]; exact heq
            have HMj := hid (hM.out.join HQ.out HI.out (by rw [HLEN.out]; exact hlt) HDR.out ha hb hcne)
            have HLS := hid (MInv.less (N := k) ha hb hcne)
            rw [HDA.out, HDB.out] at HMj HLS
            clear hcne
            go_quiet (fail)
            go_wp2
            clear cda cdb
            obtain ⟨we, hwd⟩ : ∃ q, wd.drewN nq = q := ⟨_, rfl⟩
            replace hH : Has (lowW w B) we [] := by rw [← hwd]; exact hH.drewN _
            replace hS : holds we w.heap.size (sqc k g) 31 := by rw [← hwd]; exact hS
            replace hR : holds we (w.heap.size + 1) (zns 10 fun _ => 0) 63 := by rw [← hwd]; exact hR
            replace hC : holds we (w.heap.size + 1 + 1) (zns 10 C) 63 := by rw [← hwd]; exact hC
            replace hO : Hid (OQ we B (.slice (some ⟨gp, 0, none⟩) len cp) L) := hid (by rw [← hwd]; exact hO.out.keptO fun _ _ => rfl)
            replace hz3 : w.heap.size + 3 ≤ we.heap.size := by rw [← hwd]; exact hz3
            rw [hwd]
            clear hwd
            go_wp2
            go_loopw [12] (fun i wr => ∃ z : Nat, z ≤ k ∧ i = .int .i64 z ∧ Has (lowW w B) wr [] ∧ holds wr w.heap.size (sqc k g) 31 ∧ holds wr (w.heap.size + 1) (zns 10 fun _ => 0) 63 ∧ holds wr (w.heap.size + 1 + 1) (zns 10 (relN C db da z)) 63 ∧ Hid (OQ wr B (.slice (some ⟨gp, 0, none⟩) len cp) L) ∧ w.heap.size + 3 ≤ wr.heap.size) (fun i _ => 20 - (intOf i).toNat)
            case atStart => exact ⟨0, by omega, rfl, hH, hS, hR, by rw [relN_zero]; exact hC, hO, hz3⟩
            case round =>
              clear hH hS hR hC hO hz3
              obtain ⟨z, hzk, rfl, hH, hS, hR, hC, hO, hz3⟩ := hrel
              have cz : wr.cell? ⟨w.heap.size, 0, none⟩ = some (.int .i64 k) := by rw [holds_cell hS, sqc_get0]
              by_cases hz : z < k
              · have hz1 : (z : Int) < k := by omega
                have hz10 : (z : Int) < 10 := by omega
                obtain ⟨dz, hdz⟩ : ∃ q, C z = q := ⟨_, rfl⟩
                have cC : wr.cell? ⟨w.heap.size + 1 + 1, z, none⟩ = some (.int .i64 dz) := by rw [holds_cell hC, zns_get _ _ _ (by omega), relN_at, hdz]
                have fz := holds_frozen hC z
                have HDZ := hid hdz
                clear hdz
                by_cases hzs : dz = db
                · subst hzs
                  have hs := holds_set hC z (.int .i64 da)
                  rw [zns_step 10 (relN C dz da z) (relN C dz da (z + 1)) z da (fun j _ => relN_yes HDZ.out j)] at hs
                  have HS := hid hs
                  clear hs
                  go_wp2
                  go_roundw
                  case rel => exact ⟨z + 1, by omega, by go_num, lowW_has hB ((lowW_below hB hH (by omega)).setCell (by simp; omega) _), holds_other hS _ _ (by simp; omega), holds_other hR _ _ (by simp), HS.out, hid (hO.out.set (fun e => (hT.out _ e).2.2 rfl)), by simp [World.setCell]; omega⟩
                  case measure => simp [intOf]; omega
                · have hzs1 : ¬ (dz : Int) = (db : Int) := by omega
                  go_wp2
                  go_roundw
                  case rel => exact ⟨z + 1, by omega, by go_num, hH, hS, hR, by rw [relN_no (by rw [HDZ.out]; exact hzs)]; exact hC, hO, hz3⟩
                  case measure => simp [intOf]; omega
              · obtain rfl : z = k := by omega
                go_wp2
                clear cz
                obtain ⟨C2, hC2⟩ : ∃ C2, relN C db da z = C2 := ⟨_, rfl⟩
                rw [hC2] at hC HMj HLS
                clear hC2
                go_loopw [1, 13] (fun v i wr => ∃ j : Nat, j ≤ z ∧ i = .int .i64 j ∧ Has (lowW w B) wr [] ∧ holds wr w.heap.size (sqc z g) 31 ∧ holds wr (w.heap.size + 1) (zns 10 fun _ => 0) 63 ∧ holds wr (w.heap.size + 1 + 1) (zns 10 C2) 63 ∧ Hid (OQ wr B v (L ++ imN g a b j)) ∧ Hid (∀ x, v.ownBlock = some x → x ≠ w.heap.size ∧ x ≠ w.heap.size + 1 ∧ x ≠ w.heap.size + 1 + 1) ∧ w.heap.size + 3 ≤ wr.heap.size) (fun _ i _ => 20 - (intOf i).toNat)
                case atStart => exact ⟨0, by omega, rfl, hH, hS, hR, hC, hid (by simpa [imN, HLEN.out] using hO.out), hT, hz3⟩
                case round =>
                  clear hH hS hR hC hO hT hz3
                  obtain ⟨j, hjz, rfl, hH, hS, hR, hC, hO, hT, hz3⟩ := hrel
                  have cz : wr.cell? ⟨w.heap.size, 0, none⟩ = some (.int .i64 z) := by rw [holds_cell hS, sqc_get0]
                  by_cases hj : j < z
                  · have hj1 : (j : Int) < z := by omega
                    have hj10 : (j : Int) < 10 := by omega
                    obtain ⟨pa, hpa⟩ : ∃ q, (g (a * 10 + j)).toNat = q := ⟨_, rfl⟩
                    obtain ⟨pb, hpb⟩ : ∃ q, (g (b * 10 + j)).toNat = q := ⟨_, rfl⟩
                    obtain ⟨qa, hqa⟩ : ∃ q, (g (j * 10 + a)).toNat = q := ⟨_, rfl⟩
                    obtain ⟨qb, hqb⟩ : ∃ q, (g (j * 10 + b)).toNat = q := ⟨_, rfl⟩
                    have HPA := hid hpa
                    have HPB := hid hpb
                    have HQA := hid hqa
                    have HQB := hid hqb
                    have hsuc : Hid (imN g a b (j + 1) = imN g a b j ++ [(pa, pb), (qa, qb)]) := hid (by simp only [imN]; rw [hpa, hpb, hqa, hqb])
                    have hbpa : (pa : Int) < 256 := by rw [← hpa]; have := (g (a * 10 + j)).toNat_lt; omega
                    have hbpb : (pb : Int) < 256 := by rw [← hpb]; have := (g (b * 10 + j)).toNat_lt; omega
                    have hbqa : (qa : Int) < 256 := by rw [← hqa]; have := (g (j * 10 + a)).toNat_lt; omega
                    have hbqb : (qb : Int) < 256 := by rw [← hqb]; have := (g (j * 10 + b)).toNat_lt; omega
                    clear hpa hpb hqa hqb
                    have hLen : Hid ((L ++ imN g a b j).length ≤ 100000) := hid (by rw [List.length_append, imN_len, HLEN.out]; omega)
                    have hOt := hid hO.out.top
                    have hOg : Hid (∀ x, u1.ownBlock = some x → x < wr.heap.size) := hid (fun x hx => (hO.out.top x hx).2)
                    go_wp2
                    clear cz
                    refine wp_region_frame (X := ZV) (fun d x => [(69, bif d 0 then u1 else u69), (70, bif d 1 then .int .i64 a else u70), (71, bif d 2 then .int .i64 j else u71), (72, bif d 3 then .pointer (some ⟨w.heap.size, 1, none⟩) else u72), (73, bif d 4 then .pointer (some ⟨w.heap.size, 1 + a * 10, none⟩) else u73), (74, bif d 5 then .pointer (some ⟨w.heap.size, 1 + a * 10 + j, none⟩) else u74), (75, bif d 6 then .int .u8 pa else u75), (76, bif d 7 then .int .i64 pa else u76), (77, bif d 8 then .int .i64 b else u77), (78, bif d 9 then .int .i64 j else u78), (79, bif d 10 then .pointer (some ⟨w.heap.size, 1, none⟩) else u79), (80, bif d 11 then .pointer (some ⟨w.heap.size, 1 + b * 10, none⟩) else u80), (81, bif d 12 then .pointer (some ⟨w.heap.size, 1 + b * 10 + j, none⟩) else u81), (82, bif d 13 then .int .u8 pb else u82), (83, bif d 14 then .int .i64 pb else u83), (84, bif d 15 then .agg #[.int .i64 (pa : Nat), .int .i64 (pb : Nat)] else u84), (85, bif d 16 then .int .i64 j else u85), (86, bif d 17 then .int .i64 a else u86), (87, bif d 18 then .pointer (some ⟨w.heap.size, 1, none⟩) else u87), (88, bif d 19 then .pointer (some ⟨w.heap.size, 1 + j * 10, none⟩) else u88), (89, bif d 20 then .pointer (some ⟨w.heap.size, 1 + j * 10 + a, none⟩) else u89), (90, bif d 21 then .int .u8 qa else u90), (91, bif d 22 then .int .i64 qa else u91), (92, bif d 23 then .int .i64 j else u92), (93, bif d 24 then .int .i64 b else u93), (94, bif d 25 then .pointer (some ⟨w.heap.size, 1, none⟩) else u94), (95, bif d 26 then .pointer (some ⟨w.heap.size, 1 + j * 10, none⟩) else u95), (96, bif d 27 then .pointer (some ⟨w.heap.size, 1 + j * 10 + b, none⟩) else u96), (97, bif d 28 then .int .u8 qb else u97), (98, bif d 29 then .int .i64 qb else u98), (99, bif d 30 then .agg #[.int .i64 (qa : Nat), .int .i64 (qb : Nat)] else u99), (100, bif d 31 then .slice (some ⟨x.s, 0, none⟩) 2 2 else u100), (101, bif d 32 then x.v else u101), (1, bif d 33 then x.v else u1)])
                      (fun d x w' => Has (lowW w B) w' [] ∧ holds w' w.heap.size (sqc z g) 31 ∧ holds w' (w.heap.size + 1) (zns 10 fun _ => 0) 63 ∧ holds w' (w.heap.size + 1 + 1) (zns 10 C2) 63 ∧ w.heap.size + 3 ≤ w'.heap.size ∧ Hid (∀ x, u1.ownBlock = some x → x < w'.heap.size) ∧ (d 31 = true → holds w' x.s (pcs [(pa, pb), (qa, qb)]).toArray 65 ∧ (∀ y, u1.ownBlock = some y → y ≠ x.s)) ∧ (d 32 = true → Hid (OQ w' B x.v (L ++ imN g a b (j + 1))) ∧ Hid (offN x.v w.heap.size)) ∧ (d 32 = false → Hid (OQ w' B u1 (L ++ imN g a b j))) ∧ (d 32 = true → d 0 = true) ∧ (d 32 = true → d 31 = true) ∧ (d 33 = true → d 32 = true)) (by kernel_rfl) (by kernel_rfl) ?h0_nm ?hs_nm ?hq_nm
                    case h0_nm => exact ⟨⟨0, .bool false⟩, (by simp [lput]), hH.drew, (show _ from hS), (show _ from hR), (show _ from hC), (by simpa using hz3), (by simpa using hOg), (fun h => by cases h), (fun h => by cases h), (fun _ => hid (hO.out.keptO fun _ _ => rfl)), (fun h => by cases h), (fun h => by cases h), (fun h => by cases h)⟩
                    case hs_nm =>
                      refine ⟨?_, ?_, ?_, ?_, ?_, ?_, ?_, ?_, ?_, ?_, ?_, ?_, ?_, ?_, ?_, ?_, ?_, ?_, ?_, ?_, ?_, ?_, ?_, ?_, ?_, ?_, ?_, ?_, ?_, ?_, ?_, ?_, ?_, ?_, trivial⟩
                      all_goals
                        clear hH hS hR hC hz3 hOg hO
                        intro d x w1 hd hn hJ
                        simp only [needs, Region.binds, reduceCtorEq, Bool.false_eq_true, false_implies, true_and, and_true, true_implies, forall_const] at hn
                        simp only [lput, List.set, hn, cond_true]
                        obtain ⟨hH, hS, hR, hC, hz3, hOg, hP, hV, hO, I32_0, I32_31, I33_32⟩ := hJ
                        (try have hP_ := hP (by simp only [hn]))
                        (try have hV_ := hV (by simp only [hn]))
                        (try have hO_ := hO hd)
                        have ca : w1.cell? ⟨w.heap.size, 1 + a * 10 + j, none⟩ = some (.int .u8 pa) := by rw [holds_cell hS, Nat.add_assoc, sqc_get _ _ _ (by omega), HPA.out]
                        have cb : w1.cell? ⟨w.heap.size, 1 + b * 10 + j, none⟩ = some (.int .u8 pb) := by rw [holds_cell hS, Nat.add_assoc, sqc_get _ _ _ (by omega), HPB.out]
                        have cc : w1.cell? ⟨w.heap.size, 1 + j * 10 + a, none⟩ = some (.int .u8 qa) := by rw [holds_cell hS, Nat.add_assoc, sqc_get _ _ _ (by omega), HQA.out]
                        have cd : w1.cell? ⟨w.heap.size, 1 + j * 10 + b, none⟩ = some (.int .u8 qb) := by rw [holds_cell hS, Nat.add_assoc, sqc_get _ _ _ (by omega), HQB.out]
                        (try have z33 : d 33 = false := imp_no I33_32 (by first | exact imp_no I32_0 hd | exact imp_no I32_0 rfl))
                        (try simp only [z33, cond_false])
                        go_wp2_with (first | fail | (refine wpL_build2Z (x := pa) (y := pb) rfl rfl (by rfl) (by rfl) ?_) | (refine wpL_build2Z (x := qa) (y := qb) rfl rfl (by rfl) (by rfl) ?_) | (refine wpL_sliceZ2 (x := pa) (y := pb) (u := qa) (v := qb) rfl (by rfl) (by rfl) (by rfl) ?_; obtain ⟨w2, hw2⟩ : ∃ w2, w1.alloc (.cells #[.int .i64 (pa : Int), .int .i64 (pb : Int), .int .i64 (qa : Int), .int .i64 (qb : Int)] 65) = w2 := ⟨_, rfl⟩; have hSn : holds w2 w1.heap.size (pcs [(pa, pb), (qa, qb)]).toArray 65 := (by rw [← hw2]; exact holds_new _ _ _); replace hH : Has (lowW w B) w2 [] := (by rw [← hw2]; exact hH.alloc _); replace hS : holds w2 w.heap.size (sqc z g) 31 := (by rw [← hw2]; exact holds_alloc hS _); replace hR : holds w2 (w.heap.size + 1) (zns 10 fun _ => 0) 63 := (by rw [← hw2]; exact holds_alloc hR _); replace hC : holds w2 (w.heap.size + 1 + 1) (zns 10 C2) 63 := (by rw [← hw2]; exact holds_alloc hC _); have hs2 : w2.heap.size = w1.heap.size + 1 := (by rw [← hw2]; simp); replace hz3 : w.heap.size + 3 ≤ w2.heap.size := (by omega); have hne : ∀ y, u1.ownBlock = some y → y ≠ w1.heap.size := (fun y hy e => by have := hOg.out y hy; omega); replace hOg : Hid (∀ x, u1.ownBlock = some x → x < w2.heap.size) := hid (fun x hx => by have := hOg.out x hx; omega); replace hV : d 32 = true → Hid (OQ w2 B x.v (L ++ imN g a b (j + 1))) ∧ Hid (offN x.v w.heap.size) := (fun e => ⟨by rw [← hw2]; exact hid ((hV e).1.out.alloc _), (hV e).2⟩); replace hO : d 32 = false → Hid (OQ w2 B u1 (L ++ imN g a b j)) := (fun e => by rw [← hw2]; exact hid ((hO e).out.alloc _)); rw [hw2]; clear hw2) | (refine wpL_appZ (v := u1) (base := B) (m := 2) (gb := x.s) (L := L ++ imN g a b j) rfl (by rfl) [(pa, pb), (qa, qb)] (by rfl) (by rfl) hO_.out hP_.1 rfl (by omega) (by omega) hLen.out (by omega) ?_; intro gz cz2 w2 hq hgr hor hlz; rw [List.append_assoc, ← hsuc.out] at hq; have hs2 := hgr.size; replace hH := hH.grown hgr (fun y hy => by rw [lowW_size hB]; simpa using (hOt.out y hy).1); replace hS := holds_grown hS hgr (fun e => (hT.out _ e).1 rfl); replace hR := holds_grown hR hgr (fun e => (hT.out _ e).2.1 rfl); replace hC := holds_grown hC hgr (fun e => (hT.out _ e).2.2 rfl); have hSa := holds_grown hP_.1 hgr (fun e => hP_.2 _ e rfl); have hTn : Hid (offN (.slice (some ⟨gz, 0, none⟩) ((L ++ imN g a b j).length + 2) cz2) w.heap.size) := hid (fun y hy => own_far hy hor hT.out hz3); replace hz3 : w.heap.size + 3 ≤ w2.heap.size := (by omega); replace hOg : Hid (∀ x, u1.ownBlock = some x → x < w2.heap.size) := hid (fun x hx => by have := hOg.out x hx; omega); have HqV := hid hq; clear hq))
                        first
                          | (have z32 : d 32 = false := (by first | exact imp_no I32_31 hd | exact imp_no I32_31 rfl); refine ⟨⟨w1.heap.size, x.v⟩, ?_, hH, hS, hR, hC, hz3, hOg, (fun _ => ⟨hSn, hne⟩), (fun e => hV (done_ne e (by decide))), (fun e => hO (done_no e)), (by intro e; first | (simp [done]; done) | (have e2 := I32_0 (done_ne e (by decide)); simp [done, e2]; done) | (simp [done, hn]; done)), (by intro e; simp [done]), (by intro e; first | (simp [done]; done) | (have e2 := I33_32 (done_ne e (by decide)); simp [done, e2]; done) | (simp [done, hn]; done))⟩; (simp [lput, done, hn, z32]; done))
                          | (have z33 : d 33 = false := (by first | exact imp_no I33_32 hd | exact imp_no I33_32 rfl); refine ⟨⟨x.s, .slice (some ⟨gz, 0, none⟩) ((L ++ imN g a b j).length + 2) cz2⟩, ?_, hH, hS, hR, hC, hz3, hOg, (fun _ => ⟨hSa, hP_.2⟩), (fun _ => ⟨HqV, hTn⟩), (fun e => by simp [done] at e), (by intro e; simp [done, hn]), (by intro e; simp [done, hn]), (by intro e; simp [done])⟩; (simp [lput, done, hn, z33]; done))
                          | (refine ⟨x, ?_, hH, hS, hR, hC, hz3, hOg, (fun e => hP (done_ne e (by decide))), (fun e => hV (done_ne e (by decide))), (fun e => hO (done_no e)), (by intro e; first | (simp [done]; done) | (have e2 := I32_0 (done_ne e (by decide)); simp [done, e2]; done) | (simp [done, hn]; done)), (by intro e; first | (simp [done]; done) | (have e2 := I32_31 (done_ne e (by decide)); simp [done, e2]; done) | (simp [done, hn]; done)), (by intro e; first | (simp [done]; done) | (have e2 := I33_32 (done_ne e (by decide)); simp [done, e2]; done) | (simp [done, hn]; done))⟩; (simp [lput, done, hn, z33]; done))
                          | (refine ⟨x, ?_, hH, hS, hR, hC, hz3, hOg, (fun e => hP (done_ne e (by decide))), (fun e => hV (done_ne e (by decide))), (fun e => hO (done_no e)), (by intro e; first | (simp [done]; done) | (have e2 := I32_0 (done_ne e (by decide)); simp [done, e2]; done) | (simp [done, hn]; done)), (by intro e; first | (simp [done]; done) | (have e2 := I32_31 (done_ne e (by decide)); simp [done, e2]; done) | (simp [done, hn]; done)), (by intro e; first | (simp [done]; done) | (have e2 := I33_32 (done_ne e (by decide)); simp [done, e2]; done) | (simp [done, hn]; done))⟩; (simp [lput, done, hn]; done))
                          | (refine ⟨?_, hH, hS, hR, hC, hz3, hOg, (fun e => hP (done_ne e (by decide))), (fun e => hV (done_ne e (by decide))), (fun e => hO (done_no e)), (by intro e; first | (simp [done]; done) | (have e2 := I32_0 (done_ne e (by decide)); simp [done, e2]; done) | (simp [done, hn]; done)), (by intro e; first | (simp [done]; done) | (have e2 := I32_31 (done_ne e (by decide)); simp [done, e2]; done) | (simp [done, hn]; done)), (by intro e; first | (simp [done]; done) | (have e2 := I33_32 (done_ne e (by decide)); simp [done, e2]; done) | (simp [done, hn]; done))⟩; (simp [lput, done, hn]; done))
                          | (refine ⟨x, ?_, hH, hS, hR, hC, hz3, hOg, (fun e => hP (done_ne e (by decide))), (fun e => hV (done_ne e (by decide))), (fun e => hO (done_no e)), (by intro e; first | (simp [done]; done) | (have e2 := I32_0 (done_ne e (by decide)); simp [done, e2]; done) | (simp [done, hn]; done)), (by intro e; first | (simp [done]; done) | (have e2 := I32_31 (done_ne e (by decide)); simp [done, e2]; done) | (simp [done, hn]; done)), (by intro e; first | (simp [done]; done) | (have e2 := I33_32 (done_ne e (by decide)); simp [done, e2]; done) | (simp [done, hn]; done))⟩; (simp [lput, done, hn]; rfl))
                          | (refine ⟨?_, hH, hS, hR, hC, hz3, hOg, (fun e => hP (done_ne e (by decide))), (fun e => hV (done_ne e (by decide))), (fun e => hO (done_no e)), (by intro e; first | (simp [done]; done) | (have e2 := I32_0 (done_ne e (by decide)); simp [done, e2]; done) | (simp [done, hn]; done)), (by intro e; first | (simp [done]; done) | (have e2 := I32_31 (done_ne e (by decide)); simp [done, e2]; done) | (simp [done, hn]; done)), (by intro e; first | (simp [done]; done) | (have e2 := I33_32 (done_ne e (by decide)); simp [done, e2]; done) | (simp [done, hn]; done))⟩; (simp [lput, done, hn]; rfl))
                          | (refine ⟨x, ?_, hH, hS, hR, hC, hz3, hOg, (fun e => hP (done_ne e (by decide))), (fun e => hV (done_ne e (by decide))), (fun e => hO (done_no e)), (by intro e; first | (simp [done]; done) | (have e2 := I32_0 (done_ne e (by decide)); simp [done, e2]; done) | (simp [done, hn]; done)), (by intro e; first | (simp [done]; done) | (have e2 := I32_31 (done_ne e (by decide)); simp [done, e2]; done) | (simp [done, hn]; done)), (by intro e; first | (simp [done]; done) | (have e2 := I33_32 (done_ne e (by decide)); simp [done, e2]; done) | (simp [done, hn]; done))⟩; (simp [lput, done]; done))
                          | (refine ⟨?_, hH, hS, hR, hC, hz3, hOg, (fun e => hP (done_ne e (by decide))), (fun e => hV (done_ne e (by decide))), (fun e => hO (done_no e)), (by intro e; first | (simp [done]; done) | (have e2 := I32_0 (done_ne e (by decide)); simp [done, e2]; done) | (simp [done, hn]; done)), (by intro e; first | (simp [done]; done) | (have e2 := I32_31 (done_ne e (by decide)); simp [done, e2]; done) | (simp [done, hn]; done)), (by intro e; first | (simp [done]; done) | (have e2 := I33_32 (done_ne e (by decide)); simp [done, e2]; done) | (simp [done, hn]; done))⟩; (simp [lput, done]; done))
                          | (refine ⟨x, ?_, hH, hS, hR, hC, hz3, hOg, (fun e => hP (done_ne e (by decide))), (fun e => hV (done_ne e (by decide))), (fun e => hO (done_no e)), (by intro e; first | (simp [done]; done) | (have e2 := I32_0 (done_ne e (by decide)); simp [done, e2]; done) | (simp [done, hn]; done)), (by intro e; first | (simp [done]; done) | (have e2 := I32_31 (done_ne e (by decide)); simp [done, e2]; done) | (simp [done, hn]; done)), (by intro e; first | (simp [done]; done) | (have e2 := I33_32 (done_ne e (by decide)); simp [done, e2]; done) | (simp [done, hn]; done))⟩; (simp [lput, done]; rfl))
                          | (refine ⟨?_, hH, hS, hR, hC, hz3, hOg, (fun e => hP (done_ne e (by decide))), (fun e => hV (done_ne e (by decide))), (fun e => hO (done_no e)), (by intro e; first | (simp [done]; done) | (have e2 := I32_0 (done_ne e (by decide)); simp [done, e2]; done) | (simp [done, hn]; done)), (by intro e; first | (simp [done]; done) | (have e2 := I32_31 (done_ne e (by decide)); simp [done, e2]; done) | (simp [done, hn]; done)), (by intro e; first | (simp [done]; done) | (have e2 := I33_32 (done_ne e (by decide)); simp [done, e2]; done) | (simp [done, hn]; done))⟩; (simp [lput, done]; rfl))
                    case hq_nm =>
                      clear hH hS hR hC hz3 hOg hO
                      intro d x w1 hd hJ
                      simp only [allDone, List.length_cons, List.length_nil, Nat.reduceAdd, and_true] at hd
                      obtain ⟨hH, hS, hR, hC, hz3, hOg, hP, hV, hO, I32_0, I32_31, I33_32⟩ := hJ
                      replace hP := hP (by simp only [hd])
                      replace hV := hV (by simp only [hd])
                      clear hO
                      clear I32_0
                      clear I32_31
                      clear I33_32
                      simp only [lput, List.set, hd, cond_true]
                      clear hd
                      go_wp2
                      go_roundw
                      case rel => exact ⟨j + 1, by omega, by go_num, hH, hS, hR, hC, hV.1, hV.2, hz3⟩
                      case measure => simp [intOf]; omega
                  · obtain rfl : j = z := by omega
                    go_wp2
                    obtain ⟨ax, cx, ev⟩ := hO.out.len
                    refine ⟨⟨C2, _, n + 1, by rw [List.length_append, HLEN.out]; omega, by go_num, hH, hS, hR, hC, hO, hT, hz3, HMj⟩, ?_⟩
                    rw [HC.out, HA.out C2 _ hC, ev]
                    have h1 := HLS.out
                    have h2 := imN_len g a b j
                    have h3 := HLEN.out
                    simp only [lenV, intOf, List.length_append]
                    omega
        · obtain rfl : n = L.length := by omega
          obtain ⟨ax, cx, ev⟩ := hO.out.len
          subst ev
          have HDn := hid (fun x y hx hy => hM.out.done HQ.out (x := x) (y := y) hx hy)
          go_wp2_with (first | fail | (refine wpL_loadFull (x := .tmp 5) rfl rfl rfl rowZn hC (zns_size _ _) ?_) | (refine wpL_storeFull (x := .tmp 4) rfl rfl rfl rfl rowZn hR (zns_size _ _) (zns_ok _ _) ?_))
          exact ret_c rfl rfl (holds_row hR) rowZn (zns_size _ _) ⟨C, rfl, HDn.out, below_setRow (lowW_below hB hH (by omega)) (by omega) _⟩
end Go.Proofs.Ytbdcbmennblcdab
namespace Go.Proofs.Ytbdcbmennblcdab
set_option linter.unusedVariables false
set_option linter.unusedSimpArgs false
open Go.RowKit
theorem own_keptB {w w' : World} {base n : Nat} {v : Value} {xs : List Value} {T : TypeId} (h : w.ownsRow base T 1 v n xs) (e : ∀ k, base ≤ k → k < w.heap.size → w'.heap[k]? = w.heap[k]?) : w'.ownsRow base T 1 v n xs := by
  refine ⟨h.1, ?_⟩
  rcases h.2 with hn | ⟨g, cap, cur, rfl, hb, hg, rest⟩
  · exact .inl hn
  · exact .inr ⟨g, cap, cur, rfl, hb, by rw [e g hb (Array.getElem?_eq_some_iff.1 hg).1]; exact hg, rest⟩
theorem own_keptO {w w' : World} {base n : Nat} {v : Value} {xs : List Value} {T : TypeId} (h : w.ownsRow base T 1 v n xs) (e : ∀ k, v.ownBlock = some k → w'.heap[k]? = w.heap[k]?) : w'.ownsRow base T 1 v n xs := by
  refine ⟨h.1, ?_⟩
  rcases h.2 with hn | ⟨g, cap, cur, hv, hb, hg, rest⟩
  · exact .inl hn
  · exact .inr ⟨g, cap, cur, hv, hb, by rw [e g (by rw [hv]; rfl)]; exact hg, rest⟩
theorem OL.set {w : World} {B gb i : Nat} {v u : Value} {l : List Int} (h : OL w B v l) (hne : gb < B) : OL (w.setCell ⟨gb, i, none⟩ u) B v l :=
  own_keptB h fun k hk _ => heap_setCell_other _ _ _ _ (by simp; omega)
/-- The list v of lists is made in the blocks between B and s, gd apart. -/
def LPd (w : World) (B gd s : Nat) (v : Value) (n : Nat) (l : Nat → List Int) : Prop :=
  s ≤ w.heap.size ∧ gd < s ∧ v.ownBlock ≠ some gd ∧ ∃ xs X p q, LPx (lowW w s) B v n xs X p q l ∧ ∀ j, j < n → gd < p j
section
variable {w w' : World} {B gd s n : Nat} {v : Value} {l : Nat → List Int}
theorem LPd.keep (h : LPd w B gd s v n l) (hs : s ≤ w'.heap.size) (e : ∀ k, k < s → k ≠ gd → w'.heap[k]? = w.heap[k]?) : LPd w' B gd s v n l := by
  obtain ⟨h1, h2, h3, xs, X, p, q, hx, hp⟩ := h
  have e2 : ∀ k, k < (lowW w s).heap.size → k ≠ gd → (lowW w' s).heap[k]? = (lowW w s).heap[k]? := fun k hk hne => by
    rw [lowW_size h1] at hk
    rw [lowW_get hk, lowW_get hk]; exact e k hk hne
  refine ⟨hs, h2, h3, xs, X, p, q, ⟨?_, hx.len, hx.at', fun j hj => (hx.inner j hj).kept fun b hb1 _ hb3 => e2 b hb3 (by have := hp j hj; omega), hx.away, hx.sep, hx.lo, fun j hj => ?_⟩, hp⟩
  · refine own_keptO hx.own fun k hk => ?_
    exact e2 k (World.ownsRow.lt hx.own k hk).2 (fun e => h3 (by rw [hk, e]))
  · have := hx.hi j hj
    rw [lowW_size h1] at this
    rw [lowW_size hs]; exact this
theorem LPd.below (h : LPd w B gd s v n l) (hb : Below w.heap.size w w') : LPd w' B gd s v n l := h.keep (Nat.le_trans h.1 hb.size) fun k hk _ => hb.block k (by have := h.1; omega)
theorem LPd.alloc (h : LPd w B gd s v n l) (o : Obj) : LPd (w.alloc o) B gd s v n l := h.keep (by have := h.1; simp; omega) fun k hk _ => heap_alloc_old w o (by have := h.1; omega)
theorem LPd.set (h : LPd w B gd s v n l) (i : Nat) (u : Value) : LPd (w.setCell ⟨gd, i, none⟩ u) B gd s v n l := h.keep (by have := h.1; simp [World.setCell]; omega) fun k _ hk => heap_setCell_other _ _ _ _ (by simpa using hk)
theorem LPd.top (h : LPd w B gd s v n l) : ∀ x, v.ownBlock = some x → B ≤ x ∧ x < s ∧ x ≠ gd := fun x hx => by
  obtain ⟨h1, _, h3, xs, X, p, q, hy, _⟩ := h
  have := World.ownsRow.lt hy.own x hx
  rw [lowW_size h1] at this
  exact ⟨this.1, this.2, fun e => h3 (by rw [hx, e])⟩
/-- All that has been made since stands behind the lists. -/
theorem LPd.up (h : LPd w B gd s v n l) : LPd w B gd w.heap.size v n l := by
  obtain ⟨h1, h2, h3, xs, X, p, q, hx, hp⟩ := h
  have e2 : ∀ k, k < (lowW w s).heap.size → (lowW w w.heap.size).heap[k]? = (lowW w s).heap[k]? := fun k hk => by
    rw [lowW_size h1] at hk
    rw [lowW_get hk, lowW_get (by omega)]
  refine ⟨Nat.le_refl _, by omega, h3, xs, X, p, q, hx.kept ?_ e2, hp⟩
  rw [lowW_size h1, lowW_size (Nat.le_refl _)]; exact h1
theorem LPd.own (h : LPd w B gd s v n l) : ∃ xs, w.ownsRow B 36 1 v n xs ∧ ∀ (x : Value) (g2 cap2 : Nat) (o : Obj) (w2 : World), B ≤ s → IL w s w.heap.size x (l n) → w2.ownsRow B 36 1 (.slice (some ⟨g2, 0, none⟩) (n + 1) cap2) (n + 1) (xs ++ [x]) → (w.alloc o).grownBy w2 v.ownBlock → (v.ownBlock = some g2 ∨ g2 = (w.alloc o).heap.size) → LPd w2 B gd w2.heap.size (.slice (some ⟨g2, 0, none⟩) (n + 1) cap2) (n + 1) l := by
  have hh := h
  obtain ⟨h1, h2, h3, xs, X, p, q, hx, hp⟩ := h
  have hsz : (lowW w s).heap.size = s := lowW_size h1
  refine ⟨xs, own_keptO hx.own fun k hk => ?_, fun x g2 cap2 o w2 hB hI how hgr hor => ?_⟩
  · have := (World.ownsRow.lt hx.own k hk).2
    rw [hsz] at this
    exact (lowW_get this).symm
  · have hb : Below (lowW w s).heap.size (lowW w s) w := ⟨rfl, rfl, rfl, by rw [hsz]; exact h1, fun k hk => by rw [hsz] at hk; exact (lowW_get hk).symm⟩
    have hp2 := hx.push' (x := x) (by rw [hsz]; exact hB) hb (by rw [hsz]; exact hI) how hgr hor
    have hs2 := hgr.size
    simp at hs2
    have e2 : ∀ k, k < w2.heap.size → (lowW w2 w2.heap.size).heap[k]? = w2.heap[k]? := fun k hk => lowW_get hk
    refine ⟨Nat.le_refl _, by omega, fun e => ?_, _, _, _, _, hp2.kept (by rw [lowW_size (Nat.le_refl _)]; exact Nat.le_refl _) e2, fun j hj => ?_⟩
    · have e3 : g2 = gd := by simpa [Value.ownBlock] using e
      rcases hor with e4 | e4
      · exact (hh.top g2 e4).2.2 e3
      · simp at e4; omega
    · show gd < if j = n then (lowW w s).heap.size else p j
      rw [hsz]
      by_cases c : j = n
      · rw [if_pos c]; exact h2
      · rw [if_neg c]; exact hp j (by omega)
theorem LPd.done (h : LPd w B gd s v n l) : LP w B v n l := by
  obtain ⟨h1, h2, h3, xs, X, p, q, hx, hp⟩ := h
  have hsz : (lowW w s).heap.size = s := lowW_size h1
  exact ⟨xs, X, p, q, hx.kept (by rw [hsz]; exact h1) fun k hk => by rw [hsz] at hk; exact (lowW_get hk).symm⟩
theorem LPd.start {g1 : Nat} (hB : B = g1) (hg : holds w g1 #[] 36) (hne : g1 < gd) (hs : gd < s) (hs2 : s ≤ w.heap.size) : LPd w B gd s (.slice (some ⟨g1, 0, none⟩) 0 0) 0 l := by
  subst hB
  have hsz : (lowW w s).heap.size = s := lowW_size hs2
  refine ⟨hs2, hs, by simp [Value.ownBlock]; omega, [], fun _ => .bool false, fun _ => 0, fun _ => 0, ⟨⟨rfl, .inr ⟨B, 0, #[], rfl, Nat.le_refl _, ?_, Nat.le_refl _, by unfold maxLen; omega, rfl, rfl⟩⟩, rfl, fun j hj => by omega, fun j hj => by omega, fun b _ j hj => by omega, fun i j _ hj => by omega, fun j hj => by omega, fun j hj => by omega⟩, fun j hj => by omega⟩
  rw [lowW_get (by omega)]; exact hg
end
end Go.Proofs.Ytbdcbmennblcdab
namespace Go.Proofs.Ytbdcbmennblcdab
set_option linter.unusedVariables false
set_option linter.unusedSimpArgs false
open Go.RowKit
set_option maxRecDepth 100000 in
set_option maxHeartbeats 8000000 in
theorem l06Told_any (N : Nat) (C : Nat → Nat) (w : World) (h1 : 1 ≤ N) (h10 : N ≤ 10) :
    Calls Try.prog 53 #[.agg (zns 10 C), .int .i64 N] w (GotLP (cntR C N) (toldL C N) w) := by
  have hN10 : (N : Int) ≤ 10 := by omega
  have hH := Has.start1 w (zns 10 C) 63
  go_enter Try.func53, Try.ntmps53
  go_wp2_with (first | fail | (refine wpL_allocN (o := ⟨some 6, _, _, _, _, _⟩) rfl rfl zeroBo ?_; intro gd w4 hgd hl4 hb; have hlo : w.heap.size + 2 ≤ gd := (by simpa using hl4); have hO1 : holds w4 (w.heap.size + 1) #[] 36 := holds_below (by have := holds_new (w.alloc (.cells (zns 10 C) 63)) #[] 36; simpa using this) hb (by simp); replace hH := (hH.alloc (.cells #[] 36)).call' hb; clear hb hl4) | (refine wpL_build rfl rfl builtBo ?_) | (refine wpL_storeN (x := .tmp 6) rfl rfl rfl rfl rowBo hgd (bls_size _ _) (bls_ok _ _) ?_; intro w5 hz hOo hT; replace hgd := hz; replace hH := hT _ _ hH (by simp; omega); replace hO1 := hOo _ _ _ (by omega) hO1; clear hz hOo hT))
  obtain ⟨B, hB⟩ : ∃ B, w.heap.size + 1 = B := ⟨_, rfl⟩
  have HP0 := hid (LPd.start (l := toldL C N) hB.symm hO1 (by omega) (holds_lt hgd) (Nat.le_refl _))
  rw [hB] at HP0 ⊢
  have HBq := hid hB
  have hlo' : B + 1 ≤ gd := by omega
  clear hO1
  go_loopw [5, 7] (fun v i wr => ∃ x : Nat, x ≤ N ∧ i = .int .i64 x ∧ Has w wr [(zns 10 C, 63)] ∧ holds wr gd (bls 10 (doneF C N x)) 74 ∧ Hid (LPd wr B gd wr.heap.size v (cntR C x) (toldL C N))) (fun _ i _ => 20 - (intOf i).toNat)
  case atStart => exact ⟨0, by omega, rfl, hH, by rw [doneF_zero]; exact hgd, HP0⟩
  case round =>
    clear hH hgd HP0
    obtain ⟨x, hx, rfl, hH, hgd, HP⟩ := hrel
    by_cases hlt : x < N
    · have hx1 : (x : Int) < N := by omega
      have hx10 : (x : Int) < 10 := by omega
      have hgl := holds_lt hgd
      have hcle := cntR_le (C := C) x
      obtain ⟨s, hs⟩ : ∃ s, wr.heap.size = s := ⟨_, rfl⟩
      have HS := hid hs
      rw [hs] at HP hgl
      have HTop := hid HP.out.top
      cases hrep : isRep C x with
      | false =>
        have HRp := hid hrep
        have hdx : doneF C N x x = true := by rw [doneF_self hlt, hrep]; rfl
        have HD := hid hdx
        have HE1 := hid (doneF_skip (n := N) hrep)
        have HE2 := hid (cntR_no hrep)
        clear hrep hdx
        go_wp2
        have cdx : (wr.alloc (.cells #[] 2)).cell? ⟨gd, x, none⟩ = some (.bool true) := by rw [holds_cell (holds_alloc hgd _), bls_get _ _ _ (by omega), HD.out]
        go_loop [8, 9] (fun v y => v = .slice (some ⟨s, 0, none⟩) 0 0 ∧ y = .int .i64 x) (fun _ _ => 0)
        case atStart => exact ⟨rfl, rfl⟩
        case round =>
          obtain ⟨rfl, rfl⟩ := hrel
          go_wp2
          go_loop [10] (fun y => y = .int .i64 0) (fun _ => 0)
          case atStart => rfl
          case round =>
            subst hrel
            go_wp2
            go_roundw
            case rel => exact ⟨x + 1, by omega, by go_num, hH.alloc _, by rw [HE1.out]; exact holds_alloc hgd _, by rw [HE2.out]; exact hid (HP.out.alloc _).up⟩
            case measure => simp [intOf]; omega
      | true =>
        have HRp := hid hrep
        have hdx : doneF C N x x = false := by rw [doneF_self hlt, hrep]; rfl
        have HD := hid hdx
        have HE2 := hid (cntR_yes hrep)
        have HRO := hid (repOf_cnt hlt hrep)
        have HST := hid (ownL_start (C := C) x)
        have HOD := hid (ownL_done (n := N) hrep)
        clear hrep hdx
        go_wp2
        go_loopw [8, 9] (fun v8 i wr => ∃ y : Nat, x ≤ y ∧ y ≤ N ∧ i = .int .i64 y ∧ Has w wr [(zns 10 C, 63)] ∧ holds wr gd (bls 10 (doneF C N x)) 74 ∧ Hid (LPd wr B gd s u5 (cntR C x) (toldL C N)) ∧ Hid (OL wr s v8 (ownL C x y)) ∧ s ≤ wr.heap.size) (fun _ i _ => 20 - (intOf i).toNat)
        case atStart => exact ⟨x, by omega, by omega, rfl, hH.alloc _, holds_alloc hgd _, hid (HP.out.alloc _), hid (by rw [HST.out]; exact OL.fresh _ (by omega) (by omega)), by simp; omega⟩
        case round =>
          clear hH hgd HP
          obtain ⟨y, hxy, hy, rfl, hH, hgd, HP, HO, hsz⟩ := hrel
          have cdx : wr.cell? ⟨gd, x, none⟩ = some (.bool false) := by rw [holds_cell hgd, bls_get _ _ _ (by omega), HD.out]
          by_cases hlt2 : y < N
          · have hy1 : (y : Int) < N := by omega
            have hy10 : (y : Int) < 10 := by omega
            have cy : wr.cell? ⟨w.heap.size, y, none⟩ = some (.int .i64 (C y)) := by rw [hH.c0, zns_get _ _ _ (by omega)]
            have cx : wr.cell? ⟨w.heap.size, x, none⟩ = some (.int .i64 (C x)) := by rw [hH.c0, zns_get _ _ _ (by omega)]
            by_cases he : C y = C x
            · have he' : (C y : Int) = (C x : Int) := by omega
              have HE := hid (show ownL C x (y + 1) = ownL C x y ++ [(y : Int)] from selL_yes (by simp [hxy, he]))
              have hlen : (ownL C x y).length ≤ y := selL_len _ _
              clear he
              go_wp2
              go_quiet (fail)
              obtain ⟨wd, hwd⟩ : ∃ q, wr.drewN nq = q := ⟨_, rfl⟩
              replace hH : Has w wd [(zns 10 C, 63)] := by rw [← hwd]; exact hH.drewN _
              replace hgd : holds wd gd (bls 10 (doneF C N x)) 74 := by rw [← hwd]; exact hgd
              replace HP : Hid (LPd wd B gd s u5 (cntR C x) (toldL C N)) := hid (by rw [← hwd]; exact HP.out.keep (by simpa using hsz) fun _ _ _ => rfl)
              replace HO : Hid (OL wd s u8 (ownL C x y)) := hid (by rw [← hwd]; exact own_keptO HO.out fun _ _ => rfl)
              replace hsz : s ≤ wd.heap.size := by rw [← hwd]; exact hsz
              rw [hwd]
              clear hwd cdx cx cy
              go_wp2_with (first | fail | (refine wpL_appI (v := u8) (n := (ownL C x y).length) (base := s) (z := (y : Int)) rfl (by rfl) (by rfl) (by rfl) (World.ownsRow.alloc HO.out _) (by simp) (by omega) (by simp; omega) ?_; intro r cap w2 how hg hor hlt3; have hO2 := hid (OL.add how); replace hH := (hH.alloc _).grown hg (fun x hx => by have := (World.ownsRow.lt HO.out x hx).1; simp; omega); replace hgd := holds_grown (holds_alloc hgd _) hg (fun e => by have := (World.ownsRow.lt HO.out gd e).1; omega); have hgs := hg.size; simp at hgs; replace HP := hid ((HP.out.alloc (.cells #[.int .i64 (y : Int)] 2)).keep (w' := w2) (by omega) (fun k hk _ => hg.block k (by simp; omega) (fun e => by have := (World.ownsRow.lt HO.out k e.symm).1; omega))); clear how hg hor hlt3))
              go_roundw
              case rel => exact ⟨y + 1, by omega, by omega, by go_num, hH, hgd, HP, by rw [HE.out]; exact hO2, by omega⟩
              case measure => simp [intOf]; omega
            · have he' : ¬ (C y : Int) = (C x : Int) := by omega
              have HE := hid (show ownL C x (y + 1) = ownL C x y from selL_no (by simp [he]))
              clear he
              go_wp2
              go_quiet (fail)
              go_wp2
              go_roundw
              case rel => exact ⟨y + 1, by omega, by omega, by go_num, hH.drewN _, hgd, hid (HP.out.keep (by simpa using hsz) fun _ _ _ => rfl), hid (by rw [HE.out]; exact own_keptO HO.out fun _ _ => rfl), by simpa using hsz⟩
              case measure => simp [intOf]; omega
          · obtain rfl : y = N := by omega
            go_wp2
            rw [HOD.out] at HO
            obtain ⟨m, hm⟩ : ∃ m, (clsL C y x).length = m := ⟨_, rfl⟩
            have hm0 : 0 < m := by rw [← hm]; exact clsL_pos hlt
            have hm10 : m ≤ y := by rw [← hm]; exact clsL_len
            have HML := hid hm
            obtain ⟨g8, c8, ev8, hB8, hR8⟩ : ∃ g c, u8 = .slice (some ⟨g, 0, none⟩) m c ∧ s ≤ g ∧ Row wr g m (fun i => (clsL C y x).getD i 0) := by
              rcases IL.of_own HO.out with ⟨_, h0⟩ | ⟨g, cap, hv, h3, _, hr⟩
              · rw [h0] at hm; simp at hm; omega
              · exact ⟨g, cap, by rw [hv, hm], h3, by rw [← hm]; exact hr⟩
            have HR8 := hid hR8
            subst ev8
            clear hm hR8
            go_loopw [10] (fun i wr => ∃ i0 : Nat, i0 ≤ m ∧ i = .int .i64 i0 ∧ Has w wr [(zns 10 C, 63)] ∧ holds wr gd (bls 10 (strF C y x i0)) 74 ∧ Hid (LPd wr B gd s u5 (cntR C x) (toldL C y)) ∧ Hid (Row wr g8 m (fun i => (clsL C y x).getD i 0)) ∧ Hid (OL wr s (.slice (some ⟨g8, 0, none⟩) m c8) (clsL C y x)) ∧ s ≤ wr.heap.size) (fun i _ => 20 - (intOf i).toNat)
            case atStart => exact ⟨0, by omega, rfl, hH, by rw [strF_zero]; exact hgd, HP, HR8, HO, hsz⟩
            case round =>
              clear hH hgd HP HR8 HO hsz
              obtain ⟨i0, hi, rfl, hH, hgd, HP, HR8, HO, hsz⟩ := hrel
              by_cases hi2 : i0 < m
              · have hi1 : (i0 : Int) < m := by omega
                obtain ⟨u, hu, hue⟩ := clsL_lt (C := C) (n := y) (x := x) (i := i0) (by rw [HML.out]; exact hi2)
                have c8' := HR8.out.cell hi2
                rw [hue] at c8'
                have HU := hid hue
                clear hue
                have hu10 : (u : Int) < 10 := by omega
                have fu := holds_frozen hgd u
                obtain ⟨vb, hvb⟩ : ∃ b, wr.cell? ⟨gd, u, none⟩ = some b := ⟨_, by rw [holds_cell hgd, bls_get _ _ _ (by omega)]⟩
                go_wp2
                have hgd2 := holds_set hgd u (.bool true)
                rw [bls_step 10 _ (strF C y x (i0 + 1)) u true (fun j _ => strF_step HU.out j)] at hgd2
                go_roundw
                case rel => exact ⟨i0 + 1, by omega, by go_num, hH.setCellAbove (by simp; have := HBq.out; omega) _ _, hgd2, hid (HP.out.set _ _), hid (HR8.out.setOther (by omega)), hid (HO.out.set hgl), by simp [World.setCell]; omega⟩
                case measure => simp [intOf]; omega
              · obtain rfl : i0 = m := by omega
                have hm1 : (i0 : Int) > 0 := by omega
                have hsd := strF_done (C := C) (n := y) (x := x)
                rw [HML.out] at hsd
                rw [hsd] at hgd
                clear hsd
                obtain ⟨xs, howx, hpush⟩ := HP.out.own
                have HOX := hid howx
                have HPU := hid hpush
                have HIL := hid (IL.of_own HO.out)
                have HTx := hid (show toldL C y (cntR C x) = clsL C y x by unfold toldL; rw [HRO.out])
                clear howx hpush
                go_wp2_with (first | fail | (refine wpL_appS (v := u5) (n := cntR C x) (base := B) (xs := xs) (p := some ⟨g8, 0, none⟩) (l := i0) (k := c8) rfl (by rfl) (by rfl) (by rfl) (World.ownsRow.alloc HOX.out _) (by simp) (by omega) (by simp; omega) ?_; intro r cap w2 how hgr hor hlt3; have HP3 := hid (HPU.out _ _ _ _ _ (by omega) (by rw [HTx.out]; exact HIL.out) how hgr hor); replace hH := (hH.alloc _).grown hgr (fun x hx => by have := HTop.out x hx; simp; have := HBq.out; omega); replace hgd := holds_grown (holds_alloc hgd _) hgr (fun e => (HTop.out gd e).2.2 rfl); clear how hgr hor hlt3))
                go_roundw
                case rel => exact ⟨x + 1, by omega, by go_num, hH, hgd, by rw [HE2.out]; exact HP3⟩
                case measure => simp [intOf]; omega
    · obtain rfl : x = N := by omega
      go_wp2
      go_ret
      exact ⟨_, rfl, hH.below, HP.out.done.lower (by have := HBq.out; omega)⟩
end Go.Proofs.Ytbdcbmennblcdab
namespace Go.Proofs.Ytbdcbmennblcdab
set_option linter.unusedVariables false
set_option linter.unusedSimpArgs false
open Go.RowKit
theorem cgMin_zero {N m : Nat} {M : Nat → Nat → Nat} {I : Nat → Nat → Prop} {x : Nat} (hx : x < N) : cgMin N m M I x = 0 ↔ Cgr N m M I x 0 := by
  unfold cgMin
  rw [dif_pos hx]
  obtain ⟨h1, h2, h3⟩ := Classical.choose_spec (least (fun y => Cgr N m M I x y) x (cgr_refl hx))
  generalize Classical.choose (least (fun y => Cgr N m M I x y) x (cgr_refl hx)) = c at h1 h2 h3
  constructor
  · intro e; rw [e] at h2; exact h2
  · intro h
    rcases Nat.eq_zero_or_pos c with e | e
    · exact e
    · exact absurd h (h3 0 e)
theorem cgD_zero {N m : Nat} {M : Nat → Nat → Nat} {I : Nat → Nat → Prop} {x : Nat} (h10 : N ≤ 10) (hx : x < N) : (cgD N m M I x == 0) = true ↔ Cgr N m M I x 0 := by
  have hl := cgMin_lt (N := N) (m := m) (M := M) (I := I) hx
  rw [← cgMin_zero hx, beq_iff_eq]
  unfold cgD
  constructor
  · intro e
    have := congrArg UInt8.toNat e
    simp at this
    omega
  · intro e; rw [e]; rfl
theorem Cgr.same {N m : Nat} {M : Nat → Nat → Nat} {I J : Nat → Nat → Prop} {x y : Nat} (h : ∀ a b, I a b ↔ J a b) : Cgr N m M I x y ↔ Cgr N m M J x y := by
  have e : I = J := by funext a b; exact propext (h a b)
  rw [e]
/-- The pairs of 0 with the elements of a list are those with the elements of its set. -/
theorem stI_set {f : Nat → Int} {N n : Nat} (hok : ∀ i, i < n → OkAt f N i) (h10 : N ≤ 10) (a b : Nat) : StI 0 (setY (inL f n)) (setN (inL f n)) a b ↔ StI 0 (fun i => (f i).toNat) n a b := by
  unfold StI
  constructor
  · rintro ⟨ha, i, hi, rfl⟩
    refine ⟨ha, ?_⟩
    obtain ⟨j, h1, h2, h3⟩ := selL_in (p := inL f n) hi
    obtain ⟨i2, h4, h5⟩ := inL_iff.1 h2
    refine ⟨i2, h4, ?_⟩
    show ((selL (inL f n) 10).getD i 0).toNat = (f i2).toNat
    rw [h3, h5]
  · rintro ⟨ha, i, hi, rfl⟩
    refine ⟨ha, ?_⟩
    have h0 := (hok i hi).1
    have h1 := (hok i hi).2.1
    have hin : inL f n (f i).toNat = true := inL_iff.2 ⟨i, hi, by omega⟩
    obtain ⟨i2, h2, h3⟩ := selL_at (p := inL f n) (k := 10) (j := (f i).toNat) (by omega) hin
    refine ⟨i2, h2, ?_⟩
    show (f i).toNat = ((selL (inL f n) 10).getD i2 0).toNat
    rw [h3, Int.toNat_natCast]
theorem told_nc {g : Nat → UInt8} {f : Nat → Int} {N n : Nat} {C : Nat → Nat} (h1 : 1 ≤ N) (h10 : N ≤ 10) (hok : ∀ i, i < n → OkAt f N i) (hC : ∀ x y, x < N → y < N → (C x = C y ↔ Cgr N (N + N) (mapF (rcF g N)) (StI 0 (fun i => (f i).toNat) n) x y)) : toldL C N 0 = selL (ncF g N (inL f n)) 10 := by
  rw [toldL_zero (by omega)]
  have hout : ∀ i, N ≤ i → ncF g N (inL f n) i = false := fun i hi => by
    unfold ncF
    rw [if_neg (by omega)]
    exact inL_out hok hi
  rw [selL_up hout h10]
  unfold clsL
  refine selL_congr fun i hi => ?_
  have h : decide (C i = C 0) = true ↔ ncF g N (inL f n) i = true := by
    rw [decide_eq_true_eq, hC i 0 hi (by omega)]
    unfold ncF
    rw [if_pos hi, cgD_zero h10 hi]
    exact Cgr.same fun a b => (stI_set hok h10 a b).symm
  cases h2 : decide (C i = C 0) <;> cases h3 : ncF g N (inL f n) i <;> simp_all
end Go.Proofs.Ytbdcbmennblcdab
namespace Go.Proofs.Ytbdcbmennblcdab
set_option linter.unusedVariables false
set_option linter.unusedSimpArgs false
open Go.RowKit
/-- What a function hands back that makes a list alone. -/
def GotI (l : List Int) (w : World) (e : Ending) (w' : World) : Prop := ∃ v, e = .returned v ∧ Below w.heap.size w w' ∧ IL w' w.heap.size w'.heap.size v l
/-- The first of the lists. -/
theorem LP.first {w : World} {B n : Nat} {v : Value} {l : Nat → List Int} (h : LP w B v n l) (hn : 0 < n) : ∃ bo c x, v = .slice (some ⟨bo, 0, none⟩) n c ∧ w.cell? ⟨bo, 0, none⟩ = some x ∧ IL w B w.heap.size x (l 0) := by
  rcases h.done with ⟨_, h0⟩ | ⟨bo, c, X, p, q, e, hl⟩
  · omega
  · obtain ⟨cs, h1, h2⟩ := hl.outer
    exact ⟨bo, c, X 0, e, by rw [holds_cell h1]; exact h2 0 hn, ((hl.inner 0 hn).lower (hl.plo 0 hn)).upper (hl.qhi 0 hn)⟩
structure YV where
  C : Nat → Nat
  bo : Nat
  c : Nat
  v : Value
set_option maxRecDepth 100000 in
set_option maxHeartbeats 4000000 in
theorem l06Closure_any (N b n c : Nat) (g : Nat → UInt8) (f : Nat → Int) (w : World) (hq : IsSq N g) (hR : Row w b n f) (hok : ∀ i, i < n → OkAt f N i) :
    Calls Try.prog 63 #[.agg (sqc N g), .slice (some ⟨b, 0, none⟩) n c] w (GotI (selL (ncF g N (inL f n)) 10) w) := by
  have h1 := hq.lo
  have h10 := hq.hi
  have hn := ok_len hok
  have HQ := hid hq
  have HO := hid hok
  have HI : Hid (∀ i, i < n → (f i).toNat < N) := hid (fun i hi => by have := (hok i hi).1; have := (hok i hi).2.1; omega)
  have HTN := hid (fun (C : Nat → Nat) hC => told_nc (g := g) (C := C) h1 h10 hok hC)
  have HRb := hR.lt
  clear hq hok
  have hn10 : (n : Int) ≤ 10 := by omega
  have hH := Has.start1 w (sqc N g) 31
  obtain ⟨S, hS⟩ : ∃ S, w.heap.size + 1 = S := ⟨_, rfl⟩
  have HS := hid hS
  replace hR := hid (hR.alloc (.cells (sqc N g) 31))
  go_enter Try.func63, Try.ntmps63
  go_wp2
  go_loopw [5, 6] (fun v i wr => ∃ k : Nat, k ≤ n ∧ i = .int .i64 k ∧ Has w wr [(sqc N g, 31)] ∧ Hid (Row wr b n f) ∧ Hid (OQ wr S v (startL 0 (fun i => (f i).toNat) k))) (fun _ i _ => 20 - (intOf i).toNat)
  case atStart => exact ⟨0, by omega, rfl, hH.alloc _, hid (hR.out.alloc _), hid (OQ.fresh _ (by simp; omega) (by simp; omega))⟩
  case round =>
    clear hH hR
    obtain ⟨k, hk, rfl, hH, hR, hO⟩ := hrel
    have hsz := hH.size
    simp only [List.length_cons, List.length_nil] at hsz
    by_cases hlt : k < n
    · have hk1 : (k : Int) < n := by omega
      have hz0 := HI.out k hlt
      have cl := hR.out.cell hlt
      have hf0 := (HO.out k hlt).1
      have HSS := hid (startL_succ 0 (fun i => (f i).toNat) k)
      obtain ⟨z, hz⟩ : ∃ z : Nat, f k = z := ⟨(f k).toNat, by omega⟩
      have HZ := hid (show (f k).toNat = z by rw [hz]; simp)
      rw [hz] at cl hf0
      clear hz
      have HT := hid hO.out.top
      have hLn : Hid ((startL 0 (fun i => (f i).toNat) k).length ≤ 100000) := hid (by rw [startL_len]; omega)
      go_wp2_with (first | fail | (refine wpL_build2Z (x := ((0 : Nat) : Int)) (y := (z : Int)) rfl rfl (by rfl) (by rfl) ?_) | (refine wpL_sliceZ1 (x := ((0 : Nat) : Int)) (y := (z : Int)) rfl (by rfl) (by rfl) ?_) | (refine wpL_appZ (v := u5) (base := S) (m := 1) (gb := wr.heap.size) (L := startL 0 (fun i => (f i).toNat) k) rfl (by rfl) [(0, z)] (by rfl) (by rfl) (hO.out.alloc _) (holds_new _ _ _) rfl (by omega) (by omega) hLn.out (by simp; omega) ?_; intro gz cz w2 hq2 hgr hor hlz; have HQ2 := hid hq2; replace hH := (hH.alloc _).grown hgr (fun y hy => by have := (HT.out y hy).1; simp; omega); have HRN := hid ((hR.out.alloc (.cells #[.int .i64 ((0 : Nat) : Int), .int .i64 (z : Int)] 65)).block (hgr.block b (by have := hR.out.lt; simp; omega) (fun e => by have := (HT.out b e.symm).1; omega))); clear hq2 hgr hor hlz))
      go_roundw
      case rel => exact ⟨k + 1, by omega, by go_num, hH, HRN, hid (by have := HQ2.out; have h3 := HSS.out; simp only [HZ.out] at h3; rw [← h3] at this; exact this)⟩
      case measure => simp [intOf]; omega
    · obtain rfl : k = n := by omega
      have hL2 : Hid (∀ p, p ∈ startL 0 (fun i => (f i).toNat) k → p.1 < N ∧ p.2 < N) := hid (fun p hp => by
        obtain ⟨a, b⟩ := p
        obtain ⟨rfl, i, hi, rfl⟩ := startL_mem.2 hp
        exact ⟨by show 0 < N; omega, HI.out i hi⟩)
      have HM := hid (fun (C : Nat → Nat) => (show 0 < cntR C N from cntR_pos (by omega)))
      obtain ⟨F, hF⟩ : ∃ F, (fun i => (f i).toNat) = F := ⟨_, rfl⟩
      rw [hF] at HTN hL2 hO
      clear hF hR HI HO HRb
      go_wp2
      refine wp_region_frame (X := YV) (fun d x => [(22, bif d 0 then .agg (sqc N g) else undef), (23, bif d 1 then u5 else undef), (24, bif d 2 then .agg (zns 10 x.C) else undef), (25, bif d 3 then .pointer (some ⟨w.heap.size, 0, none⟩) else undef), (26, bif d 4 then .int .i64 N else undef), (27, bif d 5 then .slice (some ⟨x.bo, 0, none⟩) (cntR x.C N) x.c else undef), (28, bif d 6 then .pointer (some ⟨x.bo, 0, none⟩) else undef), (29, bif d 7 then x.v else undef), (4, bif d 8 then x.v else .slice none 0 0)])
        (fun d x w' => Has w w' [(sqc N g, 31)] ∧ (d 2 = false → Hid (OQ w' S u5 (startL 0 F k))) ∧ (d 2 = true → Hid (∀ a b, a < N → b < N → (x.C a = x.C b ↔ Cgr N (N + N) (mapF (rcF g N)) (StI 0 F k) a b))) ∧ (d 5 = true → w'.cell? ⟨x.bo, 0, none⟩ = some x.v ∧ Hid (IL w' S w'.heap.size x.v (toldL x.C N 0))) ∧ (d 2 = true → d 0 = true) ∧ (d 2 = true → d 1 = true) ∧ (d 5 = true → d 2 = true) ∧ (d 6 = true → d 5 = true) ∧ (d 7 = true → d 6 = true) ∧ (d 8 = true → d 7 = true)) (by kernel_rfl) (by kernel_rfl) ?h0_nc ?hs_nc ?hq_nc
      case h0_nc => exact ⟨⟨fun _ => 0, 0, 0, .bool false⟩, (by simp [lput]), hH.drew, (fun _ => hid (hO.out.keptO fun _ _ => rfl)), (fun h => by cases h), (fun h => by cases h), (fun h => by cases h), (fun h => by cases h), (fun h => by cases h), (fun h => by cases h), (fun h => by cases h), (fun h => by cases h)⟩
      case hs_nc =>
        refine ⟨?_, ?_, ?_, ?_, ?_, ?_, ?_, ?_, ?_, trivial⟩
        all_goals
          clear hH hO
          intro d x w1 hd hn hJ
          simp only [needs, Region.binds, reduceCtorEq, Bool.false_eq_true, false_implies, true_and, and_true, true_implies, forall_const] at hn
          simp only [lput, List.set, hn, cond_true]
          obtain ⟨hH, hO, hC, hL, I2_0, I2_1, I5_2, I6_5, I7_6, I8_7⟩ := hJ
          (try have hC_ := hC (by simp only [hn]))
          (try have hL_ := hL (by simp only [hn]))
          (try have hO_ := hO hd)
          have c0 := hH.c0 0
          rw [sqc_get0] at c0
          have zz := hH.size
          simp only [List.length_cons, List.length_nil] at zz
          (try have cL := (hL (I6_5 (by simp only [hn]))).1)
          have hcn : 0 < cntR x.C N := HM.out x.C
          have hcn2 : (0 : Int) < (cntR x.C N : Int) := by omega
          (try have y5 : d 5 = true := (by first | (simp only [hn]; done) | exact I6_5 (by simp only [hn]) | exact I6_5 (I7_6 (by simp only [hn]))))
          (try have y2 := I5_2 y5)
          (try have y0 := I2_0 y2)
          (try have y1 := I2_1 y2)
          (try have y6 : d 6 = true := (by first | (simp only [hn]; done) | exact I7_6 (by simp only [hn])))
          go_wp2_with (first | fail | (refine wpL_loadFull rfl rfl rfl rowSq hH.h0 (sqc_size _ _) ?_) | (go_at_call 54; have z5 := imp_no I5_2 hd; refine (l06Classes_any N S g (StI 0 F k) (startL 0 F k) u5 _ HQ.out hL2.out (fun a b => startL_mem) (by rw [startL_len]; omega) (by omega) hO_.out).mono ?_; rintro e w3 ⟨C, rfl, hC3, hb⟩; have HC3 := hid hC3; replace hH := hH.call hb (by simp; omega); clear hC3 hb) | (go_at_call 53; have z6 := imp_no I6_5 hd; refine (l06Told_any N x.C _ h1 h10).mono ?_; rintro e w3 ⟨v3, rfl, hb, hLP⟩; obtain ⟨bo, cc, y, rfl, hcy, hIL⟩ := hLP.first (cntR_pos (by omega)); have HIL := hid (hIL.lower (lo' := S) (by omega)); replace hH := hH.call' hb; clear hb hLP hIL))
          first
            | (have z6 := imp_no I6_5 z5; have z7 := imp_no I7_6 z6; have z8 := imp_no I8_7 z7; refine ⟨{ x with C := C }, ?_, hH, (fun e => by simp [done] at e), (fun _ => HC3), (fun e => by simp [done, z5] at e), (by intro e; simp [done, hn]), (by intro e; simp [done, hn]), (by intro e; simp [done]), (by intro e; simp [done, z6] at e), (by intro e; simp [done, z7] at e), (by intro e; simp [done, z8] at e)⟩; (simp [lput, done, hn, z5, z6, z7, z8]; done))
            | (have z7 := imp_no I7_6 z6; have z8 := imp_no I8_7 z7; have y2 : d 2 = true := (by simp only [hn]); have y0 := I2_0 y2; have y1 := I2_1 y2; refine ⟨{ x with bo := bo, c := cc, v := y }, ?_, hH, (fun e => by simp [done, hn] at e), (fun e => hC (done_ne e (by decide))), (fun _ => ⟨hcy, HIL⟩), (by intro e; first | (simp [done]; done) | (have e2 := I2_0 (done_ne e (by decide)); simp [done, e2]; done) | (simp [done, hn]; done)), (by intro e; first | (simp [done]; done) | (have e2 := I2_1 (done_ne e (by decide)); simp [done, e2]; done) | (simp [done, hn]; done)), (by intro e; simp [done, hn]), (by intro e; simp [done]), (by intro e; simp [done, z7] at e), (by intro e; simp [done, z8] at e)⟩; (simp [lput, done, hn, z6, z7, z8, y0, y1]; done))
            | (refine ⟨x, ?_, hH, (fun e => hO (done_no e)), (fun e => hC (done_ne e (by decide))), (fun e => hL (done_ne e (by decide))), (by intro e; first | (simp [done]; done) | (have e2 := I2_0 (done_ne e (by decide)); simp [done, e2]; done) | (simp [done, hn]; done)), (by intro e; first | (simp [done]; done) | (have e2 := I2_1 (done_ne e (by decide)); simp [done, e2]; done) | (simp [done, hn]; done)), (by intro e; first | (simp [done]; done) | (have e2 := I5_2 (done_ne e (by decide)); simp [done, e2]; done) | (simp [done, hn]; done)), (by intro e; first | (simp [done]; done) | (have e2 := I6_5 (done_ne e (by decide)); simp [done, e2]; done) | (simp [done, hn]; done)), (by intro e; first | (simp [done]; done) | (have e2 := I7_6 (done_ne e (by decide)); simp [done, e2]; done) | (simp [done, hn]; done)), (by intro e; first | (simp [done]; done) | (have e2 := I8_7 (done_ne e (by decide)); simp [done, e2]; done) | (simp [done, hn]; done))⟩; (first | (simp [lput, done, hn, y0, y1, y2, y5, y6]; done) | (simp [lput, done, hn, y0, y1, y2, y5]; done)))
            | (refine ⟨x, ?_, hH, (fun e => hO (done_no e)), (fun e => hC (done_ne e (by decide))), (fun e => hL (done_ne e (by decide))), (by intro e; first | (simp [done]; done) | (have e2 := I2_0 (done_ne e (by decide)); simp [done, e2]; done) | (simp [done, hn]; done)), (by intro e; first | (simp [done]; done) | (have e2 := I2_1 (done_ne e (by decide)); simp [done, e2]; done) | (simp [done, hn]; done)), (by intro e; first | (simp [done]; done) | (have e2 := I5_2 (done_ne e (by decide)); simp [done, e2]; done) | (simp [done, hn]; done)), (by intro e; first | (simp [done]; done) | (have e2 := I6_5 (done_ne e (by decide)); simp [done, e2]; done) | (simp [done, hn]; done)), (by intro e; first | (simp [done]; done) | (have e2 := I7_6 (done_ne e (by decide)); simp [done, e2]; done) | (simp [done, hn]; done)), (by intro e; first | (simp [done]; done) | (have e2 := I8_7 (done_ne e (by decide)); simp [done, e2]; done) | (simp [done, hn]; done))⟩; (simp [lput, done, hn]; done))
            | (refine ⟨?_, hH, (fun e => hO (done_no e)), (fun e => hC (done_ne e (by decide))), (fun e => hL (done_ne e (by decide))), (by intro e; first | (simp [done]; done) | (have e2 := I2_0 (done_ne e (by decide)); simp [done, e2]; done) | (simp [done, hn]; done)), (by intro e; first | (simp [done]; done) | (have e2 := I2_1 (done_ne e (by decide)); simp [done, e2]; done) | (simp [done, hn]; done)), (by intro e; first | (simp [done]; done) | (have e2 := I5_2 (done_ne e (by decide)); simp [done, e2]; done) | (simp [done, hn]; done)), (by intro e; first | (simp [done]; done) | (have e2 := I6_5 (done_ne e (by decide)); simp [done, e2]; done) | (simp [done, hn]; done)), (by intro e; first | (simp [done]; done) | (have e2 := I7_6 (done_ne e (by decide)); simp [done, e2]; done) | (simp [done, hn]; done)), (by intro e; first | (simp [done]; done) | (have e2 := I8_7 (done_ne e (by decide)); simp [done, e2]; done) | (simp [done, hn]; done))⟩; (simp [lput, done, hn]; done))
            | (refine ⟨x, ?_, hH, (fun e => hO (done_no e)), (fun e => hC (done_ne e (by decide))), (fun e => hL (done_ne e (by decide))), (by intro e; first | (simp [done]; done) | (have e2 := I2_0 (done_ne e (by decide)); simp [done, e2]; done) | (simp [done, hn]; done)), (by intro e; first | (simp [done]; done) | (have e2 := I2_1 (done_ne e (by decide)); simp [done, e2]; done) | (simp [done, hn]; done)), (by intro e; first | (simp [done]; done) | (have e2 := I5_2 (done_ne e (by decide)); simp [done, e2]; done) | (simp [done, hn]; done)), (by intro e; first | (simp [done]; done) | (have e2 := I6_5 (done_ne e (by decide)); simp [done, e2]; done) | (simp [done, hn]; done)), (by intro e; first | (simp [done]; done) | (have e2 := I7_6 (done_ne e (by decide)); simp [done, e2]; done) | (simp [done, hn]; done)), (by intro e; first | (simp [done]; done) | (have e2 := I8_7 (done_ne e (by decide)); simp [done, e2]; done) | (simp [done, hn]; done))⟩; (simp [lput, done, hn]; rfl))
            | (refine ⟨?_, hH, (fun e => hO (done_no e)), (fun e => hC (done_ne e (by decide))), (fun e => hL (done_ne e (by decide))), (by intro e; first | (simp [done]; done) | (have e2 := I2_0 (done_ne e (by decide)); simp [done, e2]; done) | (simp [done, hn]; done)), (by intro e; first | (simp [done]; done) | (have e2 := I2_1 (done_ne e (by decide)); simp [done, e2]; done) | (simp [done, hn]; done)), (by intro e; first | (simp [done]; done) | (have e2 := I5_2 (done_ne e (by decide)); simp [done, e2]; done) | (simp [done, hn]; done)), (by intro e; first | (simp [done]; done) | (have e2 := I6_5 (done_ne e (by decide)); simp [done, e2]; done) | (simp [done, hn]; done)), (by intro e; first | (simp [done]; done) | (have e2 := I7_6 (done_ne e (by decide)); simp [done, e2]; done) | (simp [done, hn]; done)), (by intro e; first | (simp [done]; done) | (have e2 := I8_7 (done_ne e (by decide)); simp [done, e2]; done) | (simp [done, hn]; done))⟩; (simp [lput, done, hn]; rfl))
            | (refine ⟨x, ?_, hH, (fun e => hO (done_no e)), (fun e => hC (done_ne e (by decide))), (fun e => hL (done_ne e (by decide))), (by intro e; first | (simp [done]; done) | (have e2 := I2_0 (done_ne e (by decide)); simp [done, e2]; done) | (simp [done, hn]; done)), (by intro e; first | (simp [done]; done) | (have e2 := I2_1 (done_ne e (by decide)); simp [done, e2]; done) | (simp [done, hn]; done)), (by intro e; first | (simp [done]; done) | (have e2 := I5_2 (done_ne e (by decide)); simp [done, e2]; done) | (simp [done, hn]; done)), (by intro e; first | (simp [done]; done) | (have e2 := I6_5 (done_ne e (by decide)); simp [done, e2]; done) | (simp [done, hn]; done)), (by intro e; first | (simp [done]; done) | (have e2 := I7_6 (done_ne e (by decide)); simp [done, e2]; done) | (simp [done, hn]; done)), (by intro e; first | (simp [done]; done) | (have e2 := I8_7 (done_ne e (by decide)); simp [done, e2]; done) | (simp [done, hn]; done))⟩; (simp [lput, done]; done))
            | (refine ⟨?_, hH, (fun e => hO (done_no e)), (fun e => hC (done_ne e (by decide))), (fun e => hL (done_ne e (by decide))), (by intro e; first | (simp [done]; done) | (have e2 := I2_0 (done_ne e (by decide)); simp [done, e2]; done) | (simp [done, hn]; done)), (by intro e; first | (simp [done]; done) | (have e2 := I2_1 (done_ne e (by decide)); simp [done, e2]; done) | (simp [done, hn]; done)), (by intro e; first | (simp [done]; done) | (have e2 := I5_2 (done_ne e (by decide)); simp [done, e2]; done) | (simp [done, hn]; done)), (by intro e; first | (simp [done]; done) | (have e2 := I6_5 (done_ne e (by decide)); simp [done, e2]; done) | (simp [done, hn]; done)), (by intro e; first | (simp [done]; done) | (have e2 := I7_6 (done_ne e (by decide)); simp [done, e2]; done) | (simp [done, hn]; done)), (by intro e; first | (simp [done]; done) | (have e2 := I8_7 (done_ne e (by decide)); simp [done, e2]; done) | (simp [done, hn]; done))⟩; (simp [lput, done]; done))
            | (refine ⟨x, ?_, hH, (fun e => hO (done_no e)), (fun e => hC (done_ne e (by decide))), (fun e => hL (done_ne e (by decide))), (by intro e; first | (simp [done]; done) | (have e2 := I2_0 (done_ne e (by decide)); simp [done, e2]; done) | (simp [done, hn]; done)), (by intro e; first | (simp [done]; done) | (have e2 := I2_1 (done_ne e (by decide)); simp [done, e2]; done) | (simp [done, hn]; done)), (by intro e; first | (simp [done]; done) | (have e2 := I5_2 (done_ne e (by decide)); simp [done, e2]; done) | (simp [done, hn]; done)), (by intro e; first | (simp [done]; done) | (have e2 := I6_5 (done_ne e (by decide)); simp [done, e2]; done) | (simp [done, hn]; done)), (by intro e; first | (simp [done]; done) | (have e2 := I7_6 (done_ne e (by decide)); simp [done, e2]; done) | (simp [done, hn]; done)), (by intro e; first | (simp [done]; done) | (have e2 := I8_7 (done_ne e (by decide)); simp [done, e2]; done) | (simp [done, hn]; done))⟩; (simp [lput, done]; rfl))
            | (refine ⟨?_, hH, (fun e => hO (done_no e)), (fun e => hC (done_ne e (by decide))), (fun e => hL (done_ne e (by decide))), (by intro e; first | (simp [done]; done) | (have e2 := I2_0 (done_ne e (by decide)); simp [done, e2]; done) | (simp [done, hn]; done)), (by intro e; first | (simp [done]; done) | (have e2 := I2_1 (done_ne e (by decide)); simp [done, e2]; done) | (simp [done, hn]; done)), (by intro e; first | (simp [done]; done) | (have e2 := I5_2 (done_ne e (by decide)); simp [done, e2]; done) | (simp [done, hn]; done)), (by intro e; first | (simp [done]; done) | (have e2 := I6_5 (done_ne e (by decide)); simp [done, e2]; done) | (simp [done, hn]; done)), (by intro e; first | (simp [done]; done) | (have e2 := I7_6 (done_ne e (by decide)); simp [done, e2]; done) | (simp [done, hn]; done)), (by intro e; first | (simp [done]; done) | (have e2 := I8_7 (done_ne e (by decide)); simp [done, e2]; done) | (simp [done, hn]; done))⟩; (simp [lput, done]; rfl))
      case hq_nc =>
        clear hH hO
        intro d x w1 hd hJ
        simp only [allDone, List.length_cons, List.length_nil, Nat.reduceAdd, and_true] at hd
        obtain ⟨hH, hO, hC, hL, I2_0, I2_1, I5_2, I6_5, I7_6, I8_7⟩ := hJ
        replace hC := hC (by simp only [hd])
        replace hL := hL (by simp only [hd])
        clear hO
        clear I2_0
        clear I2_1
        clear I5_2
        clear I6_5
        clear I7_6
        clear I8_7
        simp only [lput, List.set, hd, cond_true]
        clear hd
        go_wp2
        go_ret
        refine ⟨_, rfl, hH.below, ?_⟩
        have := (hL.2.out).lower (lo' := w.heap.size) (by have := HS.out; omega)
        rw [HTN.out x.C hC.out] at this
        exact this
end Go.Proofs.Ytbdcbmennblcdab
namespace Go.Proofs.Ytbdcbmennblcdab
set_option linter.unusedVariables false
set_option linter.unusedSimpArgs false
open Go.RowKit
theorem ok_lt {f : Nat → Int} {N n : Nat} (h : ∀ i, i < n → OkAt f N i) {i : Nat} : ∀ j, i < j → j < n → f i < f j
  | 0, hij, _ => by omega
  | j + 1, hij, hj => by
    have h1 := (h (j + 1) hj).2.2 (by omega)
    rw [Nat.add_sub_cancel] at h1
    by_cases e : i = j
    · subst e; exact h1
    · have := ok_lt h (i := i) j (by omega) (by omega); omega
theorem ok_list {f : Nat → Int} {N n : Nat} (h : ∀ i, i < n → OkAt f N i) : ∀ k : Nat, ∃ m : Nat, m ≤ n ∧ (∀ i, i < m → f i < (k : Int)) ∧ (∀ i, m ≤ i → i < n → (k : Int) ≤ f i) ∧ selL (inL f n) k = (List.range m).map f
  | 0 => ⟨0, by omega, fun i hi => by omega, fun i _ hi => (h i hi).1, rfl⟩
  | k + 1 => by
    obtain ⟨m, h1, h2, h3, h4⟩ := ok_list h k
    by_cases hm : m < n ∧ f m = k
    · refine ⟨m + 1, by omega, fun i hi => ?_, fun i hi hin => ?_, ?_⟩
      · by_cases e : i = m
        · subst e; omega
        · have := h2 i (by omega); omega
      · have := ok_lt h i (show m < i by omega) hin
        have := hm.2; omega
      · rw [selL_yes (inL_iff.2 ⟨m, hm.1, hm.2⟩), h4, List.range_succ, List.map_append, List.map_cons, List.map_nil, hm.2]
    · have hge : ∀ i, m ≤ i → i < n → ((k + 1 : Nat) : Int) ≤ f i := fun i hi hin => by
        have h5 := h3 m (Nat.le_refl _) (by omega)
        have h6 : f m ≠ k := fun e => hm ⟨by omega, e⟩
        by_cases e : i = m
        · subst e; omega
        · have := ok_lt h i (show m < i by omega) hin; omega
      refine ⟨m, h1, fun i hi => by have := h2 i hi; omega, hge, ?_⟩
      rw [selL_no, h4]
      cases hb : inL f n k with
      | false => rfl
      | true =>
        obtain ⟨i, hi, e⟩ := inL_iff.1 hb
        by_cases c : i < m
        · have := h2 i c; omega
        · have := hge i (by omega) hi; omega
theorem ok_sel {f : Nat → Int} {N n : Nat} (h : ∀ i, i < n → OkAt f N i) (h10 : N ≤ 10) : selL (inL f n) 10 = (List.range n).map f := by
  obtain ⟨m, h1, h2, h3, h4⟩ := ok_list h 10
  have : m = n := by
    rcases Nat.lt_or_ge m n with hl | hl
    · have h5 := h3 m (Nat.le_refl _) hl
      have h6 := (h m hl).2.1
      omega
    · omega
  rw [h4, this]
theorem sel_eq {s t : Nat → Bool} : selL s 10 = selL t 10 ↔ eqL s t = true := by
  rw [eqL_iff]
  constructor
  · intro h i hi
    have hh : s i = true ↔ t i = true := by
      constructor
      · intro e
        have : (i : Int) ∈ selL t 10 := by rw [← h]; exact selL_has.2 ⟨i, hi, e, rfl⟩
        obtain ⟨j, _, h2, h3⟩ := selL_has.1 this
        have : i = j := by omega
        subst this; exact h2
      · intro e
        have : (i : Int) ∈ selL s 10 := by rw [h]; exact selL_has.2 ⟨i, hi, e, rfl⟩
        obtain ⟨j, _, h2, h3⟩ := selL_has.1 this
        have : i = j := by omega
        subst this; exact h2
    cases h1 : s i <;> cases h2 : t i <;> simp_all
  · intro h; exact selL_congr h
theorem list_ne {l : List Int} {n i : Nat} {f : Nat → Int} (hi : i < n) (h : l.getD i 0 ≠ f i) : decide (l = (List.range n).map f) = false := by
  refine decide_eq_false fun e => h ?_
  rw [e]
  simp [List.getD_eq_getElem?_getD, hi]
theorem list_eq {l : List Int} {n : Nat} {f : Nat → Int} (hl : l.length = n) (h : ∀ i, i < n → l.getD i 0 = f i) : decide (l = (List.range n).map f) = true := by
  refine decide_eq_true (List.ext_getElem (by simp [hl]) fun i h1 h2 => ?_)
  have := h i (by omega)
  rw [List.getD_eq_getElem?_getD, List.getElem?_eq_getElem h1] at this
  simpa using this
set_option maxRecDepth 20000 in
set_option maxHeartbeats 4000000 in
theorem l01Same2_any (v : Value) (l : List Int) (lo hi b n c : Nat) (f : Nat → Int) (w : World) (hI : IL w lo hi v l) (hR : Row w b n f) (hl : l.length ≤ 1000) (hn : n ≤ 1000) (hn0 : 0 < n) :
    Calls Try.prog 105 #[v, .slice (some ⟨b, 0, none⟩) n c] w fun e w' => e = .returned (.bool (decide (l = (List.range n).map f))) ∧ Below w.heap.size w w' := by
  obtain ⟨m, hm⟩ : ∃ m, l.length = m := ⟨_, rfl⟩
  have HM := hid hm
  obtain ⟨av, cv, ev⟩ := hI.form
  rw [hm] at ev
  subst ev
  by_cases hmn : m = n
  · obtain ⟨g, hg, hRl⟩ : ∃ g, av = some ⟨g, 0, none⟩ ∧ Row w g n (fun i => l.getD i 0) := by
      rcases hI with ⟨_, h0⟩ | ⟨g, cap, hv, h1, h2, h3⟩
      · rw [h0] at hm; simp at hm; omega
      · injection hv with e1 e2 e3
        exact ⟨g, e1, by rw [← hmn, ← hm]; exact h3⟩
    subst hg
    have HE := hid (fun i (hi : i < n) (h : l.getD i 0 ≠ f i) => list_ne hi h)
    have HY := hid (fun (h : ∀ i, i < n → l.getD i 0 = f i) => list_eq (l := l) (n := n) (f := f) (by omega) h)
    obtain ⟨F, hF⟩ : ∃ F, (fun i => l.getD i 0) = F := ⟨_, rfl⟩
    have HF := hid (fun i => (congrFun hF i : l.getD i 0 = F i))
    rw [hF] at hRl
    clear hI hF hm hl
    subst hmn
    have hR := hid hR
    have hRl := hid hRl
    have hH := Has.nil w
    go_enter Try.func105, Try.ntmps105
    go_wp2
    go_loopw [5] (fun i wr => ∃ k : Nat, k ≤ m ∧ i = .int .i64 k ∧ Has w wr [] ∧ Hid (Row wr b m f) ∧ Hid (Row wr g m F) ∧ Hid (∀ i, i < k → F i = f i)) (fun i _ => m - (intOf i).toNat)
    case atStart => exact ⟨0, by omega, rfl, hH, hR, hRl, hid (fun i hi => by omega)⟩
    case round =>
      clear hH hR hRl
      obtain ⟨k, hk, rfl, hH, hR, hRl, hA⟩ := hrel
      by_cases hlt : k < m
      · have hk1 : (k : Int) < m := by omega
        have c1 := hRl.out.cell hlt
        have c2 := hR.out.cell hlt
        obtain ⟨p, hp⟩ : ∃ p, F k = p := ⟨_, rfl⟩
        obtain ⟨q, hq⟩ : ∃ q, f k = q := ⟨_, rfl⟩
        rw [hp] at c1
        rw [hq] at c2
        have HP := hid hp
        have HQ := hid hq
        clear hp hq
        by_cases e : p = q
        · subst e
          have HA2 := hid (fun i (hi : i < k + 1) => show F i = f i from by
            by_cases e : i = k
            · rw [e, HP.out, HQ.out]
            · exact hA.out i (by omega))
          go_wp2
          go_quiet (fail)
          go_wp2
          go_roundw
          case rel => exact ⟨k + 1, by omega, by go_num, hH.drewN _, hid (hR.out.drewS _), hid (hRl.out.drewS _), HA2⟩
          case measure => simp [intOf]; omega
        · have HNO := hid (HE.out k hlt (by rw [HF.out, HP.out, HQ.out]; exact e))
          go_wp2
          go_quiet (fail)
          go_wp2
          go_ret
          exact ⟨by rw [HNO.out]; rfl, (hH.drewN _).below⟩
      · obtain rfl : k = m := by omega
        have HYES := hid (HY.out (fun i hi => by rw [HF.out]; exact hA.out i hi))
        go_wp2
        go_ret
        exact ⟨by rw [HYES.out]; rfl, hH.below⟩
  · have hne : ¬ (m : Int) = (n : Int) := by omega
    have HNO : Hid (decide (l = (List.range n).map f) = false) := hid (decide_eq_false fun e => hmn (by rw [← hm, e]; simp))
    clear hI hR hm
    go_enter Try.func105, Try.ntmps105
    go_wp2
    go_ret
    exact ⟨by rw [HNO.out]; rfl, Below.refl _ _⟩
end Go.Proofs.Ytbdcbmennblcdab
namespace Go.Proofs.Ytbdcbmennblcdab
set_option linter.unusedVariables false
set_option linter.unusedSimpArgs false
open Go.RowKit
set_option maxRecDepth 20000 in
set_option maxHeartbeats 4000000 in
theorem l06Normal_any (N b n c : Nat) (g : Nat → UInt8) (f : Nat → Int) (w : World) (hq : IsSq N g) (hR : Row w b n f) (hok : ∀ i, i < n → OkAt f N i) :
    Calls Try.prog 60 #[.agg (sqc N g), .slice (some ⟨b, 0, none⟩) n c] w fun e w' => e = .returned (.bool (eqL (ncF g N (inL f n)) (inL f n))) ∧ Below w.heap.size w w' := by
  have h10 := hq.hi
  have h1 := hq.lo
  have hn := ok_len hok
  have HQ := hid hq
  have HO := hid hok
  have hH := Has.start1 w (sqc N g) 31
  by_cases h0 : n = 0
  · subst h0
    have HNO : Hid (eqL (ncF g N (inL f 0)) (inL f 0) = false) := hid (by
      cases h : eqL (ncF g N (inL f 0)) (inL f 0) with
      | false => rfl
      | true =>
        have h2 := eqL_iff.1 h 0 (by omega)
        rw [inL_zero] at h2
        unfold ncF at h2
        rw [if_pos (by omega)] at h2
        have h3 : (cgD N (N + N) (mapF (rcF g N)) (StI 0 (setY fun _ => false) (setN fun _ => false)) 0 == 0) = true := (cgD_zero h10 (by omega)).2 (cgr_refl (by omega))
        rw [h3] at h2
        cases h2)
    clear hR hq hok
    go_enter Try.func60, Try.ntmps60
    go_wp2_with (first | fail | (refine wpL_guard rfl rfl ?_))
    go_ret
    exact ⟨by rw [HNO.out]; rfl, hH.below⟩
  · have hn0 : 0 < n := by omega
    have hn1 : (n : Int) > 0 := by omega
    have HES := hid (show decide (selL (ncF g N (inL f n)) 10 = (List.range n).map f) = eqL (ncF g N (inL f n)) (inL f n) by
      rw [← ok_sel hok h10]
      cases h : eqL (ncF g N (inL f n)) (inL f n) with
      | true => exact decide_eq_true (sel_eq.2 h)
      | false => exact decide_eq_false fun e => by rw [sel_eq.1 e] at h; cases h)
    replace hR := hid (hR.alloc (.cells (sqc N g) 31))
    clear hq hok h0
    go_enter Try.func60, Try.ntmps60
    go_wp2_with (first | fail | (refine wpL_guard rfl rfl ?_) | (refine wpL_loadFull rfl rfl rfl rowSq hH.h0 (sqc_size _ _) ?_) | (go_at_call 63; refine (l06Closure_any N b n c g f _ HQ.out hR.out HO.out).mono ?_; rintro e w3 ⟨v0, rfl, hb, hI0⟩; have HI0 := hid hI0; replace hH := hH.call' hb; replace hR := hid (hR.out.below hb); clear hb hI0) | (go_at_call 105; refine (l01Same2_any v0 _ _ _ b n c f _ HI0.out hR.out (Nat.le_trans (selL_len _ _) (by omega)) (by omega) hn0).mono ?_; rintro e w4 ⟨rfl, hb⟩; rw [HES.out]; replace hH := hH.call' hb; clear hb))
    go_ret
    exact ⟨rfl, hH.below⟩
set_option maxRecDepth 20000 in
set_option maxHeartbeats 1000000 in
theorem specNormalClosure_err (o : Int) (g : Nat → UInt8) (b n c : Nat) (f : Nat → Int) (z : Int) (w : World) (hz : (z == 0) = false) (hR : Row w b n f)
    (hC : Hid (∀ w, Row w b n f → Calls Try.prog 59 #[.agg (sqc o g), .slice (some ⟨b, 0, none⟩) n c] w fun e w' => e = .returned (.int .i64 z) ∧ Below w.heap.size w w')) :
    Calls Try.prog 25 #[.agg (sqc o g), .slice (some ⟨b, 0, none⟩) n c] w fun e w' => e = .returned (.tuple #[.slice none 0 0, .int .i64 z]) ∧ Below w.heap.size w w' := by
  have hz2 : ¬ (z = 0) := by simpa using hz
  have hH := Has.start1 w (sqc o g) 31
  replace hR := hid (hR.alloc (.cells (sqc o g) 31))
  go_enter Try.func25, Try.ntmps25
  go_wp2_with (first | fail | (refine wpL_loadFull rfl rfl rfl rowSq hH.h0 (sqc_size _ _) ?_) | (go_at_call 59; refine (hC.out _ hR.out).mono ?_; rintro e w2 ⟨rfl, hb⟩; replace hH := hH.call' hb; clear hb))
  go_ret2
  exact ⟨rfl, hH.below⟩
set_option maxRecDepth 20000 in
set_option maxHeartbeats 1000000 in
theorem specIsNormalSubloop_err (o : Int) (g : Nat → UInt8) (b n c : Nat) (f : Nat → Int) (z : Int) (w : World) (hz : (z == 0) = false) (hR : Row w b n f)
    (hC : Hid (∀ w, Row w b n f → Calls Try.prog 59 #[.agg (sqc o g), .slice (some ⟨b, 0, none⟩) n c] w fun e w' => e = .returned (.int .i64 z) ∧ Below w.heap.size w w')) :
    Calls Try.prog 21 #[.agg (sqc o g), .slice (some ⟨b, 0, none⟩) n c] w fun e w' => e = .returned (.tuple #[.bool false, .int .i64 z]) ∧ Below w.heap.size w w' := by
  have hz2 : ¬ (z = 0) := by simpa using hz
  have hH := Has.start1 w (sqc o g) 31
  replace hR := hid (hR.alloc (.cells (sqc o g) 31))
  go_enter Try.func21, Try.ntmps21
  go_wp2_with (first | fail | (refine wpL_loadFull rfl rfl rfl rowSq hH.h0 (sqc_size _ _) ?_) | (go_at_call 59; refine (hC.out _ hR.out).mono ?_; rintro e w2 ⟨rfl, hb⟩; replace hH := hH.call' hb; clear hb))
  go_ret2
  exact ⟨rfl, hH.below⟩
set_option maxRecDepth 20000 in
set_option maxHeartbeats 2000000 in
theorem specNormalClosure_in (N b n c : Nat) (g : Nat → UInt8) (f : Nat → Int) (w : World) (hq : IsSq N g) (hR : Row w b n f) (hok : ∀ i, i < n → OkAt f N i)
    (hC : Hid (∀ w, Row w b n f → Calls Try.prog 59 #[.agg (sqc N g), .slice (some ⟨b, 0, none⟩) n c] w fun e w' => e = .returned (.int .i64 0) ∧ Below w.heap.size w w')) :
    Calls Try.prog 25 #[.agg (sqc N g), .slice (some ⟨b, 0, none⟩) n c] w (GotL (selL (ncF g N (inL f n)) 10) 0 w) := by
  have HQ := hid hq
  have HO := hid hok
  clear hq hok
  have hH := Has.start1 w (sqc N g) 31
  replace hR := hid (hR.alloc (.cells (sqc N g) 31))
  go_enter Try.func25, Try.ntmps25
  go_wp2_with (first | fail | (refine wpL_loadFull rfl rfl rfl rowSq hH.h0 (sqc_size _ _) ?_) | (go_at_call 59; refine (hC.out _ hR.out).mono ?_; rintro e w2 ⟨rfl, hb⟩; replace hH := hH.call' hb; replace hR := hid (hR.out.below hb); clear hb) | (go_at_call 63; have zz := hH.size; simp only [List.length_cons, List.length_nil] at zz; refine (l06Closure_any N b n c g f _ HQ.out hR.out HO.out).mono ?_; rintro e w3 ⟨v0, rfl, hb, hI0⟩; replace hH := hH.call' hb; clear hb))
  go_ret2
  exact ⟨_, rfl, hH.below, hI0.lower (by omega)⟩
set_option maxRecDepth 20000 in
set_option maxHeartbeats 2000000 in
theorem specIsNormalSubloop_in (N b n c : Nat) (g : Nat → UInt8) (f : Nat → Int) (w : World) (hq : IsSq N g) (hR : Row w b n f) (hok : ∀ i, i < n → OkAt f N i)
    (hC : Hid (∀ w, Row w b n f → Calls Try.prog 59 #[.agg (sqc N g), .slice (some ⟨b, 0, none⟩) n c] w fun e w' => e = .returned (.int .i64 0) ∧ Below w.heap.size w w')) :
    Calls Try.prog 21 #[.agg (sqc N g), .slice (some ⟨b, 0, none⟩) n c] w fun e w' => e = .returned (.tuple #[.bool (eqL (ncF g N (inL f n)) (inL f n)), .int .i64 0]) ∧ Below w.heap.size w w' := by
  have HQ := hid hq
  have HO := hid hok
  clear hq hok
  have hH := Has.start1 w (sqc N g) 31
  replace hR := hid (hR.alloc (.cells (sqc N g) 31))
  go_enter Try.func21, Try.ntmps21
  go_wp2_with (first | fail | (refine wpL_loadFull rfl rfl rfl rowSq hH.h0 (sqc_size _ _) ?_) | (go_at_call 59; refine (hC.out _ hR.out).mono ?_; rintro e w2 ⟨rfl, hb⟩; replace hH := hH.call' hb; replace hR := hid (hR.out.below hb); clear hb) | (go_at_call 60; refine (l06Normal_any N b n c g f _ HQ.out hR.out HO.out).mono ?_; rintro e w3 ⟨rfl, hb⟩; replace hH := hH.call' hb; clear hb))
  go_ret2
  exact ⟨rfl, hH.below⟩
end Go.Proofs.Ytbdcbmennblcdab
