/- Proved: lemmas on worlds, blocks of cells and arrays of bytes that the other texts of this claim use. Conditions: those that each lemma names. -/
import Derived.WalkKit
import Derived.WalkSpells
import Derived.WalkLawsBesides
import Derived.KernelRfl
import Derived.Deep.QuietTactic
import Derived.BigQuiet
import Derived.Deep.RegionHeld3
import Derived.Laws.CopyOwn
namespace Go.Proofs.Ytbhjbllgmenbaaa
set_option linter.unusedVariables false
set_option linter.unusedSimpArgs false
open Go.RowKit

theorem hid {p : Prop} (h : p) : Hid p := h

/-- The cells of n bytes. -/
def u8s (n : Nat) (f : Nat → UInt8) : Array Value := ((List.range n).map fun i => Value.int .u8 (f i).toNat).toArray
@[simp, go_sem] theorem u8s_size (n : Nat) (f : Nat → UInt8) : (u8s n f).size = n := by simp [u8s]
theorem u8s_get (n : Nat) (f : Nat → UInt8) (i : Nat) (h : i < n) : (u8s n f)[i]? = some (.int .u8 (f i).toNat) := by
  simp [u8s, h]
@[simp, go_sem] theorem u8s_getElem (n : Nat) (f : Nat → UInt8) (i : Nat) (h : i < (u8s n f).size) : (u8s n f)[i]'h = .int .u8 (f i).toNat := by
  simp [u8s]
theorem u8s_ext (n : Nat) (cs : Array Value) (f : Nat → UInt8) (hs : cs.size = n) (h : ∀ i, i < n → cs[i]? = some (.int .u8 (f i).toNat)) : cs = u8s n f := by
  apply Array.ext_getElem?
  intro j
  by_cases hj : j < n
  · rw [h j hj, u8s_get n f j hj]
  · rw [Array.getElem?_eq_none (by omega), Array.getElem?_eq_none (by simp; omega)]
theorem u8s_congr (n : Nat) (f g : Nat → UInt8) (h : ∀ i, i < n → f i = g i) : u8s n f = u8s n g :=
  u8s_ext n _ g (by simp) fun i hi => by rw [u8s_get n f i hi, h i hi]
theorem u8s_step (n : Nat) (f f' : Nat → UInt8) (k : Nat) (v : UInt8) (h : ∀ j, j < n → f' j = if j = k then v else f j) : (u8s n f).setIfInBounds k (.int .u8 v.toNat) = u8s n f' := by
  apply u8s_ext
  · simp
  · intro i hi
    rw [h i hi, Array.getElem?_setIfInBounds]
    by_cases e : k = i
    · subst e; simp [hi]
    · simp [e, u8s_get n f i hi, Ne.symm e]
theorem u8s_stepv (n : Nat) (f f' : Nat → UInt8) (k : Nat) (x : Value) (v : UInt8) (hx : x = .int .u8 v.toNat) (h : ∀ j, j < n → f' j = if j = k then v else f j) : (u8s n f).setIfInBounds k x = u8s n f' := by
  subst hx; exact u8s_step n f f' k v h
theorem u8s_sub (n m off : Nat) (f : Nat → UInt8) (h : off + m ≤ n) : (u8s n f).extract off (off + m) = u8s m (fun j => f (off + j)) := by
  apply u8s_ext
  · simp; omega
  · intro i hi
    rw [Array.getElem?_extract]
    simp
    exact ⟨by omega, u8s_get n f _ (by omega)⟩
theorem u8s_one (n : Nat) (f : Nat → UInt8) : (u8s n f).all (·.oneCell') = true := by
  rw [Array.all_eq_true]
  intro i hi
  rw [u8s_getElem]; rfl
theorem bif_size {b : Bool} {x y : Array Value} {n : Nat} (hx : x.size = n) (hy : y.size = n) : (bif b then x else y).size = n := by cases b <;> simp [hx, hy]
theorem u8_bd (x : UInt8) : (x.toNat : Int) ≤ 255 := by have := x.toNat_lt; omega
theorem u8_of (n : Nat) (h : n < 256) : (UInt8.ofNat n).toNat = n := by simp [UInt8.toNat_ofNat']; omega
theorem u8_eq {x y : UInt8} : (x.toNat : Int) = y.toNat ↔ x = y := by
  rw [Int.ofNat_inj]; exact UInt8.toNat_inj

/-- The cells of n bools. -/
def bls (n : Nat) (f : Nat → Bool) : Array Value := ((List.range n).map fun i => Value.bool (f i)).toArray
@[simp, go_sem] theorem bls_size (n : Nat) (f : Nat → Bool) : (bls n f).size = n := by simp [bls]
theorem bls_get (n : Nat) (f : Nat → Bool) (i : Nat) (h : i < n) : (bls n f)[i]? = some (.bool (f i)) := by
  simp [bls, h]
@[simp, go_sem] theorem bls_getElem (n : Nat) (f : Nat → Bool) (i : Nat) (h : i < (bls n f).size) : (bls n f)[i]'h = .bool (f i) := by
  simp [bls]
theorem bls_ext (n : Nat) (cs : Array Value) (f : Nat → Bool) (hs : cs.size = n) (h : ∀ i, i < n → cs[i]? = some (.bool (f i))) : cs = bls n f := by
  apply Array.ext_getElem?
  intro j
  by_cases hj : j < n
  · rw [h j hj, bls_get n f j hj]
  · rw [Array.getElem?_eq_none (by omega), Array.getElem?_eq_none (by simp; omega)]
theorem bls_step (n : Nat) (f f' : Nat → Bool) (k : Nat) (v : Bool) (h : ∀ j, j < n → f' j = if j = k then v else f j) : (bls n f).setIfInBounds k (.bool v) = bls n f' := by
  apply bls_ext
  · simp
  · intro i hi
    rw [h i hi, Array.getElem?_setIfInBounds]
    by_cases e : k = i
    · subst e; simp [hi]
    · simp [e, bls_get n f i hi, Ne.symm e]

theorem bls_one (n : Nat) (f : Nat → Bool) : (bls n f).all (·.oneCell') = true := by
  rw [Array.all_eq_true]
  intro i hi
  rw [bls_getElem]; rfl
theorem dB_true {p : Prop} [Decidable p] (h : p) : decide p = true := by simp [h]
/-- Is n in a..b? (A name that the walk's simp leaves alone.) -/
def inB (n a b : Int) : Bool := decide (a ≤ n ∧ n ≤ b)
theorem inB_true {n a b : Int} (h : a ≤ n) (h' : n ≤ b) : inB n a b = true := by simp [inB, h, h']
theorem inB_false {n a b : Int} (h : ¬ (a ≤ n ∧ n ≤ b)) : inB n a b = false := by simp only [inB, decide_eq_false_iff_not]; exact h
theorem inB_iff {n a b : Int} : inB n a b = true ↔ a ≤ n ∧ n ≤ b := by simp [inB]
/-- The cells of a square: its order, then its hundred bytes. -/
def sqc (o : Int) (g : Nat → UInt8) : Array Value := (Value.int .i64 o :: (u8s 100 g).toList).toArray
theorem sqc_size' (o : Int) (g : Nat → UInt8) : (sqc o g).size = 101 := by
  unfold sqc; rw [List.size_toArray, List.length_cons, Array.length_toList, u8s_size]
theorem sqc_get0 (o : Int) (g : Nat → UInt8) : (sqc o g)[0]? = some (.int .i64 o) := by
  unfold sqc; rw [List.getElem?_toArray]; rfl
theorem sqc_get (o : Int) (g : Nat → UInt8) (i : Nat) (h : i < 100) : (sqc o g)[1 + i]? = some (.int .u8 (g i).toNat) := by
  unfold sqc; rw [List.getElem?_toArray, Nat.add_comm, List.getElem?_cons_succ, Array.getElem?_toList, u8s_get 100 g i h]
@[simp, go_sem] theorem sqc_size (o : Int) (g : Nat → UInt8) : (sqc o g).size = 101 := sqc_size' o g
@[simp, go_sem] theorem sqc_zero (o : Int) (g : Nat → UInt8) (h : 0 < (sqc o g).size) : (sqc o g)[0]'h = .int .i64 o :=
  Option.some.inj ((Array.getElem?_eq_getElem h).symm.trans (sqc_get0 o g))
@[simp, go_sem] theorem sqc_one (o : Int) (g : Nat → UInt8) (i : Nat) (h : 1 + i < (sqc o g).size) : (sqc o g)[1 + i]'h = .int .u8 (g i).toNat :=
  Option.some.inj ((Array.getElem?_eq_getElem h).symm.trans (sqc_get o g i (by rw [sqc_size'] at h; omega)))
@[simp, go_sem] theorem sqc_two (o : Int) (g : Nat → UInt8) (i j : Nat) (h : 1 + i + j < (sqc o g).size) : (sqc o g)[1 + i + j]'h = .int .u8 (g (i + j)).toNat := by
  have e := sqc_one o g (i + j) (by omega)
  simp only [← Nat.add_assoc] at e
  exact e
theorem sqc_ext (cs : Array Value) (o : Int) (g : Nat → UInt8) (hs : cs.size = 101) (h0 : cs[0]? = some (.int .i64 o)) (h : ∀ i, i < 100 → cs[1 + i]? = some (.int .u8 (g i).toNat)) : cs = sqc o g := by
  apply Array.ext_getElem?
  intro j
  by_cases hj : j < 101
  · cases j with
    | zero => rw [h0, sqc_get0]
    | succ j => rw [Nat.add_comm, h j (by omega), sqc_get o g j (by omega)]
  · rw [Array.getElem?_eq_none (by omega), Array.getElem?_eq_none (by simp; omega)]
theorem sqc_congr (o : Int) (f g : Nat → UInt8) (h : ∀ i, i < 100 → f i = g i) : sqc o f = sqc o g := by
  unfold sqc; rw [u8s_congr 100 f g h]
theorem sqc_set (o : Int) (f f' : Nat → UInt8) (k : Nat) (v : UInt8) (h : ∀ j, j < 100 → f' j = if j = k then v else f j) : (sqc o f).setIfInBounds (1 + k) (.int .u8 v.toNat) = sqc o f' := by
  apply sqc_ext
  · simp
  · rw [Array.getElem?_setIfInBounds, if_neg (by omega)]; exact sqc_get0 o f
  · intro i hi
    rw [h i hi, Array.getElem?_setIfInBounds]
    by_cases e : i = k
    · subst e; rw [if_pos rfl, if_pos (by simp; omega), if_pos rfl]
    · rw [if_neg (by omega), if_neg e, sqc_get o f i hi]
theorem sqc_setv (o : Int) (f f' : Nat → UInt8) (k : Nat) (x : Value) (v : UInt8) (hx : x = .int .u8 v.toNat) (h : ∀ j, j < 100 → f' j = if j = k then v else f j) : (sqc o f).setIfInBounds (1 + k) x = sqc o f' := by
  subst hx; exact sqc_set o f f' k v h
theorem sqc_set0 (o o' : Int) (f : Nat → UInt8) : (sqc o f).setIfInBounds 0 (.int .i64 o') = sqc o' f := by
  apply sqc_ext
  · simp
  · rw [Array.getElem?_setIfInBounds, if_pos rfl, if_pos (by simp)]
  · intro i hi
    rw [Array.getElem?_setIfInBounds, if_neg (by omega), sqc_get o f i hi]
theorem sqc_sub (o : Int) (g : Nat → UInt8) (off m : Nat) (h : off + m ≤ 100) : (sqc o g).extract (1 + off) (1 + off + m) = u8s m (fun j => g (off + j)) := by
  apply u8s_ext
  · simp; omega
  · intro i hi
    rw [Array.getElem?_extract]
    simp
    exact ⟨by omega, by rw [show 1 + off + i = 1 + (off + i) by omega, sqc_get o g _ (by omega)]⟩
theorem sqc_all1 (o : Int) (g : Nat → UInt8) : (sqc o g).all (·.oneCell') = true := by
  rw [Array.all_eq_true]
  intro i hi
  cases i with
  | zero => rw [sqc_zero]; rfl
  | succ i =>
    have e := sqc_one o g i (by omega)
    have : (sqc o g)[i + 1]'hi = (sqc o g)[1 + i]'(by omega) := by congr 1; omega
    rw [this, e]; rfl

/-- Block b holds the cells cs, none of them frozen. -/
abbrev holds (w : World) (b : Nat) (cs : Array Value) (t : TypeId) : Prop := w.heap[b]? = some (.cells cs t (0, 0))
theorem holds_cell {w : World} {b : Nat} {cs : Array Value} {t : TypeId} (h : holds w b cs t) (i : Nat) : w.cell? ⟨b, i, none⟩ = cs[i]? := cell_of_row w b i cs t (0,0) h
theorem holds_frozen {w : World} {b : Nat} {cs : Array Value} {t : TypeId} (h : holds w b cs t) (i : Nat) : w.frozen? ⟨b, i, none⟩ = false := frozen_of_row w b i cs t h
theorem holds_set {w : World} {b : Nat} {cs : Array Value} {t : TypeId} (h : holds w b cs t) (i : Nat) (v : Value) : holds (w.setCell ⟨b, i, none⟩ v) b (cs.setIfInBounds i v) t := heap_setCell_same w b i cs t v h
theorem holds_other {w : World} {b : Nat} {cs : Array Value} {t : TypeId} (h : holds w b cs t) (a : Addr) (v : Value) (hb : b ≠ a.block) : holds (w.setCell a v) b cs t := by
  show (w.setCell a v).heap[b]? = _
  rw [heap_setCell_other w a b v hb]; exact h
theorem holds_lt {w : World} {b : Nat} {cs : Array Value} {t : TypeId} (h : holds w b cs t) : b < w.heap.size := by
  by_cases hlt : b < w.heap.size
  · exact hlt
  · have hn : w.heap[b]? = none := by simp; omega
    rw [holds, hn] at h; cases h
theorem holds_alloc {w : World} {b : Nat} {cs : Array Value} {t : TypeId} (h : holds w b cs t) (o : Obj) : holds (w.alloc o) b cs t := by
  show (w.alloc o).heap[b]? = _
  rw [Below.heap_alloc w o b (holds_lt h)]; exact h
theorem holds_new (w : World) (cs : Array Value) (t : TypeId) : holds (w.alloc (.cells cs t)) w.heap.size cs t := heap_alloc_new w _
theorem holds_below {B : Nat} {w w' : World} {b : Nat} {cs : Array Value} {t : TypeId} (h : holds w b cs t) (hb : Below B w w') (hlt : b < B) : holds w' b cs t := by
  show w'.heap[b]? = _
  rw [hb.block b hlt]; exact h
theorem holds_drew {w : World} {b : Nat} {cs : Array Value} {t : TypeId} (h : holds w b cs t) : holds w.drew b cs t := h
theorem holds_row {w : World} {b : Nat} {cs cs' : Array Value} {t : TypeId} (h : holds w b cs t) : holds (w.setRow b cs') b cs' t := setRow_heap w b cs cs' t (0, 0) h
theorem holds_row_other {w : World} {b g : Nat} {cs cs' : Array Value} {t : TypeId} (h : holds w b cs t) (hb : b ≠ g) : holds (w.setRow g cs') b cs t := by
  show (w.setRow g cs').heap[b]? = _
  rw [setRow_other w g b cs' hb]; exact h

/-- In w, which has grown out of w0, the blocks from w0's first new one on hold L. -/
def Has (w0 w : World) (L : List (Array Value × TypeId)) : Prop :=
  Below w0.heap.size w0 w ∧ w0.heap.size + L.length ≤ w.heap.size ∧ ∀ i cs t, L[i]? = some (cs, t) → holds w (w0.heap.size + i) cs t
theorem Has.below {w0 w : World} {L : List (Array Value × TypeId)} (h : Has w0 w L) : Below w0.heap.size w0 w := h.1
theorem Has.size {w0 w : World} {L : List (Array Value × TypeId)} (h : Has w0 w L) : w0.heap.size + L.length ≤ w.heap.size := h.2.1
theorem Has.nil (w : World) : Has w w [] := ⟨Below.refl _ _, by simp, fun i cs t h => by simp at h⟩
theorem Has.push {w0 w : World} {L : List (Array Value × TypeId)} (h : Has w0 w L) (hs : w.heap.size = w0.heap.size + L.length) (cs : Array Value) (t : TypeId) : Has w0 (w.alloc (.cells cs t)) (L ++ [(cs, t)]) := by
  refine ⟨h.1.alloc (by omega) _, by simp; omega, fun i c u hi => ?_⟩
  by_cases hl : i < L.length
  · rw [List.getElem?_append_left hl] at hi
    exact holds_alloc (h.2.2 i c u hi) _
  · rw [List.getElem?_append_right (by omega)] at hi
    have : i = L.length := by
      by_cases e : i = L.length
      · exact e
      · have : i - L.length ≠ 0 := by omega
        obtain ⟨m, hm⟩ := Nat.exists_eq_succ_of_ne_zero this
        rw [hm] at hi; simp at hi
    subst this
    simp at hi
    obtain ⟨rfl, rfl⟩ := hi
    rw [← hs]
    exact holds_new w _ _
theorem Has.alloc {w0 w : World} {L : List (Array Value × TypeId)} (h : Has w0 w L) (o : Obj) : Has w0 (w.alloc o) L :=
  ⟨h.1.alloc (by have := h.size; omega) _, by have := h.size; simp; omega, fun i c u hi => holds_alloc (h.2.2 i c u hi) _⟩
theorem Has.drew {w0 w : World} {L : List (Array Value × TypeId)} (h : Has w0 w L) : Has w0 w.drew L :=
  ⟨h.1.drew, h.2.1, fun i c u hi => h.2.2 i c u hi⟩
theorem Has.drewN {w0 w : World} {L : List (Array Value × TypeId)} (h : Has w0 w L) (n : Nat) : Has w0 (w.drewN n) L :=
  ⟨⟨h.1.os, h.1.tape, h.1.output, h.1.size, h.1.block⟩, h.2.1, fun i c u hi => h.2.2 i c u hi⟩
theorem Has.call {w0 w w' : World} {L : List (Array Value × TypeId)} {B : Nat} (h : Has w0 w L) (hb : Below B w w') (hB : w0.heap.size + L.length ≤ B) : Has w0 w' L :=
  ⟨h.1.trans (hb.mono (by omega)), by have := h.size; have := hb.size; omega, fun i c u hi => holds_below (h.2.2 i c u hi) hb (by
    have : i < L.length := (List.getElem?_eq_some_iff.1 hi).1
    omega)⟩
theorem Has.call' {w0 w w' : World} {L : List (Array Value × TypeId)} (h : Has w0 w L) (hb : Below w.heap.size w w') : Has w0 w' L := h.call hb h.size
theorem Has.setCellAt {w0 w : World} {L : List (Array Value × TypeId)} (h : Has w0 w L) (k i : Nat) (v : Value) (cs cs' : Array Value) (t : TypeId) (hk : L[k]? = some (cs, t)) (e : cs.setIfInBounds i v = cs') :
    Has w0 (w.setCell ⟨w0.heap.size + k, i, none⟩ v) (L.set k (cs', t)) := by
  refine ⟨h.1.setCell (by simp) _, by have := h.size; simp [World.setCell]; omega, fun j c u hj => ?_⟩
  by_cases ej : k = j
  · subst ej
    have hl : k < L.length := (List.getElem?_eq_some_iff.1 hk).1
    rw [List.getElem?_set_self hl] at hj
    simp at hj
    obtain ⟨rfl, rfl⟩ := hj
    rw [← e]
    exact holds_set (h.2.2 k cs t hk) i v
  · rw [List.getElem?_set_ne ej] at hj
    exact holds_other (h.2.2 j c u hj) _ _ (by simp; omega)
theorem Has.setRowAt {w0 w : World} {L : List (Array Value × TypeId)} (h : Has w0 w L) (k : Nat) (cs cs' : Array Value) (t : TypeId) (hk : L[k]? = some (cs, t)) :
    Has w0 (w.setRow (w0.heap.size + k) cs') (L.set k (cs', t)) := by
  refine ⟨below_setRow h.1 (by omega) _, by have := h.size; simp; omega, fun j c u hj => ?_⟩
  by_cases ej : k = j
  · subst ej
    have hl : k < L.length := (List.getElem?_eq_some_iff.1 hk).1
    rw [List.getElem?_set_self hl] at hj
    simp at hj
    obtain ⟨rfl, rfl⟩ := hj
    exact holds_row (h.2.2 k cs t hk)
  · rw [List.getElem?_set_ne ej] at hj
    exact holds_row_other (h.2.2 j c u hj) (by omega)
theorem Has.setRowAbove {w0 w : World} {L : List (Array Value × TypeId)} (h : Has w0 w L) {g : Nat} (hg : w0.heap.size + L.length ≤ g) (cs : Array Value) : Has w0 (w.setRow g cs) L :=
  ⟨below_setRow h.1 (by omega) _, by have := h.size; simp; omega, fun j c u hj => holds_row_other (h.2.2 j c u hj) (by
    have : j < L.length := (List.getElem?_eq_some_iff.1 hj).1
    omega)⟩
theorem Has.setCellAbove {w0 w : World} {L : List (Array Value × TypeId)} (h : Has w0 w L) {g : Nat} (hg : w0.heap.size + L.length ≤ g) (i : Nat) (v : Value) : Has w0 (w.setCell ⟨g, i, none⟩ v) L :=
  ⟨h.1.setCell (by simp; omega) _, by have := h.size; simp [World.setCell]; omega, fun j c u hj => holds_other (h.2.2 j c u hj) _ _ (by
    have : j < L.length := (List.getElem?_eq_some_iff.1 hj).1
    simp; omega)⟩
theorem Has.h0 {w0 w : World} {cs : Array Value} {t : TypeId} {L : List (Array Value × TypeId)} (h : Has w0 w ((cs, t) :: L)) : holds w (w0.heap.size) cs t := h.2.2 0 cs t rfl
theorem Has.c0 {w0 w : World} {cs : Array Value} {t : TypeId} {L : List (Array Value × TypeId)} (h : Has w0 w ((cs, t) :: L)) (i : Nat) : w.cell? ⟨w0.heap.size, i, none⟩ = cs[i]? := holds_cell h.h0 i
theorem Has.f0 {w0 w : World} {cs : Array Value} {t : TypeId} {L : List (Array Value × TypeId)} (h : Has w0 w ((cs, t) :: L)) (i : Nat) : w.frozen? ⟨w0.heap.size, i, none⟩ = false := holds_frozen h.h0 i
theorem Has.s0 {w0 w : World} {cs cs' : Array Value} {t : TypeId} {L : List (Array Value × TypeId)} (h : Has w0 w ((cs, t) :: L)) (i : Nat) (v : Value) (e : cs.setIfInBounds i v = cs') : Has w0 (w.setCell ⟨w0.heap.size, i, none⟩ v) ((cs', t) :: L) := h.setCellAt 0 i v cs cs' t rfl e
theorem Has.r0 {w0 w : World} {cs cs' : Array Value} {t : TypeId} {L : List (Array Value × TypeId)} (h : Has w0 w ((cs, t) :: L)) : Has w0 (w.setRow (w0.heap.size) cs') ((cs', t) :: L) := h.setRowAt 0 cs cs' t rfl
theorem Has.h1 {w0 w : World} {a0 : Array Value × TypeId} {cs : Array Value} {t : TypeId} {L : List (Array Value × TypeId)} (h : Has w0 w (a0 :: (cs, t) :: L)) : holds w (w0.heap.size + 1) cs t := h.2.2 1 cs t rfl
theorem Has.c1 {w0 w : World} {a0 : Array Value × TypeId} {cs : Array Value} {t : TypeId} {L : List (Array Value × TypeId)} (h : Has w0 w (a0 :: (cs, t) :: L)) (i : Nat) : w.cell? ⟨w0.heap.size + 1, i, none⟩ = cs[i]? := holds_cell h.h1 i
theorem Has.f1 {w0 w : World} {a0 : Array Value × TypeId} {cs : Array Value} {t : TypeId} {L : List (Array Value × TypeId)} (h : Has w0 w (a0 :: (cs, t) :: L)) (i : Nat) : w.frozen? ⟨w0.heap.size + 1, i, none⟩ = false := holds_frozen h.h1 i
theorem Has.s1 {w0 w : World} {a0 : Array Value × TypeId} {cs cs' : Array Value} {t : TypeId} {L : List (Array Value × TypeId)} (h : Has w0 w (a0 :: (cs, t) :: L)) (i : Nat) (v : Value) (e : cs.setIfInBounds i v = cs') : Has w0 (w.setCell ⟨w0.heap.size + 1, i, none⟩ v) (a0 :: (cs', t) :: L) := h.setCellAt 1 i v cs cs' t rfl e
theorem Has.r1 {w0 w : World} {a0 : Array Value × TypeId} {cs cs' : Array Value} {t : TypeId} {L : List (Array Value × TypeId)} (h : Has w0 w (a0 :: (cs, t) :: L)) : Has w0 (w.setRow (w0.heap.size + 1) cs') (a0 :: (cs', t) :: L) := h.setRowAt 1 cs cs' t rfl
theorem Has.h2 {w0 w : World} {a0 a1 : Array Value × TypeId} {cs : Array Value} {t : TypeId} {L : List (Array Value × TypeId)} (h : Has w0 w (a0 :: a1 :: (cs, t) :: L)) : holds w (w0.heap.size + 1 + 1) cs t := h.2.2 2 cs t rfl
theorem Has.c2 {w0 w : World} {a0 a1 : Array Value × TypeId} {cs : Array Value} {t : TypeId} {L : List (Array Value × TypeId)} (h : Has w0 w (a0 :: a1 :: (cs, t) :: L)) (i : Nat) : w.cell? ⟨w0.heap.size + 1 + 1, i, none⟩ = cs[i]? := holds_cell h.h2 i
theorem Has.f2 {w0 w : World} {a0 a1 : Array Value × TypeId} {cs : Array Value} {t : TypeId} {L : List (Array Value × TypeId)} (h : Has w0 w (a0 :: a1 :: (cs, t) :: L)) (i : Nat) : w.frozen? ⟨w0.heap.size + 1 + 1, i, none⟩ = false := holds_frozen h.h2 i
theorem Has.s2 {w0 w : World} {a0 a1 : Array Value × TypeId} {cs cs' : Array Value} {t : TypeId} {L : List (Array Value × TypeId)} (h : Has w0 w (a0 :: a1 :: (cs, t) :: L)) (i : Nat) (v : Value) (e : cs.setIfInBounds i v = cs') : Has w0 (w.setCell ⟨w0.heap.size + 1 + 1, i, none⟩ v) (a0 :: a1 :: (cs', t) :: L) := h.setCellAt 2 i v cs cs' t rfl e
theorem Has.r2 {w0 w : World} {a0 a1 : Array Value × TypeId} {cs cs' : Array Value} {t : TypeId} {L : List (Array Value × TypeId)} (h : Has w0 w (a0 :: a1 :: (cs, t) :: L)) : Has w0 (w.setRow (w0.heap.size + 1 + 1) cs') (a0 :: a1 :: (cs', t) :: L) := h.setRowAt 2 cs cs' t rfl
theorem Has.h3 {w0 w : World} {a0 a1 a2 : Array Value × TypeId} {cs : Array Value} {t : TypeId} {L : List (Array Value × TypeId)} (h : Has w0 w (a0 :: a1 :: a2 :: (cs, t) :: L)) : holds w (w0.heap.size + 1 + 1 + 1) cs t := h.2.2 3 cs t rfl
theorem Has.c3 {w0 w : World} {a0 a1 a2 : Array Value × TypeId} {cs : Array Value} {t : TypeId} {L : List (Array Value × TypeId)} (h : Has w0 w (a0 :: a1 :: a2 :: (cs, t) :: L)) (i : Nat) : w.cell? ⟨w0.heap.size + 1 + 1 + 1, i, none⟩ = cs[i]? := holds_cell h.h3 i
theorem Has.f3 {w0 w : World} {a0 a1 a2 : Array Value × TypeId} {cs : Array Value} {t : TypeId} {L : List (Array Value × TypeId)} (h : Has w0 w (a0 :: a1 :: a2 :: (cs, t) :: L)) (i : Nat) : w.frozen? ⟨w0.heap.size + 1 + 1 + 1, i, none⟩ = false := holds_frozen h.h3 i
theorem Has.s3 {w0 w : World} {a0 a1 a2 : Array Value × TypeId} {cs cs' : Array Value} {t : TypeId} {L : List (Array Value × TypeId)} (h : Has w0 w (a0 :: a1 :: a2 :: (cs, t) :: L)) (i : Nat) (v : Value) (e : cs.setIfInBounds i v = cs') : Has w0 (w.setCell ⟨w0.heap.size + 1 + 1 + 1, i, none⟩ v) (a0 :: a1 :: a2 :: (cs', t) :: L) := h.setCellAt 3 i v cs cs' t rfl e
theorem Has.r3 {w0 w : World} {a0 a1 a2 : Array Value × TypeId} {cs cs' : Array Value} {t : TypeId} {L : List (Array Value × TypeId)} (h : Has w0 w (a0 :: a1 :: a2 :: (cs, t) :: L)) : Has w0 (w.setRow (w0.heap.size + 1 + 1 + 1) cs') (a0 :: a1 :: a2 :: (cs', t) :: L) := h.setRowAt 3 cs cs' t rfl
theorem Has.h4 {w0 w : World} {a0 a1 a2 a3 : Array Value × TypeId} {cs : Array Value} {t : TypeId} {L : List (Array Value × TypeId)} (h : Has w0 w (a0 :: a1 :: a2 :: a3 :: (cs, t) :: L)) : holds w (w0.heap.size + 1 + 1 + 1 + 1) cs t := h.2.2 4 cs t rfl
theorem Has.c4 {w0 w : World} {a0 a1 a2 a3 : Array Value × TypeId} {cs : Array Value} {t : TypeId} {L : List (Array Value × TypeId)} (h : Has w0 w (a0 :: a1 :: a2 :: a3 :: (cs, t) :: L)) (i : Nat) : w.cell? ⟨w0.heap.size + 1 + 1 + 1 + 1, i, none⟩ = cs[i]? := holds_cell h.h4 i
theorem Has.f4 {w0 w : World} {a0 a1 a2 a3 : Array Value × TypeId} {cs : Array Value} {t : TypeId} {L : List (Array Value × TypeId)} (h : Has w0 w (a0 :: a1 :: a2 :: a3 :: (cs, t) :: L)) (i : Nat) : w.frozen? ⟨w0.heap.size + 1 + 1 + 1 + 1, i, none⟩ = false := holds_frozen h.h4 i
theorem Has.s4 {w0 w : World} {a0 a1 a2 a3 : Array Value × TypeId} {cs cs' : Array Value} {t : TypeId} {L : List (Array Value × TypeId)} (h : Has w0 w (a0 :: a1 :: a2 :: a3 :: (cs, t) :: L)) (i : Nat) (v : Value) (e : cs.setIfInBounds i v = cs') : Has w0 (w.setCell ⟨w0.heap.size + 1 + 1 + 1 + 1, i, none⟩ v) (a0 :: a1 :: a2 :: a3 :: (cs', t) :: L) := h.setCellAt 4 i v cs cs' t rfl e
theorem Has.r4 {w0 w : World} {a0 a1 a2 a3 : Array Value × TypeId} {cs cs' : Array Value} {t : TypeId} {L : List (Array Value × TypeId)} (h : Has w0 w (a0 :: a1 :: a2 :: a3 :: (cs, t) :: L)) : Has w0 (w.setRow (w0.heap.size + 1 + 1 + 1 + 1) cs') (a0 :: a1 :: a2 :: a3 :: (cs', t) :: L) := h.setRowAt 4 cs cs' t rfl
theorem Has.h5 {w0 w : World} {a0 a1 a2 a3 a4 : Array Value × TypeId} {cs : Array Value} {t : TypeId} {L : List (Array Value × TypeId)} (h : Has w0 w (a0 :: a1 :: a2 :: a3 :: a4 :: (cs, t) :: L)) : holds w (w0.heap.size + 1 + 1 + 1 + 1 + 1) cs t := h.2.2 5 cs t rfl
theorem Has.c5 {w0 w : World} {a0 a1 a2 a3 a4 : Array Value × TypeId} {cs : Array Value} {t : TypeId} {L : List (Array Value × TypeId)} (h : Has w0 w (a0 :: a1 :: a2 :: a3 :: a4 :: (cs, t) :: L)) (i : Nat) : w.cell? ⟨w0.heap.size + 1 + 1 + 1 + 1 + 1, i, none⟩ = cs[i]? := holds_cell h.h5 i
theorem Has.f5 {w0 w : World} {a0 a1 a2 a3 a4 : Array Value × TypeId} {cs : Array Value} {t : TypeId} {L : List (Array Value × TypeId)} (h : Has w0 w (a0 :: a1 :: a2 :: a3 :: a4 :: (cs, t) :: L)) (i : Nat) : w.frozen? ⟨w0.heap.size + 1 + 1 + 1 + 1 + 1, i, none⟩ = false := holds_frozen h.h5 i
theorem Has.s5 {w0 w : World} {a0 a1 a2 a3 a4 : Array Value × TypeId} {cs cs' : Array Value} {t : TypeId} {L : List (Array Value × TypeId)} (h : Has w0 w (a0 :: a1 :: a2 :: a3 :: a4 :: (cs, t) :: L)) (i : Nat) (v : Value) (e : cs.setIfInBounds i v = cs') : Has w0 (w.setCell ⟨w0.heap.size + 1 + 1 + 1 + 1 + 1, i, none⟩ v) (a0 :: a1 :: a2 :: a3 :: a4 :: (cs', t) :: L) := h.setCellAt 5 i v cs cs' t rfl e
theorem Has.r5 {w0 w : World} {a0 a1 a2 a3 a4 : Array Value × TypeId} {cs cs' : Array Value} {t : TypeId} {L : List (Array Value × TypeId)} (h : Has w0 w (a0 :: a1 :: a2 :: a3 :: a4 :: (cs, t) :: L)) : Has w0 (w.setRow (w0.heap.size + 1 + 1 + 1 + 1 + 1) cs') (a0 :: a1 :: a2 :: a3 :: a4 :: (cs', t) :: L) := h.setRowAt 5 cs cs' t rfl
theorem Has.h6 {w0 w : World} {a0 a1 a2 a3 a4 a5 : Array Value × TypeId} {cs : Array Value} {t : TypeId} {L : List (Array Value × TypeId)} (h : Has w0 w (a0 :: a1 :: a2 :: a3 :: a4 :: a5 :: (cs, t) :: L)) : holds w (w0.heap.size + 1 + 1 + 1 + 1 + 1 + 1) cs t := h.2.2 6 cs t rfl
theorem Has.c6 {w0 w : World} {a0 a1 a2 a3 a4 a5 : Array Value × TypeId} {cs : Array Value} {t : TypeId} {L : List (Array Value × TypeId)} (h : Has w0 w (a0 :: a1 :: a2 :: a3 :: a4 :: a5 :: (cs, t) :: L)) (i : Nat) : w.cell? ⟨w0.heap.size + 1 + 1 + 1 + 1 + 1 + 1, i, none⟩ = cs[i]? := holds_cell h.h6 i
theorem Has.f6 {w0 w : World} {a0 a1 a2 a3 a4 a5 : Array Value × TypeId} {cs : Array Value} {t : TypeId} {L : List (Array Value × TypeId)} (h : Has w0 w (a0 :: a1 :: a2 :: a3 :: a4 :: a5 :: (cs, t) :: L)) (i : Nat) : w.frozen? ⟨w0.heap.size + 1 + 1 + 1 + 1 + 1 + 1, i, none⟩ = false := holds_frozen h.h6 i
theorem Has.s6 {w0 w : World} {a0 a1 a2 a3 a4 a5 : Array Value × TypeId} {cs cs' : Array Value} {t : TypeId} {L : List (Array Value × TypeId)} (h : Has w0 w (a0 :: a1 :: a2 :: a3 :: a4 :: a5 :: (cs, t) :: L)) (i : Nat) (v : Value) (e : cs.setIfInBounds i v = cs') : Has w0 (w.setCell ⟨w0.heap.size + 1 + 1 + 1 + 1 + 1 + 1, i, none⟩ v) (a0 :: a1 :: a2 :: a3 :: a4 :: a5 :: (cs', t) :: L) := h.setCellAt 6 i v cs cs' t rfl e
theorem Has.r6 {w0 w : World} {a0 a1 a2 a3 a4 a5 : Array Value × TypeId} {cs cs' : Array Value} {t : TypeId} {L : List (Array Value × TypeId)} (h : Has w0 w (a0 :: a1 :: a2 :: a3 :: a4 :: a5 :: (cs, t) :: L)) : Has w0 (w.setRow (w0.heap.size + 1 + 1 + 1 + 1 + 1 + 1) cs') (a0 :: a1 :: a2 :: a3 :: a4 :: a5 :: (cs', t) :: L) := h.setRowAt 6 cs cs' t rfl
theorem Has.start1 (w : World) (c0 : Array Value) (t0 : TypeId) : Has w (w.alloc (.cells c0 t0)) [(c0, t0)] := (Has.nil w).push (by simp) _ _
theorem Has.start2 (w : World) (c0 c1 : Array Value) (t0 t1 : TypeId) : Has w ((w.alloc (.cells c0 t0)).alloc (.cells c1 t1)) [(c0, t0), (c1, t1)] := (Has.start1 w c0 t0).push (by simp) _ _
theorem Has.start3 (w : World) (c0 c1 c2 : Array Value) (t0 t1 t2 : TypeId) : Has w (((w.alloc (.cells c0 t0)).alloc (.cells c1 t1)).alloc (.cells c2 t2)) [(c0, t0), (c1, t1), (c2, t2)] := (Has.start2 w c0 c1 t0 t1).push (by simp) _ _
theorem Has.start4 (w : World) (c0 c1 c2 c3 : Array Value) (t0 t1 t2 t3 : TypeId) : Has w ((((w.alloc (.cells c0 t0)).alloc (.cells c1 t1)).alloc (.cells c2 t2)).alloc (.cells c3 t3)) [(c0, t0), (c1, t1), (c2, t2), (c3, t3)] := (Has.start3 w c0 c1 c2 t0 t1 t2).push (by simp) _ _
theorem Has.start5 (w : World) (c0 c1 c2 c3 c4 : Array Value) (t0 t1 t2 t3 t4 : TypeId) : Has w (((((w.alloc (.cells c0 t0)).alloc (.cells c1 t1)).alloc (.cells c2 t2)).alloc (.cells c3 t3)).alloc (.cells c4 t4)) [(c0, t0), (c1, t1), (c2, t2), (c3, t3), (c4, t4)] := (Has.start4 w c0 c1 c2 c3 t0 t1 t2 t3).push (by simp) _ _
theorem Has.start6 (w : World) (c0 c1 c2 c3 c4 c5 : Array Value) (t0 t1 t2 t3 t4 t5 : TypeId) : Has w ((((((w.alloc (.cells c0 t0)).alloc (.cells c1 t1)).alloc (.cells c2 t2)).alloc (.cells c3 t3)).alloc (.cells c4 t4)).alloc (.cells c5 t5)) [(c0, t0), (c1, t1), (c2, t2), (c3, t3), (c4, t4), (c5, t5)] := (Has.start5 w c0 c1 c2 c3 c4 t0 t1 t2 t3 t4).push (by simp) _ _
theorem Has.start7 (w : World) (c0 c1 c2 c3 c4 c5 c6 : Array Value) (t0 t1 t2 t3 t4 t5 t6 : TypeId) : Has w (((((((w.alloc (.cells c0 t0)).alloc (.cells c1 t1)).alloc (.cells c2 t2)).alloc (.cells c3 t3)).alloc (.cells c4 t4)).alloc (.cells c5 t5)).alloc (.cells c6 t6)) [(c0, t0), (c1, t1), (c2, t2), (c3, t3), (c4, t4), (c5, t5), (c6, t6)] := (Has.start6 w c0 c1 c2 c3 c4 c5 t0 t1 t2 t3 t4 t5).push (by simp) _ _

/-- Type T is an array or a struct of n cells. -/
def IsRow (P : Program) (T n : Nat) : Prop := ((∃ fs, P.underlying T = some (.struct fs)) ∨ (∃ k e, P.underlying T = some (.array k e))) ∧ (P.info? T).map (·.size) = some n
section
variable {P : Program} {ops : Array Oper} {rest : List Oper} {o : Oper} {a : Act} {w : World} {Q : Exit → Act → World → Prop}
/-- A guarded operation whose guard says yes is walked as one without a guard. -/
theorem wpL_guard {gd : Nat × Bool} (hg : o.guard = some gd) (hw : Region.wanted o (yielded ops a.tmps) = true) (h : wpList P ops Q ({ o with guard := none } :: rest) a w) : wpList P ops Q (o :: rest) a w := by
  unfold wpList at h ⊢
  rw [if_pos hw]
  rw [if_pos (by simp [Region.wanted])] at h
  exact h
theorem wpL_loadFull {T n : Nat} {x : Operand} {g : Nat} {cs : Array Value} {t : TypeId} (hgd : o.guard = none) (ho : o.op = .load T x) (hx : a.eval x = .pointer (some ⟨g, 0, none⟩)) (hR : IsRow P T n)
    (hg : holds w g cs t) (hn : cs.size = n) (h : wpList P ops Q rest (a.put o.dst (.agg cs)) w) : wpList P ops Q (o :: rest) a w := by
  rcases hR with ⟨⟨fs, hu⟩ | ⟨k, e, hu⟩, hs⟩
  · exact wpList_load_row hgd T x ho g hx t cs (0, 0) _ hg hu rfl (by rw [hs, hn]) h
  · exact wpList_load_row hgd T x ho g hx t cs (0, 0) _ hg hu rfl (by rw [hs, hn]) h
theorem run_loadSub (w : World) (g off n T : Nat) (t : TypeId) (cs new : Array Value) (hg : holds w g cs t) (hR : IsRow P T n) (hb : off + n ≤ cs.size) (hnew : cs.extract off (off + n) = new) :
    (loadVar T ⟨g, off, none⟩).run P w = .ok (.agg new) w := by
  obtain ⟨hd, hs⟩ := hR
  have hl : (loadCells ⟨g, off, none⟩ new.toList.length).run P w = .ok new.toList.toArray w :=
    run_loadCells_list (P := P) w ⟨g, off, none⟩ new.toList (fun j v hv => by
      have hadd : (⟨g, off, none⟩ : Addr).add j = ⟨g, off + j, none⟩ := by unfold Addr.add; split <;> simp_all
      rw [hadd, holds_cell hg]
      rw [← hnew] at hv
      simp at hv
      rw [List.getElem?_take] at hv
      split at hv
      · simpa using hv
      · cases hv)
  have hsz : new.size = n := by rw [← hnew]; simp; omega
  cases hq : P.info? T with
  | none => simp [hq] at hs
  | some i =>
    have hs' : i.size = n := by simpa [hq] using hs
    have hagg : (isAgg T).run P w = .ok true w := by
      unfold isAgg
      rcases hd with ⟨fs, hu⟩ | ⟨k, e, hu⟩
      · rw [Sem.run_bind, run_underlying hu w]; rfl
      · rw [Sem.run_bind, run_underlying hu w]; rfl
    simp only [Array.length_toList, Array.toArray_toList, hsz] at hl
    simp [loadVar, Sem.run_bind, hagg, sizeOf, typeInfo, hq, hs', hl]
theorem wpL_loadSub {T n : Nat} {x : Operand} {g off : Nat} {cs new : Array Value} {t : TypeId} (hgd : o.guard = none) (ho : o.op = .load T x) (hx : a.eval x = .pointer (some ⟨g, off, none⟩)) (hR : IsRow P T n)
    (hg : holds w g cs t) (hb : off + n ≤ cs.size) (hnew : cs.extract off (off + n) = new) (h : wpList P ops Q rest (a.put o.dst (.agg new)) w) : wpList P ops Q (o :: rest) a w :=
  wpList_plain hgd fun K hK => by
    have hrun := run_loadSub w g off n T t cs new hg hR hb hnew
    unfold Oper.wp execOp
    simp only [ho, hx, Instr.loadAt, Instr.sureAddr, Sem.run_bind, Sem.run_pure, Result.andThen_ok, hrun]
    exact hK _ _ h
/-- n cells, each of which one store may write. -/
def CellsOk (cs : Array Value) (n : Nat) : Prop := cs.size = n ∧ cs.all (·.oneCell') = true
theorem u8s_ok (n : Nat) (f : Nat → UInt8) : CellsOk (u8s n f) n := ⟨u8s_size n f, u8s_one n f⟩
theorem bls_ok (n : Nat) (f : Nat → Bool) : CellsOk (bls n f) n := ⟨bls_size n f, bls_one n f⟩
theorem sqc_ok (o : Int) (f : Nat → UInt8) : CellsOk (sqc o f) 101 := ⟨sqc_size o f, sqc_all1 o f⟩
theorem wpL_storeFull {T n : Nat} {x y : Operand} {g : Nat} {cs new : Array Value} {t : TypeId} (hgd : o.guard = none) (ho : o.op = .store T x y) (hx : a.eval x = .pointer (some ⟨g, 0, none⟩)) (hy : a.eval y = .agg new) (hR : IsRow P T n)
    (hg : holds w g cs t) (hn : cs.size = n) (hk : CellsOk new n) (h : wpList P ops Q rest (a.put o.dst undef) (w.setRow g new)) : wpList P ops Q (o :: rest) a w := by
  obtain ⟨_, hs⟩ := hR
  obtain ⟨hn', h1⟩ := hk
  exact wpList_store_row hgd T x y ho g new hx hy t cs hg (by rw [hs, hn']) (by omega) h1 h
theorem wpL_storeSame {T n : Nat} {x y : Operand} {g : Nat} {new : Array Value} {t : TypeId} (hgd : o.guard = none) (ho : o.op = .store T x y) (hx : a.eval x = .pointer (some ⟨g, 0, none⟩)) (hy : a.eval y = .agg new) (hR : IsRow P T n)
    (hg : holds w g new t) (hk : CellsOk new n) (h : wpList P ops Q rest (a.put o.dst undef) w) : wpList P ops Q (o :: rest) a w := by
  refine wpL_storeFull hgd ho hx hy hR hg hk.1 hk ?_
  rw [setRow_self w g new t (0, 0) hg]; exact h
/-- The cells 'new' laid over cs from place off on. -/
def over (cs : Array Value) (off : Nat) (new : Array Value) : Array Value := (cs.toList.take off ++ new.toList ++ cs.toList.drop (off + new.size)).toArray
theorem over_size (cs : Array Value) (off : Nat) (new : Array Value) (h : off + new.size ≤ cs.size) : (over cs off new).size = cs.size := by
  simp [over]; omega
theorem over_get (cs : Array Value) (off : Nat) (new : Array Value) (h : off + new.size ≤ cs.size) (i : Nat) : (over cs off new)[i]? = if off ≤ i ∧ i < off + new.size then new[i - off]? else cs[i]? := by
  simp only [over, List.getElem?_toArray, List.append_assoc]
  rw [List.getElem?_append]
  simp only [List.length_take, Array.length_toList]
  by_cases h1 : i < off
  · rw [if_pos (by omega), if_neg (by omega), List.getElem?_take, if_pos h1]; simp
  · rw [if_neg (by omega), List.getElem?_append]
    simp only [Array.length_toList]
    rw [show min off cs.size = off by omega]
    by_cases h2 : i < off + new.size
    · rw [if_pos (by omega), if_pos ⟨by omega, h2⟩]; simp
    · rw [if_neg (by omega), if_neg (by omega), List.getElem?_drop]
      rw [show off + new.size + (i - off - new.size) = i by omega]; simp
theorem wpL_storeSub {T n : Nat} {x y : Operand} {g off : Nat} {cs new cs' : Array Value} {t : TypeId} (hgd : o.guard = none) (ho : o.op = .store T x y) (hx : a.eval x = .pointer (some ⟨g, off, none⟩)) (hy : a.eval y = .agg new) (hR : IsRow P T n)
    (hg : holds w g cs t) (hk : CellsOk new n) (hb : off + n ≤ cs.size) (e : over cs off new = cs') (h : wpList P ops Q rest (a.put o.dst undef) (w.setRow g cs')) : wpList P ops Q (o :: rest) a w :=
  wpList_plain hgd fun K hK => by
    obtain ⟨_, hs⟩ := hR
    obtain ⟨hn', h1⟩ := hk
    have hst := run_storeCells_at P g off t new.toList 0 cs w hg (by simp; omega) (fun v hv => (Array.all_eq_true_iff_forall_mem.1 h1) v (by simpa using hv))
    simp only [Nat.add_zero, Array.length_toList] at hst
    have hst' : (storeCells ⟨g, off, none⟩ new.toList).run P w = .ok () (w.setRow g cs') := by rw [← e]; exact hst
    cases hq : P.info? T with
    | none => simp [hq] at hs
    | some i =>
      have hs' : new.size = i.size := by simp [hq] at hs; omega
      have hrun : (storeVar T ⟨g, off, none⟩ (.agg new)).run P w = .ok () (w.setRow g cs') := by
        simp [storeVar, sizeOf, typeInfo, hq, Value.cells, hs', hst']
      unfold Oper.wp execOp
      simp only [ho, hx, hy, Instr.storeAt, Instr.sureAddr, Sem.run_bind, Sem.run_pure, Result.andThen_ok, hrun]
      exact hK _ _ h
/-- The zero value of type T has the cells Z. -/
def ZeroIs (P : Program) (T : Nat) (Z : Array Value) : Prop := (P.info? T).bind (·.zero) = some (.agg Z)
theorem wpL_alloc {T : Nat} {Z : Array Value} (hgd : o.guard = none) (ho : o.op = .alloc T) (hz : ZeroIs P T Z)
    (h : ∀ g, w.heap.size = g → wpList P ops Q rest (a.put o.dst (.pointer (some ⟨g, 0, none⟩))) (w.alloc (.cells Z T))) : wpList P ops Q (o :: rest) a w :=
  wpList_plain hgd fun K hK => by
    obtain ⟨i, hi, hz⟩ := Option.bind_eq_some_iff.1 hz
    have hrun : (Instr.alloc T true (.tuple #[])).run P w = .ok (.pointer (some ⟨w.heap.size, 0, none⟩)) (w.alloc (.cells Z T)) := by
      simp [Instr.alloc, zeroValue, typeInfo, hi, hz, newVar, newRow, Value.cells]
    unfold Oper.wp execOp
    simp only [ho, Sem.run_bind, hrun, Result.andThen_ok]
    exact hK _ _ (h _ rfl)
theorem wpL_allocN {T : Nat} {Z : Array Value} (hgd : o.guard = none) (ho : o.op = .alloc T) (hz : ZeroIs P T Z)
    (h : ∀ g w', holds w' g Z T → w.heap.size ≤ g → Below w.heap.size w w' → wpList P ops Q rest (a.put o.dst (.pointer (some ⟨g, 0, none⟩))) w') : wpList P ops Q (o :: rest) a w :=
  wpL_alloc hgd ho hz fun g hg => by
    subst hg
    exact h _ _ (holds_new _ _ _) (Nat.le_refl _) ((Below.refl _ _).alloc (Nat.le_refl _) _)
theorem wpL_storeN {T n : Nat} {x y : Operand} {g : Nat} {cs new : Array Value} {t : TypeId} (hgd : o.guard = none) (ho : o.op = .store T x y) (hx : a.eval x = .pointer (some ⟨g, 0, none⟩)) (hy : a.eval y = .agg new) (hR : IsRow P T n)
    (hg : holds w g cs t) (hn : cs.size = n) (hk : CellsOk new n)
    (h : ∀ w', holds w' g new t → (∀ b c u, b ≠ g → holds w b c u → holds w' b c u) → (∀ w0 L, Has w0 w L → w0.heap.size + L.length ≤ g → Has w0 w' L) → wpList P ops Q rest (a.put o.dst undef) w') : wpList P ops Q (o :: rest) a w :=
  wpL_storeFull hgd ho hx hy hR hg hn hk (h _ (holds_row hg) (fun _ _ _ hb hc => holds_row_other hc hb) (fun _ _ hH hlo => hH.setRowAbove hlo _))
theorem wpL_build {T : Nat} {Z : Array Value} (hgd : o.guard = none) (ho : o.op = .build T #[]) (hz : P.built T [] = some Z)
    (h : wpList P ops Q rest (a.put o.dst (.agg Z)) w) : wpList P ops Q (o :: rest) a w := by
  refine wpList_build hgd T #[] ho ?_ ?_
  · simp [hz]
  · simpa [hz] using h
end
section
variable {P : Program} {fn : Func} {R : Ending → World → Prop} {tmps : Array Value} {w : World}
theorem run_cell {n T g : Nat} {cs : Array Value} {t : TypeId} (hg : holds w g cs t) (hR : IsRow P T n) (hn : cs.size = n) : (loadVar T ⟨g, 0, none⟩).run P w = .ok (.agg cs) w := by
  rcases hR with ⟨⟨fs, hu⟩ | ⟨k, e, hu⟩, hs⟩
  · exact run_loadVar_row w g t T cs (0, 0) _ hg hu rfl (by rw [hs, hn])
  · exact run_loadVar_row w g t T cs (0, 0) _ hg hu rfl (by rw [hs, hn])
theorem ret_c {p T n g : Nat} {cs : Array Value} {t : TypeId} (hr : fn.results = #[.cell p T]) (hp : tmps[p]? = some (.pointer (some ⟨g, 0, none⟩))) (hg : holds w g cs t) (hR : IsRow P T n) (hn : cs.size = n)
    (h : R (.returned (.agg cs)) w) : bodyPost P fn R .ret ⟨tmps, []⟩ w :=
  bodyPost_ret (v := .agg cs) (by simp [results, hr, hp, asAddr, run_cell hg hR hn]) rfl h
theorem ret_ct {p T n g u : Nat} {cs : Array Value} {t : TypeId} {x : Value} (hr : fn.results = #[.cell p T, .tmp u]) (hp : tmps[p]? = some (.pointer (some ⟨g, 0, none⟩))) (hu : tmps[u]? = some x) (hg : holds w g cs t) (hR : IsRow P T n) (hn : cs.size = n)
    (h : R (.returned (.tuple #[.agg cs, x])) w) : bodyPost P fn R .ret ⟨tmps, []⟩ w :=
  bodyPost_ret (v := .tuple #[.agg cs, x]) (by simp [results, hr, hp, hu, asAddr, run_cell hg hR hn]) rfl h
end
end Go.Proofs.Ytbhjbllgmenbaaa
