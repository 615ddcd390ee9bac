/- Proved: what the model's centre is. Conditions: those that each theorem names. -/
import Derived.Test.YtpfhjbcmlebejabNr2
namespace Go.Proofs.Ytpfhjbcmlebejab
set_option linter.unusedVariables false
set_option linter.unusedSimpArgs false
open Go.RowKit
theorem below_cell {w w' : World} {a : Addr} {v : Value} (hb : Below w.heap.size w w') (h : w.cell? a = some v) : w'.cell? a = some v :=
  (hb.cell (World.block_lt_of_cell? w _ h)).trans h
/-- The elements of the commutant, as numbers. -/
noncomputable def comL (g : Nat → UInt8) (N : Nat) : List Nat := (List.range N).filter (comB g N)
noncomputable def regs (g : Nat → UInt8) (N a : Nat) : Bool := regB g N 0 a && (regB g N 1 a && regB g N 2 a)
/-- What has been taken over of the first i of them. -/
noncomputable def cenL (g : Nat → UInt8) (N i : Nat) : List Int := (((comL g N).take i).filter (regs g N)).map (fun (j : Nat) => (j : Int))
theorem cenL_done (g : Nat → UInt8) (N i : Nat) (h : (comL g N).length ≤ i) : cenL g N i = selL (cenB g N) N := by
  unfold cenL selL
  rw [List.take_of_length_le h]
  unfold comL
  rw [List.filter_filter]
  rfl
theorem comL_at {g : Nat → UInt8} {N i : Nat} (hi : i < (comL g N).length) : ∃ a, a < N ∧ (comL g N)[i]? = some a ∧ (selL (comB g N) N).getD i 0 = (a : Int) := by
  refine ⟨(comL g N)[i], ?_, List.getElem?_eq_getElem hi, ?_⟩
  · have := List.getElem_mem hi
    unfold comL at this
    exact List.mem_range.1 (List.mem_filter.1 this).1
  · show (((comL g N).map (fun (j : Nat) => (j : Int))).getD i 0) = _
    simp [List.getD, hi]
theorem cenL_yes {g : Nat → UInt8} {N i a : Nat} (h : (comL g N)[i]? = some a) (hr : regs g N a = true) : cenL g N (i + 1) = cenL g N i ++ [(a : Int)] := by
  unfold cenL
  rw [List.take_add_one, h]
  simp [hr]
theorem cenL_no {g : Nat → UInt8} {N i a : Nat} (h : (comL g N)[i]? = some a) (hr : regs g N a = false) : cenL g N (i + 1) = cenL g N i := by
  unfold cenL
  rw [List.take_add_one, h]
  simp [hr]
theorem cenL_len (g : Nat → UInt8) (N i : Nat) : (cenL g N i).length ≤ N := by
  unfold cenL comL
  rw [List.length_map]
  refine Nat.le_trans (List.length_filter_le _ _) (Nat.le_trans (List.length_take_le' _ _) (Nat.le_trans (List.length_filter_le _ _) (by simp)))
theorem com_zero {g : Nat → UInt8} {N : Nat} (h : IsLp N g) : comB g N 0 = true := comB_iff.2 fun x hx => by
  show (g (0 * 10 + x)).toNat = (g (x * 10 + 0)).toNat
  rw [Nat.zero_mul, Nat.zero_add, Nat.add_zero, h.row x hx, h.col x hx]
theorem com_pos {g : Nat → UInt8} {N : Nat} (h : IsLp N g) : 0 < (comL g N).length := by
  have h1 := h.sq.lo
  exact List.length_pos_of_mem (List.mem_filter.2 ⟨List.mem_range.2 (show 0 < N by omega), com_zero h⟩)
theorem com_len (g : Nat → UInt8) (N : Nat) : (selL (comB g N) N).length = (comL g N).length := by unfold selL comL; rw [List.length_map]
/-- The state of the walk: out is a list of its own, in another block than the commutant. -/
structure CSt (wr : World) (B gl M : Nat) (g : Nat → UInt8) (N i : Nat) (v : Value) : Prop where
  own : OL wr B v (cenL g N i)
  row : Row wr gl M (fun i => (selL (comB g N) N).getD i 0)
  ne : v.ownBlock ≠ some gl
theorem CSt.below {wr w' : World} {B gl M N i : Nat} {g : Nat → UInt8} {v : Value} (h : CSt wr B gl M g N i v) (hb : Below wr.heap.size wr w') : CSt w' B gl M g N i v := ⟨h.own.below hb, h.row.below hb, h.ne⟩
theorem CSt.next {wr w2 : World} {B gl M N i r cap a : Nat} {g : Nat → UInt8} {v : Value} {o : Obj} (h : CSt wr B gl M g N i v) (hi : (comL g N)[i]? = some a) (hr : regs g N a = true)
    (how : OL w2 B (.slice (some ⟨r, 0, none⟩) ((cenL g N i).length + 1) cap) (cenL g N i ++ [(a : Int)])) (hg : (wr.alloc o).grownBy w2 v.ownBlock) (hor : v.ownBlock = some r ∨ r = (wr.alloc o).heap.size) :
    CSt w2 B gl M g N (i + 1) (.slice (some ⟨r, 0, none⟩) ((cenL g N i).length + 1) cap) := by
  refine ⟨by rw [cenL_yes hi hr]; exact how, (h.row.alloc o).grown' hg h.ne, ?_⟩
  have hlt := h.row.lt
  intro e
  have e' : r = gl := by simpa [Value.ownBlock] using e
  rcases hor with h1 | h1
  · exact h.ne (by rw [h1, e'])
  · have : (wr.alloc o).heap.size = wr.heap.size + 1 := by simp
    omega
end Go.Proofs.Ytpfhjbcmlebejab
