/- Proved: what the model's centre is. Conditions: those that each theorem names. -/
import Derived.Test.YtphninlinegbbaaNr2
namespace Go.Proofs.Ytphninlinegbbaa
set_option linter.unusedVariables false
set_option linter.unusedSimpArgs false
open Go.RowKit
theorem below_cell {w w' : World} {a : Addr} {v : Value} (hb : Below w.heap.size w w') (h : w.cell? a = some v) : w'.cell? a = some v :=
  (hb.cell (World.block_lt_of_cell? w _ h)).trans h
/-- The elements of the commutant, as numbers. -/
noncomputable def comL (g : Nat → UInt8) (N : Nat) : List Nat := (List.range N).filter (comB g N)
noncomputable def regs (g : Nat → UInt8) (N a : Nat) : Bool := regB g N 0 a && (regB g N 1 a && regB g N 2 a)
/-- What has been taken over of the first i of them. -/
noncomputable def cenL (g : Nat → UInt8) (N i : Nat) : List Int := (((comL g N).take i).filter (regs g N)).map (fun (j : Nat) => (j : Int))
theorem cenL_done (g : Nat → UInt8) (N i : Nat) (h : (comL g N).length ≤ i) : cenL g N i = selL (cenB g N) N := by
  unfold cenL selL
  rw [List.take_of_length_le h]
  unfold comL
  rw [List.filter_filter]
  rfl
theorem comL_at {g : Nat → UInt8} {N i : Nat} (hi : i < (comL g N).length) : ∃ a, a < N ∧ (comL g N)[i]? = some a ∧ (selL (comB g N) N).getD i 0 = (a : Int) := by
  refine ⟨(comL g N)[i], ?_, List.getElem?_eq_getElem hi, ?_⟩
  · have := List.getElem_mem hi
    unfold comL at this
    exact List.mem_range.1 (List.mem_filter.1 this).1
  · show (((comL g N).map (fun (j : Nat) => (j : Int))).getD i 0) = _
    simp [List.getD, hi]
theorem cenL_yes {g : Nat → UInt8} {N i a : Nat} (h : (comL g N)[i]? = some a) (hr : regs g N a = true) : cenL g N (i + 1) = cenL g N i ++ [(a : Int)] := by
  unfold cenL
  rw [List.take_add_one, h]
  simp [hr]
theorem cenL_no {g : Nat → UInt8} {N i a : Nat} (h : (comL g N)[i]? = some a) (hr : regs g N a = false) : cenL g N (i + 1) = cenL g N i := by
  unfold cenL
  rw [List.take_add_one, h]
  simp [hr]
theorem cenL_len (g : Nat → UInt8) (N i : Nat) : (cenL g N i).length ≤ N := by
  unfold cenL comL
  rw [List.length_map]
  refine Nat.le_trans (List.length_filter_le _ _) (Nat.le_trans (List.length_take_le' _ _) (Nat.le_trans (List.length_filter_le _ _) (by simp)))
theorem com_zero {g : Nat → UInt8} {N : Nat} (h : IsLp N g) : comB g N 0 = true := comB_iff.2 fun x hx => by
  show (g (0 * 10 + x)).toNat = (g (x * 10 + 0)).toNat
  rw [Nat.zero_mul, Nat.zero_add, Nat.add_zero, h.row x hx, h.col x hx]
theorem com_pos {g : Nat → UInt8} {N : Nat} (h : IsLp N g) : 0 < (comL g N).length := by
  have h1 := h.sq.lo
  exact List.length_pos_of_mem (List.mem_filter.2 ⟨List.mem_range.2 (show 0 < N by omega), com_zero h⟩)
theorem com_len (g : Nat → UInt8) (N : Nat) : (selL (comB g N) N).length = (comL g N).length := by unfold selL comL; rw [List.length_map]
/-- The state of the walk: out is a list of its own, in another block than the commutant. -/
structure CSt (wr : World) (B gl M : Nat) (g : Nat → UInt8) (N i : Nat) (v : Value) : Prop where
  own : OL wr B v (cenL g N i)
  row : Row wr gl M (fun i => (selL (comB g N) N).getD i 0)
  ne : v.ownBlock ≠ some gl
theorem CSt.below {wr w' : World} {B gl M N i : Nat} {g : Nat → UInt8} {v : Value} (h : CSt wr B gl M g N i v) (hb : Below wr.heap.size wr w') : CSt w' B gl M g N i v := ⟨h.own.below hb, h.row.below hb, h.ne⟩
theorem CSt.next {wr w2 : World} {B gl M N i r cap a : Nat} {g : Nat → UInt8} {v : Value} {o : Obj} (h : CSt wr B gl M g N i v) (hi : (comL g N)[i]? = some a) (hr : regs g N a = true)
    (how : OL w2 B (.slice (some ⟨r, 0, none⟩) ((cenL g N i).length + 1) cap) (cenL g N i ++ [(a : Int)])) (hg : (wr.alloc o).grownBy w2 v.ownBlock) (hor : v.ownBlock = some r ∨ r = (wr.alloc o).heap.size) :
    CSt w2 B gl M g N (i + 1) (.slice (some ⟨r, 0, none⟩) ((cenL g N i).length + 1) cap) := by
  refine ⟨by rw [cenL_yes hi hr]; exact how, (h.row.alloc o).grown' hg h.ne, ?_⟩
  have hlt := h.row.lt
  intro e
  have e' : r = gl := by simpa [Value.ownBlock] using e
  rcases hor with h1 | h1
  · exact h.ne (by rw [h1, e'])
  · have : (wr.alloc o).heap.size = wr.heap.size + 1 := by simp
    omega
set_option maxRecDepth 20000 in
set_option maxHeartbeats 4000000 in
theorem l05Centre_any (N : Nat) (g : Nat → UInt8) (w : World) (hL : IsLp N g) :
    Calls Try.prog 68 #[.agg (sqc N g)] w (GotV (selL (cenB g N) N) w) := by
  have h1 := hL.sq.lo
  have h10 := hL.sq.hi
  have HQ := hid hL.sq
  have hpos := com_pos hL
  have hend := hid (cenL_done g N (comL g N).length (Nat.le_refl _))
  have hle := hid (fun i => cenL_len g N i)
  have hM := com_len g N
  have hat := hid (fun i (hi : i < (comL g N).length) => comL_at hi)
  have hML : (comL g N).length ≤ N := by unfold comL; exact Nat.le_trans (List.length_filter_le _ _) (by simp)
  obtain ⟨M, hM2⟩ : ∃ M, (comL g N).length = M := ⟨_, rfl⟩
  rw [hM2] at hpos hend hM hat hML
  have HM := hid hM
  have HM2 := hid hM2
  clear hL hM hM2
  have hH := Has.start1 w (sqc N g) 31
  go_enter Try.func68, Try.ntmps68
  go_wp2_with (first | fail | (refine wpL_loadFull rfl rfl rfl rowSq (hH.alloc _).h0 (sqc_size _ _) ?_) | (go_at_call 66; refine (l05Commutant_any N g _ h1 h10).mono ?_; rintro e w3 ⟨vl, rfl, hb, hOl⟩; obtain ⟨gl, cl, rfl, hlo, hRow⟩ := hOl.row (by rw [HM.out]; exact hpos); rw [HM.out] at hRow ⊢; have hO := OL.below (OL.fresh (w.alloc (.cells (sqc N g) 31)) (B := w.heap.size + 1) (by simp) rfl) hb; replace hH := (hH.alloc (.cells #[] 2)).call' hb; clear hb hOl))
  have hlo2 : w.heap.size + 2 ≤ gl := by simpa using hlo
  have hS : CSt w3 (w.heap.size + 1) gl M g N 0 (.slice (some ⟨w.heap.size + 1, 0, none⟩) 0 0) := ⟨by rw [show cenL g N 0 = [] from rfl]; simpa using hO, hRow, by simp [Value.ownBlock]; omega⟩
  have HS := hid hS
  clear hS hO hRow hlo
  go_loopw [3, 5] (fun v i wr => ∃ k : Nat, k ≤ M ∧ i = .int .i64 k ∧ Has w wr [(sqc N g, 31)] ∧ Hid (CSt wr (w.heap.size + 1) gl M g N k v)) (fun _ i _ => 20 - (intOf i).toNat)
  case atStart => exact ⟨0, by omega, rfl, hH, by simpa using HS⟩
  case round =>
    clear hH HS
    obtain ⟨k, hk, rfl, hH, hS⟩ := hrel
    have hsz := hH.size
    simp only [List.length_cons, List.length_nil] at hsz
    by_cases hlt : k < M
    · have hk1 : (k : Int) < M := by omega
      obtain ⟨a, haN, hat1, hval⟩ := hat.out k hlt
      have ci : wr.cell? ⟨gl, k, none⟩ = some (.int .i64 a) := by rw [hS.out.row.cell hlt, hval]
      have HA := hid hat1
      have hlen := hle.out k
      clear hat1 hval
      have ha1 : (a : Int) < 10 := by omega
      cases e0 : regB g N 0 a with
      | false =>
        have HR : Hid (regs g N a = false) := hid (by unfold regs; rw [e0]; rfl)
        go_wp2_with (first | fail | (refine wpL_loadFull rfl rfl rfl rowSq hH.h0 (sqc_size _ _) ?_) | (go_at_call 90; refine (l05Regular_0 N a g _ HQ.out haN).mono ?_; rintro e w5 ⟨rfl, hb⟩; rw [e0]; replace hH := hH.call' hb; replace hS := hid (hS.out.below hb); replace ci := below_cell hb ci; clear hb))
        go_roundw
        case rel => exact ⟨k + 1, by omega, by go_num, hH, hid ⟨by rw [cenL_no HA.out HR.out]; exact hS.out.own, hS.out.row, hS.out.ne⟩⟩
        case measure => simp [intOf]; omega
      | true =>
        cases e1 : regB g N 1 a with
        | false =>
          have HR : Hid (regs g N a = false) := hid (by unfold regs; rw [e0, e1]; rfl)
          go_wp2_with (first | fail | (refine wpL_guard rfl rfl ?_) | (refine wpL_loadFull rfl rfl rfl rowSq hH.h0 (sqc_size _ _) ?_) | (go_at_call 90; with_reducible refine (l05Regular_0 N a g _ HQ.out haN).mono ?_; rintro e w5 ⟨rfl, hb⟩; rw [e0]; replace hH := hH.call' hb; replace hS := hid (hS.out.below hb); replace ci := below_cell hb ci; clear hb) | (go_at_call 90; with_reducible refine (l05Regular_1 N a g _ HQ.out haN).mono ?_; rintro e w6 ⟨rfl, hb⟩; rw [e1]; replace hH := hH.call' hb; replace hS := hid (hS.out.below hb); replace ci := below_cell hb ci; clear hb))
          go_roundw
          case rel => exact ⟨k + 1, by omega, by go_num, hH, hid ⟨by rw [cenL_no HA.out HR.out]; exact hS.out.own, hS.out.row, hS.out.ne⟩⟩
          case measure => simp [intOf]; omega
        | true =>
          cases e2 : regB g N 2 a with
          | false =>
            have HR : Hid (regs g N a = false) := hid (by unfold regs; rw [e0, e1, e2]; rfl)
            go_wp2_with (first | fail | (refine wpL_guard rfl rfl ?_) | (refine wpL_loadFull rfl rfl rfl rowSq hH.h0 (sqc_size _ _) ?_) | (go_at_call 90; with_reducible refine (l05Regular_0 N a g _ HQ.out haN).mono ?_; rintro e w5 ⟨rfl, hb⟩; rw [e0]; replace hH := hH.call' hb; replace hS := hid (hS.out.below hb); replace ci := below_cell hb ci; clear hb) | (go_at_call 90; with_reducible refine (l05Regular_1 N a g _ HQ.out haN).mono ?_; rintro e w6 ⟨rfl, hb⟩; rw [e1]; replace hH := hH.call' hb; replace hS := hid (hS.out.below hb); replace ci := below_cell hb ci; clear hb) | (go_at_call 90; with_reducible refine (l05Regular_2 N a g _ HQ.out haN).mono ?_; rintro e w7 ⟨rfl, hb⟩; rw [e2]; replace hH := hH.call' hb; replace hS := hid (hS.out.below hb); replace ci := below_cell hb ci; clear hb))
            go_roundw
            case rel => exact ⟨k + 1, by omega, by go_num, hH, hid ⟨by rw [cenL_no HA.out HR.out]; exact hS.out.own, hS.out.row, hS.out.ne⟩⟩
            case measure => simp [intOf]; omega
          | true =>
            have HR : Hid (regs g N a = true) := hid (by unfold regs; rw [e0, e1, e2]; rfl)
            go_wp2_with (first | fail | (refine wpL_guard rfl rfl ?_) | (refine wpL_loadFull rfl rfl rfl rowSq hH.h0 (sqc_size _ _) ?_) | (go_at_call 90; with_reducible refine (l05Regular_0 N a g _ HQ.out haN).mono ?_; rintro e w5 ⟨rfl, hb⟩; rw [e0]; replace hH := hH.call' hb; replace hS := hid (hS.out.below hb); replace ci := below_cell hb ci; clear hb) | (go_at_call 90; with_reducible refine (l05Regular_1 N a g _ HQ.out haN).mono ?_; rintro e w6 ⟨rfl, hb⟩; rw [e1]; replace hH := hH.call' hb; replace hS := hid (hS.out.below hb); replace ci := below_cell hb ci; clear hb) | (go_at_call 90; with_reducible refine (l05Regular_2 N a g _ HQ.out haN).mono ?_; rintro e w7 ⟨rfl, hb⟩; rw [e2]; have hsz7 := hH.size; have hsb := hb.size; simp only [List.length_cons, List.length_nil] at hsz7; replace hH := hH.call' hb; replace hS := hid (hS.out.below hb); replace ci := below_cell hb ci; clear hb) | (refine wpL_appI (v := u3) (n := (cenL g N k).length) (base := w.heap.size + 1) (z := (a : Int)) rfl (by rfl) (by rfl) (by rfl) (World.ownsRow.alloc hS.out.own _) (by simp) (by omega) (by simp; omega) ?_; intro r cap w2 how hg hor hlt3; have hS2 := hid (hS.out.next HA.out HR.out (OL.add how) hg hor); replace hH := (hH.alloc _).grown hg (fun x hx => by have := (World.ownsRow.lt hS.out.own x hx).1; simp; omega); clear how hg hor hlt3))
            go_roundw
            case rel => exact ⟨k + 1, by omega, by go_num, hH, hS2⟩
            case measure => simp [intOf]; omega
    · obtain rfl : k = M := by omega
      have hO := hS.out.own
      rw [hend.out] at hO
      have HO := hid hO
      clear hO
      go_wp2
      go_ret
      exact ⟨_, rfl, hH.below, HO.out.lower (by omega)⟩
set_option maxRecDepth 20000 in
theorem specCentreOf_no (o : Int) (g : Nat → UInt8) (w : World) (hs : loopB o g = false) :
    Calls Try.prog 38 #[.agg (sqc o g)] w fun e w' => e = .returned (.tuple #[.slice none 0 0, .int .i64 1]) ∧ Below w.heap.size w w' := by
  have hH := Has.start1 w (sqc o g) 31
  go_enter Try.func38, Try.ntmps38
  go_wp2_with (first | (refine wpL_loadFull rfl rfl rfl rowSq hH.h0 (sqc_size _ _) ?_) | (go_at_call 60; refine (l01Loop_any o g _).mono ?_; rintro e w2 ⟨rfl, hb⟩; replace hH := hH.call' hb; clear hb; rw [hs]))
  go_ret2
  exact ⟨rfl, hH.below⟩
set_option maxRecDepth 20000 in
theorem specCentreOf_yes (N : Nat) (g : Nat → UInt8) (w : World) (hl : loopB (N : Int) g = true) (hL : IsLp N g) :
    Calls Try.prog 38 #[.agg (sqc N g)] w (GotL (selL (cenB g N) N) 0 w) := by
  have HL := hid hL
  clear hL
  have hH := Has.start1 w (sqc N g) 31
  go_enter Try.func38, Try.ntmps38
  go_wp2_with (first | (refine wpL_loadFull rfl rfl rfl rowSq hH.h0 (sqc_size _ _) ?_) | (go_at_call 60; refine (l01Loop_any N g _).mono ?_; rintro e w2 ⟨rfl, hb⟩; replace hH := hH.call' hb; clear hb; rw [hl]) | (go_at_call 68; refine (l05Centre_any N g _ HL.out).mono ?_; rintro e w3 ⟨v, rfl, hb, hO⟩; have hlo := hH.size; simp only [List.length_cons, List.length_nil] at hlo; replace hH := hH.call' hb; clear hb))
  go_ret2
  exact hO.got hH.below (by omega)
end Go.Proofs.Ytphninlinegbbaa
