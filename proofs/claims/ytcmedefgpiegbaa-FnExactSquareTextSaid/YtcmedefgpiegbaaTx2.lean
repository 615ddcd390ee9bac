/- Proved: what the program's SquareText returns. Conditions: those that each theorem names. -/
import Derived.Test.YtcmedefgpiegbaaTx
namespace Go.Proofs.Ytcmedefgpiegbaa
set_option linter.unusedVariables false
set_option linter.unusedSimpArgs false
open Go.RowKit
set_option maxRecDepth 20000 in
theorem specSquareText_no (o : Int) (g : Nat → UInt8) (w : World) (hs : sqB o g = false) :
    Calls Try.prog 28 #[.agg (sqc o g)] w fun e w' => e = .returned (.tuple #[.string ⟨#[]⟩, .int .i64 1]) ∧ Below w.heap.size w w' := by
  have hH := Has.start1 w (sqc o g) 30
  go_enter Try.func28, Try.ntmps28
  go_wp2_with (first | (refine wpL_loadFull rfl rfl rfl rowSq hH.h0 (sqc_size _ _) ?_) | (go_at_call 67; refine (l01Is_any o g _).mono ?_; rintro e w2 ⟨rfl, hb⟩; replace hH := hH.call' hb; rw [hs]))
  go_ret2
  exact ⟨rfl, hH.below⟩
set_option maxRecDepth 20000 in
theorem specSquareText_yes (N : Nat) (g : Nat → UInt8) (w : World) (hs : sqB (N : Int) g = true) :
    Calls Try.prog 28 #[.agg (sqc N g)] w fun e w' => e = .returned (.tuple #[.string ⟨(txt g N N).toArray⟩, .int .i64 0]) ∧ Below w.heap.size w w' := by
  have hH := Has.start1 w (sqc N g) 30
  have HQ := hid (sqB_nat.1 hs)
  go_enter Try.func28, Try.ntmps28
  go_wp2_with (first | (refine wpL_loadFull rfl rfl rfl rowSq hH.h0 (sqc_size _ _) ?_) | (go_at_call 67; refine (l01Is_any N g _).mono ?_; rintro e w2 ⟨rfl, hb⟩; replace hH := hH.call' hb; clear hb; rw [hs]) | (go_at_call 70; refine (l01Text_any N g _ HQ.out).mono ?_; rintro e w2 ⟨rfl, hb⟩; replace hH := hH.call' hb; clear hb))
  go_ret2
  exact ⟨rfl, hH.below⟩
set_option maxRecDepth 20000 in
theorem implSquareText_no (o : Int) (g : Nat → UInt8) (w : World) (hs : sqB o g = false) :
    Calls Try.prog 29 #[.agg (sqc o g)] w fun e w' => e = .returned (.tuple #[.string ⟨#[]⟩, .int .i64 1]) ∧ Below w.heap.size w w' := by
  have hH := Has.start1 w (sqc o g) 30
  go_enter Try.func29, Try.ntmps29
  go_wp2_with (first | (refine wpL_loadFull rfl rfl rfl rowSq hH.h0 (sqc_size _ _) ?_) | (go_at_call 50; refine (IsSquare_any o g _).mono ?_; rintro e w2 ⟨rfl, hb⟩; replace hH := hH.call' hb; rw [hs]))
  go_ret2
  exact ⟨rfl, hH.below⟩
/-- A builder that holds the bytes l. -/
abbrev Bld (B b : Nat) (l : List UInt8) (w : World) : Prop := Lib.IsBuilder 79 5 B b (Lib.byteCells l) w
theorem bld_at {B b : Nat} {p : Value} {bs : List Value} {w w' : World} (h : Lib.BuilderAt 79 5 B b p bs w) (e : ∀ k, k < w.heap.size → (k = b ∨ ∃ cs, w.heap[k]? = some (.cells cs 5 (0, 0))) → w'.heap[k]? = w.heap[k]?) : Lib.BuilderAt 79 5 B b p bs w' := by
  obtain ⟨hB, v, hb, hown, hne⟩ := h
  refine ⟨hB, v, ?_, ?_, hne⟩
  · rw [e b (Array.getElem?_eq_some_iff.1 hb).1 (.inl rfl)]; exact hb
  · refine ⟨hown.1, ?_⟩
    rcases hown.2 with hn | ⟨g, cap, cur, rfl, h1, hg, rest⟩
    · exact .inl hn
    · exact .inr ⟨g, cap, cur, rfl, h1, by rw [e g (Array.getElem?_eq_some_iff.1 hg).1 (.inr ⟨cur, hg⟩)]; exact hg, rest⟩
theorem Bld.kept {B b : Nat} {l : List UInt8} {w w' : World} (h : Bld B b l w) (e : ∀ k, k < w.heap.size → (k = b ∨ ∃ cs, w.heap[k]? = some (.cells cs 5 (0, 0))) → w'.heap[k]? = w.heap[k]?) : Bld B b l w' := by
  rcases h with h | h
  · exact .inl (bld_at h e)
  · exact .inr (bld_at h e)
theorem Bld.block {B b : Nat} {l : List UInt8} {w : World} (h : Bld B b l w) : ∃ cs, holds w b cs 79 := by
  rcases h with h | h
  · obtain ⟨_, v, hb, _⟩ := h; exact ⟨_, hb⟩
  · obtain ⟨_, v, hb, _⟩ := h; exact ⟨_, hb⟩
/-- A store into a block of another type leaves a builder alone. -/
theorem Bld.store {B b g : Nat} {l : List UInt8} {w w' : World} {cs : Array Value} {t : TypeId} (h : Bld B b l w) (hg : holds w g cs t) (h5 : t ≠ 5) (h79 : t ≠ 79)
    (hO : ∀ k c u, k ≠ g → holds w k c u → holds w' k c u) : Bld B b l w' := by
  obtain ⟨cb, hb⟩ := h.block
  refine h.kept fun k hk hor => ?_
  rcases hor with rfl | ⟨c, hc⟩
  · rw [hb]
    refine hO k cb _ (fun e => ?_) hb
    subst e
    rw [holds, hb] at hg
    simp only [Option.some.injEq, Obj.cells.injEq] at hg
    exact h79 hg.2.1.symm
  · rw [hc]
    refine hO k c _ (fun e => ?_) hc
    subst e
    rw [holds, hc] at hg
    simp only [Option.some.injEq, Obj.cells.injEq] at hg
    exact h5 hg.2.1.symm
theorem Bld.fresh {B : Nat} {b : Nat} {w : World} (hB : B ≤ b) (h : holds w b #[.pointer none, .slice none 0 0] 79) : Bld B b [] w := .inl ⟨hB, .slice none 0 0, h, World.ownsRow_nil _ _ _ _, by simp [Value.ownBlock]⟩
/-- The program's state: the bytes l have been written. -/
structure BM (w wr : World) (N : Nat) (g : Nat → UInt8) (b : Nat) (l : List UInt8) : Prop where
  has : Has w wr [(sqc N g, 30)]
  bld : Bld (w.heap.size + 1) b l wr
theorem BM.base {w wr : World} {N b : Nat} {g : Nat → UInt8} {l : List UInt8} (h : BM w wr N g b l) : w.heap.size + 1 ≤ wr.heap.size := by have := h.has.size; simpa using this
theorem BM.below {w wr w' : World} {N b : Nat} {g : Nat → UInt8} {l : List UInt8} (h : BM w wr N g b l) (hb : Below wr.heap.size wr w') : BM w w' N g b l := ⟨h.has.call' hb, h.bld.kept fun k hk _ => hb.block k hk⟩
theorem BM.next {w wr w' : World} {N b : Nat} {g : Nat → UInt8} {l : List UInt8} {x : UInt8} {z : Int} (h : BM w wr N g b l) (hz : z = (x.toNat : Int)) (hw : Lib.IsBuilder 79 5 (w.heap.size + 1) b (Lib.byteCells l ++ [.int .u8 z]) w') (hb : Below (w.heap.size + 1) wr w') : BM w w' N g b (l ++ [x]) :=
  ⟨h.has.call hb (by simp), by
    show Lib.IsBuilder _ _ _ _ _ _
    rw [bytes_snoc, ← hz]; exact hw⟩
theorem cells_len (l : List UInt8) : (Lib.byteCells l).length = l.length := Lib.byteCells_length l
set_option maxRecDepth 20000 in
set_option maxHeartbeats 4000000 in
theorem implSquareText_yes (N : Nat) (g : Nat → UInt8) (w : World) (hs : sqB (N : Int) g = true) :
    Calls Try.prog 29 #[.agg (sqc N g)] w fun e w' => e = .returned (.tuple #[.string ⟨(txt g N N).toArray⟩, .int .i64 0]) ∧ Below w.heap.size w w' := by
  have h1 : 1 ≤ N := by have := sqB_range hs; omega
  have h10 : N ≤ 10 := by have := sqB_range hs; omega
  have hN2 : (N : Int) ≤ 10 := by omega
  have HQ := hid (fun k j (hk : k < N) (hj : j < N) => (show (g (k * 10 + j)).toNat < N from ((sqB_nat.1 hs).rows k hk).lt j hj))
  have HL := hid (txt_len g N h10)
  have hH := Has.start1 w (sqc N g) 30
  go_enter Try.func29, Try.ntmps29
  go_wp2_with (first | (refine wpL_loadFull rfl rfl rfl rowSq hH.h0 (sqc_size _ _) ?_) | (go_at_call 50; refine (IsSquare_any N g _).mono ?_; rintro e w2 ⟨rfl, hb⟩; replace hH := hH.call' hb; clear hb; rw [hs]) | (refine wpL_allocN (o := ⟨some 4, _, _, _, _, _⟩) rfl rfl zeroBd ?_; intro bb w3 hgb hl hb; have HM0 := hid (show BM w w3 N g bb (txt g N 0) from ⟨hH.call' hb, Bld.fresh (by have := hH.size; simp at this; omega) hgb⟩); clear hb hl hgb; have c0 := HM0.out.has.c0 0; rw [sqc_get0] at c0))
  clear hH c0
  go_loopw [17] (fun i wr => ∃ k : Nat, k ≤ N ∧ i = .int .i64 k ∧ Hid (BM w wr N g bb (txt g N k))) (fun i _ => 10 - (intOf i).toNat)
  case atStart => exact ⟨0, by omega, rfl, HM0⟩
  case round =>
    clear HM0
    obtain ⟨k, hk, rfl, hM⟩ := hrel
    obtain ⟨ws, hws⟩ : ∃ ws : World, ws = wr := ⟨_, rfl⟩
    subst hws
    have hlen := HL.out k
    by_cases hlt : k < N
    · have hk10 : k < 10 := by omega
      have hoff : k * 10 + 10 ≤ 100 := by omega
      have hH := hM.out.has
      have hsz := hM.out.base
      by_cases h0 : k = 0
      case' pos =>
        have hd : decide ((0 : Int) < (k : Int)) = false := by simp; omega
        have hd2 : decide (0 < k) = false := by simp; omega
        have HZ := hid (show txt g N k ++ sep k = txt g N k by unfold sep; rw [if_pos h0, List.append_nil])
        clear h0
        go_wp2_with (first
          | (refine wpL_loadRowSq rfl rfl rfl rowB10 hH.h0 hoff ?_)
          | (refine wpL_allocN (o := ⟨some 6, _, _, _, _, _⟩) rfl rfl zeroB10 ?_; intro gr w4 hgr hl hb; have hlo : w.heap.size + 1 ≤ gr := (by omega); replace hM := hid (hM.out.below hb); replace hH := hH.call' hb; clear hb)
          | (refine wpL_storeN (x := .tmp 6) rfl rfl rfl rfl rowB10 hgr (u8s_size _ _) (u8s_ok _ _) ?_; intro w5 hz hO hT; replace hM := hid (show BM w w5 N g bb (txt g N k) from ⟨hT _ _ hM.out.has hlo, hM.out.bld.store hgr (by decide) (by decide) hO⟩); replace hgr := hz; replace hH := hM.out.has; clear hz hO hT; have c0 := hH.c0 0; rw [sqc_get0] at c0))
        have HS := hid (show BM w w5 N g bb (txt g N k ++ sep k) by rw [HZ.out]; exact hM.out)
        clear hd hd2 HZ
      case' neg =>
        have h0' : (0 : Int) < (k : Int) := by omega
        have HZ := hid (show sep k = [47] by unfold sep; rw [if_neg h0])
        clear h0
        go_wp2_with (first
          | (refine wpL_loadRowSq rfl rfl rfl rowB10 hH.h0 hoff ?_)
          | (refine wpL_allocN (o := ⟨some 6, _, _, _, _, _⟩) rfl rfl zeroB10 ?_; intro gr w4 hgr hl hb; have hlo : w.heap.size + 1 ≤ gr := (by omega); replace hM := hid (hM.out.below hb); replace hH := hH.call' hb; clear hb)
          | (refine wpL_storeN (x := .tmp 6) rfl rfl rfl rfl rowB10 hgr (u8s_size _ _) (u8s_ok _ _) ?_; intro w4' hz hO hT; replace hM := hid (show BM w w4' N g bb (txt g N k) from ⟨hT _ _ hM.out.has hlo, hM.out.bld.store hgr (by decide) (by decide) hO⟩); replace hgr := hz; replace hH := hM.out.has; clear hz hO hT; have hbs := hM.out.base)
          | (go_at_call 71; refine (WriteByte_any (w.heap.size + 1) bb (Lib.byteCells (txt g N k)) 47 _ hM.out.bld (by rw [cells_len]; omega) hbs).mono ?_; rintro e w5 ⟨rfl, hw, hb, hK⟩; have HS := hid (show BM w w5 N g bb (txt g N k ++ sep k) by rw [HZ.out]; exact hM.out.next (x := 47) rfl hw hb); replace hgr := hK _ _ _ (by decide) (by decide) hgr; clear hw hb hK; have c0 := HS.out.has.c0 0; rw [sqc_get0] at c0))
        clear HZ h0' hbs
      all_goals
        clear hM c0 hH
        go_loopw [29] (fun i wr => ∃ j : Nat, j ≤ N ∧ i = .int .i64 j ∧ Hid (BM w wr N g bb (txt g N k ++ sep k ++ rowL g k j)) ∧ holds wr gr (u8s 10 (rowF g k)) 22) (fun i _ => 10 - (intOf i).toNat)
        case atStart => exact ⟨0, by omega, rfl, by rw [rowL_zero, List.append_nil]; exact HS, hgr⟩
        case round =>
          clear HS hgr
          obtain ⟨j, hj, rfl, hM, hgr⟩ := hrel
          by_cases hlt2 : j < N
          · have hj10 : j < 10 := by omega
            have hx := HQ.out k j hlt hlt2
            have ca : wr.cell? ⟨gr, j, none⟩ = some (.int .u8 (g (k * 10 + j)).toNat) := by rw [holds_cell hgr, u8s_get _ _ _ (by omega)]; rfl
            obtain ⟨l, hl⟩ : ∃ l, txt g N k ++ sep k ++ rowL g k j = l := ⟨_, rfl⟩
            have hll : l.length ≤ 200 := by
              have := sep_len k
              rw [← hl]
              simp only [List.length_append, rowL_len]; omega
            have HM := hid (show BM w wr N g bb l by rw [← hl]; exact hM.out)
            have HE := hid hl
            have hbs := HM.out.base
            clear hl hM
            go_wp2_with (first | (go_at_call 71; refine (WriteByte_any (w.heap.size + 1) bb (Lib.byteCells l) (48 + ((g (k * 10 + j)).toNat : Int)) _ HM.out.bld (by rw [cells_len]; omega) hbs).mono ?_; rintro e w6 ⟨rfl, hw, hb, hK⟩; have hM2 := hid (HM.out.next (x := dig (g (k * 10 + j))) (dig_int (by omega)) hw hb); have hgr2 := hK _ _ _ (by decide) (by decide) hgr; clear hw hb hK))
            go_roundw
            case rel => exact ⟨j + 1, by omega, by go_num, by rw [rowL_succ, ← List.append_assoc, HE.out]; exact hM2, hgr2⟩
            case measure => simp [intOf]; omega
          · obtain rfl : j = N := by omega
            go_wp2
            go_roundw
            case rel => exact ⟨k + 1, by omega, by go_num, hM⟩
            case measure => simp [intOf]; omega
    · obtain rfl : k = N := by omega
      have hbs := hM.out.base
      go_wp2_with (first | (go_at_call 72; refine (Try.Builder_String_any (w.heap.size + 1) bb (txt g k k) _ hM.out.bld hbs).mono ?_; rintro e w6 ⟨rfl, hb⟩; have hH2 := hM.out.has.call hb (by simp)))
      go_ret2
      exact ⟨rfl, hH2.below⟩
end Go.Proofs.Ytcmedefgpiegbaa
