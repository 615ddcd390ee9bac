/- Proved: what the program's function that makes a square by a maker returns, and what its makers of doubles, of squares of orthomorphisms and of prolongations return. Conditions: those that each theorem names. -/
import Derived.Test.YtcdlnkjljijlmaaMk0
import Derived.Test.YtcdlnkjljijlmaaDv
import Derived.Test.YtcdlnkjljijlmaaPa1
import Derived.Deep.LoopGhost
import Derived.Shelf.Abstract
namespace Go.Proofs.Ytcdlnkjljijlmaa
set_option linter.unusedVariables false
set_option linter.unusedSimpArgs false
open Go.RowKit
set_option maxRecDepth 20000 in
set_option maxHeartbeats 1000000 in
theorem rightQuotient_any (N gb : Nat) (g : Nat → UInt8) (x y : UInt8) (w : World) (h10 : N ≤ 10) (hx : x.toNat < N) (hy : y.toNat < N) (hg : Dv w gb N g) :
    Calls Try.prog 116 #[.pointer (some ⟨gb, 0, none⟩), .int .u8 x.toNat, .int .u8 y.toNat] w fun e w' => e = .returned (.int .u8 (backF (colF g y.toNat) N x.toNat).toNat) ∧ Below w.heap.size w w' := by
  have hx' : (x.toNat : Int) < 10 := by omega
  have hy' : (y.toNat : Int) < 10 := by omega
  have hv : ovF g N (x.toNat * 10 + y.toNat) = backF (colF g y.toNat) N x.toNat := ovF_get h10 hx hy
  have ca : w.cell? ⟨gb, 203 + x.toNat * 10 + y.toNat, none⟩ = some (.int .u8 (backF (colF g y.toNat) N x.toNat).toNat) := by rw [holds_cell hg, Nat.add_assoc, dvc_byte2 _ _ _ _ _ (by omega), hv]
  clear hv
  go_enter Try.func116, Try.ntmps116
  go_wp2
  go_ret
  exact ⟨rfl, Below.refl _ _⟩
/-- What a square is made of. -/
def matc (p ts : Value) (fa : UInt8) (co : Value) (pl : Nat → UInt8) : Array Value := (p :: ts :: .int .u8 fa.toNat :: co :: (u8s 10 pl).toList).toArray
theorem matc_size (p ts : Value) (fa : UInt8) (co : Value) (pl : Nat → UInt8) : (matc p ts fa co pl).size = 14 := by simp [matc]
theorem matc_0 (p ts : Value) (fa : UInt8) (co : Value) (pl : Nat → UInt8) : (matc p ts fa co pl)[0]? = some p := rfl
theorem matc_1 (p ts : Value) (fa : UInt8) (co : Value) (pl : Nat → UInt8) : (matc p ts fa co pl)[1]? = some ts := rfl
theorem matc_2 (p ts : Value) (fa : UInt8) (co : Value) (pl : Nat → UInt8) : (matc p ts fa co pl)[2]? = some (.int .u8 fa.toNat) := rfl
theorem matc_3 (p ts : Value) (fa : UInt8) (co : Value) (pl : Nat → UInt8) : (matc p ts fa co pl)[3]? = some co := rfl
theorem matc_pl (p ts : Value) (fa : UInt8) (co : Value) (pl : Nat → UInt8) (i : Nat) (h : i < 10) : (matc p ts fa co pl)[4 + i]? = some (.int .u8 (pl i).toNat) := by
  have := u8s_get 10 pl i h
  unfold matc
  rw [show 4 + i = (((i + 1) + 1) + 1) + 1 by omega]
  simpa using this
theorem matc_places (p ts : Value) (fa : UInt8) (co : Value) (pl : Nat → UInt8) : (matc p ts fa co pl).extract 4 (4 + 10) = u8s 10 pl := by
  apply Array.ext'
  have h : (u8s 10 pl).toList.length = 10 := by simp
  simp [matc, List.take_of_length_le, h]
theorem rowMat : IsRow Try.prog 66 14 := ⟨.inl ⟨_, Try.underlying66⟩, by kernel_rfl⟩
theorem zeroMat : ZeroIs Try.prog 66 (matc (.pointer none) (.slice none 0 0) 0 (.slice none 0 0) fun _ => 0) := by unfold ZeroIs; kernel_rfl
theorem builtMat1 (p : Option Addr) : Try.prog.built 66 [(0, .pointer p)] = some (matc (.pointer p) (.slice none 0 0) 0 (.slice none 0 0) fun _ => 0) := by kernel_rfl
theorem builtMat2 (p : Option Addr) (pl : Nat → UInt8) : Try.prog.built 66 [(0, .pointer p), (4, .agg (u8s 10 pl))] = some (matc (.pointer p) (.slice none 0 0) 0 (.slice none 0 0) pl) := by kernel_rfl
theorem matc_ok (p : Option Addr) (A B : Option Addr) (n m k l : Nat) (fa : UInt8) (pl : Nat → UInt8) : CellsOk (matc (.pointer p) (.slice A n m) fa (.slice B k l) pl) 14 := by
  refine ⟨matc_size _ _ _ _ _, ?_⟩
  have := u8s_one 10 pl
  rw [← Array.all_toList] at this ⊢
  simp only [matc, List.all_cons, this, Bool.and_true]
  rfl
/-- The makers, by their ways. -/
def mkId (k : Nat) : FuncId := if k = 0 then 108 else if k = 1 then 109 else if k = 2 then 110 else if k = 3 then 111 else if k = 4 then 112 else 113
def mkFns : Array Value := #[.func (.func (mkId 0)) #[] #[], .func (.func (mkId 1)) #[] #[], .func (.func (mkId 2)) #[] #[], .func (.func (mkId 3)) #[] #[], .func (.func (mkId 4)) #[] #[], .func (.func (mkId 5)) #[] #[]]
theorem mkId_enters (k : Nat) : Enters Try.prog (mkId k) := by
  unfold mkId
  split
  · exact enters_of Try.func108 (by kernel_rfl) rfl
  · split
    · exact enters_of Try.func109 (by kernel_rfl) rfl
    · split
      · exact enters_of Try.func110 (by kernel_rfl) rfl
      · split
        · exact enters_of Try.func111 (by kernel_rfl) rfl
        · split
          · exact enters_of Try.func112 (by kernel_rfl) rfl
          · exact enters_of Try.func113 (by kernel_rfl) rfl
theorem rowMk : IsRow Try.prog 110 6 := ⟨.inr ⟨_, _, Try.underlying110⟩, by kernel_rfl⟩
def mkNil : Array Value := #[.nilFunc, .nilFunc, .nilFunc, .nilFunc, .nilFunc, .nilFunc]
theorem zeroMk : ZeroIs Try.prog 110 mkNil := by unfold ZeroIs; kernel_rfl
theorem mkNil_size : mkNil.size = 6 := rfl
theorem mkFns_ok : CellsOk mkFns 6 := ⟨rfl, by kernel_rfl⟩
theorem builtMk : Try.prog.built 110 [(0, .func (.func (mkId 0)) #[] #[]), (1, .func (.func (mkId 1)) #[] #[]), (2, .func (.func (mkId 2)) #[] #[]), (3, .func (.func (mkId 3)) #[] #[]), (4, .func (.func (mkId 4)) #[] #[]), (5, .func (.func (mkId 5)) #[] #[])] = some mkFns := by kernel_rfl
theorem ixMk0 (w : World) : (Instr.index 110 (.agg mkFns) (.int .i64 ((0 : Nat) : Int))).run Try.prog w = .ok (.func (.func (mkId 0)) #[] #[]) w := by kernel_rfl
theorem ixMk1 (w : World) : (Instr.index 110 (.agg mkFns) (.int .i64 ((1 : Nat) : Int))).run Try.prog w = .ok (.func (.func (mkId 1)) #[] #[]) w := by kernel_rfl
theorem ixMk2 (w : World) : (Instr.index 110 (.agg mkFns) (.int .i64 ((2 : Nat) : Int))).run Try.prog w = .ok (.func (.func (mkId 2)) #[] #[]) w := by kernel_rfl
theorem ixMk3 (w : World) : (Instr.index 110 (.agg mkFns) (.int .i64 ((3 : Nat) : Int))).run Try.prog w = .ok (.func (.func (mkId 3)) #[] #[]) w := by kernel_rfl
theorem ixMk4 (w : World) : (Instr.index 110 (.agg mkFns) (.int .i64 ((4 : Nat) : Int))).run Try.prog w = .ok (.func (.func (mkId 4)) #[] #[]) w := by kernel_rfl
theorem ixMk5 (w : World) : (Instr.index 110 (.agg mkFns) (.int .i64 ((5 : Nat) : Int))).run Try.prog w = .ok (.func (.func (mkId 5)) #[] #[]) w := by kernel_rfl
theorem ixMk (k : Nat) (hk : k < 6) (w : World) : (Instr.index 110 (.agg mkFns) (.int .i64 k)).run Try.prog w = .ok (.func (.func (mkId k)) #[] #[]) w := by
  have : k = 0 ∨ k = 1 ∨ k = 2 ∨ k = 3 ∨ k = 4 ∨ k = 5 := by omega
  rcases this with rfl | rfl | rfl | rfl | rfl | rfl
  · exact ixMk0 w
  · exact ixMk1 w
  · exact ixMk2 w
  · exact ixMk3 w
  · exact ixMk4 w
  · exact ixMk5 w
set_option maxRecDepth 20000 in
set_option maxHeartbeats 1000000 in
theorem makers_any (w : World) : Calls Try.prog 96 #[] w fun e w' => e = .returned (.agg mkFns) ∧ Below w.heap.size w w' := by
  have hH := Has.start1 w mkNil 110
  go_enter Try.func96, Try.ntmps96
  go_wp2_with (first | (refine wpL_alloc rfl rfl zeroMk ?_; intro g hg; (try simp at hg); subst hg) | (refine wpL_bu6 rfl rfl (by rfl) (by rfl) (by rfl) (by rfl) (by rfl) (by rfl) builtMk ?_) | (refine wpL_storeFull rfl rfl rfl rfl rowMk hH.h0 mkNil_size mkFns_ok ?_))
  exact ret_c rfl rfl hH.r0.h0 rowMk rfl ⟨rfl, hH.r0.below⟩
section
variable {P : Program} {ops : Array Oper} {rest : List Oper} {o : Oper} {a : Act} {w : World} {Q : Exit → Act → World → Prop}
theorem wpL_cellN {T : Nat} {x y : Operand} {g off : Nat} {v : Value} {cs cs' : Array Value} {t : TypeId} (hgd : o.guard = none) (ho : o.op = .store T x y) (hx : a.eval x = .pointer (some ⟨g, off, none⟩)) (hy : a.eval y = v) (hs : (P.info? T).map (·.size) = some 1) (h1 : v.oneCell' = true)
    (hg : holds w g cs t) (hb : off < cs.size) (e : cs.setIfInBounds off v = cs')
    (h : ∀ w', holds w' g cs' t → (∀ b c u, b ≠ g → holds w b c u → holds w' b c u) → (∀ w0 L, Has w0 w L → w0.heap.size + L.length ≤ g → Has w0 w' L) → wpList P ops Q rest (a.put o.dst undef) w') : wpList P ops Q (o :: rest) a w :=
  wpList_plain hgd fun K hK => by
    have hc : v.cells = #[v] := by cases v <;> first | rfl | cases h1
    have hst := run_storeCells_at P g off t [v] 0 cs w hg (by simp; omega) (fun u hu => by simp at hu; subst hu; exact h1)
    have he : over cs off #[v] = cs' := by
      rw [← e]
      apply Array.ext_getElem?
      intro i
      rw [over_get cs off #[v] (by simp; omega) i, Array.getElem?_setIfInBounds]
      by_cases q : off = i
      · subst q; rw [if_pos (by simp), if_pos rfl, if_pos hb]; simp
      · rw [if_neg (by simp; omega), if_neg q]
    simp only [Nat.add_zero] at hst
    have hst' : (storeCells ⟨g, off, none⟩ [v]).run P w = .ok () (w.setRow g cs') := by rw [← he]; exact hst
    cases hq : P.info? T with
    | none => simp [hq] at hs
    | some i =>
      have hs' : i.size = 1 := by simpa [hq] using hs
      have hrun : (storeVar T ⟨g, off, none⟩ v).run P w = .ok () (w.setRow g cs') := by
        simp [storeVar, sizeOf, typeInfo, hq, hc, hs', hst']
      unfold Oper.wp execOp
      simp only [ho, hx, hy, Instr.storeAt, Instr.sureAddr, Sem.run_bind, Sem.run_pure, Result.andThen_ok, hrun]
      exact hK _ _ (h _ (holds_row hg) (fun _ _ _ hb hc => holds_row_other hc hb) (fun _ _ hH hlo => hH.setRowAbove hlo _))
end
set_option maxRecDepth 20000 in
set_option maxHeartbeats 4000000 in
theorem squareBy_any (way n : Nat) (M : Array Value) (F : Nat → Nat → UInt8) (w : World) (hway : way < 6) (h10 : n ≤ 10) (hMs : M.size = 14)
    (hF : Hid (∀ w' x y, Below w.heap.size w w' → x < n → y < n → Calls Try.prog (mkId way) #[.agg M, .int .u8 (x : Nat), .int .u8 (y : Nat)] w' fun e w'' => e = .returned (.int .u8 (F x y).toNat) ∧ Below w'.heap.size w' w'')) :
    Calls Try.prog 57 #[.agg M, .int .i64 way, .int .i64 n] w fun e w' => e = .returned (.agg (sqc n (fillT n F n 0))) ∧ Below w.heap.size w w' := by
  have hix := ixMk way hway
  have hEn : ∀ (args : Array Value) (w : World), (callFunc (mkId way) args).run Try.prog w = .ok (.enter (mkId way) args) w := mkId_enters way
  have hH := Has.start2 w M (sqc 0 fun _ => 0) 66 28
  go_enter Try.func57, Try.ntmps57
  go_wp2_with (first | fail | (refine wpL_alloc (o := ⟨some 6, _, _, _, _, _⟩) rfl rfl zeroSq ?_; intro g hg; (try simp at hg); subst hg) | (go_at_call 96; refine (makers_any _).mono ?_; rintro e w3 ⟨rfl, hb⟩; replace hH := hH.call' hb; clear hb) | (refine wpL_build1 rfl rfl rfl (builtSqO _) ?_) | (refine wpL_storeN (x := .tmp 8) rfl rfl rfl rfl rowSq hq (sqc_size _ _) (sqc_ok _ _) ?_; intro w5 hz hO hT; replace hq := hz; replace hH := hT _ _ hH hlo; clear hz hO hT) | (refine wpL_allocN (o := ⟨some 8, _, _, _, _, _⟩) rfl rfl zeroSq ?_; intro gq w4 hq hl hb; have hlo : w.heap.size + 2 ≤ gq := (by have := hH.size; simp only [List.length_cons, List.length_nil] at this; omega); replace hH := hH.call' hb; clear hb hl))
  clear hix
  have HQ := hid hlo
  clear hlo
  go_loopw [17] (fun i wr => ∃ k : Nat, k ≤ n ∧ i = .int .i64 k ∧ Has w wr [(M, 66), (sqc 0 (fun _ => 0), 28)] ∧ holds wr gq (sqc n (fillT n F k 0)) 28) (fun i _ => 10 - (intOf i).toNat)
  case atStart => exact ⟨0, by omega, rfl, hH, by rw [fillT_zero]; exact hq⟩
  case round =>
    clear hH hq
    obtain ⟨k, hk, rfl, hH, hq⟩ := hrel
    by_cases hlt : k < n
    · have hk10 : k < 10 := by omega
      have hk10' : (k : Int) < 10 := by omega
      go_wp2
      go_loopw [21] (fun i wx => ∃ j : Nat, j ≤ n ∧ i = .int .i64 j ∧ Has w wx [(M, 66), (sqc 0 (fun _ => 0), 28)] ∧ holds wx gq (sqc n (fillT n F k j)) 28) (fun i _ => 10 - (intOf i).toNat)
      case atStart => exact ⟨0, by omega, rfl, hH, hq⟩
      case round =>
        clear hH hq
        obtain ⟨j, hj, rfl, hH, hq⟩ := hrel
        by_cases hlt2 : j < n
        · have hj10 : j < 10 := by omega
          have hj10' : (j : Int) < 10 := by omega
          have hst := hid (fun i (hi : i < 100) => fillT_step n F k j hj10 i)
          go_wp2
          refine wp_region_frame (X := Unit) (fun d _ => [(24, bif d 0 then .int .i64 k else u24), (25, bif d 1 then .int .i64 j else u25), (26, bif d 2 then .func (.func (mkId way)) #[] #[] else u26), (27, bif d 3 then .agg M else u27), (28, bif d 4 then .int .i64 k else u28), (29, bif d 5 then .int .u8 k else u29), (30, bif d 6 then .int .i64 j else u30), (31, bif d 7 then .int .u8 j else u31), (32, bif d 8 then .int .u8 (F k j).toNat else u32), (33, bif d 9 then .pointer (some ⟨gq, 1, none⟩) else u33), (34, bif d 10 then .pointer (some ⟨gq, 1 + k * 10, none⟩) else u34), (35, bif d 11 then .pointer (some ⟨gq, 1 + k * 10 + j, none⟩) else u35)])
            (fun d _ w' => Has w w' [(M, 66), (sqc 0 (fun _ => 0), 28)] ∧ holds w' gq (sqc n (bif d 12 then fillT n F k (j + 1) else fillT n F k j)) 28) (by kernel_rfl) (by kernel_rfl) ?h0_sb ?hs_sb ?hq_sb
          case h0_sb => exact ⟨(), (by simp [lput]), hH.drew, (show _ from hq)⟩
          case hs_sb =>
            refine ⟨?_, ?_, ?_, ?_, ?_, ?_, ?_, ?_, ?_, ?_, ?_, ?_, ?_, trivial⟩
            all_goals
              clear hH hq
              intro d _ w1 hd hn hJ
              simp only [needs, Region.binds, reduceCtorEq, Bool.false_eq_true, false_implies, true_and, and_true, true_implies, forall_const] at hn
              simp only [lput, List.set, hn, cond_true]
              try simp only [hd, cond_false] at hJ
              obtain ⟨hH, hq⟩ := hJ
              go_wp2_with (first | fail | (refine wpL_loadFull rfl rfl rfl rowMat hH.h0 hMs ?_) | (go_at_fn (mkId way); refine (hF.out _ k j hH.below hlt hlt2).mono ?_; rintro e w3 ⟨rfl, hb⟩; replace hH := hH.call' hb; replace hq := holds_below hq hb (holds_lt hq); clear hb) | (refine wpL_cellN (v := .int .u8 (F k j).toNat) (cs' := sqc n (fillT n F k (j + 1))) (off := 1 + k * 10 + j) rfl rfl rfl rfl (by kernel_rfl) (by rfl) hq (by rw [sqc_size]; omega) (by rw [Nat.add_assoc]; exact sqc_set _ _ _ _ _ hst.out) ?_; intro w4 hz hO hT; replace hH := hT _ _ hH HQ.out; replace hq := hz; clear hz hO hT))
              first
                | (refine ⟨(), ?_, hH, hq⟩; (simp [lput, done, hn]; done))
                | (refine ⟨?_, hH, hq⟩; (simp [lput, done, hn]; done))
                | (refine ⟨(), ?_, hH, hq⟩; (simp [lput, done, hn]; rfl))
                | (refine ⟨?_, hH, hq⟩; (simp [lput, done, hn]; rfl))
                | (refine ⟨(), ?_, hH, hq⟩; (simp [lput, done]; done))
                | (refine ⟨?_, hH, hq⟩; (simp [lput, done]; done))
                | (refine ⟨(), ?_, hH, hq⟩; (simp [lput, done]; rfl))
                | (refine ⟨?_, hH, hq⟩; (simp [lput, done]; rfl))
          case hq_sb =>
            clear hH hq
            intro d _ w1 hd hJ
            simp only [allDone, List.length_cons, List.length_nil, Nat.reduceAdd, and_true] at hd
            obtain ⟨hH, hq⟩ := hJ
            simp only [hd, cond_true] at hH hq
            simp only [lput, List.set, hd, cond_true]
            clear hd
            go_wp2
            go_roundw
            case rel => exact ⟨j + 1, by omega, by go_num, hH, hq⟩
            case measure => simp [intOf]; omega
        · obtain rfl : j = n := by omega
          go_wp2
          go_roundw
          case rel => exact ⟨k + 1, by omega, by go_num, hH, by rw [fillT_row]; exact hq⟩
          case measure => simp [intOf]; omega
    · obtain rfl : k = n := by omega
      go_wp2_with (first | fail | (refine wpL_loadFull rfl rfl rfl rowSq hq (sqc_size _ _) ?_) | (refine wpL_storeFull rfl rfl rfl rfl rowSq hH.h1 (sqc_size _ _) (sqc_ok _ _) ?_))
      exact ret_c rfl rfl hH.r1.h1 rowSq (sqc_size _ _) ⟨rfl, hH.r1.below⟩
theorem squareBy_z (way n : Nat) (z : Int) (hz : z = (n : Int)) (M : Array Value) (F : Nat → Nat → UInt8) (w : World) (hway : way < 6) (h10 : n ≤ 10) (hMs : M.size = 14)
    (hF : Hid (∀ w' x y, Below w.heap.size w w' → x < n → y < n → Calls Try.prog (mkId way) #[.agg M, .int .u8 (x : Nat), .int .u8 (y : Nat)] w' fun e w'' => e = .returned (.int .u8 (F x y).toNat) ∧ Below w'.heap.size w' w'')) :
    Calls Try.prog 57 #[.agg M, .int .i64 way, .int .i64 z] w fun e w' => e = .returned (.agg (sqc n (fillT n F n 0))) ∧ Below w.heap.size w w' := by
  subst hz; exact squareBy_any way n M F w hway h10 hMs hF
end Go.Proofs.Ytcdlnkjljijlmaa
