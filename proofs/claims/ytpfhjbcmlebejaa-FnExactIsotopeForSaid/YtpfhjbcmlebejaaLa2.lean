/- Proved: what LoopAt returns, of program and model alike. Conditions: those that each theorem names. -/
import Derived.Test.YtpfhjbcmlebejaaLa
namespace Go.Proofs.Ytpfhjbcmlebejaa
set_option linter.unusedVariables false
set_option linter.unusedSimpArgs false
open Go.RowKit
set_option maxRecDepth 20000 in
set_option maxHeartbeats 4000000 in
theorem tripleAt_any (N : Nat) (g : Nat → UInt8) (a b : UInt8) (w : World) (hq : IsSq N g) (ha : a.toNat < N) (hb : b.toNat < N) :
    Calls Try.prog 73 #[.agg (sqc N g), .int .u8 a.toNat, .int .u8 b.toNat] w fun e w' => e = .returned (.agg (u8s 30 (toT g N a.toNat b.toNat))) ∧ Below w.heap.size w w' := by
  have h10 := hq.hi
  have HQ := hid hq
  have he := hq.lt' ha hb
  have HR := hid (fun i (hi : i < N) => (show (rowF g a.toNat i).toNat < 10 by have := (hq.rows a.toNat ha).lt i hi; omega))
  have HC := hid (fun i (hi : i < N) => (show (colF g b.toNat i).toNat < 10 by have := (hq.cols b.toNat hb).lt i hi; omega))
  clear hq
  obtain ⟨x, hx⟩ : ∃ x : UInt8, g (a.toNat * 10 + b.toNat) = x := ⟨_, rfl⟩
  rw [hx] at he
  have HX := hid hx
  have HE := hid (ex1 N x (by omega))
  have HT := hid (show mkTri (thenF (colF g b.toNat) (exF N x) N) (thenF (rowF g a.toNat) (exF N x) N) (exF N x) = toT g N a.toNat b.toNat by unfold toT; rw [hx])
  clear hx
  have ha10 : a.toNat < 10 := by omega
  have hb10 : b.toNat < 10 := by omega
  have ha' : (a.toNat : Int) < 10 := by omega
  have hb' : (b.toNat : Int) < 10 := by omega
  have he' : (x.toNat : Int) < 10 := by omega
  have hH := Has.start2 w (sqc N g) (u8s 30 fun _ => 0) 30 83
  have c0 := hH.c0 0
  rw [sqc_get0] at c0
  have cA : ((w.alloc (.cells (sqc N g) 30)).alloc (.cells (u8s 30 fun _ => 0) 83)).cell? ⟨w.heap.size, 1 + a.toNat * 10 + b.toNat, none⟩ = some (.int .u8 x.toNat) := by rw [hH.c0, Nat.add_assoc, sqc_get _ _ _ (by omega), HX.out]
  have bdb := u8_bd b
  have hoff : a.toNat * 10 + 10 ≤ 100 := by omega
  go_enter Try.func73, Try.ntmps73
  go_wp2_with (first | (refine wpL_allocN (o := ⟨some 8, _, _, _, _, _⟩) rfl rfl zeroPl ?_; intro gb w2 hgb hl hb; have hlo : w.heap.size + 2 ≤ gb := (by have := hH.size; simp only [List.length_cons, List.length_nil] at this; omega); replace hH := hH.call' hb; clear hb hl) | (refine wpL_alloc rfl rfl zeroTr ?_; intro g hg; (try simp at hg); subst hg) | (go_at_call 92; refine (samePlaces_any N _ h10).mono ?_; rintro e w3 ⟨rfl, hb⟩; replace hH := hH.call' hb; clear hb) | (refine wpL_storeN (x := .tmp 8) rfl rfl rfl rfl rowPl hgb (u8s_size _ _) (u8s_ok _ _) ?_; intro w2 hz hO hT; replace hgb := hz; replace hH := hT _ _ hH hlo; clear hz hO hT; clear c0 cA; have cg0 : w2.cell? ⟨gb, 0, none⟩ = some (.int .u8 (sameF N 0).toNat) := (by rw [holds_cell hgb, u8s_get _ _ _ (by omega)]); have cgx : ∃ v, (w2.setCell ⟨gb, 0, none⟩ (.int .u8 x.toNat)).cell? ⟨gb, x.toNat, none⟩ = some v := ⟨_, (holds_cell (holds_set hgb 0 (.int .u8 x.toNat)) x.toNat).trans (Array.getElem?_eq_getElem (by simp; omega))⟩; obtain ⟨vx, cgx⟩ := cgx; have fg := holds_frozen hgb))
  replace hgb := holds_set (holds_set hgb 0 (.int .u8 x.toNat)) x.toNat (.int .u8 0)
  rw [HE.out] at hgb
  replace hH := (hH.setCellAbove hlo 0 (.int .u8 x.toNat)).setCellAbove hlo x.toNat (.int .u8 0)
  clear cg0 cgx fg
  refine wp_region_frame (X := Unit) (fun d _ => [(22, bif d 0 then .pointer (some ⟨w.heap.size, 1, none⟩) else undef), (23, bif d 1 then .agg (u8s 100 g) else undef), (24, bif d 2 then .int .u8 b.toNat else undef), (25, bif d 3 then .int .i64 b.toNat else undef), (26, bif d 4 then .agg (u8s 10 (colF g b.toNat)) else undef), (27, bif d 5 then .agg (u8s 10 (exF N x)) else undef), (28, bif d 6 then .pointer (some ⟨w.heap.size, 0, none⟩) else undef), (29, bif d 7 then .int .i64 N else undef), (30, bif d 8 then .agg (u8s 10 (thenF (colF g b.toNat) (exF N x) N)) else undef), (31, bif d 9 then .int .u8 a.toNat else undef), (32, bif d 10 then .pointer (some ⟨w.heap.size, 1, none⟩) else undef), (33, bif d 11 then .pointer (some ⟨w.heap.size, 1 + a.toNat * 10, none⟩) else undef), (34, bif d 12 then .agg (u8s 10 (rowF g a.toNat)) else undef), (35, bif d 13 then .agg (u8s 10 (exF N x)) else undef), (36, bif d 14 then .pointer (some ⟨w.heap.size, 0, none⟩) else undef), (37, bif d 15 then .int .i64 N else undef), (38, bif d 16 then .agg (u8s 10 (thenF (rowF g a.toNat) (exF N x) N)) else undef), (39, bif d 17 then .agg (u8s 10 (exF N x)) else undef), (40, bif d 18 then .agg (u8s 30 (toT g N a.toNat b.toNat)) else undef)])
    (fun d _ w' => Has w w' [(sqc N g, 30), (bif d 19 then u8s 30 (toT g N a.toNat b.toNat) else u8s 30 (fun _ => 0), 83)] ∧ holds w' gb (u8s 10 (exF N x)) 73) (by kernel_rfl) (by kernel_rfl) ?h0_ta ?hs_ta ?hq_ta
  case h0_ta => exact ⟨(), (by simp [lput]), hH.drew, (show _ from hgb)⟩
  case hs_ta =>
    refine ⟨?_, ?_, ?_, ?_, ?_, ?_, ?_, ?_, ?_, ?_, ?_, ?_, ?_, ?_, ?_, ?_, ?_, ?_, ?_, ?_, trivial⟩
    all_goals
      clear hH hgb
      intro d _ w1 hd hn hJ
      simp only [needs, Region.binds, reduceCtorEq, Bool.false_eq_true, false_implies, true_and, and_true, true_implies, forall_const] at hn
      simp only [lput, List.set, hn, cond_true]
      try simp only [hd, cond_false] at hJ
      obtain ⟨hH, hgb⟩ := hJ
      have c0 : w1.cell? ⟨w.heap.size, 0, none⟩ = some (.int .i64 N) := by rw [hH.c0, sqc_get0]
      go_wp2_with (first | fail | (refine wpL_loadTab rfl rfl rfl rowTa hH.h0 ?_) | (refine wpL_loadRowSq rfl rfl rfl rowB10 hH.h0 hoff ?_) | (refine wpL_loadFull rfl rfl rfl rowPl hgb (u8s_size _ _) ?_) | (go_at_call 67; refine (columnOf_any g b.toNat _ hb10).mono ?_; rintro e w3 ⟨rfl, hb⟩; replace hH := hH.call' hb; replace hgb := holds_below hgb hb (holds_lt hgb); clear hb) | (go_at_call 93; (with_reducible refine (thenOf_any _ _ N _ h10 (by first | with_reducible exact HC.out | with_reducible exact HR.out)).mono ?_); rintro e w3 ⟨rfl, hb⟩; replace hH := hH.call' hb; replace hgb := holds_below hgb hb (holds_lt hgb); clear hb) | (refine wpL_build3 (T := 83) rfl (by rfl) (by rfl) (by rfl) (by rfl) (builtTr3 _ _ _) ?_; rw [HT.out]) | (refine wpL_storeFull rfl rfl rfl rfl rowTr hH.h1 (u8s_size _ _) (u8s_ok _ _) ?_; replace hgb := holds_row_other (cs' := u8s 30 (toT g N a.toNat b.toNat)) hgb (show gb ≠ w.heap.size + 1 by omega); replace hH := hH.r1 (cs' := u8s 30 (toT g N a.toNat b.toNat))))
      first
        | (refine ⟨(), ?_, hH, hgb⟩; (simp [lput, done, hn]; done))
        | (refine ⟨?_, hH, hgb⟩; (simp [lput, done, hn]; done))
        | (refine ⟨(), ?_, hH, hgb⟩; (simp [lput, done, hn]; rfl))
        | (refine ⟨?_, hH, hgb⟩; (simp [lput, done, hn]; rfl))
        | (refine ⟨(), ?_, hH, hgb⟩; (simp [lput, done]; done))
        | (refine ⟨?_, hH, hgb⟩; (simp [lput, done]; done))
        | (refine ⟨(), ?_, hH, hgb⟩; (simp [lput, done]; rfl))
        | (refine ⟨?_, hH, hgb⟩; (simp [lput, done]; rfl))
  case hq_ta =>
    clear hH hgb
    intro d _ w1 hd hJ
    simp only [allDone, List.length_cons, List.length_nil, Nat.reduceAdd, and_true] at hd
    obtain ⟨hH, hgb⟩ := hJ
    simp only [hd, cond_true] at hH
    simp only [lput, List.set, hd, cond_true]
    clear hd
    go_wp2
    exact ret_c rfl rfl hH.h1 rowTr (u8s_size _ _) ⟨rfl, hH.below⟩
end Go.Proofs.Ytpfhjbcmlebejaa
