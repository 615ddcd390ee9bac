/- Proved: what the program's isotopeBy returns, and what IsotopeOf returns, of program and model alike. Conditions: those that each theorem names. -/
import Derived.Test.YtbhjbllgmenbaabIt
import Derived.Test.YtbhjbllgmenbaabSq3b
namespace Go.Proofs.Ytbhjbllgmenbaab
set_option linter.unusedVariables false
set_option linter.unusedSimpArgs false
open Go.RowKit
set_option maxRecDepth 20000 in
set_option maxHeartbeats 2000000 in
theorem ledRow_any (row back third : Nat → UInt8) (N : Nat) (w : World) (h10 : N ≤ 10) (ha : ∀ i, i < N → (back i).toNat < 10) (hb : ∀ i, i < N → (row (back i).toNat).toNat < 10) :
    Calls Try.prog 126 #[.agg (u8s 10 row), .agg (u8s 10 back), .agg (u8s 10 third), .int .i64 N] w fun e w' => e = .returned (.agg (u8s 10 (ledF row back third N))) ∧ Below w.heap.size w w' := by
  have HA := hid ha
  have HB := hid (show ∀ i, i < N → (thenF back row N i).toNat < 10 from fun i hi => by unfold thenF; rw [if_pos hi]; exact hb i hi)
  clear ha hb
  have hH := Has.start4 w (u8s 10 row) (u8s 10 back) (u8s 10 third) (u8s 10 fun _ => 0) 97 97 97 97
  go_enter Try.func126, Try.ntmps126
  go_wp2_with (first | (refine wpL_alloc rfl rfl zeroPl ?_; intro g hg; (try simp at hg); subst hg))
  refine wp_region_frame (X := Unit) (fun d _ => [(9, bif d 0 then .agg (u8s 10 back) else undef), (10, bif d 1 then .agg (u8s 10 row) else undef), (11, bif d 2 then .int .i64 N else undef), (12, bif d 3 then .agg (u8s 10 (thenF back row N)) else undef), (13, bif d 4 then .agg (u8s 10 third) else undef), (14, bif d 5 then .int .i64 N else undef), (15, bif d 6 then .agg (u8s 10 (ledF row back third N)) else undef)])
    (fun d _ w' => Has w w' [(u8s 10 row, 97), (u8s 10 back, 97), (u8s 10 third, 97), (bif d 7 then u8s 10 (ledF row back third N) else u8s 10 (fun _ => 0), 97)]) (by kernel_rfl) (by kernel_rfl) ?h0_lr ?hs_lr ?hq_lr
  case h0_lr => exact ⟨(), (by simp [lput]), hH.drew⟩
  case hs_lr =>
    refine ⟨?_, ?_, ?_, ?_, ?_, ?_, ?_, ?_, trivial⟩
    all_goals
      clear hH
      intro d _ w1 hd hn hJ
      simp only [needs, Region.binds, reduceCtorEq, Bool.false_eq_true, false_implies, true_and, and_true, true_implies, forall_const] at hn
      simp only [lput, List.set, hn, cond_true]
      try simp only [hd, cond_false] at hJ
      have hH := hJ; clear hJ
      go_wp2_with (first | fail | (refine wpL_loadFull rfl rfl rfl rowPl hH.h0 (u8s_size _ _) ?_) | (refine wpL_loadFull rfl rfl rfl rowPl hH.h1 (u8s_size _ _) ?_) | (refine wpL_loadFull rfl rfl rfl rowPl hH.h2 (u8s_size _ _) ?_) | (go_at_call 156; (with_reducible refine (thenOf_any _ _ N _ h10 (by first | with_reducible exact HA.out | with_reducible exact HB.out)).mono ?_); rintro e w3 ⟨rfl, hb⟩; replace hH := hH.call' hb; clear hb) | (refine wpL_storeFull rfl rfl rfl rfl rowPl hH.h3 (u8s_size _ _) (u8s_ok _ _) ?_; replace hH := hH.r3 (cs' := u8s 10 (ledF row back third N))))
      first
        | (refine ⟨(), ?_, hH⟩; (simp [lput, done, hn]; done))
        | (refine ⟨?_, hH⟩; (simp [lput, done, hn]; done))
        | (refine ⟨(), ?_, hH⟩; (simp [lput, done, hn]; rfl))
        | (refine ⟨?_, hH⟩; (simp [lput, done, hn]; rfl))
        | (refine ⟨(), ?_, hH⟩; (simp [lput, done]; done))
        | (refine ⟨?_, hH⟩; (simp [lput, done]; done))
        | (refine ⟨(), ?_, hH⟩; (simp [lput, done]; rfl))
        | (refine ⟨?_, hH⟩; (simp [lput, done]; rfl))
  case hq_lr =>
    clear hH
    intro d _ w1 hd hJ
    simp only [allDone, List.length_cons, List.length_nil, Nat.reduceAdd, and_true] at hd
    have hH := hJ; clear hJ
    simp only [hd, cond_true] at hH
    simp only [lput, List.set, hd, cond_true]
    clear hd
    go_wp2
    exact ret_c rfl rfl hH.h3 rowPl (u8s_size _ _) ⟨rfl, hH.below⟩
set_option maxRecDepth 20000 in
set_option maxHeartbeats 4000000 in
theorem isotopeBy_any (N : Nat) (g t : Nat → UInt8) (w : World) (hg : IsSq N g) (ht : IsTri t N) :
    Calls Try.prog 74 #[.agg (sqc N g), .agg (u8s 30 t)] w fun e w' => e = .returned (.agg (sqc N (isoP g t N N 0))) ∧ Below w.heap.size w w' := by
  have HG := hid hg
  have HT := hid ht
  have HB := hid ht.b.lt10
  have h10 := hg.hi
  have hN2 : (N : Int) ≤ 10 := by omega
  clear hg ht
  have hS := Has.start4 w (sqc N g) (u8s 30 t) (sqc 0 fun _ => 0) (sqc 0 fun _ => 0) 32 101 32 32
  have hH := hS.r3 (cs' := sqc N fun _ => 0)
  have s0 : (((w.alloc (.cells (sqc N g) 32)).alloc (.cells (u8s 30 t) 101)).alloc (.cells (sqc 0 fun _ => 0) 32)).cell? ⟨w.heap.size, 0, none⟩ = some (.int .i64 N) := by rw [(Has.start3 w (sqc N g) (u8s 30 t) (sqc 0 fun _ => 0) 32 101 32).c0, sqc_get0]
  go_enter Try.func74, Try.ntmps74
  go_wp2_with (first | (refine wpL_allocN (o := ⟨some 6, _, _, _, _, _⟩) rfl rfl zeroPl ?_; intro gb w2 hgb hl hb; have hlo : w.heap.size + 4 ≤ gb := (by have := hH.size; simp only [List.length_cons, List.length_nil] at this; omega); replace hH := hH.call' hb; clear hb hl) | (refine wpL_alloc rfl rfl zeroSq ?_; intro g hg; (try simp at hg); subst hg) | (refine wpL_build1 rfl rfl rfl (builtSqO _) ?_) | (refine wpL_storeFull rfl rfl rfl rfl rowSq hS.h3 (sqc_size _ _) (sqc_ok _ _) ?_; clear s0 hS; have s0 := hH.c0 0; rw [sqc_get0] at s0) | (refine wpL_loadTri rfl rfl rfl rowPl hH.h1 (by omega) ?_) | (go_at_call 125; refine (backOf_any _ N _ h10 HB.out).mono ?_; rintro e w3 ⟨rfl, hb⟩; replace hH := hH.call' hb; clear hb) | (refine wpL_storeN (x := .tmp 6) rfl rfl rfl rfl rowPl hgb (u8s_size _ _) (u8s_ok _ _) ?_; intro w2 hz hO hT; replace hgb := hz; replace hH := hT _ _ hH hlo; clear hz hO hT; clear s0; have s0 := hH.c0 0; rw [sqc_get0] at s0))
  clear s0
  go_loopw [22] (fun i wr => ∃ k : Nat, k ≤ N ∧ i = .int .i64 k ∧ Has w wr [(sqc N g, 32), (u8s 30 t, 101), (sqc 0 (fun _ => 0), 32), (sqc N (isoP g t N k 0), 32)] ∧ holds wr gb (u8s 10 (backF (tri t 10) N)) 97) (fun i _ => 10 - (intOf i).toNat)
  case atStart => exact ⟨0, by omega, rfl, by rw [isoP_zero]; exact hH, hgb⟩
  case round =>
    clear hH hgb
    obtain ⟨k, hk, rfl, hH, hgb⟩ := hrel
    by_cases hlt : k < N
    · have hk10 : k < 10 := by omega
      have hk10' : (k : Int) < 10 := by omega
      have hoff : k * 10 + 10 ≤ 100 := by omega
      obtain ⟨ka, hka⟩ : ∃ ka, (tri t 0 k).toNat = ka := ⟨_, rfl⟩
      have ba := HT.out.a.lt k hlt
      rw [hka] at ba
      have Ha := hid hka
      have hst : ∀ i, i < 100 → isoP g t N (k + 1) 0 i = if ka * 10 ≤ i ∧ i < ka * 10 + 10 then ledF (rowF g k) (backF (tri t 10) N) (tri t 20) N (i - ka * 10) else isoP g t N k 0 i := fun i hi => by
        rw [isoP_led HT.out hlt i hi, Ha.out]
      have HS := hid hst
      clear hka hst
      have ba' : (ka : Int) < 10 := by omega
      have hoffa : ka * 10 + 10 ≤ 100 := by omega
      have HL := hid (fun i (hi : i < N) => (show (backF (tri t 10) N i).toNat < 10 by have := (back_lt HT.out.b hi).1; omega))
      have HR := hid (fun i (hi : i < N) => (show (rowF g k (backF (tri t 10) N i).toNat).toNat < 10 by have := (back_lt HT.out.b hi).1; have := (HG.out.rows k hlt).lt _ this; omega))
      have c1 : wr.cell? ⟨w.heap.size + 1, k, none⟩ = some (.int .u8 ka) := by rw [hH.c1, u8s_get _ _ _ (by omega), ← Ha.out]; simp [tri]
      go_wp2
      clear c1
      refine wp_region_frame (X := Unit) (fun d _ => [(27, bif d 0 then .int .u8 ka else u27), (28, bif d 1 then .int .i64 k else u28), (29, bif d 2 then .pointer (some ⟨w.heap.size, 1, none⟩) else u29), (30, bif d 3 then .pointer (some ⟨w.heap.size, 1 + k * 10, none⟩) else u30), (31, bif d 4 then .agg (u8s 10 (rowF g k)) else u31), (32, bif d 5 then .agg (u8s 10 (backF (tri t 10) N)) else u32), (33, bif d 6 then .pointer (some ⟨w.heap.size + 1, 20, none⟩) else u33), (34, bif d 7 then .agg (u8s 10 (tri t 20)) else u34), (35, bif d 8 then .pointer (some ⟨w.heap.size, 0, none⟩) else u35), (36, bif d 9 then .int .i64 N else u36), (37, bif d 10 then .agg (u8s 10 (ledF (rowF g k) (backF (tri t 10) N) (tri t 20) N)) else u37), (38, bif d 11 then .pointer (some ⟨w.heap.size + 1 + 1 + 1, 1, none⟩) else u38), (39, bif d 12 then .pointer (some ⟨w.heap.size + 1 + 1 + 1, 1 + ka * 10, none⟩) else u39)])
        (fun d _ w' => Has w w' [(sqc N g, 32), (u8s 30 t, 101), (sqc 0 (fun _ => 0), 32), (sqc N (bif d 13 then isoP g t N (k + 1) 0 else isoP g t N k 0), 32)] ∧ holds w' gb (u8s 10 (backF (tri t 10) N)) 97) (by kernel_rfl) (by kernel_rfl) ?h0_ib ?hs_ib ?hq_ib
      case h0_ib => exact ⟨(), (by simp [lput]), hH.drew, (show _ from hgb)⟩
      case hs_ib =>
        refine ⟨?_, ?_, ?_, ?_, ?_, ?_, ?_, ?_, ?_, ?_, ?_, ?_, ?_, ?_, trivial⟩
        all_goals
          clear hH hgb
          intro d _ w1 hd hn hJ
          simp only [needs, Region.binds, reduceCtorEq, Bool.false_eq_true, false_implies, true_and, and_true, true_implies, forall_const] at hn
          simp only [lput, List.set, hn, cond_true]
          try simp only [hd, cond_false] at hJ
          obtain ⟨hH, hgb⟩ := hJ
          have c0 : w1.cell? ⟨w.heap.size, 0, none⟩ = some (.int .i64 N) := by rw [hH.c0, sqc_get0]
          go_wp2_with (first | fail | (refine wpL_loadRowSq rfl rfl rfl rowB10 hH.h0 hoff ?_) | (refine wpL_loadFull rfl rfl rfl rowPl hgb (u8s_size _ _) ?_) | (refine wpL_loadTri rfl rfl rfl rowPl hH.h1 (by omega) ?_) | (go_at_call 126; refine (ledRow_any (rowF g k) (backF (tri t 10) N) (tri t 20) N _ h10 HL.out HR.out).mono ?_; rintro e w3 ⟨rfl, hb⟩; replace hH := hH.call' hb; replace hgb := holds_below hgb hb (holds_lt hgb); clear hb) | (refine wpL_storeRowSq (r := ledF (rowF g k) (backF (tri t 10) N) (tri t 20) N) rfl rfl rfl rfl rowB10 hH.h3 hoffa HS.out ?_; replace hgb := holds_row_other (cs' := sqc N (isoP g t N (k + 1) 0)) hgb (show gb ≠ w.heap.size + 1 + 1 + 1 by omega); replace hH := hH.r3 (cs' := sqc N (isoP g t N (k + 1) 0))))
          first
            | (refine ⟨(), ?_, hH, hgb⟩; (simp [lput, done, hn]; done))
            | (refine ⟨?_, hH, hgb⟩; (simp [lput, done, hn]; done))
            | (refine ⟨(), ?_, hH, hgb⟩; (simp [lput, done, hn]; rfl))
            | (refine ⟨?_, hH, hgb⟩; (simp [lput, done, hn]; rfl))
            | (refine ⟨(), ?_, hH, hgb⟩; (simp [lput, done]; done))
            | (refine ⟨?_, hH, hgb⟩; (simp [lput, done]; done))
            | (refine ⟨(), ?_, hH, hgb⟩; (simp [lput, done]; rfl))
            | (refine ⟨?_, hH, hgb⟩; (simp [lput, done]; rfl))
      case hq_ib =>
        clear hH hgb
        intro d _ w1 hd hJ
        simp only [allDone, List.length_cons, List.length_nil, Nat.reduceAdd, and_true] at hd
        obtain ⟨hH, hgb⟩ := hJ
        simp only [hd, cond_true] at hH
        simp only [lput, List.set, hd, cond_true]
        clear hd
        go_wp2
        go_roundw
        case rel => exact ⟨k + 1, by omega, by go_num, hH, hgb⟩
        case measure => simp [intOf]; omega
    · obtain rfl : k = N := by omega
      go_wp2_with (first | (refine wpL_loadFull rfl rfl rfl rowSq hH.h3 (sqc_size _ _) ?_) | (refine wpL_storeFull rfl rfl rfl rfl rowSq hH.h2 (sqc_size _ _) (sqc_ok _ _) ?_))
      exact ret_c rfl rfl hH.r2.h2 rowSq (sqc_size _ _) ⟨rfl, hH.r2.below⟩
end Go.Proofs.Ytbhjbllgmenbaab
