/- Proved: what the functions that make L(x, y) and R(x, y) return, of program and model alike. Conditions: those that each theorem names. -/
import Derived.Test.YtbhjbllgmenbaabTn
import Derived.Test.YtbhjbllgmenbaabPs
import Derived.Test.YtbhjbllgmenbaabLa0
namespace Go.Proofs.Ytbhjbllgmenbaab
set_option linter.unusedVariables false
set_option linter.unusedSimpArgs false
open Go.RowKit
set_option maxRecDepth 20000 in
set_option maxHeartbeats 4000000 in
theorem leftInner_any (N : Nat) (g : Nat → UInt8) (x y : UInt8) (w : World) (hq : IsSq N g) (hx : x.toNat < N) (hy : y.toNat < N) :
    Calls Try.prog 121 #[.agg (sqc N g), .int .u8 x.toNat, .int .u8 y.toNat] w fun e w' => e = .returned (.agg (u8s 10 (liF g N x.toNat y.toNat))) ∧ Below w.heap.size w w' := by
  have h10 := hq.hi
  have h1 := hq.lo
  have HQ := hid hq
  have hz0 := hq.lt' hy hx
  have HRX := hid (hq.rows x.toNat hx)
  have HRY := hid (hq.rows y.toNat hy)
  clear hq
  obtain ⟨z, hz⟩ : ∃ z : UInt8, g (y.toNat * 10 + x.toNat) = z := ⟨_, rfl⟩
  rw [hz] at hz0
  have HRZ := hid (HQ.out.rows z.toNat hz0)
  have HZ := hid hz
  obtain ⟨pq, hpq⟩ : ∃ pq, thenF (rowF g x.toNat) (rowF g y.toNat) N = pq := ⟨_, rfl⟩
  obtain ⟨s, hs⟩ : ∃ s, thenF pq (backF (rowF g z.toNat) N) N = s := ⟨_, rfl⟩
  have hv : liF g N x.toNat y.toNat = s := by unfold liF; rw [hz, hpq, hs]
  rw [hv]
  have HT := hid (show ∀ i, i < N → (pq i).toNat < 10 by rw [← hpq]; exact thenF_ten HRX.out HRY.out)
  have HPQ := hid hpq
  have HS := hid hs
  have HPS := hid (show thenF (thenF (rowF g x.toNat) (rowF g y.toNat) N) (backF (rowF g z.toNat) N) N = s by rw [hpq, hs])
  clear hz hpq hs hv
  have hx10 : x.toNat < 10 := by omega
  have hy10 : y.toNat < 10 := by omega
  have hz10 : z.toNat < 10 := by omega
  have hx' : (x.toNat : Int) < 10 := by omega
  have hy' : (y.toNat : Int) < 10 := by omega
  have hz' : (z.toNat : Int) < 10 := by omega
  have hxN : (x.toNat : Int) < N := by omega
  have hyN : (y.toNat : Int) < N := by omega
  have hzN : (z.toNat : Int) < N := by omega
  have hoffx : x.toNat * 10 + 10 ≤ 100 := by omega
  have hoffy : y.toNat * 10 + 10 ≤ 100 := by omega
  have hoffz : z.toNat * 10 + 10 ≤ 100 := by omega
  have hH := Has.start2 w (sqc N g) (u8s 10 fun _ => 0) 32 97
  go_enter Try.func121, Try.ntmps121
  go_wp2_with (first | (refine wpL_alloc rfl rfl zeroPl ?_; intro g hg; (try simp at hg); subst hg))
  refine wp_region_frame (X := Unit) (fun d _ => [(7, bif d 0 then .int .u8 x.toNat else undef), (8, bif d 1 then .pointer (some ⟨w.heap.size, 1, none⟩) else undef), (9, bif d 2 then .pointer (some ⟨w.heap.size, 1 + x.toNat * 10, none⟩) else undef), (10, bif d 3 then .agg (u8s 10 (rowF g x.toNat)) else undef), (11, bif d 4 then .int .u8 y.toNat else undef), (12, bif d 5 then .pointer (some ⟨w.heap.size, 1, none⟩) else undef), (13, bif d 6 then .pointer (some ⟨w.heap.size, 1 + y.toNat * 10, none⟩) else undef), (14, bif d 7 then .agg (u8s 10 (rowF g y.toNat)) else undef), (15, bif d 8 then .int .u8 y.toNat else undef), (16, bif d 9 then .int .u8 x.toNat else undef), (17, bif d 10 then .pointer (some ⟨w.heap.size, 1, none⟩) else undef), (18, bif d 11 then .pointer (some ⟨w.heap.size, 1 + y.toNat * 10, none⟩) else undef), (19, bif d 12 then .pointer (some ⟨w.heap.size, 1 + y.toNat * 10 + x.toNat, none⟩) else undef), (20, bif d 13 then .int .u8 z.toNat else undef), (21, bif d 14 then .pointer (some ⟨w.heap.size, 1, none⟩) else undef), (22, bif d 15 then .pointer (some ⟨w.heap.size, 1 + z.toNat * 10, none⟩) else undef), (23, bif d 16 then .agg (u8s 10 (rowF g z.toNat)) else undef), (24, bif d 17 then .pointer (some ⟨w.heap.size, 0, none⟩) else undef), (25, bif d 18 then .int .i64 N else undef), (26, bif d 19 then .agg (u8s 10 s) else undef)])
    (fun d _ w' => Has w w' [(sqc N g, 32), (bif d 20 then u8s 10 s else u8s 10 (fun _ => 0), 97)]) (by kernel_rfl) (by kernel_rfl) ?h0_tm ?hs_tm ?hq_tm
  case h0_tm => exact ⟨(), (by simp [lput]), hH.drew⟩
  case hs_tm =>
    refine ⟨?_, ?_, ?_, ?_, ?_, ?_, ?_, ?_, ?_, ?_, ?_, ?_, ?_, ?_, ?_, ?_, ?_, ?_, ?_, ?_, ?_, trivial⟩
    all_goals
      clear hH
      intro d _ w1 hd hn hJ
      simp only [needs, Region.binds, reduceCtorEq, Bool.false_eq_true, false_implies, true_and, and_true, true_implies, forall_const] at hn
      simp only [lput, List.set, hn, cond_true]
      try simp only [hd, cond_false] at hJ
      have hH := hJ; clear hJ
      have c0 : w1.cell? ⟨w.heap.size, 0, none⟩ = some (.int .i64 N) := by rw [hH.c0, sqc_get0]
      have cA : w1.cell? ⟨w.heap.size, 1 + y.toNat * 10 + x.toNat, none⟩ = some (.int .u8 z.toNat) := by rw [hH.c0, Nat.add_assoc, sqc_get _ _ _ (by omega), HZ.out]
      go_wp2_with (first | fail | (refine wpL_loadRowSq (off := x.toNat * 10) rfl rfl rfl rowB10 hH.h0 hoffx ?_) | (refine wpL_loadRowSq (off := y.toNat * 10) rfl rfl rfl rowB10 hH.h0 hoffy ?_) | (refine wpL_loadRowSq (off := z.toNat * 10) rfl rfl rfl rowB10 hH.h0 hoffz ?_) | (go_at_call 158; refine (pathOf_any N (rowF g x.toNat) (rowF g y.toNat) (rowF g z.toNat) _ HRX.out HRY.out HRZ.out).mono ?_; rintro e w3 ⟨rfl, hb⟩; rw [HPS.out]; replace hH := hH.call' hb; clear hb) | (refine wpL_storeFull rfl rfl rfl rfl rowPl hH.h1 (u8s_size _ _) (u8s_ok _ _) ?_; replace hH := hH.r1 (cs' := u8s 10 s)))
      first
        | (refine ⟨(), ?_, hH⟩; (simp [lput, done, hn]; done))
        | (refine ⟨?_, hH⟩; (simp [lput, done, hn]; done))
        | (refine ⟨(), ?_, hH⟩; (simp [lput, done, hn]; rfl))
        | (refine ⟨?_, hH⟩; (simp [lput, done, hn]; rfl))
        | (refine ⟨(), ?_, hH⟩; (simp [lput, done]; done))
        | (refine ⟨?_, hH⟩; (simp [lput, done]; done))
        | (refine ⟨(), ?_, hH⟩; (simp [lput, done]; rfl))
        | (refine ⟨?_, hH⟩; (simp [lput, done]; rfl))
  case hq_tm =>
    clear hH
    intro d _ w1 hd hJ
    simp only [allDone, List.length_cons, List.length_nil, Nat.reduceAdd, and_true] at hd
    have hH := hJ; clear hJ
    simp only [hd, cond_true] at hH
    simp only [lput, List.set, hd, cond_true]
    clear hd
    go_wp2
    exact ret_c rfl rfl hH.h1 rowPl (u8s_size _ _) ⟨rfl, hH.below⟩
set_option maxRecDepth 20000 in
set_option maxHeartbeats 4000000 in
theorem rightInner_any (N : Nat) (g : Nat → UInt8) (x y : UInt8) (w : World) (hq : IsSq N g) (hx : x.toNat < N) (hy : y.toNat < N) :
    Calls Try.prog 122 #[.agg (sqc N g), .int .u8 x.toNat, .int .u8 y.toNat] w fun e w' => e = .returned (.agg (u8s 10 (riF g N x.toNat y.toNat))) ∧ Below w.heap.size w w' := by
  have h10 := hq.hi
  have h1 := hq.lo
  have HQ := hid hq
  have hz0 := hq.lt' hx hy
  have HRX := hid (hq.cols x.toNat hx)
  have HRY := hid (hq.cols y.toNat hy)
  clear hq
  obtain ⟨z, hz⟩ : ∃ z : UInt8, g (x.toNat * 10 + y.toNat) = z := ⟨_, rfl⟩
  rw [hz] at hz0
  have HRZ := hid (HQ.out.cols z.toNat hz0)
  have HZ := hid hz
  obtain ⟨pq, hpq⟩ : ∃ pq, thenF (colF g x.toNat) (colF g y.toNat) N = pq := ⟨_, rfl⟩
  obtain ⟨s, hs⟩ : ∃ s, thenF pq (backF (colF g z.toNat) N) N = s := ⟨_, rfl⟩
  have hv : riF g N x.toNat y.toNat = s := by unfold riF; rw [hz, hpq, hs]
  rw [hv]
  have HT := hid (show ∀ i, i < N → (pq i).toNat < 10 by rw [← hpq]; exact thenF_ten HRX.out HRY.out)
  have HPQ := hid hpq
  have HS := hid hs
  have HPS := hid (show thenF (thenF (colF g x.toNat) (colF g y.toNat) N) (backF (colF g z.toNat) N) N = s by rw [hpq, hs])
  clear hz hpq hs hv
  have hx10 : x.toNat < 10 := by omega
  have hy10 : y.toNat < 10 := by omega
  have hz10 : z.toNat < 10 := by omega
  have hx' : (x.toNat : Int) < 10 := by omega
  have hy' : (y.toNat : Int) < 10 := by omega
  have hz' : (z.toNat : Int) < 10 := by omega
  have hxN : (x.toNat : Int) < N := by omega
  have hyN : (y.toNat : Int) < N := by omega
  have hzN : (z.toNat : Int) < N := by omega
  have hoffx : x.toNat * 10 + 10 ≤ 100 := by omega
  have hoffy : y.toNat * 10 + 10 ≤ 100 := by omega
  have hoffz : z.toNat * 10 + 10 ≤ 100 := by omega
  have hH := Has.start2 w (sqc N g) (u8s 10 fun _ => 0) 32 97
  have h0 := hH
  go_enter Try.func122, Try.ntmps122
  go_wp2_with (first | (refine wpL_alloc rfl rfl zeroPl ?_; intro g hg; (try simp at hg); subst hg) | (refine wpL_loadFull rfl rfl rfl rowSq h0.h0 (sqc_size _ _) ?_) | (go_at_call 139; refine (columnMapsOf_any N g _ h1 h10).mono ?_; rintro e w3 ⟨v, rfl, hb, hO⟩; obtain ⟨gc, cap, rfl, hgc, hp⟩ := hO.form (by omega); have hlo : w.heap.size + 2 ≤ gc := (by simp at hgc; omega); replace hH := hH.call' hb; clear hb hO h0 hgc))
  refine wp_region_frame (X := Unit) (fun d _ => [(10, bif d 0 then .slice (some ⟨gc, 0, none⟩) N cap else undef), (11, bif d 1 then .int .u8 x.toNat else undef), (12, bif d 2 then .pointer (some ⟨gc, x.toNat * 10, none⟩) else undef), (13, bif d 3 then .agg (u8s 10 (colF g x.toNat)) else undef), (14, bif d 4 then .slice (some ⟨gc, 0, none⟩) N cap else undef), (15, bif d 5 then .int .u8 y.toNat else undef), (16, bif d 6 then .pointer (some ⟨gc, y.toNat * 10, none⟩) else undef), (17, bif d 7 then .agg (u8s 10 (colF g y.toNat)) else undef), (18, bif d 8 then .slice (some ⟨gc, 0, none⟩) N cap else undef), (19, bif d 9 then .int .u8 x.toNat else undef), (20, bif d 10 then .int .u8 y.toNat else undef), (21, bif d 11 then .pointer (some ⟨w.heap.size, 1, none⟩) else undef), (22, bif d 12 then .pointer (some ⟨w.heap.size, 1 + x.toNat * 10, none⟩) else undef), (23, bif d 13 then .pointer (some ⟨w.heap.size, 1 + x.toNat * 10 + y.toNat, none⟩) else undef), (24, bif d 14 then .int .u8 z.toNat else undef), (25, bif d 15 then .pointer (some ⟨gc, z.toNat * 10, none⟩) else undef), (26, bif d 16 then .agg (u8s 10 (colF g z.toNat)) else undef), (27, bif d 17 then .pointer (some ⟨w.heap.size, 0, none⟩) else undef), (28, bif d 18 then .int .i64 N else undef), (29, bif d 19 then .agg (u8s 10 s) else undef)])
    (fun d _ w' => Has w w' [(sqc N g, 32), (bif d 20 then u8s 10 s else u8s 10 (fun _ => 0), 97)] ∧ PRow w' gc N (turn g)) (by kernel_rfl) (by kernel_rfl) ?h0_tm ?hs_tm ?hq_tm
  case h0_tm => exact ⟨(), (by simp [lput]), hH.drew, (show _ from hp)⟩
  case hs_tm =>
    refine ⟨?_, ?_, ?_, ?_, ?_, ?_, ?_, ?_, ?_, ?_, ?_, ?_, ?_, ?_, ?_, ?_, ?_, ?_, ?_, ?_, ?_, trivial⟩
    all_goals
      clear hH hp
      intro d _ w1 hd hn hJ
      simp only [needs, Region.binds, reduceCtorEq, Bool.false_eq_true, false_implies, true_and, and_true, true_implies, forall_const] at hn
      simp only [lput, List.set, hn, cond_true]
      try simp only [hd, cond_false] at hJ
      obtain ⟨hH, hp⟩ := hJ
      have c0 : w1.cell? ⟨w.heap.size, 0, none⟩ = some (.int .i64 N) := by rw [hH.c0, sqc_get0]
      have cA : w1.cell? ⟨w.heap.size, 1 + x.toNat * 10 + y.toNat, none⟩ = some (.int .u8 z.toNat) := by rw [hH.c0, Nat.add_assoc, sqc_get _ _ _ (by omega), HZ.out]
      go_wp2_with (first | fail | (refine wpL_loadPr (k := x.toNat) (f := colF g x.toNat) rfl rfl rfl hp hx (fun j hj => turn_col g _ j hj) ?_) | (refine wpL_loadPr (k := y.toNat) (f := colF g y.toNat) rfl rfl rfl hp hy (fun j hj => turn_col g _ j hj) ?_) | (refine wpL_loadPr (k := z.toNat) (f := colF g z.toNat) rfl rfl rfl hp hz0 (fun j hj => turn_col g _ j hj) ?_) | (go_at_call 158; refine (pathOf_any N (colF g x.toNat) (colF g y.toNat) (colF g z.toNat) _ HRX.out HRY.out HRZ.out).mono ?_; rintro e w3 ⟨rfl, hb⟩; rw [HPS.out]; replace hH := hH.call' hb; replace hp := hp.below hb; clear hb) | (refine wpL_storeFull rfl rfl rfl rfl rowPl hH.h1 (u8s_size _ _) (u8s_ok _ _) ?_; replace hp := hp.block (setRow_other _ (w.heap.size + 1) gc (u8s 10 s) (by omega)); replace hH := hH.r1 (cs' := u8s 10 s)))
      first
        | (refine ⟨(), ?_, hH, hp⟩; (simp [lput, done, hn]; done))
        | (refine ⟨?_, hH, hp⟩; (simp [lput, done, hn]; done))
        | (refine ⟨(), ?_, hH, hp⟩; (simp [lput, done, hn]; rfl))
        | (refine ⟨?_, hH, hp⟩; (simp [lput, done, hn]; rfl))
        | (refine ⟨(), ?_, hH, hp⟩; (simp [lput, done]; done))
        | (refine ⟨?_, hH, hp⟩; (simp [lput, done]; done))
        | (refine ⟨(), ?_, hH, hp⟩; (simp [lput, done]; rfl))
        | (refine ⟨?_, hH, hp⟩; (simp [lput, done]; rfl))
  case hq_tm =>
    clear hH hp
    intro d _ w1 hd hJ
    simp only [allDone, List.length_cons, List.length_nil, Nat.reduceAdd, and_true] at hd
    obtain ⟨hH, hp⟩ := hJ
    simp only [hd, cond_true] at hH
    simp only [lput, List.set, hd, cond_true]
    clear hd
    go_wp2
    exact ret_c rfl rfl hH.h1 rowPl (u8s_size _ _) ⟨rfl, hH.below⟩
set_option maxRecDepth 20000 in
set_option maxHeartbeats 4000000 in
theorem l04Left_any (N : Nat) (g : Nat → UInt8) (x y : UInt8) (w : World) (hq : IsSq N g) (hx : x.toNat < N) (hy : y.toNat < N) :
    Calls Try.prog 118 #[.agg (sqc N g), .int .u8 x.toNat, .int .u8 y.toNat] w fun e w' => e = .returned (.agg (u8s 10 (liF g N x.toNat y.toNat))) ∧ Below w.heap.size w w' := by
  have h10 := hq.hi
  have h1 := hq.lo
  have HQ := hid hq
  have hz0 := hq.lt' hy hx
  have HRX := hid (hq.rows x.toNat hx)
  have HRY := hid (hq.rows y.toNat hy)
  clear hq
  obtain ⟨z, hz⟩ : ∃ z : UInt8, g (y.toNat * 10 + x.toNat) = z := ⟨_, rfl⟩
  rw [hz] at hz0
  have HRZ := hid (HQ.out.rows z.toNat hz0)
  have HZ := hid hz
  obtain ⟨pq, hpq⟩ : ∃ pq, thenF (rowF g x.toNat) (rowF g y.toNat) N = pq := ⟨_, rfl⟩
  obtain ⟨s, hs⟩ : ∃ s, thenF pq (backF (rowF g z.toNat) N) N = s := ⟨_, rfl⟩
  have hv : liF g N x.toNat y.toNat = s := by unfold liF; rw [hz, hpq, hs]
  rw [hv]
  have HT := hid (show ∀ i, i < N → (pq i).toNat < 10 by rw [← hpq]; exact thenF_ten HRX.out HRY.out)
  have HPQ := hid hpq
  have HS := hid hs
  have HPS := hid (show thenF (thenF (rowF g x.toNat) (rowF g y.toNat) N) (backF (rowF g z.toNat) N) N = s by rw [hpq, hs])
  clear hz hpq hs hv
  have hx10 : x.toNat < 10 := by omega
  have hy10 : y.toNat < 10 := by omega
  have hz10 : z.toNat < 10 := by omega
  have hx' : (x.toNat : Int) < 10 := by omega
  have hy' : (y.toNat : Int) < 10 := by omega
  have hz' : (z.toNat : Int) < 10 := by omega
  have hxN : (x.toNat : Int) < N := by omega
  have hyN : (y.toNat : Int) < N := by omega
  have hzN : (z.toNat : Int) < N := by omega
  have hoffx : x.toNat * 10 + 10 ≤ 100 := by omega
  have hoffy : y.toNat * 10 + 10 ≤ 100 := by omega
  have hoffz : z.toNat * 10 + 10 ≤ 100 := by omega
  have hH := Has.start2 w (sqc N g) (u8s 10 fun _ => 0) 32 97
  have c0 := hH.c0 0
  rw [sqc_get0] at c0
  go_enter Try.func118, Try.ntmps118
  go_wp2_with (first | (refine wpL_alloc rfl rfl zeroPl ?_; intro g hg; (try simp at hg); subst hg))
  clear c0
  refine wp_region_frame (X := Unit) (fun d _ => [(10, bif d 0 then .agg (sqc N g) else undef), (11, bif d 1 then .int .u8 x.toNat else undef), (12, bif d 2 then .agg (u8s 10 (rowF g x.toNat)) else undef), (13, bif d 3 then .agg (sqc N g) else undef), (14, bif d 4 then .int .u8 y.toNat else undef), (15, bif d 5 then .agg (u8s 10 (rowF g y.toNat)) else undef), (16, bif d 6 then .int .i64 N else undef), (17, bif d 7 then .agg (u8s 10 pq) else undef), (18, bif d 8 then .agg (sqc N g) else undef), (19, bif d 9 then .int .u8 y.toNat else undef), (20, bif d 10 then .int .u8 x.toNat else undef), (21, bif d 11 then .pointer (some ⟨w.heap.size, 1, none⟩) else undef), (22, bif d 12 then .pointer (some ⟨w.heap.size, 1 + y.toNat * 10, none⟩) else undef), (23, bif d 13 then .pointer (some ⟨w.heap.size, 1 + y.toNat * 10 + x.toNat, none⟩) else undef), (24, bif d 14 then .int .u8 z.toNat else undef), (25, bif d 15 then .agg (u8s 10 (rowF g z.toNat)) else undef), (26, bif d 16 then .int .i64 N else undef), (27, bif d 17 then .agg (u8s 10 (backF (rowF g z.toNat) N)) else undef), (28, bif d 18 then .int .i64 N else undef), (29, bif d 19 then .agg (u8s 10 s) else undef)])
    (fun d _ w' => Has w w' [(sqc N g, 32), (bif d 20 then u8s 10 s else u8s 10 (fun _ => 0), 97)]) (by kernel_rfl) (by kernel_rfl) ?h0_tm ?hs_tm ?hq_tm
  case h0_tm => exact ⟨(), (by simp [lput]), hH.drew⟩
  case hs_tm =>
    refine ⟨?_, ?_, ?_, ?_, ?_, ?_, ?_, ?_, ?_, ?_, ?_, ?_, ?_, ?_, ?_, ?_, ?_, ?_, ?_, ?_, ?_, trivial⟩
    all_goals
      clear hH
      intro d _ w1 hd hn hJ
      simp only [needs, Region.binds, reduceCtorEq, Bool.false_eq_true, false_implies, true_and, and_true, true_implies, forall_const] at hn
      simp only [lput, List.set, hn, cond_true]
      try simp only [hd, cond_false] at hJ
      have hH := hJ; clear hJ
      have cA : w1.cell? ⟨w.heap.size, 1 + y.toNat * 10 + x.toNat, none⟩ = some (.int .u8 z.toNat) := by rw [hH.c0, Nat.add_assoc, sqc_get _ _ _ (by omega), HZ.out]
      go_wp2_with (first | fail | (refine wpL_loadFull rfl rfl rfl rowSq hH.h0 (sqc_size _ _) ?_) | (go_at_call 153; with_reducible refine (l01Row_any N g x _ hx10).mono ?_; rintro e w3 ⟨rfl, hb⟩; replace hH := hH.call' hb; clear hb) | (go_at_call 153; with_reducible refine (l01Row_any N g y _ hy10).mono ?_; rintro e w3 ⟨rfl, hb⟩; replace hH := hH.call' hb; clear hb) | (go_at_call 153; with_reducible refine (l01Row_any N g z _ hz10).mono ?_; rintro e w3 ⟨rfl, hb⟩; replace hH := hH.call' hb; clear hb) | (go_at_call 154; refine (l01Back_any (rowF g z.toNat) N _ h10 HRZ.out.ten).mono ?_; rintro e w3 ⟨rfl, hb⟩; replace hH := hH.call' hb; clear hb) | (go_at_call 152; with_reducible refine (l01Then_any (rowF g x.toNat) (rowF g y.toNat) N _ h10 HRX.out.ten).mono ?_; rintro e w3 ⟨rfl, hb⟩; rw [HPQ.out]; replace hH := hH.call' hb; clear hb) | (go_at_call 152; with_reducible refine (l01Then_any pq (backF (rowF g z.toNat) N) N _ h10 HT.out).mono ?_; rintro e w3 ⟨rfl, hb⟩; rw [HS.out]; replace hH := hH.call' hb; clear hb) | (refine wpL_storeFull rfl rfl rfl rfl rowPl hH.h1 (u8s_size _ _) (u8s_ok _ _) ?_; replace hH := hH.r1 (cs' := u8s 10 s)))
      first
        | (refine ⟨(), ?_, hH⟩; (simp [lput, done, hn]; done))
        | (refine ⟨?_, hH⟩; (simp [lput, done, hn]; done))
        | (refine ⟨(), ?_, hH⟩; (simp [lput, done, hn]; rfl))
        | (refine ⟨?_, hH⟩; (simp [lput, done, hn]; rfl))
        | (refine ⟨(), ?_, hH⟩; (simp [lput, done]; done))
        | (refine ⟨?_, hH⟩; (simp [lput, done]; done))
        | (refine ⟨(), ?_, hH⟩; (simp [lput, done]; rfl))
        | (refine ⟨?_, hH⟩; (simp [lput, done]; rfl))
  case hq_tm =>
    clear hH
    intro d _ w1 hd hJ
    simp only [allDone, List.length_cons, List.length_nil, Nat.reduceAdd, and_true] at hd
    have hH := hJ; clear hJ
    simp only [hd, cond_true] at hH
    simp only [lput, List.set, hd, cond_true]
    clear hd
    go_wp2
    exact ret_c rfl rfl hH.h1 rowPl (u8s_size _ _) ⟨rfl, hH.below⟩
set_option maxRecDepth 20000 in
set_option maxHeartbeats 4000000 in
theorem l04Right_any (N : Nat) (g : Nat → UInt8) (x y : UInt8) (w : World) (hq : IsSq N g) (hx : x.toNat < N) (hy : y.toNat < N) :
    Calls Try.prog 119 #[.agg (sqc N g), .int .u8 x.toNat, .int .u8 y.toNat] w fun e w' => e = .returned (.agg (u8s 10 (riF g N x.toNat y.toNat))) ∧ Below w.heap.size w w' := by
  have h10 := hq.hi
  have h1 := hq.lo
  have HQ := hid hq
  have hz0 := hq.lt' hx hy
  have HRX := hid (hq.cols x.toNat hx)
  have HRY := hid (hq.cols y.toNat hy)
  clear hq
  obtain ⟨z, hz⟩ : ∃ z : UInt8, g (x.toNat * 10 + y.toNat) = z := ⟨_, rfl⟩
  rw [hz] at hz0
  have HRZ := hid (HQ.out.cols z.toNat hz0)
  have HZ := hid hz
  obtain ⟨pq, hpq⟩ : ∃ pq, thenF (colF g x.toNat) (colF g y.toNat) N = pq := ⟨_, rfl⟩
  obtain ⟨s, hs⟩ : ∃ s, thenF pq (backF (colF g z.toNat) N) N = s := ⟨_, rfl⟩
  have hv : riF g N x.toNat y.toNat = s := by unfold riF; rw [hz, hpq, hs]
  rw [hv]
  have HT := hid (show ∀ i, i < N → (pq i).toNat < 10 by rw [← hpq]; exact thenF_ten HRX.out HRY.out)
  have HPQ := hid hpq
  have HS := hid hs
  have HPS := hid (show thenF (thenF (colF g x.toNat) (colF g y.toNat) N) (backF (colF g z.toNat) N) N = s by rw [hpq, hs])
  clear hz hpq hs hv
  have hx10 : x.toNat < 10 := by omega
  have hy10 : y.toNat < 10 := by omega
  have hz10 : z.toNat < 10 := by omega
  have hx' : (x.toNat : Int) < 10 := by omega
  have hy' : (y.toNat : Int) < 10 := by omega
  have hz' : (z.toNat : Int) < 10 := by omega
  have hxN : (x.toNat : Int) < N := by omega
  have hyN : (y.toNat : Int) < N := by omega
  have hzN : (z.toNat : Int) < N := by omega
  have hoffx : x.toNat * 10 + 10 ≤ 100 := by omega
  have hoffy : y.toNat * 10 + 10 ≤ 100 := by omega
  have hoffz : z.toNat * 10 + 10 ≤ 100 := by omega
  have hH := Has.start2 w (sqc N g) (u8s 10 fun _ => 0) 32 97
  have c0 := hH.c0 0
  rw [sqc_get0] at c0
  go_enter Try.func119, Try.ntmps119
  go_wp2_with (first | (refine wpL_alloc rfl rfl zeroPl ?_; intro g hg; (try simp at hg); subst hg))
  clear c0
  refine wp_region_frame (X := Unit) (fun d _ => [(10, bif d 0 then .agg (sqc N g) else undef), (11, bif d 1 then .int .u8 x.toNat else undef), (12, bif d 2 then .agg (u8s 10 (colF g x.toNat)) else undef), (13, bif d 3 then .agg (sqc N g) else undef), (14, bif d 4 then .int .u8 y.toNat else undef), (15, bif d 5 then .agg (u8s 10 (colF g y.toNat)) else undef), (16, bif d 6 then .int .i64 N else undef), (17, bif d 7 then .agg (u8s 10 pq) else undef), (18, bif d 8 then .agg (sqc N g) else undef), (19, bif d 9 then .int .u8 x.toNat else undef), (20, bif d 10 then .int .u8 y.toNat else undef), (21, bif d 11 then .pointer (some ⟨w.heap.size, 1, none⟩) else undef), (22, bif d 12 then .pointer (some ⟨w.heap.size, 1 + x.toNat * 10, none⟩) else undef), (23, bif d 13 then .pointer (some ⟨w.heap.size, 1 + x.toNat * 10 + y.toNat, none⟩) else undef), (24, bif d 14 then .int .u8 z.toNat else undef), (25, bif d 15 then .agg (u8s 10 (colF g z.toNat)) else undef), (26, bif d 16 then .int .i64 N else undef), (27, bif d 17 then .agg (u8s 10 (backF (colF g z.toNat) N)) else undef), (28, bif d 18 then .int .i64 N else undef), (29, bif d 19 then .agg (u8s 10 s) else undef)])
    (fun d _ w' => Has w w' [(sqc N g, 32), (bif d 20 then u8s 10 s else u8s 10 (fun _ => 0), 97)]) (by kernel_rfl) (by kernel_rfl) ?h0_tm ?hs_tm ?hq_tm
  case h0_tm => exact ⟨(), (by simp [lput]), hH.drew⟩
  case hs_tm =>
    refine ⟨?_, ?_, ?_, ?_, ?_, ?_, ?_, ?_, ?_, ?_, ?_, ?_, ?_, ?_, ?_, ?_, ?_, ?_, ?_, ?_, ?_, trivial⟩
    all_goals
      clear hH
      intro d _ w1 hd hn hJ
      simp only [needs, Region.binds, reduceCtorEq, Bool.false_eq_true, false_implies, true_and, and_true, true_implies, forall_const] at hn
      simp only [lput, List.set, hn, cond_true]
      try simp only [hd, cond_false] at hJ
      have hH := hJ; clear hJ
      have cA : w1.cell? ⟨w.heap.size, 1 + x.toNat * 10 + y.toNat, none⟩ = some (.int .u8 z.toNat) := by rw [hH.c0, Nat.add_assoc, sqc_get _ _ _ (by omega), HZ.out]
      go_wp2_with (first | fail | (refine wpL_loadFull rfl rfl rfl rowSq hH.h0 (sqc_size _ _) ?_) | (go_at_call 155; with_reducible refine (l01Column_any N g x _ HQ.out hx10).mono ?_; rintro e w3 ⟨rfl, hb⟩; replace hH := hH.call' hb; clear hb) | (go_at_call 155; with_reducible refine (l01Column_any N g y _ HQ.out hy10).mono ?_; rintro e w3 ⟨rfl, hb⟩; replace hH := hH.call' hb; clear hb) | (go_at_call 155; with_reducible refine (l01Column_any N g z _ HQ.out hz10).mono ?_; rintro e w3 ⟨rfl, hb⟩; replace hH := hH.call' hb; clear hb) | (go_at_call 154; refine (l01Back_any (colF g z.toNat) N _ h10 HRZ.out.ten).mono ?_; rintro e w3 ⟨rfl, hb⟩; replace hH := hH.call' hb; clear hb) | (go_at_call 152; with_reducible refine (l01Then_any (colF g x.toNat) (colF g y.toNat) N _ h10 HRX.out.ten).mono ?_; rintro e w3 ⟨rfl, hb⟩; rw [HPQ.out]; replace hH := hH.call' hb; clear hb) | (go_at_call 152; with_reducible refine (l01Then_any pq (backF (colF g z.toNat) N) N _ h10 HT.out).mono ?_; rintro e w3 ⟨rfl, hb⟩; rw [HS.out]; replace hH := hH.call' hb; clear hb) | (refine wpL_storeFull rfl rfl rfl rfl rowPl hH.h1 (u8s_size _ _) (u8s_ok _ _) ?_; replace hH := hH.r1 (cs' := u8s 10 s)))
      first
        | (refine ⟨(), ?_, hH⟩; (simp [lput, done, hn]; done))
        | (refine ⟨?_, hH⟩; (simp [lput, done, hn]; done))
        | (refine ⟨(), ?_, hH⟩; (simp [lput, done, hn]; rfl))
        | (refine ⟨?_, hH⟩; (simp [lput, done, hn]; rfl))
        | (refine ⟨(), ?_, hH⟩; (simp [lput, done]; done))
        | (refine ⟨?_, hH⟩; (simp [lput, done]; done))
        | (refine ⟨(), ?_, hH⟩; (simp [lput, done]; rfl))
        | (refine ⟨?_, hH⟩; (simp [lput, done]; rfl))
  case hq_tm =>
    clear hH
    intro d _ w1 hd hJ
    simp only [allDone, List.length_cons, List.length_nil, Nat.reduceAdd, and_true] at hd
    have hH := hJ; clear hJ
    simp only [hd, cond_true] at hH
    simp only [lput, List.set, hd, cond_true]
    clear hd
    go_wp2
    exact ret_c rfl rfl hH.h1 rowPl (u8s_size _ _) ⟨rfl, hH.below⟩
end Go.Proofs.Ytbhjbllgmenbaab
