/- Proved: what the functions that make T(x), L(x, y) and R(x, y) return, of program and model alike. Conditions: those that each theorem names. -/
import Derived.Test.YtbhjbllgmenbaabLc
import Derived.Test.YtbhjbllgmenbaabPl3
import Derived.Test.YtbhjbllgmenbaabQs
import Derived.Test.YtbhjbllgmenbaabQp
namespace Go.Proofs.Ytbhjbllgmenbaab
set_option linter.unusedVariables false
set_option linter.unusedSimpArgs false
open Go.RowKit
def tuF (g : Nat → UInt8) (N x : Nat) : Nat → UInt8 := thenF (rowF g x) (backF (colF g x) N) N
def liF (g : Nat → UInt8) (N x y : Nat) : Nat → UInt8 := thenF (thenF (rowF g x) (rowF g y) N) (backF (rowF g (g (y * 10 + x)).toNat) N) N
def riF (g : Nat → UInt8) (N x y : Nat) : Nat → UInt8 := thenF (thenF (colF g x) (colF g y) N) (backF (colF g (g (x * 10 + y)).toNat) N) N
theorem IsPerm.ten {p : Nat → UInt8} {N : Nat} (h : IsPerm p N) : ∀ i, i < N → (p i).toNat < 10 := fun i hi => by have := h.lt i hi; have := h.hi; omega
theorem thenF_ten {p q : Nat → UInt8} {N : Nat} (hp : IsPerm p N) (hq : IsPerm q N) : ∀ i, i < N → (thenF p q N i).toNat < 10 := fun i hi => by
  unfold thenF
  rw [if_pos hi]
  have := hq.lt _ (hp.lt i hi)
  have := hq.hi
  omega
set_option maxRecDepth 20000 in
set_option maxHeartbeats 4000000 in
theorem turnMap_any (N : Nat) (g : Nat → UInt8) (x : UInt8) (w : World) (hq : IsSq N g) (hx : x.toNat < N) :
    Calls Try.prog 120 #[.agg (sqc N g), .int .u8 x.toNat] w fun e w' => e = .returned (.agg (u8s 10 (tuF g N x.toNat))) ∧ Below w.heap.size w w' := by
  have h10 := hq.hi
  have HR := hid (hq.rows x.toNat hx).ten
  have HC := hid (hq.cols x.toNat hx).ten
  have HT := hid (show thenF (rowF g x.toNat) (backF (colF g x.toNat) N) N = tuF g N x.toNat from rfl)
  clear hq
  have hx10 : x.toNat < 10 := by omega
  have hx' : (x.toNat : Int) < 10 := by omega
  have bdx := u8_bd x
  have hoff : x.toNat * 10 + 10 ≤ 100 := by omega
  have hH := Has.start2 w (sqc N g) (u8s 10 fun _ => 0) 32 97
  go_enter Try.func120, Try.ntmps120
  go_wp2_with (first | (refine wpL_alloc rfl rfl zeroPl ?_; intro g hg; (try simp at hg); subst hg))
  refine wp_region_frame (X := Unit) (fun d _ => [(5, bif d 0 then .int .u8 x.toNat else undef), (6, bif d 1 then .pointer (some ⟨w.heap.size, 1, none⟩) else undef), (7, bif d 2 then .pointer (some ⟨w.heap.size, 1 + x.toNat * 10, none⟩) else undef), (8, bif d 3 then .agg (u8s 10 (rowF g x.toNat)) else undef), (9, bif d 4 then .pointer (some ⟨w.heap.size, 1, none⟩) else undef), (10, bif d 5 then .agg (u8s 100 g) else undef), (11, bif d 6 then .int .u8 x.toNat else undef), (12, bif d 7 then .int .i64 x.toNat else undef), (13, bif d 8 then .agg (u8s 10 (colF g x.toNat)) else undef), (14, bif d 9 then .pointer (some ⟨w.heap.size, 0, none⟩) else undef), (15, bif d 10 then .int .i64 N else undef), (16, bif d 11 then .agg (u8s 10 (backF (colF g x.toNat) N)) else undef), (17, bif d 12 then .pointer (some ⟨w.heap.size, 0, none⟩) else undef), (18, bif d 13 then .int .i64 N else undef), (19, bif d 14 then .agg (u8s 10 (tuF g N x.toNat)) else undef)])
    (fun d _ w' => Has w w' [(sqc N g, 32), (bif d 15 then u8s 10 (tuF g N x.toNat) else u8s 10 (fun _ => 0), 97)]) (by kernel_rfl) (by kernel_rfl) ?h0_tm ?hs_tm ?hq_tm
  case h0_tm => exact ⟨(), (by simp [lput]), hH.drew⟩
  case hs_tm =>
    refine ⟨?_, ?_, ?_, ?_, ?_, ?_, ?_, ?_, ?_, ?_, ?_, ?_, ?_, ?_, ?_, ?_, trivial⟩
    all_goals
      clear hH
      intro d _ w1 hd hn hJ
      simp only [needs, Region.binds, reduceCtorEq, Bool.false_eq_true, false_implies, true_and, and_true, true_implies, forall_const] at hn
      simp only [lput, List.set, hn, cond_true]
      try simp only [hd, cond_false] at hJ
      have hH := hJ; clear hJ
      have c0 : w1.cell? ⟨w.heap.size, 0, none⟩ = some (.int .i64 N) := by rw [hH.c0, sqc_get0]
      go_wp2_with (first | fail | (refine wpL_loadTab rfl rfl rfl rowTa hH.h0 ?_) | (refine wpL_loadRowSq rfl rfl rfl rowB10 hH.h0 hoff ?_) | (go_at_call 157; refine (columnOf_any g x.toNat _ hx10).mono ?_; rintro e w3 ⟨rfl, hb⟩; replace hH := hH.call' hb; clear hb) | (go_at_call 125; refine (backOf_any (colF g x.toNat) N _ h10 HC.out).mono ?_; rintro e w3 ⟨rfl, hb⟩; replace hH := hH.call' hb; clear hb) | (go_at_call 156; refine (thenOf_any (rowF g x.toNat) (backF (colF g x.toNat) N) N _ h10 HR.out).mono ?_; rintro e w3 ⟨rfl, hb⟩; rw [HT.out]; replace hH := hH.call' hb; clear hb) | (refine wpL_storeFull rfl rfl rfl rfl rowPl hH.h1 (u8s_size _ _) (u8s_ok _ _) ?_; replace hH := hH.r1 (cs' := u8s 10 (tuF g N x.toNat))))
      first
        | (refine ⟨(), ?_, hH⟩; (simp [lput, done, hn]; done))
        | (refine ⟨?_, hH⟩; (simp [lput, done, hn]; done))
        | (refine ⟨(), ?_, hH⟩; (simp [lput, done, hn]; rfl))
        | (refine ⟨?_, hH⟩; (simp [lput, done, hn]; rfl))
        | (refine ⟨(), ?_, hH⟩; (simp [lput, done]; done))
        | (refine ⟨?_, hH⟩; (simp [lput, done]; done))
        | (refine ⟨(), ?_, hH⟩; (simp [lput, done]; rfl))
        | (refine ⟨?_, hH⟩; (simp [lput, done]; rfl))
  case hq_tm =>
    clear hH
    intro d _ w1 hd hJ
    simp only [allDone, List.length_cons, List.length_nil, Nat.reduceAdd, and_true] at hd
    have hH := hJ; clear hJ
    simp only [hd, cond_true] at hH
    simp only [lput, List.set, hd, cond_true]
    clear hd
    go_wp2
    exact ret_c rfl rfl hH.h1 rowPl (u8s_size _ _) ⟨rfl, hH.below⟩
set_option maxRecDepth 20000 in
set_option maxHeartbeats 4000000 in
theorem l04Turn_any (N : Nat) (g : Nat → UInt8) (x : UInt8) (w : World) (hq : IsSq N g) (hx : x.toNat < N) :
    Calls Try.prog 117 #[.agg (sqc N g), .int .u8 x.toNat] w fun e w' => e = .returned (.agg (u8s 10 (tuF g N x.toNat))) ∧ Below w.heap.size w w' := by
  have h10 := hq.hi
  have HQ := hid hq
  have HR := hid (hq.rows x.toNat hx).ten
  have HC := hid (hq.cols x.toNat hx).ten
  have HT := hid (show thenF (rowF g x.toNat) (backF (colF g x.toNat) N) N = tuF g N x.toNat from rfl)
  clear hq
  have hx10 : x.toNat < 10 := by omega
  have hH := Has.start2 w (sqc N g) (u8s 10 fun _ => 0) 32 97
  go_enter Try.func117, Try.ntmps117
  go_wp2_with (first | (refine wpL_alloc rfl rfl zeroPl ?_; intro g hg; (try simp at hg); subst hg))
  refine wp_region_frame (X := Unit) (fun d _ => [(5, bif d 0 then .agg (sqc N g) else undef), (6, bif d 1 then .int .u8 x.toNat else undef), (7, bif d 2 then .agg (u8s 10 (rowF g x.toNat)) else undef), (8, bif d 3 then .agg (sqc N g) else undef), (9, bif d 4 then .int .u8 x.toNat else undef), (10, bif d 5 then .agg (u8s 10 (colF g x.toNat)) else undef), (11, bif d 6 then .pointer (some ⟨w.heap.size, 0, none⟩) else undef), (12, bif d 7 then .int .i64 N else undef), (13, bif d 8 then .agg (u8s 10 (backF (colF g x.toNat) N)) else undef), (14, bif d 9 then .pointer (some ⟨w.heap.size, 0, none⟩) else undef), (15, bif d 10 then .int .i64 N else undef), (16, bif d 11 then .agg (u8s 10 (tuF g N x.toNat)) else undef)])
    (fun d _ w' => Has w w' [(sqc N g, 32), (bif d 12 then u8s 10 (tuF g N x.toNat) else u8s 10 (fun _ => 0), 97)]) (by kernel_rfl) (by kernel_rfl) ?h0_tm ?hs_tm ?hq_tm
  case h0_tm => exact ⟨(), (by simp [lput]), hH.drew⟩
  case hs_tm =>
    refine ⟨?_, ?_, ?_, ?_, ?_, ?_, ?_, ?_, ?_, ?_, ?_, ?_, ?_, trivial⟩
    all_goals
      clear hH
      intro d _ w1 hd hn hJ
      simp only [needs, Region.binds, reduceCtorEq, Bool.false_eq_true, false_implies, true_and, and_true, true_implies, forall_const] at hn
      simp only [lput, List.set, hn, cond_true]
      try simp only [hd, cond_false] at hJ
      have hH := hJ; clear hJ
      have c0 : w1.cell? ⟨w.heap.size, 0, none⟩ = some (.int .i64 N) := by rw [hH.c0, sqc_get0]
      go_wp2_with (first | fail | (refine wpL_loadFull rfl rfl rfl rowSq hH.h0 (sqc_size _ _) ?_) | (go_at_call 153; refine (l01Row_any N g x _ hx10).mono ?_; rintro e w3 ⟨rfl, hb⟩; replace hH := hH.call' hb; clear hb) | (go_at_call 155; refine (l01Column_any N g x _ HQ.out hx10).mono ?_; rintro e w3 ⟨rfl, hb⟩; replace hH := hH.call' hb; clear hb) | (go_at_call 154; refine (l01Back_any (colF g x.toNat) N _ h10 HC.out).mono ?_; rintro e w3 ⟨rfl, hb⟩; replace hH := hH.call' hb; clear hb) | (go_at_call 152; refine (l01Then_any (rowF g x.toNat) (backF (colF g x.toNat) N) N _ h10 HR.out).mono ?_; rintro e w3 ⟨rfl, hb⟩; rw [HT.out]; replace hH := hH.call' hb; clear hb) | (refine wpL_storeFull rfl rfl rfl rfl rowPl hH.h1 (u8s_size _ _) (u8s_ok _ _) ?_; replace hH := hH.r1 (cs' := u8s 10 (tuF g N x.toNat))))
      first
        | (refine ⟨(), ?_, hH⟩; (simp [lput, done, hn]; done))
        | (refine ⟨?_, hH⟩; (simp [lput, done, hn]; done))
        | (refine ⟨(), ?_, hH⟩; (simp [lput, done, hn]; rfl))
        | (refine ⟨?_, hH⟩; (simp [lput, done, hn]; rfl))
        | (refine ⟨(), ?_, hH⟩; (simp [lput, done]; done))
        | (refine ⟨?_, hH⟩; (simp [lput, done]; done))
        | (refine ⟨(), ?_, hH⟩; (simp [lput, done]; rfl))
        | (refine ⟨?_, hH⟩; (simp [lput, done]; rfl))
  case hq_tm =>
    clear hH
    intro d _ w1 hd hJ
    simp only [allDone, List.length_cons, List.length_nil, Nat.reduceAdd, and_true] at hd
    have hH := hJ; clear hJ
    simp only [hd, cond_true] at hH
    simp only [lput, List.set, hd, cond_true]
    clear hd
    go_wp2
    exact ret_c rfl rfl hH.h1 rowPl (u8s_size _ _) ⟨rfl, hH.below⟩
set_option maxRecDepth 20000 in
set_option maxHeartbeats 4000000 in
theorem pathOf_any (N : Nat) (p q r : Nat → UInt8) (w : World) (hp : IsPerm p N) (hq : IsPerm q N) (hr : IsPerm r N) :
    Calls Try.prog 158 #[.agg (u8s 10 p), .agg (u8s 10 q), .agg (u8s 10 r), .int .i64 N] w fun e w' => e = .returned (.agg (u8s 10 (thenF (thenF p q N) (backF r N) N))) ∧ Below w.heap.size w w' := by
  have h10 := hp.hi
  obtain ⟨pq, hpq⟩ : ∃ pq, thenF p q N = pq := ⟨_, rfl⟩
  obtain ⟨s, hs⟩ : ∃ s, thenF pq (backF r N) N = s := ⟨_, rfl⟩
  have HT := hid (show ∀ i, i < N → (pq i).toNat < 10 by rw [← hpq]; exact thenF_ten hp hq)
  have HS := hid hs
  have HPQ := hid hpq
  rw [hpq, hs]
  have HP := hid hp.ten
  have HR := hid hr.ten
  clear hp hq hr hpq hs
  have hH := Has.start4 w (u8s 10 p) (u8s 10 q) (u8s 10 r) (u8s 10 fun _ => 0) 97 97 97 97
  go_enter Try.func158, Try.ntmps158
  go_wp2_with (first | (refine wpL_alloc rfl rfl zeroPl ?_; intro g hg; (try simp at hg); subst hg))
  refine wp_region_frame (X := Unit) (fun d _ => [(9, bif d 0 then .agg (u8s 10 p) else undef), (10, bif d 1 then .agg (u8s 10 q) else undef), (11, bif d 2 then .int .i64 N else undef), (12, bif d 3 then .agg (u8s 10 pq) else undef), (13, bif d 4 then .agg (u8s 10 r) else undef), (14, bif d 5 then .int .i64 N else undef), (15, bif d 6 then .agg (u8s 10 (backF r N)) else undef), (16, bif d 7 then .int .i64 N else undef), (17, bif d 8 then .agg (u8s 10 s) else undef)])
    (fun d _ w' => Has w w' [(u8s 10 p, 97), (u8s 10 q, 97), (u8s 10 r, 97), (bif d 9 then u8s 10 s else u8s 10 (fun _ => 0), 97)]) (by kernel_rfl) (by kernel_rfl) ?h0_tm ?hs_tm ?hq_tm
  case h0_tm => exact ⟨(), (by simp [lput]), hH.drew⟩
  case hs_tm =>
    refine ⟨?_, ?_, ?_, ?_, ?_, ?_, ?_, ?_, ?_, ?_, trivial⟩
    all_goals
      clear hH
      intro d _ w1 hd hn hJ
      simp only [needs, Region.binds, reduceCtorEq, Bool.false_eq_true, false_implies, true_and, and_true, true_implies, forall_const] at hn
      simp only [lput, List.set, hn, cond_true]
      try simp only [hd, cond_false] at hJ
      have hH := hJ; clear hJ
      go_wp2_with (first | fail | (refine wpL_loadFull rfl rfl rfl rowPl hH.h0 (u8s_size _ _) ?_) | (refine wpL_loadFull rfl rfl rfl rowPl hH.h1 (u8s_size _ _) ?_) | (refine wpL_loadFull rfl rfl rfl rowPl hH.h2 (u8s_size _ _) ?_) | (go_at_call 125; refine (backOf_any r N _ h10 HR.out).mono ?_; rintro e w3 ⟨rfl, hb⟩; replace hH := hH.call' hb; clear hb) | (go_at_call 156; with_reducible refine (thenOf_any p q N _ h10 HP.out).mono ?_; rintro e w3 ⟨rfl, hb⟩; rw [HPQ.out]; replace hH := hH.call' hb; clear hb) | (go_at_call 156; with_reducible refine (thenOf_any pq (backF r N) N _ h10 HT.out).mono ?_; rintro e w3 ⟨rfl, hb⟩; rw [HS.out]; replace hH := hH.call' hb; clear hb) | (refine wpL_storeFull rfl rfl rfl rfl rowPl hH.h3 (u8s_size _ _) (u8s_ok _ _) ?_; replace hH := hH.r3 (cs' := u8s 10 s)))
      first
        | (refine ⟨(), ?_, hH⟩; (simp [lput, done, hn]; done))
        | (refine ⟨?_, hH⟩; (simp [lput, done, hn]; done))
        | (refine ⟨(), ?_, hH⟩; (simp [lput, done, hn]; rfl))
        | (refine ⟨?_, hH⟩; (simp [lput, done, hn]; rfl))
        | (refine ⟨(), ?_, hH⟩; (simp [lput, done]; done))
        | (refine ⟨?_, hH⟩; (simp [lput, done]; done))
        | (refine ⟨(), ?_, hH⟩; (simp [lput, done]; rfl))
        | (refine ⟨?_, hH⟩; (simp [lput, done]; rfl))
  case hq_tm =>
    clear hH
    intro d _ w1 hd hJ
    simp only [allDone, List.length_cons, List.length_nil, Nat.reduceAdd, and_true] at hd
    have hH := hJ; clear hJ
    simp only [hd, cond_true] at hH
    simp only [lput, List.set, hd, cond_true]
    clear hd
    go_wp2
    exact ret_c rfl rfl hH.h3 rowPl (u8s_size _ _) ⟨rfl, hH.below⟩
end Go.Proofs.Ytbhjbllgmenbaab
