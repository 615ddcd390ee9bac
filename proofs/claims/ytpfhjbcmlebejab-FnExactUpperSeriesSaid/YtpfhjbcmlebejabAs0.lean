/- Proved: what the model's functions that make commutators and associators return. Conditions: those that each theorem names. -/
import Derived.Test.YtpfhjbcmlebejabNu
import Derived.Test.YtpfhjbcmlebejabLc
namespace Go.Proofs.Ytpfhjbcmlebejab
set_option linter.unusedVariables false
set_option linter.unusedSimpArgs false
open Go.RowKit
set_option maxRecDepth 20000 in
set_option maxHeartbeats 2000000 in
theorem l05Commutator_any (N : Nat) (g : Nat → UInt8) (x y : UInt8) (w : World) (hq : IsSq N g) (hx : x.toNat < N) (hy : y.toNat < N) :
    Calls Try.prog 149 #[.agg (sqc N g), .int .u8 x.toNat, .int .u8 y.toNat] w fun e w' => e = .returned (.int .u8 (cmm g N x.toNat y.toNat).toNat) ∧ Below w.heap.size w w' := by
  have h10 := hq.hi
  obtain ⟨p, hp⟩ : ∃ p : UInt8, g (y.toNat * 10 + x.toNat) = p := ⟨_, rfl⟩
  obtain ⟨q, hqq⟩ : ∃ q : UInt8, g (x.toNat * 10 + y.toNat) = q := ⟨_, rfl⟩
  have hpl : p.toNat < N := by rw [← hp]; exact mu_lt hq hy hx
  have hql : q.toNat < N := by rw [← hqq]; exact mu_lt hq hx hy
  have hv : cmm g N x.toNat y.toNat = ld g N p.toNat q.toNat := by unfold cmm mu; rw [hp, hqq]
  rw [hv]
  have HP := hid hp
  have HQ := hid hqq
  have HS := hid hq
  clear hp hqq hv hq
  have hx' : (x.toNat : Int) < 10 := by omega
  have hy' : (y.toNat : Int) < 10 := by omega
  have hH := Has.start1 w (sqc N g) 30
  go_enter Try.func149, Try.ntmps149
  go_wp2
  refine wp_region_frame (X := Unit) (fun d _ => [(7, bif d 0 then .agg (sqc N g) else undef), (8, bif d 1 then .int .u8 y.toNat else undef), (9, bif d 2 then .int .u8 x.toNat else undef), (10, bif d 3 then .pointer (some ⟨w.heap.size, 1, none⟩) else undef), (11, bif d 4 then .pointer (some ⟨w.heap.size, 1 + y.toNat * 10, none⟩) else undef), (12, bif d 5 then .pointer (some ⟨w.heap.size, 1 + y.toNat * 10 + x.toNat, none⟩) else undef), (13, bif d 6 then .int .u8 p.toNat else undef), (14, bif d 7 then .int .u8 x.toNat else undef), (15, bif d 8 then .int .u8 y.toNat else undef), (16, bif d 9 then .pointer (some ⟨w.heap.size, 1, none⟩) else undef), (17, bif d 10 then .pointer (some ⟨w.heap.size, 1 + x.toNat * 10, none⟩) else undef), (18, bif d 11 then .pointer (some ⟨w.heap.size, 1 + x.toNat * 10 + y.toNat, none⟩) else undef), (19, bif d 12 then .int .u8 q.toNat else undef), (20, bif d 13 then .int .u8 (backF (rowF g p.toNat) N q.toNat).toNat else undef), (6, bif d 14 then .int .u8 (backF (rowF g p.toNat) N q.toNat).toNat else .int .u8 0)])
    (fun d _ w' => Has w w' [(sqc N g, 30)]) (by kernel_rfl) (by kernel_rfl) ?h0_cm ?hs_cm ?hq_cm
  case h0_cm => exact ⟨(), (by simp [lput]), hH.drew⟩
  case hs_cm =>
    refine ⟨?_, ?_, ?_, ?_, ?_, ?_, ?_, ?_, ?_, ?_, ?_, ?_, ?_, ?_, ?_, trivial⟩
    all_goals
      clear hH
      intro d _ w1 hd hn hJ
      simp only [needs, Region.binds, reduceCtorEq, Bool.false_eq_true, false_implies, true_and, and_true, true_implies, forall_const] at hn
      simp only [lput, List.set, hn, cond_true]
      have hH := hJ; clear hJ
      have ca : w1.cell? ⟨w.heap.size, 1 + y.toNat * 10 + x.toNat, none⟩ = some (.int .u8 p.toNat) := by rw [hH.c0, Nat.add_assoc, sqc_get _ _ _ (by omega), HP.out]
      have cb : w1.cell? ⟨w.heap.size, 1 + x.toNat * 10 + y.toNat, none⟩ = some (.int .u8 q.toNat) := by rw [hH.c0, Nat.add_assoc, sqc_get _ _ _ (by omega), HQ.out]
      go_wp2_with (first | fail | (refine wpL_loadFull rfl rfl rfl rowSq hH.h0 (sqc_size _ _) ?_) | (go_at_call 128; refine (l01Left_any N g p q _ HS.out hpl hql).mono ?_; rintro e w3 ⟨rfl, hb⟩; replace hH := hH.call' hb; clear hb))
      first
        | (refine ⟨(), ?_, hH⟩; (simp [lput, done, hn]; done))
        | (refine ⟨?_, hH⟩; (simp [lput, done, hn]; done))
        | (refine ⟨(), ?_, hH⟩; (simp [lput, done, hn]; rfl))
        | (refine ⟨?_, hH⟩; (simp [lput, done, hn]; rfl))
        | (refine ⟨(), ?_, hH⟩; (simp [lput, done]; done))
        | (refine ⟨?_, hH⟩; (simp [lput, done]; done))
        | (refine ⟨(), ?_, hH⟩; (simp [lput, done]; rfl))
        | (refine ⟨?_, hH⟩; (simp [lput, done]; rfl))
  case hq_cm =>
    clear hH
    intro d _ w1 hd hJ
    simp only [allDone, List.length_cons, List.length_nil, Nat.reduceAdd, and_true] at hd
    have hH := hJ; clear hJ
    simp only [lput, List.set, hd, cond_true]
    clear hd
    go_wp2
    go_ret
    exact ⟨rfl, hH.below⟩
set_option maxRecDepth 20000 in
set_option maxHeartbeats 4000000 in
theorem l05Associator_any (N : Nat) (g : Nat → UInt8) (x y z : UInt8) (w : World) (hq : IsSq N g) (hx : x.toNat < N) (hy : y.toNat < N) (hz : z.toNat < N) :
    Calls Try.prog 150 #[.agg (sqc N g), .int .u8 x.toNat, .int .u8 y.toNat, .int .u8 z.toNat] w fun e w' => e = .returned (.int .u8 (asc g N x.toNat y.toNat z.toNat).toNat) ∧ Below w.heap.size w w' := by
  have h10 := hq.hi
  obtain ⟨p, hp⟩ : ∃ p : UInt8, g (y.toNat * 10 + z.toNat) = p := ⟨_, rfl⟩
  obtain ⟨q, hqq⟩ : ∃ q : UInt8, g (x.toNat * 10 + y.toNat) = q := ⟨_, rfl⟩
  have hpl : p.toNat < N := by rw [← hp]; exact mu_lt hq hy hz
  have hql : q.toNat < N := by rw [← hqq]; exact mu_lt hq hx hy
  obtain ⟨r, hr⟩ : ∃ r : UInt8, g (x.toNat * 10 + p.toNat) = r := ⟨_, rfl⟩
  obtain ⟨s, hs⟩ : ∃ s : UInt8, g (q.toNat * 10 + z.toNat) = s := ⟨_, rfl⟩
  have hrl : r.toNat < N := by rw [← hr]; exact mu_lt hq hx hpl
  have hsl : s.toNat < N := by rw [← hs]; exact mu_lt hq hql hz
  have hv : asc g N x.toNat y.toNat z.toNat = ld g N r.toNat s.toNat := by unfold asc mu; rw [hp, hqq, hr, hs]
  rw [hv]
  have HP := hid hp
  have HQ := hid hqq
  have HR := hid hr
  have HT := hid hs
  have HS := hid hq
  clear hp hqq hr hs hv hq
  have hx' : (x.toNat : Int) < 10 := by omega
  have hy' : (y.toNat : Int) < 10 := by omega
  have hz' : (z.toNat : Int) < 10 := by omega
  have hp' : (p.toNat : Int) < 10 := by omega
  have hq' : (q.toNat : Int) < 10 := by omega
  have hH := Has.start1 w (sqc N g) 30
  go_enter Try.func150, Try.ntmps150
  go_wp2
  refine wp_region_frame (X := Unit) (fun d _ => [(9, bif d 0 then .agg (sqc N g) else undef), (10, bif d 1 then .int .u8 x.toNat else undef), (11, bif d 2 then .int .u8 y.toNat else undef), (12, bif d 3 then .int .u8 z.toNat else undef), (13, bif d 4 then .pointer (some ⟨w.heap.size, 1, none⟩) else undef), (14, bif d 5 then .pointer (some ⟨w.heap.size, 1 + y.toNat * 10, none⟩) else undef), (15, bif d 6 then .pointer (some ⟨w.heap.size, 1 + y.toNat * 10 + z.toNat, none⟩) else undef), (16, bif d 7 then .int .u8 p.toNat else undef), (17, bif d 8 then .pointer (some ⟨w.heap.size, 1, none⟩) else undef), (18, bif d 9 then .pointer (some ⟨w.heap.size, 1 + x.toNat * 10, none⟩) else undef), (19, bif d 10 then .pointer (some ⟨w.heap.size, 1 + x.toNat * 10 + p.toNat, none⟩) else undef), (20, bif d 11 then .int .u8 r.toNat else undef), (21, bif d 12 then .int .u8 x.toNat else undef), (22, bif d 13 then .int .u8 y.toNat else undef), (23, bif d 14 then .pointer (some ⟨w.heap.size, 1, none⟩) else undef), (24, bif d 15 then .pointer (some ⟨w.heap.size, 1 + x.toNat * 10, none⟩) else undef), (25, bif d 16 then .pointer (some ⟨w.heap.size, 1 + x.toNat * 10 + y.toNat, none⟩) else undef), (26, bif d 17 then .int .u8 q.toNat else undef), (27, bif d 18 then .int .u8 z.toNat else undef), (28, bif d 19 then .pointer (some ⟨w.heap.size, 1, none⟩) else undef), (29, bif d 20 then .pointer (some ⟨w.heap.size, 1 + q.toNat * 10, none⟩) else undef), (30, bif d 21 then .pointer (some ⟨w.heap.size, 1 + q.toNat * 10 + z.toNat, none⟩) else undef), (31, bif d 22 then .int .u8 s.toNat else undef), (32, bif d 23 then .int .u8 (backF (rowF g r.toNat) N s.toNat).toNat else undef), (8, bif d 24 then .int .u8 (backF (rowF g r.toNat) N s.toNat).toNat else .int .u8 0)])
    (fun d _ w' => Has w w' [(sqc N g, 30)]) (by kernel_rfl) (by kernel_rfl) ?h0_am ?hs_am ?hq_am
  case h0_am => exact ⟨(), (by simp [lput]), hH.drew⟩
  case hs_am =>
    refine ⟨?_, ?_, ?_, ?_, ?_, ?_, ?_, ?_, ?_, ?_, ?_, ?_, ?_, ?_, ?_, ?_, ?_, ?_, ?_, ?_, ?_, ?_, ?_, ?_, ?_, trivial⟩
    all_goals
      clear hH
      intro d _ w1 hd hn hJ
      simp only [needs, Region.binds, reduceCtorEq, Bool.false_eq_true, false_implies, true_and, and_true, true_implies, forall_const] at hn
      simp only [lput, List.set, hn, cond_true]
      have hH := hJ; clear hJ
      have ca : w1.cell? ⟨w.heap.size, 1 + y.toNat * 10 + z.toNat, none⟩ = some (.int .u8 p.toNat) := by rw [hH.c0, Nat.add_assoc, sqc_get _ _ _ (by omega), HP.out]
      have cb : w1.cell? ⟨w.heap.size, 1 + x.toNat * 10 + y.toNat, none⟩ = some (.int .u8 q.toNat) := by rw [hH.c0, Nat.add_assoc, sqc_get _ _ _ (by omega), HQ.out]
      have cc : w1.cell? ⟨w.heap.size, 1 + x.toNat * 10 + p.toNat, none⟩ = some (.int .u8 r.toNat) := by rw [hH.c0, Nat.add_assoc, sqc_get _ _ _ (by omega), HR.out]
      have cd : w1.cell? ⟨w.heap.size, 1 + q.toNat * 10 + z.toNat, none⟩ = some (.int .u8 s.toNat) := by rw [hH.c0, Nat.add_assoc, sqc_get _ _ _ (by omega), HT.out]
      go_wp2_with (first | fail | (refine wpL_loadFull rfl rfl rfl rowSq hH.h0 (sqc_size _ _) ?_) | (go_at_call 128; refine (l01Left_any N g r s _ HS.out hrl hsl).mono ?_; rintro e w3 ⟨rfl, hb⟩; replace hH := hH.call' hb; clear hb))
      first
        | (refine ⟨(), ?_, hH⟩; (simp [lput, done, hn]; done))
        | (refine ⟨?_, hH⟩; (simp [lput, done, hn]; done))
        | (refine ⟨(), ?_, hH⟩; (simp [lput, done, hn]; rfl))
        | (refine ⟨?_, hH⟩; (simp [lput, done, hn]; rfl))
        | (refine ⟨(), ?_, hH⟩; (simp [lput, done]; done))
        | (refine ⟨?_, hH⟩; (simp [lput, done]; done))
        | (refine ⟨(), ?_, hH⟩; (simp [lput, done]; rfl))
        | (refine ⟨?_, hH⟩; (simp [lput, done]; rfl))
  case hq_am =>
    clear hH
    intro d _ w1 hd hJ
    simp only [allDone, List.length_cons, List.length_nil, Nat.reduceAdd, and_true] at hd
    have hH := hJ; clear hJ
    simp only [lput, List.set, hd, cond_true]
    clear hd
    go_wp2
    go_ret
    exact ⟨rfl, hH.below⟩
end Go.Proofs.Ytpfhjbcmlebejab
