/- Proved: what ProlongSquare returns, of program and model alike. Conditions: those that each theorem names. -/
import Derived.Test.YtcdlnkjljijlmaaMk6
import Derived.Test.YtcdlnkjljijlmaaQt
namespace Go.Proofs.Ytcdlnkjljijlmaa
set_option linter.unusedVariables false
set_option linter.unusedSimpArgs false
open Go.RowKit
theorem proV_nn (g c : Nat → UInt8) (N : Nat) : proV g c N N N = UInt8.ofNat N := by unfold proV; rw [if_pos rfl, if_pos rfl]
set_option maxRecDepth 20000 in
set_option maxHeartbeats 4000000 in
theorem prolonged_any (N gb x y : Nat) (g c : Nat → UInt8) (ts co : Value) (fa : UInt8) (w : World) (hq : IsSq N g) (hp : IsPerm c N) (h9 : N ≤ 9) (hx : x < N + 1) (hy : y < N + 1) (hg : Dv w gb N g) :
    Calls Try.prog (mkId 5) #[.agg (matc (.pointer (some ⟨gb, 0, none⟩)) ts fa co c), .int .u8 (x : Nat), .int .u8 (y : Nat)] w fun e w' => e = .returned (.int .u8 (proV g c N x y).toNat) ∧ Below w.heap.size w w' := by
  show Calls Try.prog 113 _ _ _
  have h10 := hq.hi
  have h1 := hq.lo
  obtain ⟨Y, rfl⟩ := byte_of y (by omega)
  have hH := Has.start1 w (matc (.pointer (some ⟨gb, 0, none⟩)) ts fa co c) 66
  have c0 := hH.c0 0
  rw [matc_0] at c0
  have hD := hid (holds_alloc hg (.cells (matc (.pointer (some ⟨gb, 0, none⟩)) ts fa co c) 66))
  have cN : (w.alloc (.cells (matc (.pointer (some ⟨gb, 0, none⟩)) ts fa co c) 66)).cell? ⟨gb, 0, none⟩ = some (.int .i64 N) := by rw [holds_cell hD.out, dvc_get0 _ _ _ _ _ (by omega), sqc_get0]
  have hNi : (N : Int) ≤ 9 := by omega
  have hxi : (x : Int) ≤ N := by omega
  have hyi : (Y.toNat : Int) ≤ N := by omega
  clear hg
  by_cases hxN : x = N
  · subst hxN
    by_cases hyN : Y.toNat = x
    · rw [hyN, proV_nn, u8_of _ (by omega)]
      go_enter Try.func113, Try.ntmps113
      go_wp2_with (first | fail | (refine wpL_guard rfl rfl ?_))
      go_ret
      exact ⟨rfl, hH.below⟩
    · have hyl : Y.toNat < x := by omega
      have e1 : ¬ (Y.toNat : Int) = (x : Int) := by omega
      have eb1 : ((Y.toNat : Int) == (x : Int)) = false := by simpa using e1
      have e2 : (Y.toNat : Int) < x := by omega
      have hY10 : Y.toNat < 10 := by omega
      obtain ⟨b, hb⟩ : ∃ b, backF c x Y.toNat = b := ⟨_, rfl⟩
      have hbl : b.toNat < x := by rw [← hb]; exact (bk_lt hp hyl).1
      obtain ⟨r, hr⟩ : ∃ r, g (b.toNat * 10 + Y.toNat) = r := ⟨_, rfl⟩
      have HV := hid (show proV g c x x Y.toNat = r by unfold proV; rw [if_pos rfl, if_neg hyN, hb, hr])
      rw [HV.out]
      have HB := hid hb
      have HR := hid hr
      have HT := hid (fun i (hi : i < x) => (show (c i).toNat < 10 by have := hp.lt i hi; omega))
      have hix := ixPl (backF c x) Y hY10
      rw [hb] at hix
      clear hb hr hp hq
      go_enter Try.func113, Try.ntmps113
      go_wp2_with (first | fail | (refine wpL_guard rfl rfl ?_))
      refine wp_region_frame (X := Unit) (fun d _ => [(34, bif d 0 then .pointer (some ⟨w.heap.size, 0, none⟩) else undef), (35, bif d 1 then .pointer (some ⟨gb, 0, none⟩) else undef), (36, bif d 2 then .pointer (some ⟨w.heap.size, 4, none⟩) else undef), (37, bif d 3 then .agg (u8s 10 c) else undef), (38, bif d 4 then .int .u8 x else undef), (39, bif d 5 then .int .i64 x else undef), (40, bif d 6 then .agg (u8s 10 (backF c x)) else undef), (41, bif d 7 then .int .u8 Y.toNat else undef), (42, bif d 8 then .int .u8 b.toNat else undef), (43, bif d 9 then .int .u8 Y.toNat else undef), (44, bif d 10 then .int .u8 r.toNat else undef), (6, bif d 11 then .int .u8 r.toNat else .int .u8 0)])
        (fun d _ w' => Has w w' [(matc (.pointer (some ⟨gb, 0, none⟩)) ts fa co c, 66)] ∧ Hid (Dv w' gb x g)) (by kernel_rfl) (by kernel_rfl) ?h0_pa ?hs_pa ?hq_pa
      case h0_pa => exact ⟨(), (by simp [lput]), hH.drew, hid (holds_drew hD.out)⟩
      case hs_pa =>
        refine ⟨?_, ?_, ?_, ?_, ?_, ?_, ?_, ?_, ?_, ?_, ?_, ?_, trivial⟩
        all_goals
          clear hH hD
          intro d _ w1 hd hn hJ
          simp only [needs, Region.binds, reduceCtorEq, Bool.false_eq_true, false_implies, true_and, and_true, true_implies, forall_const] at hn
          simp only [lput, List.set, hn, cond_true]
          obtain ⟨hH, hD⟩ := hJ
          have c0 : w1.cell? ⟨w.heap.size, 0, none⟩ = some (.pointer (some ⟨gb, 0, none⟩)) := by rw [hH.c0, matc_0]
          go_wp2_with (first | fail | (refine wpL_loadSub rfl rfl rfl rowPl hH.h0 (by rw [matc_size]; omega) (matc_places _ _ _ _ _) ?_) | (go_at_call 120; refine (backOf_any c x _ h10 HT.out).mono ?_; rintro e w3 ⟨rfl, hb⟩; replace hH := hH.call' hb; replace hD := hid (Dv.below hD.out hb)) | (go_at_call 67; refine (product_nat x gb b.toNat Y.toNat g _ h10 hbl hyl hD.out).mono ?_; rintro e w3 ⟨rfl, hb⟩; rw [HR.out]; replace hH := hH.call' hb; replace hD := hid (Dv.below hD.out hb)))
          first
            | (refine ⟨(), ?_, hH, hD⟩; (simp [lput, done, hn, eb1]; done))
            | (refine ⟨?_, hH, hD⟩; (simp [lput, done, hn, eb1]; done))
            | (refine ⟨(), ?_, hH, hD⟩; (simp [lput, done, hn, eb1]; rfl))
            | (refine ⟨?_, hH, hD⟩; (simp [lput, done, hn, eb1]; rfl))
            | (refine ⟨(), ?_, hH, hD⟩; (simp [lput, done, eb1]; done))
            | (refine ⟨?_, hH, hD⟩; (simp [lput, done, eb1]; done))
            | (refine ⟨(), ?_, hH, hD⟩; (simp [lput, done, eb1]; rfl))
            | (refine ⟨?_, hH, hD⟩; (simp [lput, done, eb1]; rfl))
      case hq_pa =>
        clear hH hD
        intro d _ w1 hd hJ
        simp only [allDone, List.length_cons, List.length_nil, Nat.reduceAdd, and_true] at hd
        obtain ⟨hH, hD⟩ := hJ
        simp only [lput, List.set, hd, cond_true]
        clear hd
        go_wp2
        go_ret
        exact ⟨rfl, hH.below⟩
  · have hxl : x < N := by omega
    have e0 : ¬ (x : Int) = (N : Int) := by omega
    have eb : ((x : Int) == (N : Int)) = false := by simpa using e0
    obtain ⟨q, hq2⟩ : ∃ q, c x = q := ⟨_, rfl⟩
    have hql : q.toNat < N := by rw [← hq2]; exact hp.lt _ hxl
    have HQ2 := hid hq2
    have hxi2 : (x : Int) < 10 := by omega
    have hqi : (q.toNat : Int) < 10 := by omega
    by_cases hyN : Y.toNat = N
    · obtain ⟨r, hr⟩ : ∃ r, g (x * 10 + q.toNat) = r := ⟨_, rfl⟩
      have HV := hid (show proV g c N x N = r by unfold proV; rw [if_neg hxN, if_pos rfl, hq2, hr])
      rw [hyN, HV.out]
      have HR := hid hr
      clear hr hq2 hp hq
      go_enter Try.func113, Try.ntmps113
      go_wp2_with (first | fail | (refine wpL_guard rfl rfl ?_))
      refine wp_region_frame (X := Unit) (fun d _ => [(49, bif d 0 then .pointer (some ⟨w.heap.size, 0, none⟩) else undef), (50, bif d 1 then .pointer (some ⟨gb, 0, none⟩) else undef), (51, bif d 2 then .int .u8 x else undef), (52, bif d 3 then .int .u8 x else undef), (53, bif d 4 then .pointer (some ⟨w.heap.size, 4, none⟩) else undef), (54, bif d 5 then .pointer (some ⟨w.heap.size, 4 + x, none⟩) else undef), (55, bif d 6 then .int .u8 q.toNat else undef), (56, bif d 7 then .int .u8 r.toNat else undef), (6, bif d 8 then .int .u8 r.toNat else .int .u8 0)])
        (fun d _ w' => Has w w' [(matc (.pointer (some ⟨gb, 0, none⟩)) ts fa co c, 66)] ∧ Hid (Dv w' gb N g)) (by kernel_rfl) (by kernel_rfl) ?h0_pb ?hs_pb ?hq_pb
      case h0_pb => exact ⟨(), (by simp [lput]), hH.drew, hid (holds_drew hD.out)⟩
      case hs_pb =>
        refine ⟨?_, ?_, ?_, ?_, ?_, ?_, ?_, ?_, ?_, trivial⟩
        all_goals
          clear hH hD
          intro d _ w1 hd hn hJ
          simp only [needs, Region.binds, reduceCtorEq, Bool.false_eq_true, false_implies, true_and, and_true, true_implies, forall_const] at hn
          simp only [lput, List.set, hn, cond_true]
          obtain ⟨hH, hD⟩ := hJ
          have c0 : w1.cell? ⟨w.heap.size, 0, none⟩ = some (.pointer (some ⟨gb, 0, none⟩)) := by rw [hH.c0, matc_0]
          have c1 : w1.cell? ⟨w.heap.size, 4 + x, none⟩ = some (.int .u8 q.toNat) := by rw [hH.c0, matc_pl _ _ _ _ _ _ (by omega), HQ2.out]
          go_wp2_with (first | fail | (go_at_call 67; refine (product_nat N gb x q.toNat g _ h10 hxl hql hD.out).mono ?_; rintro e w3 ⟨rfl, hb⟩; rw [HR.out]; replace hH := hH.call' hb; replace hD := hid (Dv.below hD.out hb)))
          first
            | (refine ⟨(), ?_, hH, hD⟩; (simp [lput, done, hn, eb]; done))
            | (refine ⟨?_, hH, hD⟩; (simp [lput, done, hn, eb]; done))
            | (refine ⟨(), ?_, hH, hD⟩; (simp [lput, done, hn, eb]; rfl))
            | (refine ⟨?_, hH, hD⟩; (simp [lput, done, hn, eb]; rfl))
            | (refine ⟨(), ?_, hH, hD⟩; (simp [lput, done, eb]; done))
            | (refine ⟨?_, hH, hD⟩; (simp [lput, done, eb]; done))
            | (refine ⟨(), ?_, hH, hD⟩; (simp [lput, done, eb]; rfl))
            | (refine ⟨?_, hH, hD⟩; (simp [lput, done, eb]; rfl))
      case hq_pb =>
        clear hH hD
        intro d _ w1 hd hJ
        simp only [allDone, List.length_cons, List.length_nil, Nat.reduceAdd, and_true] at hd
        obtain ⟨hH, hD⟩ := hJ
        simp only [lput, List.set, hd, cond_true]
        clear hd
        go_wp2
        go_ret
        exact ⟨rfl, hH.below⟩
    · have hyl : Y.toNat < N := by omega
      have e1 : ¬ (Y.toNat : Int) = (N : Int) := by omega
      have c1 : (w.alloc (.cells (matc (.pointer (some ⟨gb, 0, none⟩)) ts fa co c) 66)).cell? ⟨w.heap.size, 4 + x, none⟩ = some (.int .u8 q.toNat) := by rw [hH.c0, matc_pl _ _ _ _ _ _ (by omega), hq2]
      by_cases hqy : q.toNat = Y.toNat
      · have HV := hid (show proV g c N x Y.toNat = UInt8.ofNat N by unfold proV; rw [if_neg hxN, if_neg hyN, hq2, if_pos hqy])
        rw [HV.out, u8_of _ (by omega)]
        have e2 : (q.toNat : Int) = (Y.toNat : Int) := by omega
        clear hq2
        go_enter Try.func113, Try.ntmps113
        go_wp2_with (first | fail | (refine wpL_guard rfl rfl ?_))
        go_ret
        exact ⟨rfl, hH.below⟩
      · obtain ⟨r, hr⟩ : ∃ r, g (x * 10 + Y.toNat) = r := ⟨_, rfl⟩
        have HV := hid (show proV g c N x Y.toNat = r by unfold proV; rw [if_neg hxN, if_neg hyN, hq2, if_neg hqy, hr])
        rw [HV.out]
        have HR := hid hr
        have e2 : ¬ (q.toNat : Int) = (Y.toNat : Int) := by omega
        clear hq2 hr
        go_enter Try.func113, Try.ntmps113
        go_wp2_with (first | fail | (refine wpL_guard rfl rfl ?_) | (go_at_call 67; refine (product_nat N gb x Y.toNat g _ h10 hxl hyl hD.out).mono ?_; rintro e w3 ⟨rfl, hb⟩; rw [HR.out]; replace hH := hH.call' hb; replace hD := hid (Dv.below hD.out hb)))
        go_ret
        exact ⟨rfl, hH.below⟩
/-- What a transversal has to make different. -/
def trD (g c : Nat → UInt8) (x : Nat) : UInt8 := g (x * 10 + (c x).toNat)
set_option maxRecDepth 20000 in
set_option maxHeartbeats 1600000 in
theorem implPro_bad (o : Int) (g c : Nat → UInt8) (w : World) (hz : (sqB o g && permB c o) = false) :
    Calls Try.prog 25 #[.agg (sqc o g), .agg (u8s 10 c)] w fun e w' => e = .returned (.tuple #[.agg (sqc 0 fun _ => 0), .int .i64 1]) ∧ Below w.heap.size w w' := by
  have HZ := hid (show (if (sqB o g && permB c o) = true then (0 : Int) else 1) = 1 by rw [hz]; rfl)
  clear hz
  have h0 := Has.start3 w (sqc o g) (u8s 10 c) (sqc 0 fun _ => 0) 28 36 28
  have hH := Has.start4 w (sqc o g) (u8s 10 c) (sqc 0 fun _ => 0) (u8s 10 c) 28 36 28 36
  go_enter Try.func25, Try.ntmps25
  go_wp2_with (first | fail | (refine wpL_alloc rfl rfl zeroSq ?_; intro g hg; (try simp at hg); subst hg) | (refine wpL_loadFull rfl rfl rfl rowSq h0.h0 (sqc_size _ _) ?_) | (refine wpL_loadFull rfl rfl rfl rowPl h0.h1 (u8s_size _ _) ?_) | (refine wpL_sliceP (f := c) rfl (by rfl) (by rfl) ?_) | (go_at_call 65; refine (placesCode_v1 o g c _ _ hH.h3).mono ?_; rintro e w3 ⟨rfl, hb⟩; rw [HZ.out]; replace hH := hH.call' hb; clear hb h0) | (refine wpL_build rfl rfl builtSq ?_) | (refine wpL_storeSame rfl rfl rfl rfl rowSq hH.h2 (sqc_ok _ _) ?_))
  exact ret_ct rfl rfl rfl hH.h2 rowSq (sqc_size _ _) ⟨rfl, hH.below⟩
set_option maxRecDepth 20000 in
set_option maxHeartbeats 2000000 in
theorem implPro_in (N : Nat) (g c : Nat → UInt8) (r : Bool) (w : World) (hz : (sqB (N : Int) g && permB c (N : Int)) = true) (hq : IsSq N g) (hp : IsPerm c N) (hr : difB (trD g c) N = r) :
    Calls Try.prog 25 #[.agg (sqc N g), .agg (u8s 10 c)] w fun e w' => (r = false → e = .returned (.tuple #[.agg (sqc 0 fun _ => 0), .int .i64 5])) ∧ (r = true → N = 10 → e = .returned (.tuple #[.agg (sqc 0 fun _ => 0), .int .i64 3])) ∧ (r = true → N ≤ 9 → e = .returned (.tuple #[.agg (sqc (N + 1 : Nat) (proF g c N)), .int .i64 0])) ∧ Below w.heap.size w w' := by
  have HZ := hid (show (if (sqB (N : Int) g && permB c (N : Int)) = true then (0 : Int) else 1) = 0 by rw [hz]; rfl)
  have HQ := hid hq
  have HP := hid hp
  have HR := hid hr
  have h10 := hq.hi
  obtain ⟨M, hM⟩ : ∃ M : Nat, N + 1 = M := ⟨_, rfl⟩
  have HM := hid (show (N : Int) + 1 = (M : Int) by omega)
  have HF := hid (show proF g c N = fillT M (proV g c N) M 0 by rw [← hM]; rfl)
  have hPro := hid (fun (h9 : N ≤ 9) (gb : Nat) (w0 : World) (hD : Dv w0 gb N g) (w' : World) (x y : Nat) (hb : Below w0.heap.size w0 w') (hx : x < M) (hy : y < M) => prolonged_any N gb x y g c (.slice none 0 0) (.slice none 0 0) 0 w' hq hp h9 (by omega) (by omega) (Dv.below hD hb))
  have hMk := hid (fun (gb : Nat) (w' : World) (x : Nat) (hD : Dv w' gb N g) (hx : x < N) => show Calls Try.prog 67 #[.pointer (some ⟨gb, 0, none⟩), .int .u8 (x : Nat), .int .u8 (c x).toNat] w' fun e w'' => e = .returned (.int .u8 (trD g c x).toNat) ∧ Below w'.heap.size w' w'' from product_nat N gb x (c x).toNat g w' h10 hx (hp.lt x hx) hD)
  have hM9 : N ≤ 9 → M ≤ 10 := fun h => by omega
  rw [hM, HF.out]
  clear hz hq hp hr hM
  have h0 := Has.start3 w (sqc N g) (u8s 10 c) (sqc 0 fun _ => 0) 28 36 28
  have hH := Has.start4 w (sqc N g) (u8s 10 c) (sqc 0 fun _ => 0) (u8s 10 c) 28 36 28 36
  go_enter Try.func25, Try.ntmps25
  go_wp2_with (first | fail | (refine wpL_alloc rfl rfl zeroSq ?_; intro g hg; (try simp at hg); subst hg) | (refine wpL_loadFull rfl rfl rfl rowSq h0.h0 (sqc_size _ _) ?_) | (refine wpL_loadFull rfl rfl rfl rowPl h0.h1 (u8s_size _ _) ?_) | (refine wpL_sliceP (f := c) rfl (by rfl) (by rfl) ?_) | (go_at_call 65; refine (placesCode_v1 N g c _ _ hH.h3).mono ?_; rintro e w3 ⟨rfl, hb⟩; rw [HZ.out]; replace hH := hH.call' hb; clear hb h0))
  refine wp_region_frame (X := Duo) (fun d x => [(16, bif d 0 then .agg (sqc N g) else undef), (17, bif d 1 then .pointer (some ⟨x.a, 0, none⟩) else undef), (18, bif d 2 then .agg (u8s 10 c) else undef), (19, bif d 3 then .agg (matc (.pointer (some ⟨x.a, 0, none⟩)) (.slice none 0 0) 0 (.slice none 0 0) c) else undef), (7, bif d 4 then .pointer (some ⟨x.b, 0, none⟩) else undef)])
    (fun d x w' => Has w w' [(sqc N g, 28), (u8s 10 c, 36), (sqc 0 (fun _ => 0), 28), (u8s 10 c, 36)] ∧ (d 1 = true → Hid (Dv w' x.a N g)) ∧ (d 4 = true → w.heap.size + 4 ≤ x.b ∧ holds w' x.b (bif d 5 then matc (.pointer (some ⟨x.a, 0, none⟩)) (.slice none 0 0) 0 (.slice none 0 0) c else matc (.pointer none) (.slice none 0 0) 0 (.slice none 0 0) fun _ => 0) 66) ∧ (d 3 = true → d 1 = true) ∧ (d 5 = true → d 3 = true) ∧ (d 5 = true → d 4 = true)) (by kernel_rfl) (by kernel_rfl) ?h0_os ?hs_os ?hq_os
  case h0_os => exact ⟨⟨0, 0⟩, (by simp [lput]), hH.drew, (fun h => by cases h), (fun h => by cases h), (fun h => by cases h), (fun h => by cases h), (fun h => by cases h)⟩
  case hs_os =>
    refine ⟨?_, ?_, ?_, ?_, ?_, ?_, trivial⟩
    all_goals
      clear hH
      intro d x w1 hd hn hJ
      simp only [needs, Region.binds, reduceCtorEq, Bool.false_eq_true, false_implies, true_and, and_true, true_implies, forall_const] at hn
      simp only [lput, List.set, hn, cond_true]
      try simp only [hd, cond_false] at hJ
      obtain ⟨hH, hD, hM, I3_1, I5_3, I5_4⟩ := hJ
      (try have hD_ := hD (by simp only [hn]))
      (try have hM_ := hM (by simp only [hn]))
      have zz := hH.size
      simp only [List.length_cons, List.length_nil] at zz
      go_wp2_with (first | fail | (refine wpL_loadFull rfl rfl rfl rowSq hH.h0 (sqc_size _ _) ?_) | (refine wpL_loadFull rfl rfl rfl rowPl hH.h1 (u8s_size _ _) ?_) | (go_at_call 56; refine (divide_any N g _ HQ.out).mono ?_; rintro e w3 ⟨gb, rfl, hb, hD0, hlo⟩; replace hH := hH.call' hb; replace hM := fun e => And.intro (hM e).1 (holds_below (hM e).2 hb (holds_lt (hM e).2))) | (refine wpL_bu04 rfl rfl rfl rfl (builtMat2 _ c) ?_) | (refine wpL_storeN (x := .tmp 7) rfl rfl rfl rfl rowMat hM_.2 (matc_size _ _ _ _ _) (matc_ok _ _ _ _ _ _ _ _ _) ?_; intro w5 hz5 hO hT; replace hH := hT _ _ hH hM_.1; replace hD := fun e => hid (hO _ _ _ (holds_ne (hD e).out hM_.2 (by decide)) (hD e).out)) | (refine wpL_allocN (o := ⟨some 7, _, _, _, _, _⟩) rfl rfl zeroMat ?_; intro mb w4 hz4 hl hb; replace hH := hH.call' hb; replace hD := fun e => hid (Dv.below (hD e).out hb)))
      first
        | (have z3 : d 3 = false := (by first | exact imp_no I3_1 hd | exact imp_no I3_1 rfl); have z5 : d 5 = false := imp_no I5_3 z3; refine ⟨⟨gb, x.b⟩, ?_, hH, (fun _ => hid hD0), (fun e => ⟨(hM (done_ne e (by decide))).1, by have := (hM (done_ne e (by decide))).2; simpa [done, z5] using this⟩), (by intro e; simp [done]), (by intro e; simp [done, z5] at e), (by intro e; simp [done, z5] at e)⟩; (simp [lput, done, hn, z3, z5]; done))
        | (have z5 : d 5 = false := (by first | exact imp_no I5_4 hd | exact imp_no I5_4 rfl); have hmb : w.heap.size + 4 ≤ mb := (by omega); refine ⟨⟨x.a, mb⟩, ?_, hH, (fun e => hD (done_ne e (by decide))), (fun _ => ⟨hmb, by simpa [done, z5] using hz4⟩), (by intro e; have := I3_1 (done_ne e (by decide)); simp [done, this]), (by intro e; simp [done, z5] at e), (by intro e; simp [done])⟩; (simp [lput, done, hn, z5]; done))
        | (refine ⟨x, ?_, hH, (fun e => hD (done_ne e (by decide))), (fun _ => ⟨hM_.1, by simpa [done] using hz5⟩), (by intro e; have := I3_1 (done_ne e (by decide)); simp [done, this]), (by intro e; simp [done, hn]), (by intro e; simp [done, hn])⟩; (simp [lput, done, hn]; done))
        | (refine ⟨x, ?_, hH, (fun e => hD (done_ne e (by decide))), (fun e => hM (done_ne e (by decide))), (by intro e; first | (simp [done]; done) | (have e2 := I3_1 (done_ne e (by decide)); simp [done, e2]; done) | (simp [done, hn]; done)), (by intro e; first | (simp [done]; done) | (have e2 := I5_3 (done_ne e (by decide)); simp [done, e2]; done) | (simp [done, hn]; done)), (by intro e; first | (simp [done]; done) | (have e2 := I5_4 (done_ne e (by decide)); simp [done, e2]; done) | (simp [done, hn]; done))⟩; (simp [lput, done, hn]; done))
        | (refine ⟨?_, hH, (fun e => hD (done_ne e (by decide))), (fun e => hM (done_ne e (by decide))), (by intro e; first | (simp [done]; done) | (have e2 := I3_1 (done_ne e (by decide)); simp [done, e2]; done) | (simp [done, hn]; done)), (by intro e; first | (simp [done]; done) | (have e2 := I5_3 (done_ne e (by decide)); simp [done, e2]; done) | (simp [done, hn]; done)), (by intro e; first | (simp [done]; done) | (have e2 := I5_4 (done_ne e (by decide)); simp [done, e2]; done) | (simp [done, hn]; done))⟩; (simp [lput, done, hn]; done))
        | (refine ⟨x, ?_, hH, (fun e => hD (done_ne e (by decide))), (fun e => hM (done_ne e (by decide))), (by intro e; first | (simp [done]; done) | (have e2 := I3_1 (done_ne e (by decide)); simp [done, e2]; done) | (simp [done, hn]; done)), (by intro e; first | (simp [done]; done) | (have e2 := I5_3 (done_ne e (by decide)); simp [done, e2]; done) | (simp [done, hn]; done)), (by intro e; first | (simp [done]; done) | (have e2 := I5_4 (done_ne e (by decide)); simp [done, e2]; done) | (simp [done, hn]; done))⟩; (simp [lput, done, hn]; rfl))
        | (refine ⟨?_, hH, (fun e => hD (done_ne e (by decide))), (fun e => hM (done_ne e (by decide))), (by intro e; first | (simp [done]; done) | (have e2 := I3_1 (done_ne e (by decide)); simp [done, e2]; done) | (simp [done, hn]; done)), (by intro e; first | (simp [done]; done) | (have e2 := I5_3 (done_ne e (by decide)); simp [done, e2]; done) | (simp [done, hn]; done)), (by intro e; first | (simp [done]; done) | (have e2 := I5_4 (done_ne e (by decide)); simp [done, e2]; done) | (simp [done, hn]; done))⟩; (simp [lput, done, hn]; rfl))
        | (refine ⟨x, ?_, hH, (fun e => hD (done_ne e (by decide))), (fun e => hM (done_ne e (by decide))), (by intro e; first | (simp [done]; done) | (have e2 := I3_1 (done_ne e (by decide)); simp [done, e2]; done) | (simp [done, hn]; done)), (by intro e; first | (simp [done]; done) | (have e2 := I5_3 (done_ne e (by decide)); simp [done, e2]; done) | (simp [done, hn]; done)), (by intro e; first | (simp [done]; done) | (have e2 := I5_4 (done_ne e (by decide)); simp [done, e2]; done) | (simp [done, hn]; done))⟩; (simp [lput, done]; done))
        | (refine ⟨?_, hH, (fun e => hD (done_ne e (by decide))), (fun e => hM (done_ne e (by decide))), (by intro e; first | (simp [done]; done) | (have e2 := I3_1 (done_ne e (by decide)); simp [done, e2]; done) | (simp [done, hn]; done)), (by intro e; first | (simp [done]; done) | (have e2 := I5_3 (done_ne e (by decide)); simp [done, e2]; done) | (simp [done, hn]; done)), (by intro e; first | (simp [done]; done) | (have e2 := I5_4 (done_ne e (by decide)); simp [done, e2]; done) | (simp [done, hn]; done))⟩; (simp [lput, done]; done))
        | (refine ⟨x, ?_, hH, (fun e => hD (done_ne e (by decide))), (fun e => hM (done_ne e (by decide))), (by intro e; first | (simp [done]; done) | (have e2 := I3_1 (done_ne e (by decide)); simp [done, e2]; done) | (simp [done, hn]; done)), (by intro e; first | (simp [done]; done) | (have e2 := I5_3 (done_ne e (by decide)); simp [done, e2]; done) | (simp [done, hn]; done)), (by intro e; first | (simp [done]; done) | (have e2 := I5_4 (done_ne e (by decide)); simp [done, e2]; done) | (simp [done, hn]; done))⟩; (simp [lput, done]; rfl))
        | (refine ⟨?_, hH, (fun e => hD (done_ne e (by decide))), (fun e => hM (done_ne e (by decide))), (by intro e; first | (simp [done]; done) | (have e2 := I3_1 (done_ne e (by decide)); simp [done, e2]; done) | (simp [done, hn]; done)), (by intro e; first | (simp [done]; done) | (have e2 := I5_3 (done_ne e (by decide)); simp [done, e2]; done) | (simp [done, hn]; done)), (by intro e; first | (simp [done]; done) | (have e2 := I5_4 (done_ne e (by decide)); simp [done, e2]; done) | (simp [done, hn]; done))⟩; (simp [lput, done]; rfl))
  case hq_os =>
    clear hH
    intro d x w1 hd hJ
    simp only [allDone, List.length_cons, List.length_nil, Nat.reduceAdd, and_true] at hd
    obtain ⟨hH, hD, hM, I3_1, I5_3, I5_4⟩ := hJ
    replace hD := hD (by simp only [hd])
    replace hM := hM (by simp only [hd])
    clear I3_1
    clear I5_3
    clear I5_4
    simp only [hd, cond_true] at hH hM
    simp only [lput, List.set, hd, cond_true]
    clear hd
    rcases x with ⟨gb, mb⟩
    replace hD : Dv w1 gb N g := hD.out
    obtain ⟨hmb, hM⟩ := hM
    replace hM : holds w1 mb (matc (.pointer (some ⟨gb, 0, none⟩)) (.slice none 0 0) 0 (.slice none 0 0) c) 66 := hM
    have cM : w1.cell? ⟨mb, 0, none⟩ = some (.pointer (some ⟨gb, 0, none⟩)) := by rw [holds_cell hM, matc_0]
    cases r with
    | false =>
      go_wp2_with (first | fail | (refine wpL_loadFull rfl rfl rfl rowPl hH.h1 (u8s_size _ _) ?_) | (go_at_call 66; refine (makesAll_any N gb _ g c (trD g c) _ h10 hD prod_enters (hid (hMk.out gb))).mono ?_; rintro e w4 ⟨rfl, hb⟩; rw [HR.out]; replace hH := hH.call' hb; replace hD := Dv.below hD hb; replace hM := holds_below hM hb (holds_lt hM); clear hb cM; have c0 := hH.c0 0; rw [sqc_get0] at c0) | (refine wpL_build rfl rfl builtSq ?_) | (refine wpL_storeSame rfl rfl rfl rfl rowSq hH.h2 (sqc_ok _ _) ?_))
      exact ret_ct rfl rfl rfl hH.h2 rowSq (sqc_size _ _) ⟨rfl, hH.below⟩
    | true =>
      by_cases hN : N = 10
      · have hNi : (N : Int) = 10 := by omega
        have hN9 : ¬ N ≤ 9 := by omega
        go_wp2_with (first | fail | (refine wpL_loadFull rfl rfl rfl rowPl hH.h1 (u8s_size _ _) ?_) | (go_at_call 66; refine (makesAll_any N gb _ g c (trD g c) _ h10 hD prod_enters (hid (hMk.out gb))).mono ?_; rintro e w4 ⟨rfl, hb⟩; rw [HR.out]; replace hH := hH.call' hb; replace hD := Dv.below hD hb; replace hM := holds_below hM hb (holds_lt hM); clear hb cM; have c0 := hH.c0 0; rw [sqc_get0] at c0) | (refine wpL_build rfl rfl builtSq ?_) | (refine wpL_storeSame rfl rfl rfl rfl rowSq hH.h2 (sqc_ok _ _) ?_))
        exact ret_ct rfl rfl rfl hH.h2 rowSq (sqc_size _ _) ⟨rfl, hH.below⟩
      · have h9 : N ≤ 9 := by omega
        have hNi : ¬ (N : Int) = 10 := by omega
        have hNi2 : (N : Int) ≤ 9 := by omega
        have hM10 := hM9 h9
        go_wp2_with (first | fail | (refine wpL_loadFull rfl rfl rfl rowPl hH.h1 (u8s_size _ _) ?_) | (go_at_call 66; refine (makesAll_any N gb _ g c (trD g c) _ h10 hD prod_enters (hid (hMk.out gb))).mono ?_; rintro e w4 ⟨rfl, hb⟩; rw [HR.out]; replace hH := hH.call' hb; replace hD := Dv.below hD hb; replace hM := holds_below hM hb (holds_lt hM); clear hb cM; have c0 := hH.c0 0; rw [sqc_get0] at c0) | (refine wpL_loadFull rfl rfl rfl rowMat hM (matc_size _ _ _ _ _) ?_) | (go_at_call 57; refine (squareBy_z 5 M _ HM.out _ (proV g c N) _ (by decide) hM10 (matc_size _ _ _ _ _) (hid (hPro.out h9 _ _ hD))).mono ?_; rintro e w4 ⟨rfl, hb⟩; replace hH := hH.call' hb; clear hb) | (refine wpL_storeFull rfl rfl rfl rfl rowSq hH.h2 (sqc_size _ _) (sqc_ok _ _) ?_))
        exact ret_ct rfl rfl rfl hH.r2.h2 rowSq (sqc_size _ _) ⟨rfl, hH.r2.below⟩
end Go.Proofs.Ytcdlnkjljijlmaa
