/- Proved: what the model's ProlongSquare returns where there is a prolongation. Conditions: those that each theorem names. -/
import Derived.Test.YtcdlnkjljijlmaaMk7
namespace Go.Proofs.Ytcdlnkjljijlmaa
set_option linter.unusedVariables false
set_option linter.unusedSimpArgs false
open Go.RowKit
set_option maxRecDepth 20000 in
set_option maxHeartbeats 4000000 in
theorem specPro_9 (N : Nat) (g c : Nat → UInt8) (w : World) (hs : sqB (N : Int) g = true) (hpb : permB c (N : Int) = true) (hq : IsSq N g) (hp : IsPerm c N) (hr : difB (trD g c) N = true) (h9 : N ≤ 9) :
    Calls Try.prog 24 #[.agg (sqc N g), .agg (u8s 10 c)] w fun e w' => e = .returned (.tuple #[.agg (sqc (N + 1 : Nat) (proF g c N)), .int .i64 0]) ∧ Below w.heap.size w w' := by
  have HQ := hid hq
  have HP := hid hp
  have HR := hid hr
  have h10 := hq.hi
  obtain ⟨M, hM⟩ : ∃ M : Nat, N + 1 = M := ⟨_, rfl⟩
  have HM := hid (show (N : Int) + 1 = (M : Int) by omega)
  have HE := hid (fun (h : Nat → UInt8) (d : ProTo g c h N N) => show sqc (M : Int) (up h (N * 10 + N) (UInt8.ofNat N)) = sqc (M : Int) (proF g c N) from d.done hp h9 M)
  have HS := hid (show ProTo g c g N 0 from ProTo.start c hq)
  rw [hM]
  clear hq hp hr hM
  have hH := Has.start3 w (sqc N g) (u8s 10 c) (sqc 0 fun _ => 0) 28 36 28
  have hNi : ¬ (N : Int) = 10 := by omega
  have hNi2 : (N : Int) ≤ 9 := by omega
  have eb : ((N : Int) == 10) = false := by simpa using hNi
  go_enter Try.func24, Try.ntmps24
  go_wp2_with (first | fail | (refine wpL_guard rfl rfl ?_) | (refine wpL_alloc (o := ⟨some 4, _, _, _, _, _⟩) rfl rfl zeroSq ?_; intro g hg; (try simp at hg); subst hg) | (refine wpL_loadFull rfl rfl rfl rowSq hH.h0 (sqc_size _ _) ?_) | (refine wpL_loadFull rfl rfl rfl rowPl hH.h1 (u8s_size _ _) ?_) | (go_at_call 50; refine (l01Is_any _ _ _).mono ?_; rintro e w3 ⟨rfl, hb⟩; rw [hs]; replace hH := hH.call' hb; clear hb; have c0 := hH.c0 0; rw [sqc_get0] at c0) | (go_at_call 63; refine (l01Perm_any _ _ _).mono ?_; rintro e w3 ⟨rfl, hb⟩; rw [hpb]; replace hH := hH.call' hb; clear hb) | (go_at_call 64; refine (l08Transversal_any N g c _ HQ.out HP.out).mono ?_; rintro e w3 ⟨rfl, hb⟩; rw [HR.out]; replace hH := hH.call' hb; clear hb; have c0 := hH.c0 0; rw [sqc_get0] at c0))
  clear c0
  refine wp_region_frame (X := Nat) (fun d x => [(33, bif d 0 then .pointer (some ⟨w.heap.size, 0, none⟩) else undef), (34, bif d 1 then .int .i64 N else undef), (35, bif d 2 then .agg (sqc N g) else undef), (7, bif d 3 then .pointer (some ⟨x, 0, none⟩) else undef), (6, bif d 4 then .int .i64 N else undef)])
    (fun d x w' => Has w w' [(sqc N g, 28), (u8s 10 c, 36), (sqc 0 (fun _ => 0), 28)] ∧ (d 3 = true → w.heap.size + 3 ≤ x ∧ holds w' x (bif d 5 then sqc N g else sqc 0 fun _ => 0) 28) ∧ (d 5 = true → d 3 = true)) (by kernel_rfl) (by kernel_rfl) ?h0_ps ?hs_ps ?hq_ps
  case h0_ps => exact ⟨0, (by simp [lput]), hH.drew, (fun h => by cases h), (fun h => by cases h)⟩
  case hs_ps =>
    refine ⟨?_, ?_, ?_, ?_, ?_, ?_, trivial⟩
    all_goals
      clear hH
      intro d x w1 hd hn hJ
      simp only [needs, Region.binds, reduceCtorEq, Bool.false_eq_true, false_implies, true_and, and_true, true_implies, forall_const] at hn
      simp only [lput, List.set, hn, cond_true]
      try simp only [hd, cond_false] at hJ
      obtain ⟨hH, hB, I5_3⟩ := hJ
      (try have hB_ := hB (by simp only [hn]))
      have c0 : w1.cell? ⟨w.heap.size, 0, none⟩ = some (.int .i64 N) := by rw [hH.c0, sqc_get0]
      have zz := hH.size
      simp only [List.length_cons, List.length_nil] at zz
      go_wp2_with (first | fail | (refine wpL_loadFull rfl rfl rfl rowSq hH.h0 (sqc_size _ _) ?_) | (refine wpL_storeN (x := .tmp 7) rfl rfl rfl rfl rowSq hB_.2 (sqc_size _ _) (sqc_ok _ _) ?_; intro w5 hz hO hT; replace hH := hT _ _ hH hB_.1) | (refine wpL_allocN (o := ⟨some 7, _, _, _, _, _⟩) rfl rfl zeroSq ?_; intro gq w4 hz hl hb; replace hH := hH.call' hb))
      first
        | (have z5 : d 5 = false := (by first | exact imp_no I5_3 hd | exact imp_no I5_3 rfl); refine ⟨gq, ?_, hH, (fun _ => ⟨by omega, by simpa [done, z5] using hz⟩), (by intro e; simp [done])⟩; (simp [lput, done, hn, z5, eb]; done))
        | (refine ⟨x, ?_, hH, (fun _ => ⟨hB_.1, by simpa [done] using hz⟩), (by intro e; simp [done, hn])⟩; (simp [lput, done, hn, eb]; done))
        | (refine ⟨x, ?_, hH, (fun e => hB (done_ne e (by decide))), (by intro e; first | (simp [done]; done) | (have e2 := I5_3 (done_ne e (by decide)); simp [done, e2]; done) | (simp [done, hn]; done))⟩; (simp [lput, done, hn, eb]; done))
        | (refine ⟨?_, hH, (fun e => hB (done_ne e (by decide))), (by intro e; first | (simp [done]; done) | (have e2 := I5_3 (done_ne e (by decide)); simp [done, e2]; done) | (simp [done, hn]; done))⟩; (simp [lput, done, hn, eb]; done))
        | (refine ⟨x, ?_, hH, (fun e => hB (done_ne e (by decide))), (by intro e; first | (simp [done]; done) | (have e2 := I5_3 (done_ne e (by decide)); simp [done, e2]; done) | (simp [done, hn]; done))⟩; (simp [lput, done, hn, eb]; rfl))
        | (refine ⟨?_, hH, (fun e => hB (done_ne e (by decide))), (by intro e; first | (simp [done]; done) | (have e2 := I5_3 (done_ne e (by decide)); simp [done, e2]; done) | (simp [done, hn]; done))⟩; (simp [lput, done, hn, eb]; rfl))
        | (refine ⟨x, ?_, hH, (fun e => hB (done_ne e (by decide))), (by intro e; first | (simp [done]; done) | (have e2 := I5_3 (done_ne e (by decide)); simp [done, e2]; done) | (simp [done, hn]; done))⟩; (simp [lput, done, eb]; done))
        | (refine ⟨?_, hH, (fun e => hB (done_ne e (by decide))), (by intro e; first | (simp [done]; done) | (have e2 := I5_3 (done_ne e (by decide)); simp [done, e2]; done) | (simp [done, hn]; done))⟩; (simp [lput, done, eb]; done))
        | (refine ⟨x, ?_, hH, (fun e => hB (done_ne e (by decide))), (by intro e; first | (simp [done]; done) | (have e2 := I5_3 (done_ne e (by decide)); simp [done, e2]; done) | (simp [done, hn]; done))⟩; (simp [lput, done, eb]; rfl))
        | (refine ⟨?_, hH, (fun e => hB (done_ne e (by decide))), (by intro e; first | (simp [done]; done) | (have e2 := I5_3 (done_ne e (by decide)); simp [done, e2]; done) | (simp [done, hn]; done))⟩; (simp [lput, done, eb]; rfl))
  case hq_ps =>
    clear hH
    intro d x w1 hd hJ
    simp only [allDone, List.length_cons, List.length_nil, Nat.reduceAdd, and_true] at hd
    obtain ⟨hH, hB, I5_3⟩ := hJ
    replace hB := hB (by simp only [hd])
    clear I5_3
    simp only [hd, cond_true] at hH hB
    simp only [lput, List.set, hd, cond_true]
    clear hd
    obtain ⟨hlo, hB⟩ := hB
    have HL := hid hlo
    clear hlo
    go_wp2_with (first | fail | (refine wpL_cellN (v := .int .i64 ((N : Int) + 1)) (cs' := sqc M g) (off := 0) rfl rfl rfl rfl (by kernel_rfl) (by rfl) hB (by rw [sqc_size]; omega) (by rw [HM.out]; exact sqc_set0 _ _ _) ?_; intro w4 hz hO hT; replace hH := hT _ _ hH HL.out; replace hB := hz; clear hz hO hT))
    go_loopw [8] (fun i wr => ∃ k : Nat, k ≤ N ∧ i = .int .i64 k ∧ Has w wr [(sqc N g, 28), (u8s 10 c, 36), (sqc 0 (fun _ => 0), 28)] ∧ ∃ h, Hid (ProTo g c h N k) ∧ holds wr x (sqc M h) 28) (fun i _ => 10 - (intOf i).toNat)
    case atStart => exact ⟨0, by omega, rfl, hH, _, HS, hB⟩
    case round =>
      clear hH hB
      obtain ⟨k, hk, rfl, hH, h, hd, hB⟩ := hrel
      by_cases hlt : k < N
      · have hk10 : (k : Int) < 9 := by omega
        have hlt' : (k : Int) < N := by omega
        have hd2 := hid (hd.out.step HP.out h9 hlt)
        obtain ⟨v, hv⟩ : ∃ v, c k = v := ⟨_, rfl⟩
        have hvl : v.toNat < N := by rw [← hv]; exact HP.out.lt k hlt
        rw [hv] at hd2
        obtain ⟨z, hz⟩ : ∃ z, g (k * 10 + v.toNat) = z := ⟨_, rfl⟩
        rw [hz] at hd2
        have HV := hid hv
        have HZ := hid hz
        clear hv hz hd
        have hv' : (v.toNat : Int) < 9 := by omega
        go_wp2
        refine wp_region_frame (X := Unit) (fun d _ => [(44, bif d 0 then .int .i64 k else u44), (45, bif d 1 then .int .i64 k else u45), (46, bif d 2 then .pointer (some ⟨w.heap.size + 1, k, none⟩) else u46), (47, bif d 3 then .int .u8 v.toNat else u47), (48, bif d 4 then .pointer (some ⟨w.heap.size, 1, none⟩) else u48), (49, bif d 5 then .pointer (some ⟨w.heap.size, 1 + k * 10, none⟩) else u49), (50, bif d 6 then .pointer (some ⟨w.heap.size, 1 + k * 10 + v.toNat, none⟩) else u50), (51, bif d 7 then .int .u8 z.toNat else u51), (9, bif d 8 then .int .u8 z.toNat else u9)])
          (fun d _ w' => Has w w' [(sqc N g, 28), (u8s 10 c, 36), (sqc 0 (fun _ => 0), 28)] ∧ holds w' x (sqc M (h)) 28) (by kernel_rfl) (by kernel_rfl) ?h0_q1 ?hs_q1 ?hq_q1
        case h0_q1 => exact ⟨(), (by simp [lput]), hH.drew, (show _ from hB)⟩
        case hs_q1 =>
          refine ⟨?_, ?_, ?_, ?_, ?_, ?_, ?_, ?_, ?_, trivial⟩
          all_goals
            clear hH hB
            intro d _ w1 hd hn hJ
            simp only [needs, Region.binds, reduceCtorEq, Bool.false_eq_true, false_implies, true_and, and_true, true_implies, forall_const] at hn
            simp only [lput, List.set, hn, cond_true]
            obtain ⟨hH, hB⟩ := hJ
            have c1 : w1.cell? ⟨w.heap.size + 1, k, none⟩ = some (.int .u8 v.toNat) := by rw [hH.c1, u8s_get _ _ _ (by omega), HV.out]
            have c2 : w1.cell? ⟨w.heap.size, 1 + k * 10 + v.toNat, none⟩ = some (.int .u8 z.toNat) := by rw [hH.c0, Nat.add_assoc, sqc_get _ _ _ (by omega), HZ.out]
            go_wp2_with (first | fail)
            first
              | (refine ⟨(), ?_, hH, hB⟩; (simp [lput, done, hn]; done))
              | (refine ⟨?_, hH, hB⟩; (simp [lput, done, hn]; done))
              | (refine ⟨(), ?_, hH, hB⟩; (simp [lput, done, hn]; rfl))
              | (refine ⟨?_, hH, hB⟩; (simp [lput, done, hn]; rfl))
              | (refine ⟨(), ?_, hH, hB⟩; (simp [lput, done]; done))
              | (refine ⟨?_, hH, hB⟩; (simp [lput, done]; done))
              | (refine ⟨(), ?_, hH, hB⟩; (simp [lput, done]; rfl))
              | (refine ⟨?_, hH, hB⟩; (simp [lput, done]; rfl))
        case hq_q1 =>
          clear hH hB
          intro d _ w1 hd hJ
          simp only [allDone, List.length_cons, List.length_nil, Nat.reduceAdd, and_true] at hd
          obtain ⟨hH, hB⟩ := hJ
          simp only [lput, List.set, hd, cond_true]
          clear hd
          go_wp2
          refine wp_region_frame (X := Unit) (fun d _ => [(52, bif d 0 then .int .i64 k else u52), (53, bif d 1 then .int .i64 k else u53), (54, bif d 2 then .pointer (some ⟨w.heap.size + 1, k, none⟩) else u54), (55, bif d 3 then .int .u8 v.toNat else u55), (56, bif d 4 then .int .i64 N else u56), (57, bif d 5 then .int .u8 N else u57), (58, bif d 6 then .pointer (some ⟨x, 1, none⟩) else u58), (59, bif d 7 then .pointer (some ⟨x, 1 + k * 10, none⟩) else u59), (60, bif d 8 then .pointer (some ⟨x, 1 + k * 10 + v.toNat, none⟩) else u60)])
            (fun d _ w' => Has w w' [(sqc N g, 28), (u8s 10 c, 36), (sqc 0 (fun _ => 0), 28)] ∧ holds w' x (sqc M (bif d 9 then up h (k * 10 + v.toNat) (UInt8.ofNat N) else h)) 28) (by kernel_rfl) (by kernel_rfl) ?h0_q2 ?hs_q2 ?hq_q2
          case h0_q2 => exact ⟨(), (by simp [lput]), hH.drew, (show _ from hB)⟩
          case hs_q2 =>
            refine ⟨?_, ?_, ?_, ?_, ?_, ?_, ?_, ?_, ?_, ?_, trivial⟩
            all_goals
              clear hH hB
              intro d _ w1 hd hn hJ
              simp only [needs, Region.binds, reduceCtorEq, Bool.false_eq_true, false_implies, true_and, and_true, true_implies, forall_const] at hn
              simp only [lput, List.set, hn, cond_true]
              try simp only [hd, cond_false] at hJ
              obtain ⟨hH, hB⟩ := hJ
              have c1 : w1.cell? ⟨w.heap.size + 1, k, none⟩ = some (.int .u8 v.toNat) := by rw [hH.c1, u8s_get _ _ _ (by omega), HV.out]
              go_wp2_with (first | fail | (refine wpL_cellN (v := .int .u8 N) (cs' := sqc M (up h (k * 10 + v.toNat) (UInt8.ofNat N))) (off := 1 + k * 10 + v.toNat) rfl rfl rfl rfl (by kernel_rfl) (by rfl) hB (by rw [sqc_size]; omega) (by rw [Nat.add_assoc]; exact sqc_setv _ _ _ _ _ _ (by rw [u8_of N (by omega)]) (fun _ _ => rfl)) ?_; intro w4 hz hO hT; replace hH := hT _ _ hH HL.out; replace hB := hz; clear hz hO hT))
              first
                | (refine ⟨(), ?_, hH, hB⟩; (simp [lput, done, hn]; done))
                | (refine ⟨?_, hH, hB⟩; (simp [lput, done, hn]; done))
                | (refine ⟨(), ?_, hH, hB⟩; (simp [lput, done, hn]; rfl))
                | (refine ⟨?_, hH, hB⟩; (simp [lput, done, hn]; rfl))
                | (refine ⟨(), ?_, hH, hB⟩; (simp [lput, done]; done))
                | (refine ⟨?_, hH, hB⟩; (simp [lput, done]; done))
                | (refine ⟨(), ?_, hH, hB⟩; (simp [lput, done]; rfl))
                | (refine ⟨?_, hH, hB⟩; (simp [lput, done]; rfl))
          case hq_q2 =>
            clear hH hB
            intro d _ w1 hd hJ
            simp only [allDone, List.length_cons, List.length_nil, Nat.reduceAdd, and_true] at hd
            obtain ⟨hH, hB⟩ := hJ
            simp only [hd, cond_true] at hH hB
            simp only [lput, List.set, hd, cond_true]
            clear hd
            go_wp2_with (first | fail | (refine wpL_cellN (v := .int .u8 z.toNat) (cs' := sqc M (up (up h (k * 10 + v.toNat) (UInt8.ofNat N)) (k * 10 + N) z)) (off := 1 + k * 10 + N) rfl rfl rfl rfl (by kernel_rfl) (by rfl) hB (by rw [sqc_size]; omega) (by rw [Nat.add_assoc]; exact sqc_setv _ _ _ _ _ _ rfl (fun _ _ => rfl)) ?_; intro w4 hz hO hT; replace hH := hT _ _ hH HL.out; replace hB := hz; clear hz hO hT))
            refine wp_region_frame (X := Unit) (fun d _ => [(67, bif d 0 then .int .i64 N else u67), (68, bif d 1 then .int .i64 k else u68), (69, bif d 2 then .pointer (some ⟨w.heap.size + 1, k, none⟩) else u69), (70, bif d 3 then .int .u8 v.toNat else u70), (71, bif d 4 then .int .u8 z.toNat else u71), (72, bif d 5 then .pointer (some ⟨x, 1, none⟩) else u72), (73, bif d 6 then .pointer (some ⟨x, 1 + N * 10, none⟩) else u73), (74, bif d 7 then .pointer (some ⟨x, 1 + N * 10 + v.toNat, none⟩) else u74)])
              (fun d _ w' => Has w w' [(sqc N g, 28), (u8s 10 c, 36), (sqc 0 (fun _ => 0), 28)] ∧ holds w' x (sqc M (bif d 8 then up (up (up h (k * 10 + v.toNat) (UInt8.ofNat N)) (k * 10 + N) z) (N * 10 + v.toNat) z else up (up h (k * 10 + v.toNat) (UInt8.ofNat N)) (k * 10 + N) z)) 28) (by kernel_rfl) (by kernel_rfl) ?h0_q3 ?hs_q3 ?hq_q3
            case h0_q3 => exact ⟨(), (by simp [lput]), hH.drew, (show _ from hB)⟩
            case hs_q3 =>
              refine ⟨?_, ?_, ?_, ?_, ?_, ?_, ?_, ?_, ?_, trivial⟩
              all_goals
                clear hH hB
                intro d _ w1 hd hn hJ
                simp only [needs, Region.binds, reduceCtorEq, Bool.false_eq_true, false_implies, true_and, and_true, true_implies, forall_const] at hn
                simp only [lput, List.set, hn, cond_true]
                try simp only [hd, cond_false] at hJ
                obtain ⟨hH, hB⟩ := hJ
                have c1 : w1.cell? ⟨w.heap.size + 1, k, none⟩ = some (.int .u8 v.toNat) := by rw [hH.c1, u8s_get _ _ _ (by omega), HV.out]
                go_wp2_with (first | fail | (refine wpL_cellN (v := .int .u8 z.toNat) (cs' := sqc M (up (up (up h (k * 10 + v.toNat) (UInt8.ofNat N)) (k * 10 + N) z) (N * 10 + v.toNat) z)) (off := 1 + N * 10 + v.toNat) rfl rfl rfl rfl (by kernel_rfl) (by rfl) hB (by rw [sqc_size]; omega) (by rw [Nat.add_assoc]; exact sqc_setv _ _ _ _ _ _ rfl (fun _ _ => rfl)) ?_; intro w4 hz hO hT; replace hH := hT _ _ hH HL.out; replace hB := hz; clear hz hO hT))
                first
                  | (refine ⟨(), ?_, hH, hB⟩; (simp [lput, done, hn]; done))
                  | (refine ⟨?_, hH, hB⟩; (simp [lput, done, hn]; done))
                  | (refine ⟨(), ?_, hH, hB⟩; (simp [lput, done, hn]; rfl))
                  | (refine ⟨?_, hH, hB⟩; (simp [lput, done, hn]; rfl))
                  | (refine ⟨(), ?_, hH, hB⟩; (simp [lput, done]; done))
                  | (refine ⟨?_, hH, hB⟩; (simp [lput, done]; done))
                  | (refine ⟨(), ?_, hH, hB⟩; (simp [lput, done]; rfl))
                  | (refine ⟨?_, hH, hB⟩; (simp [lput, done]; rfl))
            case hq_q3 =>
              clear hH hB
              intro d _ w1 hd hJ
              simp only [allDone, List.length_cons, List.length_nil, Nat.reduceAdd, and_true] at hd
              obtain ⟨hH, hB⟩ := hJ
              simp only [hd, cond_true] at hH hB
              simp only [lput, List.set, hd, cond_true]
              clear hd
              go_wp2
              go_roundw
              case rel => exact ⟨k + 1, by omega, by go_num, hH, _, hd2, hB⟩
              case measure => simp [intOf]; omega
      · obtain rfl : k = N := by omega
        have hE := HE.out h hd.out
        go_wp2_with (first | fail | (refine wpL_cellN (v := .int .u8 k) (cs' := sqc M (up h (k * 10 + k) (UInt8.ofNat k))) (off := 1 + k * 10 + k) rfl rfl rfl rfl (by kernel_rfl) (by rfl) hB (by rw [sqc_size]; omega) (by rw [Nat.add_assoc]; exact sqc_setv _ _ _ _ _ _ (by rw [u8_of k (by omega)]) (fun _ _ => rfl)) ?_; intro w4 hz hO hT; replace hH := hT _ _ hH HL.out; replace hB := hz; rw [hE] at hB; clear hz hO hT) | (refine wpL_loadFull rfl rfl rfl rowSq hB (sqc_size _ _) ?_) | (refine wpL_storeFull rfl rfl rfl rfl rowSq hH.h2 (sqc_size _ _) (sqc_ok _ _) ?_))
        exact ret_ct rfl rfl rfl hH.r2.h2 rowSq (sqc_size _ _) ⟨rfl, hH.r2.below⟩
end Go.Proofs.Ytcdlnkjljijlmaa
