/- Proved: what the model's QuadraticSquare returns for a prime. Conditions: those that each theorem names. -/
import Derived.Test.YtbhjbllgmenbaaaQd1a
namespace Go.Proofs.Ytbhjbllgmenbaaa
set_option linter.unusedVariables false
set_option linter.unusedSimpArgs false
open Go.RowKit
set_option maxRecDepth 20000 in
set_option maxHeartbeats 16000000 in
theorem specQuad3_z (a b : Nat) (w : World) (ha : a < 3) (hb : b < 3) (h1 : a * b % 3 = 0) :
    Calls Try.prog 21 #[.int .i64 3, .int .i64 (a : Nat), .int .i64 (b : Nat)] w fun e w' => e = .returned (.tuple #[.agg (sqc 0 fun _ => 0), .int .i64 5]) ∧ Below w.heap.size w w' := by
  have hH := Has.start1 w (sqc 0 fun _ => 0) 29
  have hi := inB_true (show (0 : Int) ≤ (a : Int) by omega) (show (a : Int) ≤ 2 by omega)
  have hi2 := inB_true (show (0 : Int) ≤ (b : Int) by omega) (show (b : Int) ≤ 2 by omega)
  have hP : P357 3 := by unfold P357; omega
  obtain ⟨U, A1, B1, V, two, ⟨hUi, hU49⟩, ⟨hoi, hot⟩, ⟨hA1, hB1, hV, hV1, hV2⟩, ⟨htwo, hve⟩, h11⟩ := qu_test hP ha hb
  replace hoi : (U : Int) % 3 = ((a * b % 3 : Nat) : Int) := hoi
  replace hot : Int.tmod (U : Int) 3 = ((a * b % 3 : Nat) : Int) := hot
  replace htwo : Int.tmod V 3 = two := htwo
  replace hve : 0 ≤ V → V % 3 = two := hve
  have ha' : (a : Int) < 3 := by omega
  have hb' : (b : Int) < 3 := by omega
  have HP := hid hP
  rw [h1] at hoi hot
  clear h11 hP ha hb h1
  by_cases hVn : 0 ≤ V
  · replace hve := hve hVn
    go_enter Try.func21, Try.ntmps21
    go_wp2_with (first | fail | fail | (refine wpL_alloc (o := ⟨some 6, _, _, _, _, _⟩) rfl rfl zeroSq ?_; intro g hg; (try simp at hg); subst hg) | (go_at_call 61; refine (l01In_any _ _ _ _).mono ?_; rintro e w' ⟨rfl, rfl⟩; first | rw [hi] | rw [hi2]))
    refine wp_region_frame (X := Unit) (fun d _ => [(40, bif d 0 then .int .i64 a else undef), (41, bif d 1 then .int .i64 b else undef), (42, bif d 2 then .int .i64 (U : Int) else undef), (43, bif d 3 then .int .i64 3 else undef), (44, bif d 4 then .int .i64 0 else undef), (45, bif d 5 then .int .i64 a else undef), (46, bif d 6 then .int .i64 A1 else undef), (47, bif d 7 then .int .i64 b else undef), (48, bif d 8 then .int .i64 B1 else undef), (49, bif d 9 then .int .i64 V else undef), (50, bif d 10 then .int .i64 3 else undef), (51, bif d 11 then .int .i64 two else undef), (8, bif d 12 then .int .i64 0 else undef), (9, bif d 13 then .int .i64 two else undef)])
      (fun d _ w' => Has w w' [(sqc 0 (fun _ => 0), 29)]) (by kernel_rfl) (by kernel_rfl) ?h0_qc ?hs_qc ?hq_qc
    case h0_qc => exact ⟨(), (by simp [lput]), hH.drew⟩
    case hs_qc =>
      refine ⟨?_, ?_, ?_, ?_, ?_, ?_, ?_, ?_, ?_, ?_, ?_, ?_, ?_, ?_, trivial⟩
      all_goals
        clear hH
        intro d _ w1 hd hn hJ
        simp only [needs, Region.binds, reduceCtorEq, Bool.false_eq_true, false_implies, true_and, and_true, true_implies, forall_const] at hn
        simp only [lput, List.set, hn, cond_true]
        have hH := hJ; clear hJ
        go_wp2_with (first | fail)
        first
          | (refine ⟨(), ?_, hH⟩; (simp [lput, done, hn]; done))
          | (refine ⟨?_, hH⟩; (simp [lput, done, hn]; done))
          | (refine ⟨(), ?_, hH⟩; (simp [lput, done, hn]; rfl))
          | (refine ⟨?_, hH⟩; (simp [lput, done, hn]; rfl))
          | (refine ⟨(), ?_, hH⟩; (simp [lput, done]; done))
          | (refine ⟨?_, hH⟩; (simp [lput, done]; done))
          | (refine ⟨(), ?_, hH⟩; (simp [lput, done]; rfl))
          | (refine ⟨?_, hH⟩; (simp [lput, done]; rfl))
    case hq_qc =>
      clear hH
      intro d _ w1 hd hJ
      simp only [allDone, List.length_cons, List.length_nil, Nat.reduceAdd, and_true] at hd
      have hH := hJ; clear hJ
      simp only [lput, List.set, hd, cond_true]
      clear hd
      go_wp2_with (first | fail | fail | (refine wpL_build rfl rfl builtSq ?_) | (refine wpL_storeSame (x := .tmp 6) rfl rfl rfl rfl rowSq hH.h0 (sqc_ok _ _) ?_))
      exact ret_ct rfl rfl rfl hH.h0 rowSq (sqc_size _ _) ⟨rfl, hH.below⟩
  · clear hve
    go_enter Try.func21, Try.ntmps21
    go_wp2_with (first | fail | fail | (refine wpL_alloc (o := ⟨some 6, _, _, _, _, _⟩) rfl rfl zeroSq ?_; intro g hg; (try simp at hg); subst hg) | (go_at_call 61; refine (l01In_any _ _ _ _).mono ?_; rintro e w' ⟨rfl, rfl⟩; first | rw [hi] | rw [hi2]))
    refine wp_region_frame (X := Unit) (fun d _ => [(40, bif d 0 then .int .i64 a else undef), (41, bif d 1 then .int .i64 b else undef), (42, bif d 2 then .int .i64 (U : Int) else undef), (43, bif d 3 then .int .i64 3 else undef), (44, bif d 4 then .int .i64 0 else undef), (45, bif d 5 then .int .i64 a else undef), (46, bif d 6 then .int .i64 A1 else undef), (47, bif d 7 then .int .i64 b else undef), (48, bif d 8 then .int .i64 B1 else undef), (49, bif d 9 then .int .i64 V else undef), (50, bif d 10 then .int .i64 3 else undef), (51, bif d 11 then .int .i64 two else undef), (8, bif d 12 then .int .i64 0 else undef), (9, bif d 13 then .int .i64 two else undef)])
      (fun d _ w' => Has w w' [(sqc 0 (fun _ => 0), 29)]) (by kernel_rfl) (by kernel_rfl) ?h0_qc ?hs_qc ?hq_qc
    case h0_qc => exact ⟨(), (by simp [lput]), hH.drew⟩
    case hs_qc =>
      refine ⟨?_, ?_, ?_, ?_, ?_, ?_, ?_, ?_, ?_, ?_, ?_, ?_, ?_, ?_, trivial⟩
      all_goals
        clear hH
        intro d _ w1 hd hn hJ
        simp only [needs, Region.binds, reduceCtorEq, Bool.false_eq_true, false_implies, true_and, and_true, true_implies, forall_const] at hn
        simp only [lput, List.set, hn, cond_true]
        have hH := hJ; clear hJ
        go_wp2_with (first | fail)
        first
          | (refine ⟨(), ?_, hH⟩; (simp [lput, done, hn]; done))
          | (refine ⟨?_, hH⟩; (simp [lput, done, hn]; done))
          | (refine ⟨(), ?_, hH⟩; (simp [lput, done, hn]; rfl))
          | (refine ⟨?_, hH⟩; (simp [lput, done, hn]; rfl))
          | (refine ⟨(), ?_, hH⟩; (simp [lput, done]; done))
          | (refine ⟨?_, hH⟩; (simp [lput, done]; done))
          | (refine ⟨(), ?_, hH⟩; (simp [lput, done]; rfl))
          | (refine ⟨?_, hH⟩; (simp [lput, done]; rfl))
    case hq_qc =>
      clear hH
      intro d _ w1 hd hJ
      simp only [allDone, List.length_cons, List.length_nil, Nat.reduceAdd, and_true] at hd
      have hH := hJ; clear hJ
      simp only [lput, List.set, hd, cond_true]
      clear hd
      go_wp2_with (first | fail | fail | (refine wpL_build rfl rfl builtSq ?_) | (refine wpL_storeSame (x := .tmp 6) rfl rfl rfl rfl rowSq hH.h0 (sqc_ok _ _) ?_))
      exact ret_ct rfl rfl rfl hH.h0 rowSq (sqc_size _ _) ⟨rfl, hH.below⟩
set_option maxRecDepth 20000 in
set_option maxHeartbeats 16000000 in
theorem specQuad3_w1 (a b : Nat) (w : World) (ha : a < 3) (hb : b < 3) (h1 : ¬ a * b % 3 = 0) (h2 : (a - 1) * (b - 1) % 3 = 0) :
    Calls Try.prog 21 #[.int .i64 3, .int .i64 (a : Nat), .int .i64 (b : Nat)] w fun e w' => e = .returned (.tuple #[.agg (sqc 0 fun _ => 0), .int .i64 5]) ∧ Below w.heap.size w w' := by
  have hH := Has.start1 w (sqc 0 fun _ => 0) 29
  have hi := inB_true (show (0 : Int) ≤ (a : Int) by omega) (show (a : Int) ≤ 2 by omega)
  have hi2 := inB_true (show (0 : Int) ≤ (b : Int) by omega) (show (b : Int) ≤ 2 by omega)
  have hP : P357 3 := by unfold P357; omega
  obtain ⟨U, A1, B1, V, two, ⟨hUi, hU49⟩, ⟨hoi, hot⟩, ⟨hA1, hB1, hV, hV1, hV2⟩, ⟨htwo, hve⟩, h11⟩ := qu_test hP ha hb
  replace hoi : (U : Int) % 3 = ((a * b % 3 : Nat) : Int) := hoi
  replace hot : Int.tmod (U : Int) 3 = ((a * b % 3 : Nat) : Int) := hot
  replace htwo : Int.tmod V 3 = two := htwo
  replace hve : 0 ≤ V → V % 3 = two := hve
  have ha' : (a : Int) < 3 := by omega
  have hb' : (b : Int) < 3 := by omega
  have HP := hid hP
  have a1 : 1 ≤ a := by
    by_cases q2 : a = 0
    · subst q2; simp at h1
    · omega
  have b1 : 1 ≤ b := by
    by_cases q2 : b = 0
    · subst q2; simp at h1
    · omega
  obtain ⟨hV0, h2t⟩ := h11 a1 b1
  replace hve := hve hV0
  subst h2t
  obtain ⟨one, ho⟩ : ∃ one, a * b % 3 = one := ⟨_, rfl⟩
  obtain ⟨tw, ht⟩ : ∃ tw, (a - 1) * (b - 1) % 3 = tw := ⟨_, rfl⟩
  rw [ho] at hoi hot h1
  rw [ht] at htwo hve
  have h1i : ¬ (one : Int) = 0 := by omega
  have eb1 : ((one : Int) == 0) = false := by simpa using h1i
  have hol : one < 3 := by omega
  have htl : tw < 3 := by omega
  rw [ht] at h2
  subst h2
  clear h11 hP ha hb h1 a1 b1 ho ht hV0
  have HOl := hid hol
  have HTl := hid htl
  clear hol htl
  go_enter Try.func21, Try.ntmps21
  go_wp2_with (first | fail | fail | (refine wpL_alloc (o := ⟨some 6, _, _, _, _, _⟩) rfl rfl zeroSq ?_; intro g hg; (try simp at hg); subst hg) | (go_at_call 61; refine (l01In_any _ _ _ _).mono ?_; rintro e w' ⟨rfl, rfl⟩; first | rw [hi] | rw [hi2]))
  refine wp_region_frame (X := Unit) (fun d _ => [(40, bif d 0 then .int .i64 a else undef), (41, bif d 1 then .int .i64 b else undef), (42, bif d 2 then .int .i64 (U : Int) else undef), (43, bif d 3 then .int .i64 3 else undef), (44, bif d 4 then .int .i64 (one : Int) else undef), (45, bif d 5 then .int .i64 a else undef), (46, bif d 6 then .int .i64 A1 else undef), (47, bif d 7 then .int .i64 b else undef), (48, bif d 8 then .int .i64 B1 else undef), (49, bif d 9 then .int .i64 V else undef), (50, bif d 10 then .int .i64 3 else undef), (51, bif d 11 then .int .i64 0 else undef), (8, bif d 12 then .int .i64 (one : Int) else undef), (9, bif d 13 then .int .i64 0 else undef)])
    (fun d _ w' => Has w w' [(sqc 0 (fun _ => 0), 29)]) (by kernel_rfl) (by kernel_rfl) ?h0_qc ?hs_qc ?hq_qc
  case h0_qc => exact ⟨(), (by simp [lput]), hH.drew⟩
  case hs_qc =>
    refine ⟨?_, ?_, ?_, ?_, ?_, ?_, ?_, ?_, ?_, ?_, ?_, ?_, ?_, ?_, trivial⟩
    all_goals
      clear hH
      intro d _ w1 hd hn hJ
      simp only [needs, Region.binds, reduceCtorEq, Bool.false_eq_true, false_implies, true_and, and_true, true_implies, forall_const] at hn
      simp only [lput, List.set, hn, cond_true]
      have hH := hJ; clear hJ
      go_wp2_with (first | fail)
      first
        | (refine ⟨(), ?_, hH⟩; (simp [lput, done, hn]; done))
        | (refine ⟨?_, hH⟩; (simp [lput, done, hn]; done))
        | (refine ⟨(), ?_, hH⟩; (simp [lput, done, hn]; rfl))
        | (refine ⟨?_, hH⟩; (simp [lput, done, hn]; rfl))
        | (refine ⟨(), ?_, hH⟩; (simp [lput, done]; done))
        | (refine ⟨?_, hH⟩; (simp [lput, done]; done))
        | (refine ⟨(), ?_, hH⟩; (simp [lput, done]; rfl))
        | (refine ⟨?_, hH⟩; (simp [lput, done]; rfl))
  case hq_qc =>
    clear hH
    intro d _ w1 hd hJ
    simp only [allDone, List.length_cons, List.length_nil, Nat.reduceAdd, and_true] at hd
    have hH := hJ; clear hJ
    simp only [lput, List.set, hd, cond_true]
    clear hd
    go_wp2_with (first | fail | fail | (refine wpL_build rfl rfl builtSq ?_) | (refine wpL_storeSame (x := .tmp 6) rfl rfl rfl rfl rowSq hH.h0 (sqc_ok _ _) ?_))
    exact ret_ct rfl rfl rfl hH.h0 rowSq (sqc_size _ _) ⟨rfl, hH.below⟩
set_option maxRecDepth 20000 in
set_option maxHeartbeats 16000000 in
theorem specQuad3_w2 (a b : Nat) (w : World) (ha : a < 3) (hb : b < 3) (h1 : ¬ a * b % 3 = 0) (h2 : ¬ (a - 1) * (b - 1) % 3 = 0) (hq1 : qsB 3 (a * b % 3) = false) :
    Calls Try.prog 21 #[.int .i64 3, .int .i64 (a : Nat), .int .i64 (b : Nat)] w fun e w' => e = .returned (.tuple #[.agg (sqc 0 fun _ => 0), .int .i64 5]) ∧ Below w.heap.size w w' := by
  have hH := Has.start1 w (sqc 0 fun _ => 0) 29
  have hi := inB_true (show (0 : Int) ≤ (a : Int) by omega) (show (a : Int) ≤ 2 by omega)
  have hi2 := inB_true (show (0 : Int) ≤ (b : Int) by omega) (show (b : Int) ≤ 2 by omega)
  have hP : P357 3 := by unfold P357; omega
  obtain ⟨U, A1, B1, V, two, ⟨hUi, hU49⟩, ⟨hoi, hot⟩, ⟨hA1, hB1, hV, hV1, hV2⟩, ⟨htwo, hve⟩, h11⟩ := qu_test hP ha hb
  replace hoi : (U : Int) % 3 = ((a * b % 3 : Nat) : Int) := hoi
  replace hot : Int.tmod (U : Int) 3 = ((a * b % 3 : Nat) : Int) := hot
  replace htwo : Int.tmod V 3 = two := htwo
  replace hve : 0 ≤ V → V % 3 = two := hve
  have ha' : (a : Int) < 3 := by omega
  have hb' : (b : Int) < 3 := by omega
  have HP := hid hP
  have a1 : 1 ≤ a := by
    by_cases q2 : a = 0
    · subst q2; simp at h1
    · omega
  have b1 : 1 ≤ b := by
    by_cases q2 : b = 0
    · subst q2; simp at h1
    · omega
  obtain ⟨hV0, h2t⟩ := h11 a1 b1
  replace hve := hve hV0
  subst h2t
  obtain ⟨one, ho⟩ : ∃ one, a * b % 3 = one := ⟨_, rfl⟩
  obtain ⟨tw, ht⟩ : ∃ tw, (a - 1) * (b - 1) % 3 = tw := ⟨_, rfl⟩
  rw [ho] at hoi hot h1
  rw [ht] at htwo hve
  have h1i : ¬ (one : Int) = 0 := by omega
  have eb1 : ((one : Int) == 0) = false := by simpa using h1i
  have hol : one < 3 := by omega
  have htl : tw < 3 := by omega
  rw [ht] at h2
  have h2i : ¬ (tw : Int) = 0 := by omega
  have eb2 : ((tw : Int) == 0) = false := by simpa using h2i
  rw [ho] at hq1
  have HR1 : Hid (∀ w, Calls Try.prog 62 #[.int .i64 3, .int .i64 (one : Nat)] w fun e w' => e = .returned (.bool false) ∧ Below w.heap.size w w') := hid fun w => by
    have h := l08Residue_any 3 one w hP hol
    rw [hq1] at h
    exact h
  have HQ1 := hid hq1
  clear hq1 h2
  clear h11 hP ha hb h1 a1 b1 ho ht hV0
  have HOl := hid hol
  have HTl := hid htl
  clear hol htl
  go_enter Try.func21, Try.ntmps21
  go_wp2_with (first | fail | fail | (refine wpL_alloc (o := ⟨some 6, _, _, _, _, _⟩) rfl rfl zeroSq ?_; intro g hg; (try simp at hg); subst hg) | (go_at_call 61; refine (l01In_any _ _ _ _).mono ?_; rintro e w' ⟨rfl, rfl⟩; first | rw [hi] | rw [hi2]))
  refine wp_region_frame (X := Unit) (fun d _ => [(40, bif d 0 then .int .i64 a else undef), (41, bif d 1 then .int .i64 b else undef), (42, bif d 2 then .int .i64 (U : Int) else undef), (43, bif d 3 then .int .i64 3 else undef), (44, bif d 4 then .int .i64 (one : Int) else undef), (45, bif d 5 then .int .i64 a else undef), (46, bif d 6 then .int .i64 A1 else undef), (47, bif d 7 then .int .i64 b else undef), (48, bif d 8 then .int .i64 B1 else undef), (49, bif d 9 then .int .i64 V else undef), (50, bif d 10 then .int .i64 3 else undef), (51, bif d 11 then .int .i64 (tw : Int) else undef), (8, bif d 12 then .int .i64 (one : Int) else undef), (9, bif d 13 then .int .i64 (tw : Int) else undef)])
    (fun d _ w' => Has w w' [(sqc 0 (fun _ => 0), 29)]) (by kernel_rfl) (by kernel_rfl) ?h0_qc ?hs_qc ?hq_qc
  case h0_qc => exact ⟨(), (by simp [lput]), hH.drew⟩
  case hs_qc =>
    refine ⟨?_, ?_, ?_, ?_, ?_, ?_, ?_, ?_, ?_, ?_, ?_, ?_, ?_, ?_, trivial⟩
    all_goals
      clear hH
      intro d _ w1 hd hn hJ
      simp only [needs, Region.binds, reduceCtorEq, Bool.false_eq_true, false_implies, true_and, and_true, true_implies, forall_const] at hn
      simp only [lput, List.set, hn, cond_true]
      have hH := hJ; clear hJ
      go_wp2_with (first | fail)
      first
        | (refine ⟨(), ?_, hH⟩; (simp [lput, done, hn]; done))
        | (refine ⟨?_, hH⟩; (simp [lput, done, hn]; done))
        | (refine ⟨(), ?_, hH⟩; (simp [lput, done, hn]; rfl))
        | (refine ⟨?_, hH⟩; (simp [lput, done, hn]; rfl))
        | (refine ⟨(), ?_, hH⟩; (simp [lput, done]; done))
        | (refine ⟨?_, hH⟩; (simp [lput, done]; done))
        | (refine ⟨(), ?_, hH⟩; (simp [lput, done]; rfl))
        | (refine ⟨?_, hH⟩; (simp [lput, done]; rfl))
  case hq_qc =>
    clear hH
    intro d _ w1 hd hJ
    simp only [allDone, List.length_cons, List.length_nil, Nat.reduceAdd, and_true] at hd
    have hH := hJ; clear hJ
    simp only [lput, List.set, hd, cond_true]
    clear hd
    go_wp2_with (first | fail | fail | (go_at_call 62; with_reducible refine (HR1.out _).mono ?_; rintro e w3 ⟨rfl, hb⟩; replace hH := hH.call' hb; clear hb) | (refine wpL_build rfl rfl builtSq ?_) | (refine wpL_storeSame (x := .tmp 6) rfl rfl rfl rfl rowSq hH.h0 (sqc_ok _ _) ?_))
    exact ret_ct rfl rfl rfl hH.h0 rowSq (sqc_size _ _) ⟨rfl, hH.below⟩
set_option maxRecDepth 20000 in
set_option maxHeartbeats 16000000 in
theorem specQuad3_w3 (a b : Nat) (w : World) (ha : a < 3) (hb : b < 3) (h1 : ¬ a * b % 3 = 0) (h2 : ¬ (a - 1) * (b - 1) % 3 = 0) (hq1 : qsB 3 (a * b % 3) = true) (hq2 : qsB 3 ((a - 1) * (b - 1) % 3) = false) :
    Calls Try.prog 21 #[.int .i64 3, .int .i64 (a : Nat), .int .i64 (b : Nat)] w fun e w' => e = .returned (.tuple #[.agg (sqc 0 fun _ => 0), .int .i64 5]) ∧ Below w.heap.size w w' := by
  have hH := Has.start1 w (sqc 0 fun _ => 0) 29
  have hi := inB_true (show (0 : Int) ≤ (a : Int) by omega) (show (a : Int) ≤ 2 by omega)
  have hi2 := inB_true (show (0 : Int) ≤ (b : Int) by omega) (show (b : Int) ≤ 2 by omega)
  have hP : P357 3 := by unfold P357; omega
  obtain ⟨U, A1, B1, V, two, ⟨hUi, hU49⟩, ⟨hoi, hot⟩, ⟨hA1, hB1, hV, hV1, hV2⟩, ⟨htwo, hve⟩, h11⟩ := qu_test hP ha hb
  replace hoi : (U : Int) % 3 = ((a * b % 3 : Nat) : Int) := hoi
  replace hot : Int.tmod (U : Int) 3 = ((a * b % 3 : Nat) : Int) := hot
  replace htwo : Int.tmod V 3 = two := htwo
  replace hve : 0 ≤ V → V % 3 = two := hve
  have ha' : (a : Int) < 3 := by omega
  have hb' : (b : Int) < 3 := by omega
  have HP := hid hP
  have a1 : 1 ≤ a := by
    by_cases q2 : a = 0
    · subst q2; simp at h1
    · omega
  have b1 : 1 ≤ b := by
    by_cases q2 : b = 0
    · subst q2; simp at h1
    · omega
  obtain ⟨hV0, h2t⟩ := h11 a1 b1
  replace hve := hve hV0
  subst h2t
  obtain ⟨one, ho⟩ : ∃ one, a * b % 3 = one := ⟨_, rfl⟩
  obtain ⟨tw, ht⟩ : ∃ tw, (a - 1) * (b - 1) % 3 = tw := ⟨_, rfl⟩
  rw [ho] at hoi hot h1
  rw [ht] at htwo hve
  have h1i : ¬ (one : Int) = 0 := by omega
  have eb1 : ((one : Int) == 0) = false := by simpa using h1i
  have hol : one < 3 := by omega
  have htl : tw < 3 := by omega
  rw [ht] at h2
  have h2i : ¬ (tw : Int) = 0 := by omega
  have eb2 : ((tw : Int) == 0) = false := by simpa using h2i
  rw [ho] at hq1
  rw [ht] at hq2
  have HR1 : Hid (∀ w, Calls Try.prog 62 #[.int .i64 3, .int .i64 (one : Nat)] w fun e w' => e = .returned (.bool true) ∧ Below w.heap.size w w') := hid fun w => by
    have h := l08Residue_any 3 one w hP hol
    rw [hq1] at h
    exact h
  have HR2 : Hid (∀ w, Calls Try.prog 62 #[.int .i64 3, .int .i64 (tw : Nat)] w fun e w' => e = .returned (.bool false) ∧ Below w.heap.size w w') := hid fun w => by
    have h := l08Residue_any 3 tw w hP htl
    rw [hq2] at h
    exact h
  have HQ1 := hid hq1
  have HQ2 := hid hq2
  clear hq1 hq2 h2
  clear h11 hP ha hb h1 a1 b1 ho ht hV0
  have HOl := hid hol
  have HTl := hid htl
  clear hol htl
  go_enter Try.func21, Try.ntmps21
  go_wp2_with (first | fail | fail | (refine wpL_alloc (o := ⟨some 6, _, _, _, _, _⟩) rfl rfl zeroSq ?_; intro g hg; (try simp at hg); subst hg) | (go_at_call 61; refine (l01In_any _ _ _ _).mono ?_; rintro e w' ⟨rfl, rfl⟩; first | rw [hi] | rw [hi2]))
  refine wp_region_frame (X := Unit) (fun d _ => [(40, bif d 0 then .int .i64 a else undef), (41, bif d 1 then .int .i64 b else undef), (42, bif d 2 then .int .i64 (U : Int) else undef), (43, bif d 3 then .int .i64 3 else undef), (44, bif d 4 then .int .i64 (one : Int) else undef), (45, bif d 5 then .int .i64 a else undef), (46, bif d 6 then .int .i64 A1 else undef), (47, bif d 7 then .int .i64 b else undef), (48, bif d 8 then .int .i64 B1 else undef), (49, bif d 9 then .int .i64 V else undef), (50, bif d 10 then .int .i64 3 else undef), (51, bif d 11 then .int .i64 (tw : Int) else undef), (8, bif d 12 then .int .i64 (one : Int) else undef), (9, bif d 13 then .int .i64 (tw : Int) else undef)])
    (fun d _ w' => Has w w' [(sqc 0 (fun _ => 0), 29)]) (by kernel_rfl) (by kernel_rfl) ?h0_qc ?hs_qc ?hq_qc
  case h0_qc => exact ⟨(), (by simp [lput]), hH.drew⟩
  case hs_qc =>
    refine ⟨?_, ?_, ?_, ?_, ?_, ?_, ?_, ?_, ?_, ?_, ?_, ?_, ?_, ?_, trivial⟩
    all_goals
      clear hH
      intro d _ w1 hd hn hJ
      simp only [needs, Region.binds, reduceCtorEq, Bool.false_eq_true, false_implies, true_and, and_true, true_implies, forall_const] at hn
      simp only [lput, List.set, hn, cond_true]
      have hH := hJ; clear hJ
      go_wp2_with (first | fail)
      first
        | (refine ⟨(), ?_, hH⟩; (simp [lput, done, hn]; done))
        | (refine ⟨?_, hH⟩; (simp [lput, done, hn]; done))
        | (refine ⟨(), ?_, hH⟩; (simp [lput, done, hn]; rfl))
        | (refine ⟨?_, hH⟩; (simp [lput, done, hn]; rfl))
        | (refine ⟨(), ?_, hH⟩; (simp [lput, done]; done))
        | (refine ⟨?_, hH⟩; (simp [lput, done]; done))
        | (refine ⟨(), ?_, hH⟩; (simp [lput, done]; rfl))
        | (refine ⟨?_, hH⟩; (simp [lput, done]; rfl))
  case hq_qc =>
    clear hH
    intro d _ w1 hd hJ
    simp only [allDone, List.length_cons, List.length_nil, Nat.reduceAdd, and_true] at hd
    have hH := hJ; clear hJ
    simp only [lput, List.set, hd, cond_true]
    clear hd
    go_wp2_with (first | fail | fail | (go_at_call 62; with_reducible refine (HR1.out _).mono ?_; rintro e w3 ⟨rfl, hb⟩; replace hH := hH.call' hb; clear hb) | (go_at_call 62; with_reducible refine (HR2.out _).mono ?_; rintro e w3 ⟨rfl, hb⟩; replace hH := hH.call' hb; clear hb) | (refine wpL_build rfl rfl builtSq ?_) | (refine wpL_storeSame (x := .tmp 6) rfl rfl rfl rfl rowSq hH.h0 (sqc_ok _ _) ?_))
    exact ret_ct rfl rfl rfl hH.h0 rowSq (sqc_size _ _) ⟨rfl, hH.below⟩
theorem specQuad3_w (a b : Nat) (w : World) (ha : a < 3) (hb : b < 3) (h1 : ¬ a * b % 3 = 0) (hq : quB 3 a b = false) :
    Calls Try.prog 21 #[.int .i64 3, .int .i64 (a : Nat), .int .i64 (b : Nat)] w fun e w' => e = .returned (.tuple #[.agg (sqc 0 fun _ => 0), .int .i64 5]) ∧ Below w.heap.size w w' := by
  by_cases h2 : (a - 1) * (b - 1) % 3 = 0
  · exact specQuad3_w1 a b w ha hb h1 h2
  · cases hq1 : qsB 3 (a * b % 3) with
    | false => exact specQuad3_w2 a b w ha hb h1 h2 hq1
    | true =>
      cases hq2 : qsB 3 ((a - 1) * (b - 1) % 3) with
      | false => exact specQuad3_w3 a b w ha hb h1 h2 hq1 hq2
      | true =>
        exfalso
        unfold quB at hq
        have e1 : (a * b % 3 == 0) = false := by simpa using h1
        have e2 : ((a - 1) * (b - 1) % 3 == 0) = false := by simpa using h2
        rw [e1, e2, hq1, hq2] at hq
        cases hq
set_option maxRecDepth 20000 in
set_option maxHeartbeats 16000000 in
theorem specQuad3_g (a b : Nat) (w : World) (ha : a < 3) (hb : b < 3) (h1 : ¬ a * b % 3 = 0) (h2 : ¬ (a - 1) * (b - 1) % 3 = 0) (hq1 : qsB 3 (a * b % 3) = true) (hq2 : qsB 3 ((a - 1) * (b - 1) % 3) = true) :
    Calls Try.prog 21 #[.int .i64 3, .int .i64 (a : Nat), .int .i64 (b : Nat)] w fun e w' => e = .returned (.tuple #[.agg (sqc 3 (fillT 3 (quV 3 a b) 3 0)), .int .i64 0]) ∧ Below w.heap.size w w' := by
  have hH := Has.start1 w (sqc 0 fun _ => 0) 29
  have hi := inB_true (show (0 : Int) ≤ (a : Int) by omega) (show (a : Int) ≤ 2 by omega)
  have hi2 := inB_true (show (0 : Int) ≤ (b : Int) by omega) (show (b : Int) ≤ 2 by omega)
  have hP : P357 3 := by unfold P357; omega
  obtain ⟨U, A1, B1, V, two, ⟨hUi, hU49⟩, ⟨hoi, hot⟩, ⟨hA1, hB1, hV, hV1, hV2⟩, ⟨htwo, hve⟩, h11⟩ := qu_test hP ha hb
  replace hoi : (U : Int) % 3 = ((a * b % 3 : Nat) : Int) := hoi
  replace hot : Int.tmod (U : Int) 3 = ((a * b % 3 : Nat) : Int) := hot
  replace htwo : Int.tmod V 3 = two := htwo
  replace hve : 0 ≤ V → V % 3 = two := hve
  have ha' : (a : Int) < 3 := by omega
  have hb' : (b : Int) < 3 := by omega
  have HP := hid hP
  have a1 : 1 ≤ a := by
    by_cases q2 : a = 0
    · subst q2; simp at h1
    · omega
  have b1 : 1 ≤ b := by
    by_cases q2 : b = 0
    · subst q2; simp at h1
    · omega
  obtain ⟨hV0, h2t⟩ := h11 a1 b1
  replace hve := hve hV0
  subst h2t
  obtain ⟨one, ho⟩ : ∃ one, a * b % 3 = one := ⟨_, rfl⟩
  obtain ⟨tw, ht⟩ : ∃ tw, (a - 1) * (b - 1) % 3 = tw := ⟨_, rfl⟩
  rw [ho] at hoi hot h1
  rw [ht] at htwo hve
  have h1i : ¬ (one : Int) = 0 := by omega
  have eb1 : ((one : Int) == 0) = false := by simpa using h1i
  have hol : one < 3 := by omega
  have htl : tw < 3 := by omega
  rw [ho] at hq1
  rw [ht] at hq2 h2
  have h2i : ¬ (tw : Int) = 0 := by omega
  have eb2 : ((tw : Int) == 0) = false := by simpa using h2i
  have HR1 : Hid (∀ w, Calls Try.prog 62 #[.int .i64 3, .int .i64 (one : Nat)] w fun e w' => e = .returned (.bool true) ∧ Below w.heap.size w w') := hid fun w => by
    have h := l08Residue_any 3 one w hP hol
    rw [hq1] at h
    exact h
  have HR2 : Hid (∀ w, Calls Try.prog 62 #[.int .i64 3, .int .i64 (tw : Nat)] w fun e w' => e = .returned (.bool true) ∧ Below w.heap.size w w') := hid fun w => by
    have h := l08Residue_any 3 tw w hP htl
    rw [hq2] at h
    exact h
  have HQ1 := hid hq1
  have HQ2 := hid hq2
  have HOl := hid hol
  have HTl := hid htl
  have HSt := hid (fun k j (hk : k < 3) (hj : j < 3) => qu_step (a := a) (b := b) hP ha hb hk hj)
  clear h11 hP ha hb h1 h2 hq1 hq2 a1 b1 ho ht hV0 hol htl
  go_enter Try.func21, Try.ntmps21
  go_wp2_with (first | fail | fail | (refine wpL_alloc (o := ⟨some 6, _, _, _, _, _⟩) rfl rfl zeroSq ?_; intro g hg; (try simp at hg); subst hg) | (go_at_call 61; refine (l01In_any _ _ _ _).mono ?_; rintro e w' ⟨rfl, rfl⟩; first | rw [hi] | rw [hi2]))
  refine wp_region_frame (X := Unit) (fun d _ => [(40, bif d 0 then .int .i64 a else undef), (41, bif d 1 then .int .i64 b else undef), (42, bif d 2 then .int .i64 (U : Int) else undef), (43, bif d 3 then .int .i64 3 else undef), (44, bif d 4 then .int .i64 (one : Int) else undef), (45, bif d 5 then .int .i64 a else undef), (46, bif d 6 then .int .i64 A1 else undef), (47, bif d 7 then .int .i64 b else undef), (48, bif d 8 then .int .i64 B1 else undef), (49, bif d 9 then .int .i64 V else undef), (50, bif d 10 then .int .i64 3 else undef), (51, bif d 11 then .int .i64 (tw : Int) else undef), (8, bif d 12 then .int .i64 (one : Int) else undef), (9, bif d 13 then .int .i64 (tw : Int) else undef)])
    (fun d _ w' => Has w w' [(sqc 0 (fun _ => 0), 29)]) (by kernel_rfl) (by kernel_rfl) ?h0_qc ?hs_qc ?hq_qc
  case h0_qc => exact ⟨(), (by simp [lput]), hH.drew⟩
  case hs_qc =>
    refine ⟨?_, ?_, ?_, ?_, ?_, ?_, ?_, ?_, ?_, ?_, ?_, ?_, ?_, ?_, trivial⟩
    all_goals
      clear hH
      intro d _ w1 hd hn hJ
      simp only [needs, Region.binds, reduceCtorEq, Bool.false_eq_true, false_implies, true_and, and_true, true_implies, forall_const] at hn
      simp only [lput, List.set, hn, cond_true]
      have hH := hJ; clear hJ
      go_wp2_with (first | fail)
      first
        | (refine ⟨(), ?_, hH⟩; (simp [lput, done, hn]; done))
        | (refine ⟨?_, hH⟩; (simp [lput, done, hn]; done))
        | (refine ⟨(), ?_, hH⟩; (simp [lput, done, hn]; rfl))
        | (refine ⟨?_, hH⟩; (simp [lput, done, hn]; rfl))
        | (refine ⟨(), ?_, hH⟩; (simp [lput, done]; done))
        | (refine ⟨?_, hH⟩; (simp [lput, done]; done))
        | (refine ⟨(), ?_, hH⟩; (simp [lput, done]; rfl))
        | (refine ⟨?_, hH⟩; (simp [lput, done]; rfl))
  case hq_qc =>
    clear hH
    intro d _ w1 hd hJ
    simp only [allDone, List.length_cons, List.length_nil, Nat.reduceAdd, and_true] at hd
    have hH := hJ; clear hJ
    simp only [lput, List.set, hd, cond_true]
    clear hd
    go_wp2_with (first | fail | fail | (go_at_call 62; with_reducible refine (HR1.out _).mono ?_; rintro e w3 ⟨rfl, hb⟩; replace hH := hH.call' hb; clear hb) | (go_at_call 62; with_reducible refine (HR2.out _).mono ?_; rintro e w3 ⟨rfl, hb⟩; replace hH := hH.call' hb; clear hb) | (refine wpL_build1 rfl rfl rfl (builtSqO _) ?_) | (refine wpL_storeN (x := .tmp 10) rfl rfl rfl rfl rowSq hg (sqc_size _ _) (sqc_ok _ _) ?_; intro w5 hz hO hT; replace hg := hz; replace hH := hT _ _ hH hlo; clear hz hO hT) | (refine wpL_allocN (o := ⟨some 10, _, _, _, _, _⟩) rfl rfl zeroSq ?_; intro gq w4 hg hl hb; have hlo : w.heap.size + 1 ≤ gq := (by have := hH.size; simp only [List.length_cons, List.length_nil] at this; omega); replace hH := hH.call' hb; clear hb hl))
    have HL := hid hlo
    clear hlo hUi hU49 hoi hot hA1 hB1 hV hV1 hV2 htwo hve eb1 h1i eb2 h2i HQ1 HQ2 HOl HTl hi hi2
    go_loopw [11] (fun i wr => ∃ k : Nat, k ≤ 3 ∧ i = .int .i64 k ∧ Has w wr [(sqc 0 (fun _ => 0), 29)] ∧ holds wr gq (sqc 3 (fillT 3 (quV 3 a b) k 0)) 29) (fun i _ => 10 - (intOf i).toNat)
    case atStart => exact ⟨0, by omega, rfl, hH, by rw [fillT_zero]; exact hg⟩
    case round =>
      clear hH hg
      obtain ⟨k, hk, rfl, hH, hg⟩ := hrel
      by_cases hlt : k < 3
      · have hlt' : (k : Int) < 3 := by omega
        go_wp2
        go_loopw [12] (fun i wx => ∃ j : Nat, j ≤ 3 ∧ i = .int .i64 j ∧ Has w wx [(sqc 0 (fun _ => 0), 29)] ∧ holds wx gq (sqc 3 (fillT 3 (quV 3 a b) k j)) 29) (fun i _ => 10 - (intOf i).toNat)
        case atStart => exact ⟨0, by omega, rfl, hH, hg⟩
        case round =>
          clear hH hg
          obtain ⟨j, hj, rfl, hH, hg⟩ := hrel
          by_cases hlt2 : j < 3
          · have hlt2' : (j : Int) < 3 := by omega
            obtain ⟨D, S0, s, c, U, U3, R, ⟨hD, hDS, hD1, hD2, hS14⟩, ⟨hsi, hst2, hsl⟩, hc, ⟨hUi, hU49⟩, ⟨hU3i, hU56⟩, ⟨hri, hrt, hRl⟩, hQ⟩ := HSt.out k j hlt hlt2
            replace hDS : D + 3 = (S0 : Int) := hDS
            replace hsi : (S0 : Int) % 3 = (s : Int) := hsi
            replace hst2 : Int.tmod (S0 : Int) 3 = (s : Int) := hst2
            replace hri : (U3 : Int) % 3 = (R.toNat : Int) := hri
            replace hrt : Int.tmod (U3 : Int) 3 = (R.toNat : Int) := hrt
            have hs7 : (s : Int) < 3 := by omega
            have hst := hid (fun i (hi : i < 100) => show fillT 3 (quV 3 a b) k (j + 1) i = if i = k * 10 + j then R else fillT 3 (quV 3 a b) k j i by rw [fillT_step 3 _ k j (by omega) i, hQ])
            have hc' := hid hc
            clear hc hQ
            go_wp2
            refine wp_region_frame (X := Unit) (fun d _ => [(83, bif d 0 then .int .i64 a else u83), (84, bif d 1 then .int .i64 j else u84), (85, bif d 2 then .int .i64 k else u85), (86, bif d 3 then .int .i64 D else u86), (87, bif d 4 then .int .i64 3 else u87), (88, bif d 5 then .int .i64 (S0 : Int) else u88), (89, bif d 6 then .int .i64 3 else u89), (90, bif d 7 then .int .i64 (s : Int) else u90), (13, bif d 8 then .int .i64 a else u13), (14, bif d 9 then .int .i64 (s : Int) else u14)])
              (fun d _ w' => Has w w' [(sqc 0 (fun _ => 0), 29)] ∧ holds w' gq (sqc 3 (fillT 3 (quV 3 a b) k j)) 29) (by kernel_rfl) (by kernel_rfl) ?h0_qd ?hs_qd ?hq_qd
            case h0_qd => exact ⟨(), (by simp [lput]), hH.drew, (show _ from hg)⟩
            case hs_qd =>
              refine ⟨?_, ?_, ?_, ?_, ?_, ?_, ?_, ?_, ?_, ?_, trivial⟩
              all_goals
                clear hH hg
                intro d _ w1 hd hn hJ
                simp only [needs, Region.binds, reduceCtorEq, Bool.false_eq_true, false_implies, true_and, and_true, true_implies, forall_const] at hn
                simp only [lput, List.set, hn, cond_true]
                obtain ⟨hH, hg⟩ := hJ
                go_wp2_with (first | fail)
                first
                  | (refine ⟨(), ?_, hH, hg⟩; (simp [lput, done, hn]; done))
                  | (refine ⟨?_, hH, hg⟩; (simp [lput, done, hn]; done))
                  | (refine ⟨(), ?_, hH, hg⟩; (simp [lput, done, hn]; rfl))
                  | (refine ⟨?_, hH, hg⟩; (simp [lput, done, hn]; rfl))
                  | (refine ⟨(), ?_, hH, hg⟩; (simp [lput, done]; done))
                  | (refine ⟨?_, hH, hg⟩; (simp [lput, done]; done))
                  | (refine ⟨(), ?_, hH, hg⟩; (simp [lput, done]; rfl))
                  | (refine ⟨?_, hH, hg⟩; (simp [lput, done]; rfl))
            case hq_qd =>
              clear hH hg
              intro d _ w1 hd hJ
              simp only [allDone, List.length_cons, List.length_nil, Nat.reduceAdd, and_true] at hd
              obtain ⟨hH, hg⟩ := hJ
              simp only [lput, List.set, hd, cond_true]
              clear hd
              clear hD hDS hD1 hD2 hS14 hsi hst2
              cases hqs : qsB 3 s with
              | true =>
                have hca : a = c := by rw [← hc'.out]; unfold quA; rw [hqs]; rfl
                have HS := hid hqs
                clear hqs hc'
                subst hca
                go_wp2_with (first | fail | (go_at_call 62; refine (l08Residue_any 3 s _ HP.out hsl).mono ?_; rintro e w3 ⟨rfl, hb⟩; rw [HS.out]; replace hH := hH.call' hb; replace hg := holds_below hg hb (holds_lt hg); clear hb))
                refine wp_region_frame (X := Unit) (fun d _ => [(96, bif d 0 then .int .i64 k else u96), (97, bif d 1 then .int .i64 j else u97), (98, bif d 2 then .int .i64 k else u98), (99, bif d 3 then .int .i64 a else u99), (100, bif d 4 then .int .i64 s else u100), (101, bif d 5 then .int .i64 (U : Int) else u101), (102, bif d 6 then .int .i64 (U3 : Int) else u102), (103, bif d 7 then .int .i64 3 else u103), (104, bif d 8 then .int .i64 R.toNat else u104), (105, bif d 9 then .int .u8 R.toNat else u105), (106, bif d 10 then .pointer (some ⟨gq, 1, none⟩) else u106), (107, bif d 11 then .pointer (some ⟨gq, 1 + k * 10, none⟩) else u107), (108, bif d 12 then .pointer (some ⟨gq, 1 + k * 10 + j, none⟩) else u108)])
                  (fun d _ w' => Has w w' [(sqc 0 (fun _ => 0), 29)] ∧ holds w' gq (sqc 3 (bif d 13 then fillT 3 (quV 3 a b) k (j + 1) else fillT 3 (quV 3 a b) k j)) 29) (by kernel_rfl) (by kernel_rfl) ?h0_qe ?hs_qe ?hq_qe
                case h0_qe => exact ⟨(), (by simp [lput]), hH.drew, (show _ from hg)⟩
                case hs_qe =>
                  refine ⟨?_, ?_, ?_, ?_, ?_, ?_, ?_, ?_, ?_, ?_, ?_, ?_, ?_, ?_, trivial⟩
                  all_goals
                    clear hH hg
                    intro d _ w1 hd hn hJ
                    simp only [needs, Region.binds, reduceCtorEq, Bool.false_eq_true, false_implies, true_and, and_true, true_implies, forall_const] at hn
                    simp only [lput, List.set, hn, cond_true]
                    try simp only [hd, cond_false] at hJ
                    obtain ⟨hH, hg⟩ := hJ
                    go_wp2_with (first | fail | (refine wpL_cellN (v := .int .u8 R.toNat) (cs' := sqc 3 (fillT 3 (quV 3 a b) k (j + 1))) (off := 1 + k * 10 + j) rfl rfl rfl rfl (by kernel_rfl) (by rfl) hg (by rw [sqc_size]; omega) (by rw [Nat.add_assoc]; exact sqc_set _ _ _ _ _ hst.out) ?_; intro w4 hz hO hT; replace hH := hT _ _ hH HL.out; replace hg := hz; clear hz hO hT))
                    first
                      | (refine ⟨(), ?_, hH, hg⟩; (simp [lput, done, hn]; done))
                      | (refine ⟨?_, hH, hg⟩; (simp [lput, done, hn]; done))
                      | (refine ⟨(), ?_, hH, hg⟩; (simp [lput, done, hn]; rfl))
                      | (refine ⟨?_, hH, hg⟩; (simp [lput, done, hn]; rfl))
                      | (refine ⟨(), ?_, hH, hg⟩; (simp [lput, done]; done))
                      | (refine ⟨?_, hH, hg⟩; (simp [lput, done]; done))
                      | (refine ⟨(), ?_, hH, hg⟩; (simp [lput, done]; rfl))
                      | (refine ⟨?_, hH, hg⟩; (simp [lput, done]; rfl))
                case hq_qe =>
                  clear hH hg
                  intro d _ w1 hd hJ
                  simp only [allDone, List.length_cons, List.length_nil, Nat.reduceAdd, and_true] at hd
                  obtain ⟨hH, hg⟩ := hJ
                  simp only [hd, cond_true] at hH hg
                  simp only [lput, List.set, hd, cond_true]
                  clear hd
                  go_wp2
                  go_roundw
                  case rel => exact ⟨j + 1, by omega, by go_num, hH, hg⟩
                  case measure => simp [intOf]; omega
              | false =>
                have hca : b = c := by rw [← hc'.out]; unfold quA; rw [hqs]; rfl
                have HS := hid hqs
                clear hqs hc'
                subst hca
                go_wp2_with (first | fail | (go_at_call 62; refine (l08Residue_any 3 s _ HP.out hsl).mono ?_; rintro e w3 ⟨rfl, hb⟩; rw [HS.out]; replace hH := hH.call' hb; replace hg := holds_below hg hb (holds_lt hg); clear hb))
                refine wp_region_frame (X := Unit) (fun d _ => [(96, bif d 0 then .int .i64 k else u96), (97, bif d 1 then .int .i64 j else u97), (98, bif d 2 then .int .i64 k else u98), (99, bif d 3 then .int .i64 b else u99), (100, bif d 4 then .int .i64 s else u100), (101, bif d 5 then .int .i64 (U : Int) else u101), (102, bif d 6 then .int .i64 (U3 : Int) else u102), (103, bif d 7 then .int .i64 3 else u103), (104, bif d 8 then .int .i64 R.toNat else u104), (105, bif d 9 then .int .u8 R.toNat else u105), (106, bif d 10 then .pointer (some ⟨gq, 1, none⟩) else u106), (107, bif d 11 then .pointer (some ⟨gq, 1 + k * 10, none⟩) else u107), (108, bif d 12 then .pointer (some ⟨gq, 1 + k * 10 + j, none⟩) else u108)])
                  (fun d _ w' => Has w w' [(sqc 0 (fun _ => 0), 29)] ∧ holds w' gq (sqc 3 (bif d 13 then fillT 3 (quV 3 a b) k (j + 1) else fillT 3 (quV 3 a b) k j)) 29) (by kernel_rfl) (by kernel_rfl) ?h0_qe ?hs_qe ?hq_qe
                case h0_qe => exact ⟨(), (by simp [lput]), hH.drew, (show _ from hg)⟩
                case hs_qe =>
                  refine ⟨?_, ?_, ?_, ?_, ?_, ?_, ?_, ?_, ?_, ?_, ?_, ?_, ?_, ?_, trivial⟩
                  all_goals
                    clear hH hg
                    intro d _ w1 hd hn hJ
                    simp only [needs, Region.binds, reduceCtorEq, Bool.false_eq_true, false_implies, true_and, and_true, true_implies, forall_const] at hn
                    simp only [lput, List.set, hn, cond_true]
                    try simp only [hd, cond_false] at hJ
                    obtain ⟨hH, hg⟩ := hJ
                    go_wp2_with (first | fail | (refine wpL_cellN (v := .int .u8 R.toNat) (cs' := sqc 3 (fillT 3 (quV 3 a b) k (j + 1))) (off := 1 + k * 10 + j) rfl rfl rfl rfl (by kernel_rfl) (by rfl) hg (by rw [sqc_size]; omega) (by rw [Nat.add_assoc]; exact sqc_set _ _ _ _ _ hst.out) ?_; intro w4 hz hO hT; replace hH := hT _ _ hH HL.out; replace hg := hz; clear hz hO hT))
                    first
                      | (refine ⟨(), ?_, hH, hg⟩; (simp [lput, done, hn]; done))
                      | (refine ⟨?_, hH, hg⟩; (simp [lput, done, hn]; done))
                      | (refine ⟨(), ?_, hH, hg⟩; (simp [lput, done, hn]; rfl))
                      | (refine ⟨?_, hH, hg⟩; (simp [lput, done, hn]; rfl))
                      | (refine ⟨(), ?_, hH, hg⟩; (simp [lput, done]; done))
                      | (refine ⟨?_, hH, hg⟩; (simp [lput, done]; done))
                      | (refine ⟨(), ?_, hH, hg⟩; (simp [lput, done]; rfl))
                      | (refine ⟨?_, hH, hg⟩; (simp [lput, done]; rfl))
                case hq_qe =>
                  clear hH hg
                  intro d _ w1 hd hJ
                  simp only [allDone, List.length_cons, List.length_nil, Nat.reduceAdd, and_true] at hd
                  obtain ⟨hH, hg⟩ := hJ
                  simp only [hd, cond_true] at hH hg
                  simp only [lput, List.set, hd, cond_true]
                  clear hd
                  go_wp2
                  go_roundw
                  case rel => exact ⟨j + 1, by omega, by go_num, hH, hg⟩
                  case measure => simp [intOf]; omega
          · obtain rfl : j = 3 := by omega
            go_wp2
            go_roundw
            case rel => exact ⟨k + 1, by omega, by go_num, hH, by rw [fillT_row]; exact hg⟩
            case measure => simp [intOf]; omega
      · obtain rfl : k = 3 := by omega
        go_wp2_with (first | fail | (refine wpL_loadFull rfl rfl rfl rowSq hg (sqc_size _ _) ?_) | (refine wpL_storeFull (x := .tmp 6) rfl rfl rfl rfl rowSq hH.h0 (sqc_size _ _) (sqc_ok _ _) ?_))
        exact ret_ct rfl rfl rfl hH.r0.h0 rowSq (sqc_size _ _) ⟨rfl, hH.r0.below⟩
end Go.Proofs.Ytbhjbllgmenbaaa
