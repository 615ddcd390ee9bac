/- Proved: what the model's function that tells squares returns. Conditions: those that each theorem names. -/
import Derived.Test.YtbhjbllgmenbaabSq3
namespace Go.Proofs.Ytbhjbllgmenbaab
set_option linter.unusedVariables false
set_option linter.unusedSimpArgs false
open Go.RowKit
set_option maxRecDepth 20000 in
set_option maxHeartbeats 1000000 in
theorem l01Is_out (o : Int) (g : Nat → UInt8) (w : World) (h : ¬ (1 ≤ o ∧ o ≤ 10)) :
    Calls Try.prog 91 #[.agg (sqc o g)] w fun e w' => e = .returned (.bool false) ∧ Below w.heap.size w w' := by
  have hi := inB_false h
  have hH := Has.start1 w (sqc o g) 32
  go_enter Try.func91, Try.ntmps91
  go_wp2
  refine wp_region_frame (X := Unit) (fun d _ => [(3, bif d 0 then .pointer (some ⟨w.heap.size, 0, none⟩) else undef), (4, bif d 1 then .int .i64 o else undef), (5, bif d 2 then .bool false else undef), (6, bif d 3 then .bool false else undef), (7, bif d 4 then undef else undef), (8, bif d 5 then undef else undef), (9, bif d 6 then undef else undef), (10, bif d 7 then undef else undef), (11, bif d 8 then undef else undef), (12, bif d 9 then .bool false else undef), (13, bif d 10 then .bool false else undef), (14, bif d 11 then undef else undef), (15, bif d 12 then undef else undef), (16, bif d 13 then undef else undef), (17, bif d 14 then undef else undef), (18, bif d 15 then undef else undef), (19, bif d 16 then undef else undef), (20, bif d 17 then .bool false else undef), (2, bif d 18 then .bool false else .bool false)])
    (fun _ _ w' => Has w w' [(sqc o g, 32)]) (by kernel_rfl) (by kernel_rfl) ?h0_is ?hs_is ?hq_is
  case h0_is => exact ⟨(), (by simp [lput]), hH.drew⟩
  case hs_is =>
    refine ⟨?_, ?_, ?_, ?_, ?_, ?_, ?_, ?_, ?_, ?_, ?_, ?_, ?_, ?_, ?_, ?_, ?_, ?_, ?_, trivial⟩
    all_goals
      clear hH
      intro d _ w1 hd hn hH
      simp only [needs, Region.binds, reduceCtorEq, Bool.false_eq_true, false_implies, true_and, and_true, true_implies, forall_const] at hn
      simp only [lput, List.set, hn, cond_true]
      have c0 := hH.c0
      go_wp2_with (first | (refine wpL_guard rfl rfl ?_) | (refine wpL_loadTab rfl rfl rfl rowTa hH.h0 ?_) | (go_at_call 87; refine (l01In_any _ _ _ _).mono ?_; rintro e w2 ⟨rfl, rfl⟩))
      first | exact ⟨(), (by simp [lput, done, hn]), hH⟩ | exact ⟨(by simp [lput, done, hn]), hH⟩ | exact ⟨(), (by simp [lput, done]), hH⟩ | exact ⟨(by simp [lput, done]), hH⟩
  case hq_is =>
    clear hH
    intro d _ w1 hd hH
    simp only [allDone, List.length_cons, List.length_nil, Nat.reduceAdd, and_true] at hd
    simp only [lput, List.set, hd, cond_true]
    clear hd
    go_wp2
    go_ret
    exact ⟨rfl, hH.below⟩
set_option maxRecDepth 20000 in
set_option maxHeartbeats 2000000 in
theorem l01Is_norows (N : Nat) (g : Nat → UInt8) (w : World) (h1 : 1 ≤ N) (h10 : N ≤ 10)
    (hRows : Hid (∀ w, Calls Try.prog 143 #[.agg (u8s 100 g), .int .i64 N] w fun e w' => e = .returned (.bool false) ∧ Below w.heap.size w w')) :
    Calls Try.prog 91 #[.agg (sqc N g)] w fun e w' => e = .returned (.bool false) ∧ Below w.heap.size w w' := by
  have hi := inB_true (show 1 ≤ (N : Int) by omega) (show (N : Int) ≤ 10 by omega)
  have hH := Has.start1 w (sqc N g) 32
  go_enter Try.func91, Try.ntmps91
  go_wp2
  refine wp_region_frame (X := Unit) (fun d _ => [(3, bif d 0 then .pointer (some ⟨w.heap.size, 0, none⟩) else undef), (4, bif d 1 then .int .i64 N else undef), (5, bif d 2 then .bool true else undef), (6, bif d 3 then .bool true else undef), (7, bif d 4 then .pointer (some ⟨w.heap.size, 1, none⟩) else undef), (8, bif d 5 then .agg (u8s 100 g) else undef), (9, bif d 6 then .pointer (some ⟨w.heap.size, 0, none⟩) else undef), (10, bif d 7 then .int .i64 N else undef), (11, bif d 8 then .bool false else undef), (12, bif d 9 then .bool false else undef), (13, bif d 10 then .bool false else undef), (14, bif d 11 then undef else undef), (15, bif d 12 then undef else undef), (16, bif d 13 then undef else undef), (17, bif d 14 then undef else undef), (18, bif d 15 then undef else undef), (19, bif d 16 then undef else undef), (20, bif d 17 then .bool false else undef), (2, bif d 18 then .bool false else .bool false)])
    (fun _ _ w' => Has w w' [(sqc N g, 32)]) (by kernel_rfl) (by kernel_rfl) ?h0_is ?hs_is ?hq_is
  case h0_is => exact ⟨(), (by simp [lput]), hH.drew⟩
  case hs_is =>
    refine ⟨?_, ?_, ?_, ?_, ?_, ?_, ?_, ?_, ?_, ?_, ?_, ?_, ?_, ?_, ?_, ?_, ?_, ?_, ?_, trivial⟩
    all_goals
      clear hH
      intro d _ w1 hd hn hH
      simp only [needs, Region.binds, reduceCtorEq, Bool.false_eq_true, false_implies, true_and, and_true, true_implies, forall_const] at hn
      simp only [lput, List.set, hn, cond_true]
      have c0 := hH.c0
      go_wp2_with (first | (refine wpL_guard rfl rfl ?_) | (refine wpL_loadTab rfl rfl rfl rowTa hH.h0 ?_) | (go_at_call 87; refine (l01In_any _ _ _ _).mono ?_; rintro e w2 ⟨rfl, rfl⟩) | (go_at_call 144; refine (l01Turned_any g _).mono ?_; rintro e w2 ⟨rfl, hb⟩; replace hH := hH.call' hb) | (go_at_call 143; (with_reducible refine (hRows.out _).mono ?_); rintro e w2 ⟨rfl, hb⟩; replace hH := hH.call' hb))
      first | exact ⟨(), (by simp [lput, done, hn]), hH⟩ | exact ⟨(by simp [lput, done, hn]), hH⟩ | exact ⟨(), (by simp [lput, done]), hH⟩ | exact ⟨(by simp [lput, done]), hH⟩
  case hq_is =>
    clear hH
    intro d _ w1 hd hH
    simp only [allDone, List.length_cons, List.length_nil, Nat.reduceAdd, and_true] at hd
    simp only [lput, List.set, hd, cond_true]
    clear hd
    go_wp2
    go_ret
    exact ⟨rfl, hH.below⟩
set_option maxRecDepth 20000 in
set_option maxHeartbeats 2000000 in
theorem l01Is_rows (N : Nat) (g : Nat → UInt8) (w : World) (h1 : 1 ≤ N) (h10 : N ≤ 10)
    (hRows : Hid (∀ w, Calls Try.prog 143 #[.agg (u8s 100 g), .int .i64 N] w fun e w' => e = .returned (.bool true) ∧ Below w.heap.size w w')) (r : Bool) (hRowt : Hid (∀ w, Calls Try.prog 143 #[.agg (u8s 100 (turn g)), .int .i64 N] w fun e w' => e = .returned (.bool r) ∧ Below w.heap.size w w'))
:
    Calls Try.prog 91 #[.agg (sqc N g)] w fun e w' => e = .returned (.bool r) ∧ Below w.heap.size w w' := by
  have hi := inB_true (show 1 ≤ (N : Int) by omega) (show (N : Int) ≤ 10 by omega)
  have hH := Has.start1 w (sqc N g) 32
  go_enter Try.func91, Try.ntmps91
  go_wp2
  refine wp_region_frame (X := Unit) (fun d _ => [(3, bif d 0 then .pointer (some ⟨w.heap.size, 0, none⟩) else undef), (4, bif d 1 then .int .i64 N else undef), (5, bif d 2 then .bool true else undef), (6, bif d 3 then .bool true else undef), (7, bif d 4 then .pointer (some ⟨w.heap.size, 1, none⟩) else undef), (8, bif d 5 then .agg (u8s 100 g) else undef), (9, bif d 6 then .pointer (some ⟨w.heap.size, 0, none⟩) else undef), (10, bif d 7 then .int .i64 N else undef), (11, bif d 8 then .bool true else undef), (12, bif d 9 then .bool true else undef), (13, bif d 10 then .bool true else undef), (14, bif d 11 then .pointer (some ⟨w.heap.size, 1, none⟩) else undef), (15, bif d 12 then .agg (u8s 100 g) else undef), (16, bif d 13 then .agg (u8s 100 (turn g)) else undef), (17, bif d 14 then .pointer (some ⟨w.heap.size, 0, none⟩) else undef), (18, bif d 15 then .int .i64 N else undef), (19, bif d 16 then .bool r else undef), (20, bif d 17 then .bool r else undef), (2, bif d 18 then .bool r else .bool false)])
    (fun _ _ w' => Has w w' [(sqc N g, 32)]) (by kernel_rfl) (by kernel_rfl) ?h0_is ?hs_is ?hq_is
  case h0_is => exact ⟨(), (by simp [lput]), hH.drew⟩
  case hs_is =>
    refine ⟨?_, ?_, ?_, ?_, ?_, ?_, ?_, ?_, ?_, ?_, ?_, ?_, ?_, ?_, ?_, ?_, ?_, ?_, ?_, trivial⟩
    all_goals
      clear hH
      intro d _ w1 hd hn hH
      simp only [needs, Region.binds, reduceCtorEq, Bool.false_eq_true, false_implies, true_and, and_true, true_implies, forall_const] at hn
      simp only [lput, List.set, hn, cond_true]
      have c0 := hH.c0
      go_wp2_with (first | (refine wpL_guard rfl rfl ?_) | (refine wpL_loadTab rfl rfl rfl rowTa hH.h0 ?_) | (go_at_call 87; refine (l01In_any _ _ _ _).mono ?_; rintro e w2 ⟨rfl, rfl⟩) | (go_at_call 144; refine (l01Turned_any g _).mono ?_; rintro e w2 ⟨rfl, hb⟩; replace hH := hH.call' hb) | (go_at_call 143; (with_reducible refine (hRows.out _).mono ?_); rintro e w2 ⟨rfl, hb⟩; replace hH := hH.call' hb) | (go_at_call 143; (with_reducible refine (hRowt.out _).mono ?_); rintro e w2 ⟨rfl, hb⟩; replace hH := hH.call' hb))
      first | exact ⟨(), (by simp [lput, done, hn]), hH⟩ | exact ⟨(by simp [lput, done, hn]), hH⟩ | exact ⟨(), (by simp [lput, done]), hH⟩ | exact ⟨(by simp [lput, done]), hH⟩
  case hq_is =>
    clear hH
    intro d _ w1 hd hH
    simp only [allDone, List.length_cons, List.length_nil, Nat.reduceAdd, and_true] at hd
    simp only [lput, List.set, hd, cond_true]
    clear hd
    go_wp2
    go_ret
    exact ⟨rfl, hH.below⟩
theorem l01Is_any (o : Int) (g : Nat → UInt8) (w : World) :
    Calls Try.prog 91 #[.agg (sqc o g)] w fun e w' => e = .returned (.bool (sqB o g)) ∧ Below w.heap.size w w' := by
  by_cases h : 1 ≤ o ∧ o ≤ 10
  · obtain ⟨N, rfl⟩ := Int.eq_ofNat_of_zero_le (show 0 ≤ o by omega)
    have e : sqB (N : Int) g = (rowsB g N && rowsB (turn g) N) := by simp [sqB, inB_true h.1 h.2]
    rw [e]
    cases hr : rowsB g N with
    | false => exact l01Is_norows N g w (by omega) (by omega) (hid fun w => by rw [← hr]; exact l01Rows_any g N w (by omega) (by omega))
    | true =>
      rw [Bool.true_and]
      exact l01Is_rows N g w (by omega) (by omega) (hid fun w => by rw [← hr]; exact l01Rows_any g N w (by omega) (by omega)) _ (hid fun w => l01Rows_any (turn g) N w (by omega) (by omega))
  · rw [sqB_out h]; exact l01Is_out o g w h
end Go.Proofs.Ytbhjbllgmenbaab
