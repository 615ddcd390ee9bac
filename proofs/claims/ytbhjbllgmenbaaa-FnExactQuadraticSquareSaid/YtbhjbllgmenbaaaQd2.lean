/- Proved: what the model's QuadraticSquare returns. Conditions: those that each theorem names. -/
import Derived.Test.YtbhjbllgmenbaaaQd0
namespace Go.Proofs.Ytbhjbllgmenbaaa
set_option linter.unusedVariables false
set_option linter.unusedSimpArgs false
open Go.RowKit
set_option maxRecDepth 20000 in
set_option maxHeartbeats 1600000 in
theorem specQuad_no (p a b : Int) (w : World) (h3 : ¬ p = 3) (h5 : ¬ p = 5) (h7 : ¬ p = 7) :
    Calls Try.prog 21 #[.int .i64 p, .int .i64 a, .int .i64 b] w fun e w' => e = .returned (.tuple #[.agg (sqc 0 fun _ => 0), .int .i64 2]) ∧ Below w.heap.size w w' := by
  have hH := Has.start1 w (sqc 0 fun _ => 0) 29
  go_enter Try.func21, Try.ntmps21
  go_wp2_with (first | fail | (refine wpL_guard rfl rfl ?_) | (refine wpL_alloc (o := ⟨some 6, _, _, _, _, _⟩) rfl rfl zeroSq ?_; intro g hg; (try simp at hg); subst hg) | (refine wpL_build rfl rfl builtSq ?_) | (refine wpL_storeSame (x := .tmp 6) rfl rfl rfl rfl rowSq hH.h0 (sqc_ok _ _) ?_))
  exact ret_ct rfl rfl rfl hH.h0 rowSq (sqc_size _ _) ⟨rfl, hH.below⟩
set_option maxRecDepth 20000 in
set_option maxHeartbeats 1600000 in
theorem specQuad3_out (a b : Int) (w : World) (h : ¬ (0 ≤ a ∧ a < 3 ∧ 0 ≤ b ∧ b < 3)) :
    Calls Try.prog 21 #[.int .i64 3, .int .i64 a, .int .i64 b] w fun e w' => e = .returned (.tuple #[.agg (sqc 0 fun _ => 0), .int .i64 2]) ∧ Below w.heap.size w w' := by
  have hH := Has.start1 w (sqc 0 fun _ => 0) 29
  by_cases h0 : 0 ≤ a ∧ a ≤ 2
  · have hi := inB_true h0.1 h0.2
    have hi2 : inB b 0 2 = false := inB_false (fun h2 => h ⟨h0.1, by omega, h2.1, by omega⟩)
    go_enter Try.func21, Try.ntmps21
    go_wp2_with (first | fail | (refine wpL_guard rfl rfl ?_) | (refine wpL_alloc (o := ⟨some 6, _, _, _, _, _⟩) rfl rfl zeroSq ?_; intro g hg; (try simp at hg); subst hg) | (go_at_call 61; refine (l01In_any _ _ _ _).mono ?_; rintro e w' ⟨rfl, rfl⟩; first | rw [hi] | rw [hi2]) | (refine wpL_build rfl rfl builtSq ?_) | (refine wpL_storeSame (x := .tmp 6) rfl rfl rfl rfl rowSq hH.h0 (sqc_ok _ _) ?_))
    exact ret_ct rfl rfl rfl hH.h0 rowSq (sqc_size _ _) ⟨rfl, hH.below⟩
  · have hi : inB a 0 2 = false := inB_false h0
    go_enter Try.func21, Try.ntmps21
    go_wp2_with (first | fail | (refine wpL_guard rfl rfl ?_) | (refine wpL_alloc (o := ⟨some 6, _, _, _, _, _⟩) rfl rfl zeroSq ?_; intro g hg; (try simp at hg); subst hg) | (go_at_call 61; refine (l01In_any _ _ _ _).mono ?_; rintro e w' ⟨rfl, rfl⟩; rw [hi]) | (refine wpL_build rfl rfl builtSq ?_) | (refine wpL_storeSame (x := .tmp 6) rfl rfl rfl rfl rowSq hH.h0 (sqc_ok _ _) ?_))
    exact ret_ct rfl rfl rfl hH.h0 rowSq (sqc_size _ _) ⟨rfl, hH.below⟩
set_option maxRecDepth 20000 in
set_option maxHeartbeats 1600000 in
theorem specQuad5_out (a b : Int) (w : World) (h : ¬ (0 ≤ a ∧ a < 5 ∧ 0 ≤ b ∧ b < 5)) :
    Calls Try.prog 21 #[.int .i64 5, .int .i64 a, .int .i64 b] w fun e w' => e = .returned (.tuple #[.agg (sqc 0 fun _ => 0), .int .i64 2]) ∧ Below w.heap.size w w' := by
  have hH := Has.start1 w (sqc 0 fun _ => 0) 29
  by_cases h0 : 0 ≤ a ∧ a ≤ 4
  · have hi := inB_true h0.1 h0.2
    have hi2 : inB b 0 4 = false := inB_false (fun h2 => h ⟨h0.1, by omega, h2.1, by omega⟩)
    go_enter Try.func21, Try.ntmps21
    go_wp2_with (first | fail | (refine wpL_guard rfl rfl ?_) | (refine wpL_alloc (o := ⟨some 6, _, _, _, _, _⟩) rfl rfl zeroSq ?_; intro g hg; (try simp at hg); subst hg) | (go_at_call 61; refine (l01In_any _ _ _ _).mono ?_; rintro e w' ⟨rfl, rfl⟩; first | rw [hi] | rw [hi2]) | (refine wpL_build rfl rfl builtSq ?_) | (refine wpL_storeSame (x := .tmp 6) rfl rfl rfl rfl rowSq hH.h0 (sqc_ok _ _) ?_))
    exact ret_ct rfl rfl rfl hH.h0 rowSq (sqc_size _ _) ⟨rfl, hH.below⟩
  · have hi : inB a 0 4 = false := inB_false h0
    go_enter Try.func21, Try.ntmps21
    go_wp2_with (first | fail | (refine wpL_guard rfl rfl ?_) | (refine wpL_alloc (o := ⟨some 6, _, _, _, _, _⟩) rfl rfl zeroSq ?_; intro g hg; (try simp at hg); subst hg) | (go_at_call 61; refine (l01In_any _ _ _ _).mono ?_; rintro e w' ⟨rfl, rfl⟩; rw [hi]) | (refine wpL_build rfl rfl builtSq ?_) | (refine wpL_storeSame (x := .tmp 6) rfl rfl rfl rfl rowSq hH.h0 (sqc_ok _ _) ?_))
    exact ret_ct rfl rfl rfl hH.h0 rowSq (sqc_size _ _) ⟨rfl, hH.below⟩
set_option maxRecDepth 20000 in
set_option maxHeartbeats 1600000 in
theorem specQuad7_out (a b : Int) (w : World) (h : ¬ (0 ≤ a ∧ a < 7 ∧ 0 ≤ b ∧ b < 7)) :
    Calls Try.prog 21 #[.int .i64 7, .int .i64 a, .int .i64 b] w fun e w' => e = .returned (.tuple #[.agg (sqc 0 fun _ => 0), .int .i64 2]) ∧ Below w.heap.size w w' := by
  have hH := Has.start1 w (sqc 0 fun _ => 0) 29
  by_cases h0 : 0 ≤ a ∧ a ≤ 6
  · have hi := inB_true h0.1 h0.2
    have hi2 : inB b 0 6 = false := inB_false (fun h2 => h ⟨h0.1, by omega, h2.1, by omega⟩)
    go_enter Try.func21, Try.ntmps21
    go_wp2_with (first | fail | (refine wpL_guard rfl rfl ?_) | (refine wpL_alloc (o := ⟨some 6, _, _, _, _, _⟩) rfl rfl zeroSq ?_; intro g hg; (try simp at hg); subst hg) | (go_at_call 61; refine (l01In_any _ _ _ _).mono ?_; rintro e w' ⟨rfl, rfl⟩; first | rw [hi] | rw [hi2]) | (refine wpL_build rfl rfl builtSq ?_) | (refine wpL_storeSame (x := .tmp 6) rfl rfl rfl rfl rowSq hH.h0 (sqc_ok _ _) ?_))
    exact ret_ct rfl rfl rfl hH.h0 rowSq (sqc_size _ _) ⟨rfl, hH.below⟩
  · have hi : inB a 0 6 = false := inB_false h0
    go_enter Try.func21, Try.ntmps21
    go_wp2_with (first | fail | (refine wpL_guard rfl rfl ?_) | (refine wpL_alloc (o := ⟨some 6, _, _, _, _, _⟩) rfl rfl zeroSq ?_; intro g hg; (try simp at hg); subst hg) | (go_at_call 61; refine (l01In_any _ _ _ _).mono ?_; rintro e w' ⟨rfl, rfl⟩; rw [hi]) | (refine wpL_build rfl rfl builtSq ?_) | (refine wpL_storeSame (x := .tmp 6) rfl rfl rfl rfl rowSq hH.h0 (sqc_ok _ _) ?_))
    exact ret_ct rfl rfl rfl hH.h0 rowSq (sqc_size _ _) ⟨rfl, hH.below⟩
end Go.Proofs.Ytbhjbllgmenbaaa
