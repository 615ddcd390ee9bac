/- Proved: what KernelOf and ImageOf return, of program and model alike. Conditions: those that each theorem names. -/
import Derived.Test.YtphninlinegbbabHp
import Derived.Test.YtphninlinegbbabMl
import Derived.Test.YtphninlinegbbabLc
namespace Go.Proofs.Ytphninlinegbbab
set_option linter.unusedVariables false
set_option linter.unusedSimpArgs false
open Go.RowKit
section
variable (o p : Int) (g h : Nat → UInt8)
set_option maxRecDepth 20000 in
set_option maxHeartbeats 2000000 in
theorem l06Hom_no (v : Value) (w : World) (hs : (loopB o g && loopB p h) = false) :
    Calls Try.prog 75 #[.agg (sqc o g), .agg (sqc p h), v] w fun e w' => e = .returned (.int .i64 1) ∧ Below w.heap.size w w' := by
  have hH := Has.start2 w (sqc o g) (sqc p h) 31 31
  cases h1 : loopB o g with
  | false =>
    go_enter Try.func75, Try.ntmps75
    go_wp2_with (first | fail | (refine wpL_loadFull rfl rfl rfl rowSq hH.h0 (sqc_size _ _) ?_) | (go_at_call 103; refine (l01Loop_any o g _).mono ?_; rintro e w2 ⟨rfl, hb⟩; replace hH := hH.call' hb; clear hb; rw [h1]))
    go_ret
    exact ⟨rfl, hH.below⟩
  | true =>
    have h2 : loopB p h = false := by simpa [h1] using hs
    clear hs
    go_enter Try.func75, Try.ntmps75
    go_wp2_with (first | fail | (refine wpL_guard rfl rfl ?_) | (refine wpL_loadFull rfl rfl rfl rowSq hH.h0 (sqc_size _ _) ?_) | (refine wpL_loadFull rfl rfl rfl rowSq hH.h1 (sqc_size _ _) ?_) | (go_at_call 103; with_reducible refine (l01Loop_any o g _).mono ?_; rintro e w2 ⟨rfl, hb⟩; replace hH := hH.call' hb; clear hb; rw [h1]) | (go_at_call 103; with_reducible refine (l01Loop_any p h _).mono ?_; rintro e w3 ⟨rfl, hb⟩; replace hH := hH.call' hb; clear hb; rw [h2]))
    go_ret
    exact ⟨rfl, hH.below⟩
set_option maxRecDepth 20000 in
set_option maxHeartbeats 2000000 in
theorem l06Hom_two (b n c : Nat) (f : Nat → Int) (z : Int) (w : World) (h1 : loopB o g = true) (h2 : loopB p h = true) (hz : (z == 0) = false) (hR : Row w b n f)
    (hC : Hid (∀ w, Row w b n f → Calls Try.prog 71 #[.agg (sqc o g), .agg (sqc p h), .slice (some ⟨b, 0, none⟩) n c] w fun e w' => e = .returned (.int .i64 z) ∧ Below w.heap.size w w')) :
    Calls Try.prog 75 #[.agg (sqc o g), .agg (sqc p h), .slice (some ⟨b, 0, none⟩) n c] w fun e w' => e = .returned (.int .i64 z) ∧ Below w.heap.size w w' := by
  have hz2 : ¬ (z = 0) := by simpa using hz
  replace hR := hid ((hR.alloc (.cells (sqc o g) 31)).alloc (.cells (sqc p h) 31))
  have hH := Has.start2 w (sqc o g) (sqc p h) 31 31
  go_enter Try.func75, Try.ntmps75
  go_wp2_with (first | fail | (refine wpL_guard rfl rfl ?_) | (refine wpL_loadFull rfl rfl rfl rowSq hH.h0 (sqc_size _ _) ?_) | (refine wpL_loadFull rfl rfl rfl rowSq hH.h1 (sqc_size _ _) ?_) | (go_at_call 103; with_reducible refine (l01Loop_any o g _).mono ?_; rintro e w2 ⟨rfl, hb⟩; replace hH := hH.call' hb; replace hR := hid (hR.out.below hb); clear hb; rw [h1]) | (go_at_call 103; with_reducible refine (l01Loop_any p h _).mono ?_; rintro e w3 ⟨rfl, hb⟩; replace hH := hH.call' hb; replace hR := hid (hR.out.below hb); clear hb; rw [h2]) | (go_at_call 71; refine (hC.out _ hR.out).mono ?_; rintro e w2 ⟨rfl, hb⟩; replace hH := hH.call' hb; clear hb))
  go_ret
  exact ⟨rfl, hH.below⟩
set_option maxRecDepth 20000 in
set_option maxHeartbeats 2000000 in
theorem homCode_no (v : Value) (w : World) (hs : (loopB o g && loopB p h) = false) :
    Calls Try.prog 76 #[.agg (sqc o g), .agg (sqc p h), v] w fun e w' => e = .returned (.int .i64 1) ∧ Below w.heap.size w w' := by
  have hH := Has.start2 w (sqc o g) (sqc p h) 31 31
  cases h1 : loopB o g with
  | false =>
    go_enter Try.func76, Try.ntmps76
    go_wp2_with (first | fail | (refine wpL_loadFull rfl rfl rfl rowSq hH.h0 (sqc_size _ _) ?_) | (go_at_call 108; refine (IsLoop_any o g _).mono ?_; rintro e w2 ⟨rfl, hb⟩; replace hH := hH.call' hb; clear hb; rw [h1]))
    go_ret
    exact ⟨rfl, hH.below⟩
  | true =>
    have h2 : loopB p h = false := by simpa [h1] using hs
    clear hs
    go_enter Try.func76, Try.ntmps76
    go_wp2_with (first | fail | (refine wpL_guard rfl rfl ?_) | (refine wpL_loadFull rfl rfl rfl rowSq hH.h0 (sqc_size _ _) ?_) | (refine wpL_loadFull rfl rfl rfl rowSq hH.h1 (sqc_size _ _) ?_) | (go_at_call 108; with_reducible refine (IsLoop_any o g _).mono ?_; rintro e w2 ⟨rfl, hb⟩; replace hH := hH.call' hb; clear hb; rw [h1]) | (go_at_call 108; with_reducible refine (IsLoop_any p h _).mono ?_; rintro e w3 ⟨rfl, hb⟩; replace hH := hH.call' hb; clear hb; rw [h2]))
    go_ret
    exact ⟨rfl, hH.below⟩
set_option maxRecDepth 20000 in
set_option maxHeartbeats 2000000 in
theorem homCode_by (b n c : Nat) (f : Nat → Int) (r : Bool) (z y : Int) (w : World) (h1 : loopB o g = true) (h2 : loopB p h = true) (hR : Row w b n f) (hy : (z ≠ 0 ∧ y = z) ∨ (z = 0 ∧ r = true ∧ y = 0) ∨ (z = 0 ∧ r = false ∧ y = 5))
    (hC : Hid (∀ w, Row w b n f → Calls Try.prog 39 #[.agg (sqc o g), .agg (sqc p h), .slice (some ⟨b, 0, none⟩) n c] w fun e w' => e = .returned (.tuple #[.bool r, .int .i64 z]) ∧ Below w.heap.size w w')) :
    Calls Try.prog 76 #[.agg (sqc o g), .agg (sqc p h), .slice (some ⟨b, 0, none⟩) n c] w fun e w' => e = .returned (.int .i64 y) ∧ Below w.heap.size w w' := by
  replace hR := hid ((hR.alloc (.cells (sqc o g) 31)).alloc (.cells (sqc p h) 31))
  have hH := Has.start2 w (sqc o g) (sqc p h) 31 31
  rcases hy with ⟨hz, rfl⟩ | ⟨rfl, rfl, rfl⟩ | ⟨rfl, rfl, rfl⟩
  all_goals
    go_enter Try.func76, Try.ntmps76
    go_wp2_with (first | fail | (refine wpL_guard rfl rfl ?_) | (refine wpL_loadFull rfl rfl rfl rowSq hH.h0 (sqc_size _ _) ?_) | (refine wpL_loadFull rfl rfl rfl rowSq hH.h1 (sqc_size _ _) ?_) | (go_at_call 108; with_reducible refine (IsLoop_any o g _).mono ?_; rintro e w2 ⟨rfl, hb⟩; replace hH := hH.call' hb; replace hR := hid (hR.out.below hb); clear hb; rw [h1]) | (go_at_call 108; with_reducible refine (IsLoop_any p h _).mono ?_; rintro e w3 ⟨rfl, hb⟩; replace hH := hH.call' hb; replace hR := hid (hR.out.below hb); clear hb; rw [h2]) | (go_at_call 39; refine (hC.out _ hR.out).mono ?_; rintro e w2 ⟨rfl, hb⟩; replace hH := hH.call' hb; clear hb))
    go_ret
    exact ⟨rfl, hH.below⟩
end
set_option maxRecDepth 20000 in
set_option maxHeartbeats 2000000 in
theorem l06Hom_in (N M b c : Nat) (g h : Nat → UInt8) (a : Nat → Nat) (y : Int) (w : World) (hl1 : loopB (N : Int) g = true) (hl2 : loopB (M : Int) h = true) (h1 : sqB (N : Int) g = true) (h2 : sqB (M : Int) h = true) (hq : IsSq N g) (hr : IsSq M h) (ha : ∀ i, i < N → a i < M) (hR : Row w b N (fun i => (a i : Int)))
    (hy : (homB N g h a = true ∧ y = 0) ∨ (homB N g h a = false ∧ y = 5)) :
    Calls Try.prog 75 #[.agg (sqc N g), .agg (sqc M h), .slice (some ⟨b, 0, none⟩) N c] w fun e w' => e = .returned (.int .i64 y) ∧ Below w.heap.size w w' := by
  have h10 := hq.hi
  have HQ := hid hq
  have HM := hid hr
  have HA := hid ha
  have HF := hid (show ∀ i, i < N → 0 ≤ ((a i : Nat) : Int) ∧ ((a i : Nat) : Int) < M from fun i hi => by have := ha i hi; omega)
  clear hq hr ha
  replace hR := hid ((hR.alloc (.cells (sqc N g) 31)).alloc (.cells (sqc M h) 31))
  have hH := Has.start2 w (sqc N g) (sqc M h) 31 31
  rcases hy with ⟨he, rfl⟩ | ⟨he, rfl⟩
  all_goals
    have HE := hid he
    clear he
    go_enter Try.func75, Try.ntmps75
    go_wp2_with (first | fail | (refine wpL_guard rfl rfl ?_) | (refine wpL_loadFull rfl rfl rfl rowSq hH.h0 (sqc_size _ _) ?_) | (refine wpL_loadFull rfl rfl rfl rowSq hH.h1 (sqc_size _ _) ?_) | (go_at_call 103; with_reducible refine (l01Loop_any N g _).mono ?_; rintro e w2 ⟨rfl, hb⟩; replace hH := hH.call' hb; replace hR := hid (hR.out.below hb); clear hb; rw [hl1]) | (go_at_call 103; with_reducible refine (l01Loop_any M h _).mono ?_; rintro e w3 ⟨rfl, hb⟩; replace hH := hH.call' hb; replace hR := hid (hR.out.below hb); clear hb; rw [hl2]) | (go_at_call 71; refine (l06Two_all N M N b c g h _ _ h1 h2 (by omega) hR.out HF.out 0 (.inl ⟨rfl, rfl⟩)).mono ?_; rintro e w2 ⟨rfl, hb⟩; replace hH := hH.call' hb; replace hR := hid (hR.out.below hb); clear hb) | (go_at_call 72; refine (l06Is_any N M b c g h a _ HQ.out HM.out HA.out hR.out).mono ?_; rintro e w2 ⟨rfl, hb⟩; rw [HE.out]; replace hH := hH.call' hb; clear hb))
    go_ret
    exact ⟨rfl, hH.below⟩
noncomputable def imgB (a : Nat → Nat) (k y : Nat) : Bool := @decide (∃ i, i < k ∧ a i = y) (Classical.propDecidable _)
theorem imgB_iff {a : Nat → Nat} {k y : Nat} : imgB a k y = true ↔ ∃ i, i < k ∧ a i = y := by unfold imgB; exact @decide_eq_true_iff _ (Classical.propDecidable _)
theorem imgB_zero (a : Nat → Nat) (y : Nat) : imgB a 0 y = false := by
  cases e : imgB a 0 y with
  | false => rfl
  | true => obtain ⟨i, hi, _⟩ := imgB_iff.1 e; omega
theorem imgB_step (a : Nat → Nat) (k y : Nat) : imgB a (k + 1) y = if y = a k then true else imgB a k y := by
  by_cases e : y = a k
  · rw [if_pos e]; exact imgB_iff.2 ⟨k, by omega, e.symm⟩
  · rw [if_neg e]
    cases e1 : imgB a k y with
    | true => obtain ⟨i, hi, h⟩ := imgB_iff.1 e1; exact imgB_iff.2 ⟨i, by omega, h⟩
    | false =>
      cases e2 : imgB a (k + 1) y with
      | false => rfl
      | true =>
        obtain ⟨i, hi, h⟩ := imgB_iff.1 e2
        by_cases ei : i = k
        · subst ei; exact absurd h.symm e
        · rw [imgB_iff.2 ⟨i, by omega, h⟩] at e1; cases e1
set_option maxHeartbeats 1000000 in
theorem l01Has_any (b n c y : Nat) (a : Nat → Nat) (w : World) (hn : n ≤ 1000) (hR : Row w b n (fun i => (a i : Int))) :
    Calls Try.prog 78 #[.slice (some ⟨b, 0, none⟩) n c, .int .i64 y] w fun e w' => e = .returned (.bool (imgB a n y)) ∧ w = w' := by
  have HR := hid hR
  clear hR
  go_enter Try.func78, Try.ntmps78
  go_wp2
  go_loop [5] (fun i => ∃ k : Nat, k ≤ n ∧ i = .int .i64 k ∧ Hid (imgB a k y = false)) (fun i => n - (intOf i).toNat)
  case atStart => exact ⟨0, by omega, rfl, imgB_zero a y⟩
  case round =>
    obtain ⟨k, hk, rfl, hU⟩ := hrel
    by_cases hlt : k < n
    · have hk2 : (k : Int) < n := by omega
      have cl := HR.out.cell hlt
      by_cases e : a k = y
      · have e' : ((a k : Nat) : Int) = (y : Int) := by omega
        have hyes := hid (imgB_iff.2 ⟨k, hlt, e⟩)
        clear e
        go_wp2
        go_ret
        exact ⟨by rw [hyes.out]; rfl, rfl⟩
      · have e' : ¬ ((a k : Nat) : Int) = (y : Int) := by omega
        have hU' := hid (show imgB a (k + 1) y = false by rw [imgB_step, if_neg (fun h => e h.symm)]; exact hU.out)
        go_wp2
        go_round
        case rel => exact ⟨k + 1, by omega, by go_num, hU'⟩
        case measure => simp [intOf]; omega
    · obtain rfl : k = n := by omega
      go_wp2
      go_ret
      exact ⟨by rw [hU.out]; rfl, rfl⟩
/-- Is x led to 0? -/
def kerP (a : Nat → Nat) (x : Nat) : Bool := decide (a x = 0)
theorem kerP_iff {a : Nat → Nat} {x : Nat} : kerP a x = true ↔ a x = 0 := by unfold kerP; exact decide_eq_true_iff
def kerF (a : Nat → Nat) (k : Nat) : Nat → Bool := fun i => decide (i < k) && kerP a i
theorem kerF_zero (a : Nat → Nat) : kerF a 0 = fun _ => false := by funext i; simp [kerF]
theorem kerF_step (a : Nat → Nat) (k j : Nat) : kerF a (k + 1) j = if j = k then kerP a k else kerF a k j := by
  unfold kerF
  by_cases e : j = k
  · subst e; simp
  · rw [if_neg e]; congr 1; simp only [decide_eq_decide]; omega
theorem ker_list (a : Nat → Nat) {N : Nat} (h10 : N ≤ 10) : selL (kerF a N) 10 = selL (kerP a) N := by
  rw [selL_up (n := N) (fun i hi => by unfold kerF; simp; omega) h10]
  exact selL_congr fun i hi => by unfold kerF; simp [hi]
theorem img_list {a : Nat → Nat} {N M : Nat} (ha : ∀ i, i < N → a i < M) (m10 : M ≤ 10) : selL (imgB a N) 10 = selL (imgB a N) M :=
  selL_up (fun y hy => by
    cases e : imgB a N y with
    | false => rfl
    | true => obtain ⟨i, hi, h⟩ := imgB_iff.1 e; have := ha i hi; omega) m10
set_option maxRecDepth 20000 in
set_option maxHeartbeats 1000000 in
theorem specKernelOf_err (o p : Int) (g h : Nat → UInt8) (b n c : Nat) (f : Nat → Int) (z : Int) (w : World) (hz : (z == 0) = false) (hR : Row w b n f)
    (hC : Hid (∀ w, Row w b n f → Calls Try.prog 75 #[.agg (sqc o g), .agg (sqc p h), .slice (some ⟨b, 0, none⟩) n c] w fun e w' => e = .returned (.int .i64 z) ∧ Below w.heap.size w w')) :
    Calls Try.prog 40 #[.agg (sqc o g), .agg (sqc p h), .slice (some ⟨b, 0, none⟩) n c] w fun e w' => e = .returned (.tuple #[.slice none 0 0, .int .i64 z]) ∧ Below w.heap.size w w' := by
  have hz2 : ¬ (z = 0) := by simpa using hz
  replace hR := hid ((hR.alloc (.cells (sqc o g) 31)).alloc (.cells (sqc p h) 31))
  have hH := Has.start2 w (sqc o g) (sqc p h) 31 31
  go_enter Try.func40, Try.ntmps40
  go_wp2_with (first | fail | (refine wpL_loadFull rfl rfl rfl rowSq hH.h0 (sqc_size _ _) ?_) | (refine wpL_loadFull rfl rfl rfl rowSq hH.h1 (sqc_size _ _) ?_) | (go_at_call 75; refine (hC.out _ hR.out).mono ?_; rintro e w2 ⟨rfl, hb⟩; replace hH := hH.call' hb; clear hb))
  go_ret2
  exact ⟨rfl, hH.below⟩
set_option maxRecDepth 20000 in
set_option maxHeartbeats 1000000 in
theorem implKernelOf_err (o p : Int) (g h : Nat → UInt8) (b n c : Nat) (f : Nat → Int) (z : Int) (w : World) (hz : (z == 0) = false) (hR : Row w b n f)
    (hC : Hid (∀ w, Row w b n f → Calls Try.prog 76 #[.agg (sqc o g), .agg (sqc p h), .slice (some ⟨b, 0, none⟩) n c] w fun e w' => e = .returned (.int .i64 z) ∧ Below w.heap.size w w')) :
    Calls Try.prog 41 #[.agg (sqc o g), .agg (sqc p h), .slice (some ⟨b, 0, none⟩) n c] w fun e w' => e = .returned (.tuple #[.slice none 0 0, .int .i64 z]) ∧ Below w.heap.size w w' := by
  have hz2 : ¬ (z = 0) := by simpa using hz
  replace hR := hid ((hR.alloc (.cells (sqc o g) 31)).alloc (.cells (sqc p h) 31))
  have hH := Has.start2 w (sqc o g) (sqc p h) 31 31
  go_enter Try.func41, Try.ntmps41
  go_wp2_with (first | fail | (refine wpL_loadFull rfl rfl rfl rowSq hH.h0 (sqc_size _ _) ?_) | (refine wpL_loadFull rfl rfl rfl rowSq hH.h1 (sqc_size _ _) ?_) | (go_at_call 76; refine (hC.out _ hR.out).mono ?_; rintro e w2 ⟨rfl, hb⟩; replace hH := hH.call' hb; clear hb))
  go_ret2
  exact ⟨rfl, hH.below⟩
set_option maxRecDepth 20000 in
set_option maxHeartbeats 1000000 in
theorem specImageOf_err (o p : Int) (g h : Nat → UInt8) (b n c : Nat) (f : Nat → Int) (z : Int) (w : World) (hz : (z == 0) = false) (hR : Row w b n f)
    (hC : Hid (∀ w, Row w b n f → Calls Try.prog 75 #[.agg (sqc o g), .agg (sqc p h), .slice (some ⟨b, 0, none⟩) n c] w fun e w' => e = .returned (.int .i64 z) ∧ Below w.heap.size w w')) :
    Calls Try.prog 42 #[.agg (sqc o g), .agg (sqc p h), .slice (some ⟨b, 0, none⟩) n c] w fun e w' => e = .returned (.tuple #[.slice none 0 0, .int .i64 z]) ∧ Below w.heap.size w w' := by
  have hz2 : ¬ (z = 0) := by simpa using hz
  replace hR := hid ((hR.alloc (.cells (sqc o g) 31)).alloc (.cells (sqc p h) 31))
  have hH := Has.start2 w (sqc o g) (sqc p h) 31 31
  go_enter Try.func42, Try.ntmps42
  go_wp2_with (first | fail | (refine wpL_loadFull rfl rfl rfl rowSq hH.h0 (sqc_size _ _) ?_) | (refine wpL_loadFull rfl rfl rfl rowSq hH.h1 (sqc_size _ _) ?_) | (go_at_call 75; refine (hC.out _ hR.out).mono ?_; rintro e w2 ⟨rfl, hb⟩; replace hH := hH.call' hb; clear hb))
  go_ret2
  exact ⟨rfl, hH.below⟩
set_option maxRecDepth 20000 in
set_option maxHeartbeats 1000000 in
theorem implImageOf_err (o p : Int) (g h : Nat → UInt8) (b n c : Nat) (f : Nat → Int) (z : Int) (w : World) (hz : (z == 0) = false) (hR : Row w b n f)
    (hC : Hid (∀ w, Row w b n f → Calls Try.prog 76 #[.agg (sqc o g), .agg (sqc p h), .slice (some ⟨b, 0, none⟩) n c] w fun e w' => e = .returned (.int .i64 z) ∧ Below w.heap.size w w')) :
    Calls Try.prog 43 #[.agg (sqc o g), .agg (sqc p h), .slice (some ⟨b, 0, none⟩) n c] w fun e w' => e = .returned (.tuple #[.slice none 0 0, .int .i64 z]) ∧ Below w.heap.size w w' := by
  have hz2 : ¬ (z = 0) := by simpa using hz
  replace hR := hid ((hR.alloc (.cells (sqc o g) 31)).alloc (.cells (sqc p h) 31))
  have hH := Has.start2 w (sqc o g) (sqc p h) 31 31
  go_enter Try.func43, Try.ntmps43
  go_wp2_with (first | fail | (refine wpL_loadFull rfl rfl rfl rowSq hH.h0 (sqc_size _ _) ?_) | (refine wpL_loadFull rfl rfl rfl rowSq hH.h1 (sqc_size _ _) ?_) | (go_at_call 76; refine (hC.out _ hR.out).mono ?_; rintro e w2 ⟨rfl, hb⟩; replace hH := hH.call' hb; clear hb))
  go_ret2
  exact ⟨rfl, hH.below⟩
set_option maxRecDepth 20000 in
set_option maxHeartbeats 4000000 in
theorem specKernelOf_in (N M b c : Nat) (g h : Nat → UInt8) (a : Nat → Nat) (w : World) (h1 : 1 ≤ N) (h10 : N ≤ 10) (m1 : 1 ≤ M) (m10 : M ≤ 10) (ha : ∀ i, i < N → a i < M) (hR : Row w b N (fun i => (a i : Int)))
    (hC : Hid (∀ w, Row w b N (fun i => (a i : Int)) → Calls Try.prog 75 #[.agg (sqc N g), .agg (sqc M h), .slice (some ⟨b, 0, none⟩) N c] w fun e w' => e = .returned (.int .i64 0) ∧ Below w.heap.size w w')) :
    Calls Try.prog 40 #[.agg (sqc N g), .agg (sqc M h), .slice (some ⟨b, 0, none⟩) N c] w (GotL (selL (kerP a) N) 0 w) := by
  have HA := hid ha
  clear ha
  have hbw := hR.lt
  replace hR := hid ((hR.alloc (.cells (sqc N g) 31)).alloc (.cells (sqc M h) 31))
  have hH := Has.start2 w (sqc N g) (sqc M h) 31 31
  go_enter Try.func40, Try.ntmps40
  go_wp2_with (first | fail | (refine wpL_loadFull rfl rfl rfl rowSq hH.h0 (sqc_size _ _) ?_) | (refine wpL_loadFull rfl rfl rfl rowSq hH.h1 (sqc_size _ _) ?_) | (go_at_call 75; refine (hC.out _ hR.out).mono ?_; rintro e w2 ⟨rfl, hb⟩; replace hH := hH.call' hb; replace hR := hid (hR.out.below hb); clear hb))
  have hz0 := hH.size
  simp only [List.length_cons, List.length_nil] at hz0
  have hO := hid (OL.fresh w2 (B := w.heap.size + 2) (by omega) rfl)
  replace hR := hid (hR.out.alloc (.cells #[] 2))
  go_loopw [9, 10] (fun v i wr => ∃ k : Nat, k ≤ N ∧ i = .int .i64 k ∧ Has w wr [(sqc N g, 31), (sqc M h, 31)] ∧ Hid (Row wr b N (fun i => (a i : Int))) ∧ Hid (OL wr (w.heap.size + 2) v (selL (kerP a) k))) (fun _ i _ => 20 - (intOf i).toNat)
  case atStart => exact ⟨0, by omega, rfl, hH.alloc _, hR, hO⟩
  case round =>
    clear hH hO hR hz0
    obtain ⟨k, hk, rfl, hH, hR, hO⟩ := hrel
    have hsz := hH.size
    simp only [List.length_cons, List.length_nil] at hsz
    have hlen := selL_len (kerP a) k
    have cz : wr.cell? ⟨w.heap.size, 0, none⟩ = some (.int .i64 N) := by rw [hH.c0, sqc_get0]
    by_cases hlt : k < N
    · have hk1 : (k : Int) < N := by omega
      have cl := hR.out.cell hlt
      cases he : kerP a k with
      | true =>
        have HE := hid he
        have e0 : ((a k : Nat) : Int) = 0 := by have := kerP_iff.1 he; omega
        have e1 : (((a k : Nat) : Int) == 0) = true := by simpa using e0
        clear he
        go_wp2_with (first | fail | (refine wpL_appI (v := u9) (n := (selL (kerP a) k).length) (base := w.heap.size + 2) (z := (k : Int)) rfl (by rfl) (by rfl) (by rfl) (World.ownsRow.alloc hO.out _) (by simp) (by omega) (by simp; omega) ?_; intro r cap w2 how hg hor hlt3; have hO2 := hid (OL.add how); replace hR := hid ((hR.out.alloc _).grown' hg (fun e => by have := (World.ownsRow.lt hO.out b e).1; omega)); replace hH := (hH.alloc _).grown hg (fun x hx => by have := (World.ownsRow.lt hO.out x hx).1; simp; omega); rw [← selL_yes HE.out] at hO2; clear how hg hor hlt3))
        go_roundw
        case rel => exact ⟨k + 1, by omega, by go_num, hH, hR, hO2⟩
        case measure => simp [intOf]; omega
      | false =>
        have HE := hid he
        have e0 : ¬ ((a k : Nat) : Int) = 0 := by intro h; rw [kerP_iff.2 (by omega)] at he; cases he
        have e1 : (((a k : Nat) : Int) == 0) = false := by simpa using e0
        clear he
        go_wp2
        go_roundw
        case rel => exact ⟨k + 1, by omega, by go_num, hH, hR, by rw [selL_no HE.out]; exact hO⟩
        case measure => simp [intOf]; omega
    · obtain rfl : k = N := by omega
      go_wp2
      go_ret2
      exact hO.out.got hH.below (by omega)
set_option maxRecDepth 20000 in
set_option maxHeartbeats 4000000 in
theorem specImageOf_in (N M b c : Nat) (g h : Nat → UInt8) (a : Nat → Nat) (w : World) (h1 : 1 ≤ N) (h10 : N ≤ 10) (m1 : 1 ≤ M) (m10 : M ≤ 10) (ha : ∀ i, i < N → a i < M) (hR : Row w b N (fun i => (a i : Int)))
    (hC : Hid (∀ w, Row w b N (fun i => (a i : Int)) → Calls Try.prog 75 #[.agg (sqc N g), .agg (sqc M h), .slice (some ⟨b, 0, none⟩) N c] w fun e w' => e = .returned (.int .i64 0) ∧ Below w.heap.size w w')) :
    Calls Try.prog 42 #[.agg (sqc N g), .agg (sqc M h), .slice (some ⟨b, 0, none⟩) N c] w (GotL (selL (imgB a N) M) 0 w) := by
  have HA := hid ha
  clear ha
  have hbw := hR.lt
  replace hR := hid ((hR.alloc (.cells (sqc N g) 31)).alloc (.cells (sqc M h) 31))
  have hH := Has.start2 w (sqc N g) (sqc M h) 31 31
  go_enter Try.func42, Try.ntmps42
  go_wp2_with (first | fail | (refine wpL_loadFull rfl rfl rfl rowSq hH.h0 (sqc_size _ _) ?_) | (refine wpL_loadFull rfl rfl rfl rowSq hH.h1 (sqc_size _ _) ?_) | (go_at_call 75; refine (hC.out _ hR.out).mono ?_; rintro e w2 ⟨rfl, hb⟩; replace hH := hH.call' hb; replace hR := hid (hR.out.below hb); clear hb))
  have hz0 := hH.size
  simp only [List.length_cons, List.length_nil] at hz0
  have hO := hid (OL.fresh w2 (B := w.heap.size + 2) (by omega) rfl)
  replace hR := hid (hR.out.alloc (.cells #[] 2))
  go_loopw [9, 10] (fun v i wr => ∃ k : Nat, k ≤ M ∧ i = .int .i64 k ∧ Has w wr [(sqc N g, 31), (sqc M h, 31)] ∧ Hid (Row wr b N (fun i => (a i : Int))) ∧ Hid (OL wr (w.heap.size + 2) v (selL (imgB a N) k))) (fun _ i _ => 20 - (intOf i).toNat)
  case atStart => exact ⟨0, by omega, rfl, hH.alloc _, hR, hO⟩
  case round =>
    clear hH hO hR hz0
    obtain ⟨k, hk, rfl, hH, hR, hO⟩ := hrel
    have hsz := hH.size
    simp only [List.length_cons, List.length_nil] at hsz
    have hlen := selL_len (imgB a N) k
    have cz : wr.cell? ⟨w.heap.size + 1, 0, none⟩ = some (.int .i64 M) := by rw [hH.c1, sqc_get0]
    by_cases hlt : k < M
    · have hk1 : (k : Int) < M := by omega
      cases he : imgB a N k with
      | true =>
        have HE := hid he
        go_wp2_with (first | fail | (go_at_call 78; refine (l01Has_any b N c k a _ (by omega) hR.out).mono ?_; rintro e w3 ⟨rfl, rfl⟩; rw [HE.out]) | (refine wpL_appI (v := u9) (n := (selL (imgB a N) k).length) (base := w.heap.size + 2) (z := (k : Int)) rfl (by rfl) (by rfl) (by rfl) (World.ownsRow.alloc hO.out _) (by simp) (by omega) (by simp; omega) ?_; intro r cap w2 how hg hor hlt3; have hO2 := hid (OL.add how); replace hR := hid ((hR.out.alloc _).grown' hg (fun e => by have := (World.ownsRow.lt hO.out b e).1; omega)); replace hH := (hH.alloc _).grown hg (fun x hx => by have := (World.ownsRow.lt hO.out x hx).1; simp; omega); rw [← selL_yes HE.out] at hO2; clear how hg hor hlt3))
        go_roundw
        case rel => exact ⟨k + 1, by omega, by go_num, hH, hR, hO2⟩
        case measure => simp [intOf]; omega
      | false =>
        have HE := hid he
        go_wp2_with (first | fail | (go_at_call 78; refine (l01Has_any b N c k a _ (by omega) hR.out).mono ?_; rintro e w3 ⟨rfl, rfl⟩; rw [HE.out]))
        go_roundw
        case rel => exact ⟨k + 1, by omega, by go_num, hH, hR, by rw [selL_no HE.out]; exact hO⟩
        case measure => simp [intOf]; omega
    · obtain rfl : k = M := by omega
      go_wp2
      go_ret2
      exact hO.out.got hH.below (by omega)
set_option maxRecDepth 20000 in
set_option maxHeartbeats 4000000 in
theorem implKernelOf_in (N M b c : Nat) (g h : Nat → UInt8) (a : Nat → Nat) (w : World) (h1 : 1 ≤ N) (h10 : N ≤ 10) (m1 : 1 ≤ M) (m10 : M ≤ 10) (ha : ∀ i, i < N → a i < M) (hR : Row w b N (fun i => (a i : Int)))
    (hC : Hid (∀ w, Row w b N (fun i => (a i : Int)) → Calls Try.prog 76 #[.agg (sqc N g), .agg (sqc M h), .slice (some ⟨b, 0, none⟩) N c] w fun e w' => e = .returned (.int .i64 0) ∧ Below w.heap.size w w')) :
    Calls Try.prog 41 #[.agg (sqc N g), .agg (sqc M h), .slice (some ⟨b, 0, none⟩) N c] w (GotL (selL (kerP a) N) 0 w) := by
  have HA := hid ha
  clear ha
  have hbw := hR.lt
  have HL := hid (show selL (kerF a N) 10 = selL (kerP a) N from ker_list a h10)
  replace hR := hid ((hR.alloc (.cells (sqc N g) 31)).alloc (.cells (sqc M h) 31))
  have hH := Has.start2 w (sqc N g) (sqc M h) 31 31
  go_enter Try.func41, Try.ntmps41
  go_wp2_with (first | fail | (refine wpL_loadFull rfl rfl rfl rowSq hH.h0 (sqc_size _ _) ?_) | (refine wpL_loadFull rfl rfl rfl rowSq hH.h1 (sqc_size _ _) ?_) | (go_at_call 76; refine (hC.out _ hR.out).mono ?_; rintro e w2 ⟨rfl, hb⟩; replace hH := hH.call' hb; replace hR := hid (hR.out.below hb); clear hb) | (refine wpL_allocN (o := ⟨some 9, _, _, _, _, _⟩) rfl rfl zeroMe ?_; intro gr w4 hgr hl hb; have hlo : w.heap.size + 2 ≤ gr := (by have := hH.size; simp only [List.length_cons, List.length_nil] at this; omega); replace hH := hH.call' hb; replace hR := hid (hR.out.below hb); clear hb))
  go_loopw [21] (fun i wr => ∃ k : Nat, k ≤ N ∧ i = .int .i64 k ∧ Has w wr [(sqc N g, 31), (sqc M h, 31)] ∧ Hid (Row wr b N (fun i => (a i : Int))) ∧ Hid (holds wr gr (bls 10 (kerF a k)) 80)) (fun i _ => 20 - (intOf i).toNat)
  case atStart => exact ⟨0, by omega, rfl, hH, hR, hid (by rw [show kerF a 0 = fun _ => false from kerF_zero a]; exact hgr)⟩
  case round =>
    clear hH hR hgr
    obtain ⟨k, hk, rfl, hH, hR, hgr⟩ := hrel
    have hsz := hH.size
    simp only [List.length_cons, List.length_nil] at hsz
    by_cases hlt : k < N
    · have hk1 : (k : Int) < N := by omega
      have hk2 : (k : Int) < 10 := by omega
      have cl := hR.out.cell hlt
      have hak := HA.out k hlt
      have hak1 : ((a k : Nat) : Int) < 10 := by omega
      have fr := holds_frozen hgr.out
      have cg : wr.cell? ⟨gr, k, none⟩ = some (.bool (kerF a k k)) := by rw [holds_cell hgr.out, bls_get _ _ _ (by omega)]
      cases he : kerP a k with
      | true =>
        have e0 : ((a k : Nat) : Int) = 0 := by have := kerP_iff.1 he; omega
        have e1 : (((a k : Nat) : Int) == 0) = true := by simpa using e0
        have HE := hid he
        clear he
        go_wp2
        go_roundw
        case rel => exact ⟨k + 1, by omega, by go_num, hH.setCellAbove hlo _ _, hid (hR.out.block (heap_setCell_other _ _ _ _ (by simp; omega))), hid (by have := holds_set hgr.out k (.bool true); rwa [bls_step 10 _ (kerF a (k + 1)) k true (fun j _ => by rw [kerF_step, HE.out])] at this)⟩
        case measure => simp [intOf]; omega
      | false =>
        have e0 : ¬ ((a k : Nat) : Int) = 0 := by intro h; rw [kerP_iff.2 (by omega)] at he; cases he
        have e1 : (((a k : Nat) : Int) == 0) = false := by simpa using e0
        have HE := hid he
        clear he
        go_wp2
        go_roundw
        case rel => exact ⟨k + 1, by omega, by go_num, hH.setCellAbove hlo _ _, hid (hR.out.block (heap_setCell_other _ _ _ _ (by simp; omega))), hid (by have := holds_set hgr.out k (.bool false); rwa [bls_step 10 _ (kerF a (k + 1)) k false (fun j _ => by rw [kerF_step, HE.out])] at this)⟩
        case measure => simp [intOf]; omega
    · obtain rfl : k = N := by omega
      go_wp2_with (first | fail | (refine wpL_loadFull rfl rfl rfl rowMe hgr.out (bls_size _ _) ?_) | (go_at_call 77; refine (membersList_any _ _).mono ?_; rintro e w5 ⟨v, rfl, hb, hO⟩; rw [HL.out] at hO; replace hH := hH.call' hb; clear hb))
      go_ret2
      exact hO.got hH.below (by omega)
set_option maxRecDepth 20000 in
set_option maxHeartbeats 4000000 in
theorem implImageOf_in (N M b c : Nat) (g h : Nat → UInt8) (a : Nat → Nat) (w : World) (h1 : 1 ≤ N) (h10 : N ≤ 10) (m1 : 1 ≤ M) (m10 : M ≤ 10) (ha : ∀ i, i < N → a i < M) (hR : Row w b N (fun i => (a i : Int)))
    (hC : Hid (∀ w, Row w b N (fun i => (a i : Int)) → Calls Try.prog 76 #[.agg (sqc N g), .agg (sqc M h), .slice (some ⟨b, 0, none⟩) N c] w fun e w' => e = .returned (.int .i64 0) ∧ Below w.heap.size w w')) :
    Calls Try.prog 43 #[.agg (sqc N g), .agg (sqc M h), .slice (some ⟨b, 0, none⟩) N c] w (GotL (selL (imgB a N) M) 0 w) := by
  have HA := hid ha
  clear ha
  have hbw := hR.lt
  have HL := hid (show selL (imgB a N) 10 = selL (imgB a N) M from img_list HA.out m10)
  replace hR := hid ((hR.alloc (.cells (sqc N g) 31)).alloc (.cells (sqc M h) 31))
  have hH := Has.start2 w (sqc N g) (sqc M h) 31 31
  go_enter Try.func43, Try.ntmps43
  go_wp2_with (first | fail | (refine wpL_loadFull rfl rfl rfl rowSq hH.h0 (sqc_size _ _) ?_) | (refine wpL_loadFull rfl rfl rfl rowSq hH.h1 (sqc_size _ _) ?_) | (go_at_call 76; refine (hC.out _ hR.out).mono ?_; rintro e w2 ⟨rfl, hb⟩; replace hH := hH.call' hb; replace hR := hid (hR.out.below hb); clear hb) | (refine wpL_allocN (o := ⟨some 9, _, _, _, _, _⟩) rfl rfl zeroMe ?_; intro gr w4 hgr hl hb; have hlo : w.heap.size + 2 ≤ gr := (by have := hH.size; simp only [List.length_cons, List.length_nil] at this; omega); replace hH := hH.call' hb; replace hR := hid (hR.out.below hb); clear hb))
  go_loopw [21] (fun i wr => ∃ k : Nat, k ≤ N ∧ i = .int .i64 k ∧ Has w wr [(sqc N g, 31), (sqc M h, 31)] ∧ Hid (Row wr b N (fun i => (a i : Int))) ∧ Hid (holds wr gr (bls 10 (imgB a k)) 80)) (fun i _ => 20 - (intOf i).toNat)
  case atStart => exact ⟨0, by omega, rfl, hH, hR, hid (by rw [show imgB a 0 = fun _ => false from funext fun y => imgB_zero a y]; exact hgr)⟩
  case round =>
    clear hH hR hgr
    obtain ⟨k, hk, rfl, hH, hR, hgr⟩ := hrel
    have hsz := hH.size
    simp only [List.length_cons, List.length_nil] at hsz
    by_cases hlt : k < N
    · have hk1 : (k : Int) < N := by omega
      have hk2 : (k : Int) < 10 := by omega
      have cl := hR.out.cell hlt
      have hak := HA.out k hlt
      have hak1 : ((a k : Nat) : Int) < 10 := by omega
      have fr := holds_frozen hgr.out
      have cg : wr.cell? ⟨gr, a k, none⟩ = some (.bool (imgB a k (a k))) := by rw [holds_cell hgr.out, bls_get _ _ _ (by omega)]
      go_wp2
      go_roundw
      case rel => exact ⟨k + 1, by omega, by go_num, hH.setCellAbove hlo _ _, hid (hR.out.block (heap_setCell_other _ _ _ _ (by simp; omega))), hid (by have := holds_set hgr.out (a k) (.bool true); rwa [bls_step 10 _ (imgB a (k + 1)) (a k) true (fun j _ => imgB_step a k j)] at this)⟩
      case measure => simp [intOf]; omega
    · obtain rfl : k = N := by omega
      go_wp2_with (first | fail | (refine wpL_loadFull rfl rfl rfl rowMe hgr.out (bls_size _ _) ?_) | (go_at_call 77; refine (membersList_any _ _).mono ?_; rintro e w5 ⟨v, rfl, hb, hO⟩; rw [HL.out] at hO; replace hH := hH.call' hb; clear hb))
      go_ret2
      exact hO.got hH.below (by omega)
end Go.Proofs.Ytphninlinegbbab
