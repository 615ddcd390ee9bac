/- Proved: what IsIdempotent and IsUnipotent return, of program and model alike. Conditions: those that each theorem names. -/
import Derived.Test.YtfkmhephabmolaaSq3b
import Derived.Test.YtfkmhephabmolaaSq5
import Derived.Test.YtfkmhephabmolaaSr
namespace Go.Proofs.Ytfkmhephabmolaa
set_option linter.unusedVariables false
set_option linter.unusedSimpArgs false
open Go.RowKit
def idemTo (g : Nat → UInt8) (k : Nat) : Prop := ∀ x, x < k → (g (x * 11)).toNat = x
instance (g : Nat → UInt8) (k : Nat) : Decidable (idemTo g k) := inferInstanceAs (Decidable (∀ x, x < k → _))
def unipTo (g : Nat → UInt8) (k : Nat) : Prop := ∀ x, x < k → (g (x * 11)).toNat = (g 0).toNat
instance (g : Nat → UInt8) (k : Nat) : Decidable (unipTo g k) := inferInstanceAs (Decidable (∀ x, x < k → _))
def idemB (N : Nat) (g : Nat → UInt8) : Bool := decide (idemTo g N)
def unipB (N : Nat) (g : Nat → UInt8) : Bool := decide (unipTo g N)
theorem idemB_no {N k : Nat} {g : Nat → UInt8} (hk : k < N) (h : ¬ (g (k * 11)).toNat = k) : idemB N g = false := decide_eq_false (fun hu => h (hu k hk))
theorem unipB_no {N k : Nat} {g : Nat → UInt8} (hk : k < N) (h : ¬ (g (k * 11)).toNat = (g 0).toNat) : unipB N g = false := decide_eq_false (fun hu => h (hu k hk))
theorem idemB_yes {N : Nat} {g : Nat → UInt8} (h : idemTo g N) : idemB N g = true := decide_eq_true h
theorem unipB_yes {N : Nat} {g : Nat → UInt8} (h : unipTo g N) : unipB N g = true := decide_eq_true h
theorem idemTo.step {g : Nat → UInt8} {k : Nat} (h : idemTo g k) (a : (g (k * 11)).toNat = k) : idemTo g (k + 1) := by
  intro x hx
  by_cases e : x = k
  · subst e; exact a
  · exact h x (by omega)
theorem unipTo.step {g : Nat → UInt8} {k : Nat} (h : unipTo g k) (a : (g (k * 11)).toNat = (g 0).toNat) : unipTo g (k + 1) := by
  intro x hx
  by_cases e : x = k
  · subst e; exact a
  · exact h x (by omega)
set_option maxRecDepth 20000 in
set_option maxHeartbeats 2000000 in
theorem specIsIdempotent_no (o : Int) (g : Nat → UInt8) (w : World) (hs : sqB o g = false) :
    Calls Try.prog 12 #[.agg (sqc o g)] w fun e w' => e = .returned (.tuple #[.bool false, .int .i64 1]) ∧ Below w.heap.size w w' := by
  have hH := Has.start1 w (sqc o g) 30
  go_enter Try.func12, Try.ntmps12
  go_wp2_with (first | (refine wpL_loadFull rfl rfl rfl rowSq hH.h0 (sqc_size _ _) ?_) | (go_at_call 45; refine (l01Is_any o g _).mono ?_; rintro e w2 ⟨rfl, hb⟩; replace hH := hH.call' hb; rw [hs]))
  go_ret2
  exact ⟨rfl, hH.below⟩
set_option maxRecDepth 20000 in
set_option maxHeartbeats 2000000 in
theorem specIsIdempotent_yes (N : Nat) (g : Nat → UInt8) (w : World) (h1 : 1 ≤ N) (h10 : N ≤ 10) (hs : sqB (N : Int) g = true) :
    Calls Try.prog 12 #[.agg (sqc N g)] w fun e w' => e = .returned (.tuple #[.bool (idemB N g), .int .i64 0]) ∧ Below w.heap.size w w' := by
  have hN1 : 1 ≤ (N : Int) := by omega
  have hN2 : (N : Int) ≤ 10 := by omega
  have hH := Has.start1 w (sqc N g) 30
  go_enter Try.func12, Try.ntmps12
  go_wp2_with (first | (refine wpL_loadFull rfl rfl rfl rowSq hH.h0 (sqc_size _ _) ?_) | (go_at_call 45; refine (l01Is_any N g _).mono ?_; rintro e w2 ⟨rfl, hb⟩; replace hH := hH.call' hb; rw [hs]; have c0 := hH.c0))
  try clear c0
  go_loopw [4] (fun i wr => ∃ k : Nat, k ≤ N ∧ i = .int .i64 k ∧ Has w wr [(sqc N g, 30)] ∧ Hid (idemTo g k)) (fun i _ => 10 - (intOf i).toNat)
  case atStart => exact ⟨0, by omega, rfl, hH, hid (fun x hx => absurd hx (Nat.not_lt_zero x))⟩
  case round =>
    clear hH
    obtain ⟨k, hk, rfl, hH, hU⟩ := hrel
    have cz : wr.cell? ⟨w.heap.size, 0, none⟩ = some (.int .i64 N) := by rw [hH.c0, sqc_get0]
    by_cases hlt : k < N
    · have hk10 : k < 10 := by omega
      have ca : wr.cell? ⟨w.heap.size, 1 + k * 10 + k, none⟩ = some (.int .u8 (g (k * 11)).toNat) := by rw [hH.c0, Nat.add_assoc, show k * 10 + k = k * 11 by omega, sqc_get _ _ _ (by omega)]
      have hk1 : (k : Int) < 10 := by omega
      by_cases ea : (g (k * 11)).toNat = k
      · have ea' : ((g (k * 11)).toNat : Int) = (k : Int) := by omega
        have hU' := hid (hU.out.step ea)
        clear ea
        go_wp2_with (first | (refine wpL_guard rfl rfl ?_))
        go_roundw
        case rel => exact ⟨k + 1, by omega, by go_num, hH, hU'⟩
        case measure => simp [intOf]; omega
      · have ea' : ¬ ((g (k * 11)).toNat : Int) = (k : Int) := by omega
        have hq := hid (idemB_no hlt ea)
        have bd := u8_bd (g (k * 11))
        clear ea
        go_wp2_with (first | (refine wpL_guard rfl rfl ?_))
        go_ret2
        exact ⟨by rw [hq.out]; rfl, (hH).below⟩
    · obtain rfl : k = N := by omega
      have hq := hid (idemB_yes hU.out)
      go_wp2
      go_ret2
      exact ⟨by rw [hq.out]; rfl, hH.below⟩
set_option maxRecDepth 20000 in
set_option maxHeartbeats 2000000 in
theorem implIsIdempotent_no (o : Int) (g : Nat → UInt8) (w : World) (hs : sqB o g = false) :
    Calls Try.prog 14 #[.agg (sqc o g)] w fun e w' => e = .returned (.tuple #[.bool false, .int .i64 1]) ∧ Below w.heap.size w w' := by
  have hH := Has.start1 w (sqc o g) 30
  go_enter Try.func14, Try.ntmps14
  go_wp2_with (first | (refine wpL_loadFull rfl rfl rfl rowSq hH.h0 (sqc_size _ _) ?_) | (go_at_call 47; refine (IsSquare_any o g _).mono ?_; rintro e w2 ⟨rfl, hb⟩; replace hH := hH.call' hb; rw [hs]))
  go_ret2
  exact ⟨rfl, hH.below⟩
set_option maxRecDepth 20000 in
set_option maxHeartbeats 2000000 in
theorem implIsIdempotent_yes (N : Nat) (g : Nat → UInt8) (w : World) (h1 : 1 ≤ N) (h10 : N ≤ 10) (hs : sqB (N : Int) g = true) :
    Calls Try.prog 14 #[.agg (sqc N g)] w fun e w' => e = .returned (.tuple #[.bool (idemB N g), .int .i64 0]) ∧ Below w.heap.size w w' := by
  have hN1 : 1 ≤ (N : Int) := by omega
  have hN2 : (N : Int) ≤ 10 := by omega
  have hH := Has.start1 w (sqc N g) 30
  go_enter Try.func14, Try.ntmps14
  go_wp2_with (first | (refine wpL_loadFull rfl rfl rfl rowSq hH.h0 (sqc_size _ _) ?_) | (go_at_call 47; refine (IsSquare_any N g _).mono ?_; rintro e w2 ⟨rfl, hb⟩; replace hH := hH.call' hb; rw [hs]; have c0 := hH.c0))
  try clear c0
  go_loopw [10] (fun i wr => ∃ k : Nat, k ≤ N ∧ i = .int .i64 k ∧ Has w wr [(sqc N g, 30)] ∧ Hid (idemTo g k)) (fun i _ => 10 - (intOf i).toNat)
  case atStart => exact ⟨0, by omega, rfl, hH, hid (fun x hx => absurd hx (Nat.not_lt_zero x))⟩
  case round =>
    clear hH
    obtain ⟨k, hk, rfl, hH, hU⟩ := hrel
    have cz : wr.cell? ⟨w.heap.size, 0, none⟩ = some (.int .i64 N) := by rw [hH.c0, sqc_get0]
    by_cases hlt : k < N
    · have hk10 : k < 10 := by omega
      have ca : wr.cell? ⟨w.heap.size, 1 + k * 10 + k, none⟩ = some (.int .u8 (g (k * 11)).toNat) := by rw [hH.c0, Nat.add_assoc, show k * 10 + k = k * 11 by omega, sqc_get _ _ _ (by omega)]
      have hk1 : (k : Int) < 10 := by omega
      by_cases ea : (g (k * 11)).toNat = k
      · have ea' : ((g (k * 11)).toNat : Int) = (k : Int) := by omega
        have hU' := hid (hU.out.step ea)
        clear ea
        go_wp2_with (first | (refine wpL_guard rfl rfl ?_))
        go_roundw
        case rel => exact ⟨k + 1, by omega, by go_num, hH, hU'⟩
        case measure => simp [intOf]; omega
      · have ea' : ¬ ((g (k * 11)).toNat : Int) = (k : Int) := by omega
        have hq := hid (idemB_no hlt ea)
        have bd := u8_bd (g (k * 11))
        clear ea
        go_wp2_with (first | (refine wpL_guard rfl rfl ?_))
        go_ret2
        exact ⟨by rw [hq.out]; rfl, (hH).below⟩
    · obtain rfl : k = N := by omega
      have hq := hid (idemB_yes hU.out)
      go_wp2
      go_ret2
      exact ⟨by rw [hq.out]; rfl, hH.below⟩
set_option maxRecDepth 20000 in
set_option maxHeartbeats 2000000 in
theorem specIsUnipotent_no (o : Int) (g : Nat → UInt8) (w : World) (hs : sqB o g = false) :
    Calls Try.prog 15 #[.agg (sqc o g)] w fun e w' => e = .returned (.tuple #[.bool false, .int .i64 1]) ∧ Below w.heap.size w w' := by
  have hH := Has.start1 w (sqc o g) 30
  go_enter Try.func15, Try.ntmps15
  go_wp2_with (first | (refine wpL_loadFull rfl rfl rfl rowSq hH.h0 (sqc_size _ _) ?_) | (go_at_call 45; refine (l01Is_any o g _).mono ?_; rintro e w2 ⟨rfl, hb⟩; replace hH := hH.call' hb; rw [hs]))
  go_ret2
  exact ⟨rfl, hH.below⟩
set_option maxRecDepth 20000 in
set_option maxHeartbeats 2000000 in
theorem specIsUnipotent_yes (N : Nat) (g : Nat → UInt8) (w : World) (h1 : 1 ≤ N) (h10 : N ≤ 10) (hs : sqB (N : Int) g = true) :
    Calls Try.prog 15 #[.agg (sqc N g)] w fun e w' => e = .returned (.tuple #[.bool (unipB N g), .int .i64 0]) ∧ Below w.heap.size w w' := by
  have hN1 : 1 ≤ (N : Int) := by omega
  have hN2 : (N : Int) ≤ 10 := by omega
  have hH := Has.start1 w (sqc N g) 30
  go_enter Try.func15, Try.ntmps15
  go_wp2_with (first | (refine wpL_loadFull rfl rfl rfl rowSq hH.h0 (sqc_size _ _) ?_) | (go_at_call 45; refine (l01Is_any N g _).mono ?_; rintro e w2 ⟨rfl, hb⟩; replace hH := hH.call' hb; rw [hs]; have c0 := hH.c0))
  try clear c0
  go_loopw [4] (fun i wr => ∃ k : Nat, k ≤ N ∧ i = .int .i64 k ∧ Has w wr [(sqc N g, 30)] ∧ Hid (unipTo g k)) (fun i _ => 10 - (intOf i).toNat)
  case atStart => exact ⟨0, by omega, rfl, hH, hid (fun x hx => absurd hx (Nat.not_lt_zero x))⟩
  case round =>
    clear hH
    obtain ⟨k, hk, rfl, hH, hU⟩ := hrel
    have cz : wr.cell? ⟨w.heap.size, 0, none⟩ = some (.int .i64 N) := by rw [hH.c0, sqc_get0]
    by_cases hlt : k < N
    · have hk10 : k < 10 := by omega
      have ca : wr.cell? ⟨w.heap.size, 1 + k * 10 + k, none⟩ = some (.int .u8 (g (k * 11)).toNat) := by rw [hH.c0, Nat.add_assoc, show k * 10 + k = k * 11 by omega, sqc_get _ _ _ (by omega)]
      have cd : wr.cell? ⟨w.heap.size, 1, none⟩ = some (.int .u8 (g 0).toNat) := by rw [hH.c0]; exact sqc_get _ _ 0 (by omega)
      have hk1 : (k : Int) < 10 := by omega
      by_cases ea : (g (k * 11)).toNat = (g 0).toNat
      · have ea' : ((g (k * 11)).toNat : Int) = ((g 0).toNat : Int) := by omega
        have hU' := hid (hU.out.step ea)
        clear ea
        go_wp2_with (first | (refine wpL_guard rfl rfl ?_))
        go_quiet (fail)
        go_wp2
        go_roundw
        case rel => exact ⟨k + 1, by omega, by go_num, hH.drewN _, hU'⟩
        case measure => simp [intOf]; omega
      · have ea' : ¬ ((g (k * 11)).toNat : Int) = ((g 0).toNat : Int) := by omega
        have hq := hid (unipB_no hlt ea)
        have bd := u8_bd (g (k * 11))
        have bd0 := u8_bd (g 0)
        clear ea
        go_wp2_with (first | (refine wpL_guard rfl rfl ?_))
        go_quiet (fail)
        go_wp2
        go_ret2
        exact ⟨by rw [hq.out]; rfl, (hH.drewN _).below⟩
    · obtain rfl : k = N := by omega
      have hq := hid (unipB_yes hU.out)
      go_wp2
      go_ret2
      exact ⟨by rw [hq.out]; rfl, hH.below⟩
set_option maxRecDepth 20000 in
set_option maxHeartbeats 2000000 in
theorem implIsUnipotent_no (o : Int) (g : Nat → UInt8) (w : World) (hs : sqB o g = false) :
    Calls Try.prog 16 #[.agg (sqc o g)] w fun e w' => e = .returned (.tuple #[.bool false, .int .i64 1]) ∧ Below w.heap.size w w' := by
  have hH := Has.start1 w (sqc o g) 30
  go_enter Try.func16, Try.ntmps16
  go_wp2_with (first | (refine wpL_loadFull rfl rfl rfl rowSq hH.h0 (sqc_size _ _) ?_) | (go_at_call 47; refine (IsSquare_any o g _).mono ?_; rintro e w2 ⟨rfl, hb⟩; replace hH := hH.call' hb; rw [hs]))
  go_ret2
  exact ⟨rfl, hH.below⟩
set_option maxRecDepth 20000 in
set_option maxHeartbeats 2000000 in
theorem implIsUnipotent_yes (N : Nat) (g : Nat → UInt8) (w : World) (h1 : 1 ≤ N) (h10 : N ≤ 10) (hs : sqB (N : Int) g = true) :
    Calls Try.prog 16 #[.agg (sqc N g)] w fun e w' => e = .returned (.tuple #[.bool (unipB N g), .int .i64 0]) ∧ Below w.heap.size w w' := by
  have hN1 : 1 ≤ (N : Int) := by omega
  have hN2 : (N : Int) ≤ 10 := by omega
  have hH := Has.start1 w (sqc N g) 30
  go_enter Try.func16, Try.ntmps16
  go_wp2_with (first | (refine wpL_loadFull rfl rfl rfl rowSq hH.h0 (sqc_size _ _) ?_) | (go_at_call 47; refine (IsSquare_any N g _).mono ?_; rintro e w2 ⟨rfl, hb⟩; replace hH := hH.call' hb; rw [hs]; have c0 := hH.c0))
  try clear c0
  go_loopw [10] (fun i wr => ∃ k : Nat, k ≤ N ∧ i = .int .i64 k ∧ Has w wr [(sqc N g, 30)] ∧ Hid (unipTo g k)) (fun i _ => 10 - (intOf i).toNat)
  case atStart => exact ⟨0, by omega, rfl, hH, hid (fun x hx => absurd hx (Nat.not_lt_zero x))⟩
  case round =>
    clear hH
    obtain ⟨k, hk, rfl, hH, hU⟩ := hrel
    have cz : wr.cell? ⟨w.heap.size, 0, none⟩ = some (.int .i64 N) := by rw [hH.c0, sqc_get0]
    by_cases hlt : k < N
    · have hk10 : k < 10 := by omega
      have ca : wr.cell? ⟨w.heap.size, 1 + k * 10 + k, none⟩ = some (.int .u8 (g (k * 11)).toNat) := by rw [hH.c0, Nat.add_assoc, show k * 10 + k = k * 11 by omega, sqc_get _ _ _ (by omega)]
      have cd : wr.cell? ⟨w.heap.size, 1, none⟩ = some (.int .u8 (g 0).toNat) := by rw [hH.c0]; exact sqc_get _ _ 0 (by omega)
      have hk1 : (k : Int) < 10 := by omega
      by_cases ea : (g (k * 11)).toNat = (g 0).toNat
      · have ea' : ((g (k * 11)).toNat : Int) = ((g 0).toNat : Int) := by omega
        have hU' := hid (hU.out.step ea)
        clear ea
        go_wp2_with (first | (refine wpL_guard rfl rfl ?_))
        go_quiet (fail)
        go_wp2
        go_roundw
        case rel => exact ⟨k + 1, by omega, by go_num, hH.drewN _, hU'⟩
        case measure => simp [intOf]; omega
      · have ea' : ¬ ((g (k * 11)).toNat : Int) = ((g 0).toNat : Int) := by omega
        have hq := hid (unipB_no hlt ea)
        have bd := u8_bd (g (k * 11))
        have bd0 := u8_bd (g 0)
        clear ea
        go_wp2_with (first | (refine wpL_guard rfl rfl ?_))
        go_quiet (fail)
        go_wp2
        go_ret2
        exact ⟨by rw [hq.out]; rfl, (hH.drewN _).below⟩
    · obtain rfl : k = N := by omega
      have hq := hid (unipB_yes hU.out)
      go_wp2
      go_ret2
      exact ⟨by rw [hq.out]; rfl, hH.below⟩
end Go.Proofs.Ytfkmhephabmolaa
