/- Proved: what the program's IsLoop and the model's return: the same. Conditions: none. -/
import Derived.Test.YtbhjbllgmenbaabIs
import Derived.Test.YtbhjbllgmenbaabSq5
namespace Go.Proofs.Ytbhjbllgmenbaab
set_option linter.unusedVariables false
set_option linter.unusedSimpArgs false
open Go.RowKit
def unitTo (g : Nat → UInt8) (k : Nat) : Prop := ∀ x, x < k → (g x).toNat = x ∧ (g (x * 10)).toNat = x
instance (g : Nat → UInt8) (k : Nat) : Decidable (unitTo g k) := inferInstanceAs (Decidable (∀ x, x < k → _))
noncomputable def loopB (o : Int) (g : Nat → UInt8) : Bool := sqB o g && decide (unitTo g o.toNat)
theorem loopB_nosq {o : Int} {g : Nat → UInt8} (h : sqB o g = false) : loopB o g = false := by simp [loopB, h]
theorem loopB_no {N k : Nat} {g : Nat → UInt8} (hk : k < N) (h : ¬ ((g k).toNat = k ∧ (g (k * 10)).toNat = k)) : loopB (N : Int) g = false := by
  unfold loopB
  rw [decide_eq_false (fun hu => h (hu k (by simpa using hk))), Bool.and_false]
theorem loopB_yes {N : Nat} {g : Nat → UInt8} (hs : sqB (N : Int) g = true) (h : unitTo g N) : loopB (N : Int) g = true := by
  unfold loopB
  rw [hs, decide_eq_true (by simpa using h)]; rfl
theorem unitTo.step {g : Nat → UInt8} {k : Nat} (h : unitTo g k) (a : (g k).toNat = k) (b : (g (k * 10)).toNat = k) : unitTo g (k + 1) := by
  intro x hx
  by_cases e : x = k
  · subst e; exact ⟨a, b⟩
  · exact h x (by omega)
set_option maxRecDepth 20000 in
set_option maxHeartbeats 2000000 in
theorem l01Loop_nosq (o : Int) (g : Nat → UInt8) (w : World) (hs : sqB o g = false) :
    Calls Try.prog 108 #[.agg (sqc o g)] w fun e w' => e = .returned (.bool false) ∧ Below w.heap.size w w' := by
  have hH := Has.start1 w (sqc o g) 32
  go_enter Try.func108, Try.ntmps108
  go_wp2_with (first | (refine wpL_loadFull rfl rfl rfl rowSq hH.h0 (sqc_size _ _) ?_) | (go_at_call 91; refine (l01Is_any o g _).mono ?_; rintro e w2 ⟨rfl, hb⟩; replace hH := hH.call' hb; rw [hs]))
  go_ret
  exact ⟨rfl, hH.below⟩
set_option maxRecDepth 20000 in
set_option maxHeartbeats 2000000 in
theorem l01Loop_sq (N : Nat) (g : Nat → UInt8) (w : World) (h1 : 1 ≤ N) (h10 : N ≤ 10) (hs : sqB (N : Int) g = true) :
    Calls Try.prog 108 #[.agg (sqc N g)] w fun e w' => e = .returned (.bool (loopB N g)) ∧ Below w.heap.size w w' := by
  have hN1 : 1 ≤ (N : Int) := by omega
  have hN2 : (N : Int) ≤ 10 := by omega
  have hH := Has.start1 w (sqc N g) 32
  go_enter Try.func108, Try.ntmps108
  go_wp2_with (first | (refine wpL_loadFull rfl rfl rfl rowSq hH.h0 (sqc_size _ _) ?_) | (go_at_call 91; refine (l01Is_any N g _).mono ?_; rintro e w2 ⟨rfl, hb⟩; replace hH := hH.call' hb; rw [hs]; have c0 := hH.c0))
  try clear c0
  go_loopw [3] (fun i wr => ∃ k : Nat, k ≤ N ∧ i = .int .i64 k ∧ Has w wr [(sqc N g, 32)] ∧ Hid (unitTo g k)) (fun i _ => 10 - (intOf i).toNat)
  case atStart => exact ⟨0, by omega, rfl, hH, hid (fun x hx => absurd hx (Nat.not_lt_zero x))⟩
  case round =>
    clear hH
    obtain ⟨k, hk, rfl, hH, hU⟩ := hrel
    have cz : wr.cell? ⟨w.heap.size, 0, none⟩ = some (.int .i64 N) := by rw [hH.c0, sqc_get0]
    by_cases hlt : k < N
    · have hk10 : k < 10 := by omega
      have ca : wr.cell? ⟨w.heap.size, 1 + k, none⟩ = some (.int .u8 (g k).toNat) := by rw [hH.c0, sqc_get _ _ _ (by omega)]
      have cb : wr.cell? ⟨w.heap.size, 1 + k * 10, none⟩ = some (.int .u8 (g (k * 10)).toNat) := by rw [hH.c0, sqc_get _ _ _ (by omega)]
      have hk1 : (k : Int) < 10 := by omega
      by_cases ea : (g k).toNat = k
      · have ea' : ((g k).toNat : Int) = (k : Int) := by omega
        by_cases eb : (g (k * 10)).toNat = k
        · have eb' : ((g (k * 10)).toNat : Int) = (k : Int) := by omega
          have hU' := hid (hU.out.step ea eb)
          clear ea eb
          go_wp2_with (first | (refine wpL_guard rfl rfl ?_))
          go_roundw
          case rel => exact ⟨k + 1, by omega, by go_num, hH, hU'⟩
          case measure => simp [intOf]; omega
        · have eb' : ¬ ((g (k * 10)).toNat : Int) = (k : Int) := by omega
          have hq := hid (loopB_no hlt (fun h => eb h.2))
          have bd := u8_bd (g (k * 10))
          clear ea eb
          go_wp2_with (first | (refine wpL_guard rfl rfl ?_))
          go_ret
          exact ⟨by rw [hq.out]; rfl, hH.below⟩
      · have ea' : ¬ ((g k).toNat : Int) = (k : Int) := by omega
        have hq := hid (loopB_no hlt (fun h => ea h.1))
        have bd := u8_bd (g k)
        clear ea
        go_wp2_with (first | (refine wpL_guard rfl rfl ?_))
        go_ret
        exact ⟨by rw [hq.out]; rfl, hH.below⟩
    · obtain rfl : k = N := by omega
      have hq := hid (loopB_yes hs hU.out)
      go_wp2
      go_ret
      exact ⟨by rw [hq.out]; rfl, hH.below⟩
theorem l01Loop_any (o : Int) (g : Nat → UInt8) (w : World) :
    Calls Try.prog 108 #[.agg (sqc o g)] w fun e w' => e = .returned (.bool (loopB o g)) ∧ Below w.heap.size w w' := by
  cases hs : sqB o g with
  | false => rw [loopB_nosq hs]; exact l01Loop_nosq o g w hs
  | true =>
    obtain ⟨h1, h10⟩ := sqB_range hs
    obtain ⟨N, rfl⟩ := Int.eq_ofNat_of_zero_le (show 0 ≤ o by omega)
    exact l01Loop_sq N g w (by omega) (by omega) hs
set_option maxRecDepth 20000 in
set_option maxHeartbeats 2000000 in
theorem IsLoop_nosq (o : Int) (g : Nat → UInt8) (w : World) (hs : sqB o g = false) :
    Calls Try.prog 115 #[.agg (sqc o g)] w fun e w' => e = .returned (.bool false) ∧ Below w.heap.size w w' := by
  have hH := Has.start1 w (sqc o g) 32
  go_enter Try.func115, Try.ntmps115
  go_wp2_with (first | (refine wpL_loadFull rfl rfl rfl rowSq hH.h0 (sqc_size _ _) ?_) | (go_at_call 147; refine (IsSquare_any o g _).mono ?_; rintro e w2 ⟨rfl, hb⟩; replace hH := hH.call' hb; rw [hs]))
  go_ret
  exact ⟨rfl, hH.below⟩
set_option maxRecDepth 20000 in
set_option maxHeartbeats 2000000 in
theorem IsLoop_sq (N : Nat) (g : Nat → UInt8) (w : World) (h1 : 1 ≤ N) (h10 : N ≤ 10) (hs : sqB (N : Int) g = true) :
    Calls Try.prog 115 #[.agg (sqc N g)] w fun e w' => e = .returned (.bool (loopB N g)) ∧ Below w.heap.size w w' := by
  have hN1 : 1 ≤ (N : Int) := by omega
  have hN2 : (N : Int) ≤ 10 := by omega
  have hH := Has.start1 w (sqc N g) 32
  go_enter Try.func115, Try.ntmps115
  go_wp2_with (first | (refine wpL_loadFull rfl rfl rfl rowSq hH.h0 (sqc_size _ _) ?_) | (go_at_call 147; refine (IsSquare_any N g _).mono ?_; rintro e w2 ⟨rfl, hb⟩; replace hH := hH.call' hb; rw [hs]; have c0 := hH.c0))
  try clear c0
  go_loopw [9] (fun i wr => ∃ k : Nat, k ≤ N ∧ i = .int .i64 k ∧ Has w wr [(sqc N g, 32)] ∧ Hid (unitTo g k)) (fun i _ => 10 - (intOf i).toNat)
  case atStart => exact ⟨0, by omega, rfl, hH, hid (fun x hx => absurd hx (Nat.not_lt_zero x))⟩
  case round =>
    clear hH
    obtain ⟨k, hk, rfl, hH, hU⟩ := hrel
    have cz : wr.cell? ⟨w.heap.size, 0, none⟩ = some (.int .i64 N) := by rw [hH.c0, sqc_get0]
    by_cases hlt : k < N
    · have hk10 : k < 10 := by omega
      have ca : wr.cell? ⟨w.heap.size, 1 + k, none⟩ = some (.int .u8 (g k).toNat) := by rw [hH.c0, sqc_get _ _ _ (by omega)]
      have cb : wr.cell? ⟨w.heap.size, 1 + k * 10, none⟩ = some (.int .u8 (g (k * 10)).toNat) := by rw [hH.c0, sqc_get _ _ _ (by omega)]
      have hk1 : (k : Int) < 10 := by omega
      by_cases ea : (g k).toNat = k
      · have ea' : ((g k).toNat : Int) = (k : Int) := by omega
        by_cases eb : (g (k * 10)).toNat = k
        · have eb' : ((g (k * 10)).toNat : Int) = (k : Int) := by omega
          have hU' := hid (hU.out.step ea eb)
          clear ea eb
          go_wp2_with (first | (refine wpL_guard rfl rfl ?_))
          go_roundw
          case rel => exact ⟨k + 1, by omega, by go_num, hH, hU'⟩
          case measure => simp [intOf]; omega
        · have eb' : ¬ ((g (k * 10)).toNat : Int) = (k : Int) := by omega
          have hq := hid (loopB_no hlt (fun h => eb h.2))
          have bd := u8_bd (g (k * 10))
          clear ea eb
          go_wp2_with (first | (refine wpL_guard rfl rfl ?_))
          go_ret
          exact ⟨by rw [hq.out]; rfl, hH.below⟩
      · have ea' : ¬ ((g k).toNat : Int) = (k : Int) := by omega
        have hq := hid (loopB_no hlt (fun h => ea h.1))
        have bd := u8_bd (g k)
        clear ea
        go_wp2_with (first | (refine wpL_guard rfl rfl ?_))
        go_ret
        exact ⟨by rw [hq.out]; rfl, hH.below⟩
    · obtain rfl : k = N := by omega
      have hq := hid (loopB_yes hs hU.out)
      go_wp2
      go_ret
      exact ⟨by rw [hq.out]; rfl, hH.below⟩
theorem IsLoop_any (o : Int) (g : Nat → UInt8) (w : World) :
    Calls Try.prog 115 #[.agg (sqc o g)] w fun e w' => e = .returned (.bool (loopB o g)) ∧ Below w.heap.size w w' := by
  cases hs : sqB o g with
  | false => rw [loopB_nosq hs]; exact IsLoop_nosq o g w hs
  | true =>
    obtain ⟨h1, h10⟩ := sqB_range hs
    obtain ⟨N, rfl⟩ := Int.eq_ofNat_of_zero_le (show 0 ≤ o by omega)
    exact IsLoop_sq N g w (by omega) (by omega) hs
end Go.Proofs.Ytbhjbllgmenbaab
