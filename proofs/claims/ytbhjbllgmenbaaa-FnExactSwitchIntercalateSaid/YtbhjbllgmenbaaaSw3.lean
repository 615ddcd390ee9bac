/- Proved: what the model's l09Pair and SwitchCycle return. Conditions: those that each theorem names. -/
import Derived.Test.YtbhjbllgmenbaaaSw2
namespace Go.Proofs.Ytbhjbllgmenbaaa
set_option linter.unusedVariables false
set_option linter.unusedSimpArgs false
open Go.RowKit
set_option maxRecDepth 20000 in
set_option maxHeartbeats 2000000 in
theorem l09Pair_by (o : Int) (g : Nat → UInt8) (a b c : UInt8) (z : Int) (w : World) (hz : (z == 0) = false)
    (hC : Hid (∀ w, Calls Try.prog 100 #[.agg (sqc o g), .int .u8 a.toNat, .int .u8 b.toNat] w fun e w' => e = .returned (.int .i64 z) ∧ Below w.heap.size w w')) :
    Calls Try.prog 66 #[.agg (sqc o g), .int .u8 a.toNat, .int .u8 b.toNat, .int .u8 c.toNat] w fun e w' => e = .returned (.int .i64 z) ∧ Below w.heap.size w w' := by
  have hz2 : ¬ z = 0 := by simpa using hz
  have hH := Has.start1 w (sqc o g) 29
  go_enter Try.func66, Try.ntmps66
  go_wp2_with (first | fail | (refine wpL_loadFull rfl rfl rfl rowSq hH.h0 (sqc_size _ _) ?_) | (go_at_call 100; refine (hC.out _).mono ?_; rintro e w2 ⟨rfl, hb⟩; replace hH := hH.call' hb; clear hb))
  go_ret
  exact ⟨rfl, hH.below⟩
set_option maxRecDepth 20000 in
set_option maxHeartbeats 2000000 in
theorem l09Pair_bad (N : Nat) (g : Nat → UInt8) (a b c : UInt8) (w : World) (hs : sqB (N : Int) g = true) (ha : a.toNat < N) (hb : b.toNat < N) (h : a.toNat = b.toNat ∨ N ≤ c.toNat) :
    Calls Try.prog 66 #[.agg (sqc N g), .int .u8 a.toNat, .int .u8 b.toNat, .int .u8 c.toNat] w fun e w' => e = .returned (.int .i64 2) ∧ Below w.heap.size w w' := by
  have hH := Has.start1 w (sqc N g) 29
  have ba := u8_bd a
  have bb := u8_bd b
  have bc := u8_bd c
  by_cases e : a.toNat = b.toNat
  · obtain rfl : a = b := UInt8.toNat.inj e
    clear h e
    go_enter Try.func66, Try.ntmps66
    go_wp2_with (first | fail | (refine wpL_loadFull rfl rfl rfl rowSq hH.h0 (sqc_size _ _) ?_) | (go_at_call 100; with_reducible refine (l01Two_in N g a _ _ hs ha hb).mono ?_; rintro e w2 ⟨rfl, hb⟩; replace hH := hH.call' hb; clear hb; have c0 := hH.c0 0; rw [sqc_get0] at c0))
    go_ret
    exact ⟨rfl, hH.below⟩
  · have e' : ¬ (a.toNat : Int) = (b.toNat : Int) := by omega
    have hc : (N : Int) ≤ (c.toNat : Int) := by omega
    clear h e
    go_enter Try.func66, Try.ntmps66
    go_wp2_with (first | fail | (refine wpL_loadFull rfl rfl rfl rowSq hH.h0 (sqc_size _ _) ?_) | (go_at_call 100; refine (l01Two_in N g a b _ hs ha hb).mono ?_; rintro e w2 ⟨rfl, hb⟩; replace hH := hH.call' hb; clear hb; have c0 := hH.c0 0; rw [sqc_get0] at c0))
    go_ret
    exact ⟨rfl, hH.below⟩
set_option maxRecDepth 20000 in
set_option maxHeartbeats 2000000 in
theorem l09Pair_in (N : Nat) (g : Nat → UInt8) (a b c : UInt8) (w : World) (hs : sqB (N : Int) g = true) (ha : a.toNat < N) (hb : b.toNat < N) (hne : a.toNat ≠ b.toNat) (hc : c.toNat < N) :
    Calls Try.prog 66 #[.agg (sqc N g), .int .u8 a.toNat, .int .u8 b.toNat, .int .u8 c.toNat] w fun e w' => e = .returned (.int .i64 0) ∧ Below w.heap.size w w' := by
  have hH := Has.start1 w (sqc N g) 29
  have ba := u8_bd a
  have bb := u8_bd b
  have bc := u8_bd c
  have e' : ¬ (a.toNat : Int) = (b.toNat : Int) := by omega
  have hc' : ¬ (N : Int) ≤ (c.toNat : Int) := by omega
  have eb : ((a.toNat : Int) == (b.toNat : Int)) = false := by simpa using e'
  have ec : decide (N ≤ c.toNat) = false := decide_eq_false (by omega)
  have EB := hid eb
  have EC := hid ec
  clear hne eb ec
  go_enter Try.func66, Try.ntmps66
  go_wp2_with (first | fail | (refine wpL_loadFull rfl rfl rfl rowSq hH.h0 (sqc_size _ _) ?_) | (go_at_call 100; refine (l01Two_in N g a b _ hs ha hb).mono ?_; rintro e w2 ⟨rfl, hb⟩; replace hH := hH.call' hb; clear hb; have c0 := hH.c0 0; rw [sqc_get0] at c0))
  · exfalso
    first | omega | (rename_i hx; rw [Bool.or_eq_true, EB.out, EC.out] at hx; simp at hx; done) | (rename_i hx; simp at hx; omega)
  · go_ret
    exact ⟨rfl, hH.below⟩
end Go.Proofs.Ytbhjbllgmenbaaa
