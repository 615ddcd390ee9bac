/- Proved: what the model's ProductIn returns. Conditions: those that each theorem names. -/
import Derived.Test.YtbhjbllgmenbaaaSq3b
import Derived.Test.YtbhjbllgmenbaaaSq5
namespace Go.Proofs.Ytbhjbllgmenbaaa
set_option linter.unusedVariables false
set_option linter.unusedSimpArgs false
open Go.RowKit
set_option maxRecDepth 20000 in
set_option maxHeartbeats 1000000 in
theorem l01Two_no (o : Int) (g : Nat → UInt8) (x y : UInt8) (w : World) (hs : sqB o g = false) :
    Calls Try.prog 100 #[.agg (sqc o g), .int .u8 x.toNat, .int .u8 y.toNat] w fun e w' => e = .returned (.int .i64 1) ∧ Below w.heap.size w w' := by
  have hH := Has.start1 w (sqc o g) 29
  go_enter Try.func100, Try.ntmps100
  go_wp2_with (first | (refine wpL_loadFull rfl rfl rfl rowSq hH.h0 (sqc_size _ _) ?_) | (go_at_call 70; refine (l01Is_any o g _).mono ?_; rintro e w2 ⟨rfl, hb⟩; replace hH := hH.call' hb; rw [hs]))
  go_ret
  exact ⟨rfl, hH.below⟩
set_option maxRecDepth 20000 in
set_option maxHeartbeats 2000000 in
theorem l01Two_far (N : Nat) (g : Nat → UInt8) (x y : UInt8) (w : World) (hs : sqB (N : Int) g = true) (h : N ≤ x.toNat ∨ N ≤ y.toNat) :
    Calls Try.prog 100 #[.agg (sqc N g), .int .u8 x.toNat, .int .u8 y.toNat] w fun e w' => e = .returned (.int .i64 2) ∧ Below w.heap.size w w' := by
  have hH := Has.start1 w (sqc N g) 29
  have bx := u8_bd x
  have bdy := u8_bd y
  by_cases hx : N ≤ x.toNat
  · have hx' : (N : Int) ≤ (x.toNat : Int) := by omega
    clear h hx
    go_enter Try.func100, Try.ntmps100
    go_wp2_with (first | (refine wpL_guard rfl rfl ?_) | (refine wpL_loadFull rfl rfl rfl rowSq hH.h0 (sqc_size _ _) ?_) | (go_at_call 70; refine (l01Is_any N g _).mono ?_; rintro e w2 ⟨rfl, hb⟩; replace hH := hH.call' hb; rw [hs]; have cz : w2.cell? ⟨w.heap.size, 0, none⟩ = some (.int .i64 N) := (by rw [hH.c0, sqc_get0])))
    go_ret
    exact ⟨rfl, hH.below⟩
  · have hx' : (x.toNat : Int) < (N : Int) := by omega
    have hy' : (N : Int) ≤ (y.toNat : Int) := by omega
    clear h hx
    go_enter Try.func100, Try.ntmps100
    go_wp2_with (first | (refine wpL_guard rfl rfl ?_) | (refine wpL_loadFull rfl rfl rfl rowSq hH.h0 (sqc_size _ _) ?_) | (go_at_call 70; refine (l01Is_any N g _).mono ?_; rintro e w2 ⟨rfl, hb⟩; replace hH := hH.call' hb; rw [hs]; have cz : w2.cell? ⟨w.heap.size, 0, none⟩ = some (.int .i64 N) := (by rw [hH.c0, sqc_get0])))
    go_ret
    exact ⟨rfl, hH.below⟩
set_option maxRecDepth 20000 in
set_option maxHeartbeats 2000000 in
theorem l01Two_in (N : Nat) (g : Nat → UInt8) (x y : UInt8) (w : World) (hs : sqB (N : Int) g = true) (hx : x.toNat < N) (hy : y.toNat < N) :
    Calls Try.prog 100 #[.agg (sqc N g), .int .u8 x.toNat, .int .u8 y.toNat] w fun e w' => e = .returned (.int .i64 0) ∧ Below w.heap.size w w' := by
  have hH := Has.start1 w (sqc N g) 29
  have bx := u8_bd x
  have bdy := u8_bd y
  have hx' : (x.toNat : Int) < (N : Int) := by omega
  have hy' : (y.toNat : Int) < (N : Int) := by omega
  go_enter Try.func100, Try.ntmps100
  go_wp2_with (first | (refine wpL_guard rfl rfl ?_) | (refine wpL_loadFull rfl rfl rfl rowSq hH.h0 (sqc_size _ _) ?_) | (go_at_call 70; refine (l01Is_any N g _).mono ?_; rintro e w2 ⟨rfl, hb⟩; replace hH := hH.call' hb; rw [hs]; have cz : w2.cell? ⟨w.heap.size, 0, none⟩ = some (.int .i64 N) := (by rw [hH.c0, sqc_get0])))
  go_ret
  exact ⟨rfl, hH.below⟩
end Go.Proofs.Ytbhjbllgmenbaaa
