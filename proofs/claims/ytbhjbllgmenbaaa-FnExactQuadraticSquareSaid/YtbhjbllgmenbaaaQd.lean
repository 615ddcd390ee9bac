/- Proved: what both functions QuadraticSquare return for the primes 3, 5 and 7. Conditions: those that each theorem names. -/
import Derived.Test.YtbhjbllgmenbaaaQd1
import Derived.Test.YtbhjbllgmenbaaaQd2
import Derived.Test.YtbhjbllgmenbaaaQd2a
import Derived.Test.YtbhjbllgmenbaaaQd2b
import Derived.Test.YtbhjbllgmenbaaaQd2c
namespace Go.Proofs.Ytbhjbllgmenbaaa
set_option linter.unusedVariables false
set_option linter.unusedSimpArgs false
open Go.RowKit
theorem orthoCy_yes {p a b : Nat} (hp : P357 p) (ha : a < p) (hb : b < p) (h : quB p a b = true) (w : World) :
    Calls Try.prog 65 #[.agg (sqc p (cyF p)), .agg (u8s 10 (plD p a b))] w fun e w' => e = .returned (.tuple #[.agg (sqc p (fillT p (quV p a b) p 0)), .int .i64 0]) ∧ Below w.heap.size w w' := by
  obtain ⟨e1, e2⟩ := qu_chk hp ha hb
  have e1' := e1
  rw [h] at e1'
  have e3 := (Bool.and_eq_true _ _).mp e1'.symm
  have hG := cy_gp hp
  have hP : IsPerm (plD p a b) p := permD_iff.1 e3.1
  have hR : difB (orD (cyF p) (plD p a b) p) p = true := by unfold difB; rw [permD_eq]; exact e3.2
  have hz : gcode (p : Int) (cyF p) (permB (plD p a b) (p : Int)) = 0 := gcode_0 (by rw [sqB_nat.2 hG.lp.sq, permB_nat.2 hP]; rfl) (gp_group hG)
  have hf : fillT p (orV (cyF p) (plD p a b) p) p 0 = fillT p (quV p a b) p 0 := fillT_same fun x y hx hy => e2 h x y hx hy
  have hC := implOrthoSq_in p (cyF p) (plD p a b) true w hz hG.lp.sq hP hR
  rw [if_pos rfl, hf] at hC
  exact hC
theorem orthoCy_no {p a b : Nat} (hp : P357 p) (ha : a < p) (hb : b < p) (h : quB p a b = false) : ∃ Z : Int, ¬ Z = 0 ∧ ∀ w, Calls Try.prog 65 #[.agg (sqc p (cyF p)), .agg (u8s 10 (plD p a b))] w fun e w' => e = .returned (.tuple #[.agg (sqc 0 fun _ => 0), .int .i64 Z]) ∧ Below w.heap.size w w' := by
  obtain ⟨e1, e2⟩ := qu_chk hp ha hb
  rw [h] at e1
  have hG := cy_gp hp
  cases hP : permB (plD p a b) (p : Int) with
  | false => exact ⟨1, by decide, fun w => implOrthoSq_bad p (cyF p) (plD p a b) 1 w (gcode_no (by rw [hP]; simp)) rfl⟩
  | true =>
    have hR : difB (orD (cyF p) (plD p a b) p) p = false := by
      unfold difB
      rw [permD_eq]
      rw [permD_eq] at hP
      rw [hP] at e1
      simpa using e1.symm
    have hz : gcode (p : Int) (cyF p) (permB (plD p a b) (p : Int)) = 0 := gcode_0 (by rw [sqB_nat.2 hG.lp.sq, hP]; rfl) (gp_group hG)
    refine ⟨5, by decide, fun w => ?_⟩
    have hC := implOrthoSq_in p (cyF p) (plD p a b) false w hz hG.lp.sq (permB_nat.1 hP) hR
    rw [if_neg (by decide)] at hC
    exact hC
theorem specQuad3_no {a b : Nat} (w : World) (ha : a < 3) (hb : b < 3) (h : quB 3 a b = false) :
    Calls Try.prog 21 #[.int .i64 3, .int .i64 (a : Nat), .int .i64 (b : Nat)] w fun e w' => e = .returned (.tuple #[.agg (sqc 0 fun _ => 0), .int .i64 5]) ∧ Below w.heap.size w w' := by
  by_cases h1 : a * b % 3 = 0
  · exact specQuad3_z a b w ha hb h1
  · exact specQuad3_w a b w ha hb h1 h
theorem specQuad3_yes {a b : Nat} (w : World) (ha : a < 3) (hb : b < 3) (h : quB 3 a b = true) :
    Calls Try.prog 21 #[.int .i64 3, .int .i64 (a : Nat), .int .i64 (b : Nat)] w fun e w' => e = .returned (.tuple #[.agg (sqc 3 (fillT 3 (quV 3 a b) 3 0)), .int .i64 0]) ∧ Below w.heap.size w w' := by
  unfold quB at h
  simp only [Bool.and_eq_true, Bool.not_eq_true', beq_eq_false_iff_ne] at h
  exact specQuad3_g a b w ha hb h.1 h.2.1 h.2.2.1 h.2.2.2
theorem specQuad5_no {a b : Nat} (w : World) (ha : a < 5) (hb : b < 5) (h : quB 5 a b = false) :
    Calls Try.prog 21 #[.int .i64 5, .int .i64 (a : Nat), .int .i64 (b : Nat)] w fun e w' => e = .returned (.tuple #[.agg (sqc 0 fun _ => 0), .int .i64 5]) ∧ Below w.heap.size w w' := by
  by_cases h1 : a * b % 5 = 0
  · exact specQuad5_z a b w ha hb h1
  · exact specQuad5_w a b w ha hb h1 h
theorem specQuad5_yes {a b : Nat} (w : World) (ha : a < 5) (hb : b < 5) (h : quB 5 a b = true) :
    Calls Try.prog 21 #[.int .i64 5, .int .i64 (a : Nat), .int .i64 (b : Nat)] w fun e w' => e = .returned (.tuple #[.agg (sqc 5 (fillT 5 (quV 5 a b) 5 0)), .int .i64 0]) ∧ Below w.heap.size w w' := by
  unfold quB at h
  simp only [Bool.and_eq_true, Bool.not_eq_true', beq_eq_false_iff_ne] at h
  exact specQuad5_g a b w ha hb h.1 h.2.1 h.2.2.1 h.2.2.2
theorem specQuad7_no {a b : Nat} (w : World) (ha : a < 7) (hb : b < 7) (h : quB 7 a b = false) :
    Calls Try.prog 21 #[.int .i64 7, .int .i64 (a : Nat), .int .i64 (b : Nat)] w fun e w' => e = .returned (.tuple #[.agg (sqc 0 fun _ => 0), .int .i64 5]) ∧ Below w.heap.size w w' := by
  by_cases h1 : a * b % 7 = 0
  · exact specQuad7_z a b w ha hb h1
  · exact specQuad7_w a b w ha hb h1 h
theorem specQuad7_yes {a b : Nat} (w : World) (ha : a < 7) (hb : b < 7) (h : quB 7 a b = true) :
    Calls Try.prog 21 #[.int .i64 7, .int .i64 (a : Nat), .int .i64 (b : Nat)] w fun e w' => e = .returned (.tuple #[.agg (sqc 7 (fillT 7 (quV 7 a b) 7 0)), .int .i64 0]) ∧ Below w.heap.size w w' := by
  unfold quB at h
  simp only [Bool.and_eq_true, Bool.not_eq_true', beq_eq_false_iff_ne] at h
  exact specQuad7_g a b w ha hb h.1 h.2.1 h.2.2.1 h.2.2.2
end Go.Proofs.Ytbhjbllgmenbaaa
