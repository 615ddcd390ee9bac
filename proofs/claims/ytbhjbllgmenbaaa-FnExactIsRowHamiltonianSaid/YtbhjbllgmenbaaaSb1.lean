/- Proved: what the functions that check a list of elements and make its set, and the list of a set, return, of program and model alike. Conditions: those that each theorem names. -/
import Derived.Test.YtbhjbllgmenbaaaSb0
import Derived.Test.YtbhjbllgmenbaaaIa
import Derived.Test.YtbhjbllgmenbaaaLc
import Derived.Test.YtbhjbllgmenbaaaMl
import Derived.IntWalk
namespace Go.Proofs.Ytbhjbllgmenbaaa
set_option linter.unusedVariables false
set_option linter.unusedSimpArgs false
open Go.RowKit
theorem Row.drewS {w : World} {b n : Nat} {f : Nat → Int} (h : Row w b n f) (m : Nat) : Row (w.drewN m) b n f := h.block rfl
theorem Row.setOther {w : World} {b n gb i : Nat} {f : Nat → Int} {v : Value} (h : Row w b n f) (hne : b ≠ gb) : Row (w.setCell ⟨gb, i, none⟩ v) b n f := h.block (heap_setCell_other _ _ _ _ (by simpa using hne))
theorem builtMe : Try.prog.built 78 [] = some (bls 10 fun _ => false) := by kernel_rfl
theorem l01InM_yes (n : Int) (M : Nat) (h : 0 ≤ n ∧ n < M) (w : World) : Calls Try.prog 61 #[.int .i64 n, .int .i64 0, .int .i64 ((M : Int) - 1)] w fun e w' => e = .returned (.bool true) ∧ w' = w := by
  refine (l01In_any n 0 ((M : Int) - 1) w).mono ?_
  rintro e w' ⟨rfl, rfl⟩
  exact ⟨by rw [inB_true h.1 (by omega)], rfl⟩
theorem l01InM_no (n : Int) (M : Nat) (h : ¬ (0 ≤ n ∧ n < M)) (w : World) : Calls Try.prog 61 #[.int .i64 n, .int .i64 0, .int .i64 ((M : Int) - 1)] w fun e w' => e = .returned (.bool false) ∧ w' = w := by
  refine (l01In_any n 0 ((M : Int) - 1) w).mono ?_
  rintro e w' ⟨rfl, rfl⟩
  exact ⟨by rw [inB_false (by omega)], rfl⟩
set_option maxRecDepth 20000 in
set_option maxHeartbeats 4000000 in
theorem l05Told_any (f : Nat → Bool) (w : World) :
    Calls Try.prog 102 #[.agg (bls 10 f)] w (GotV (selL f 10) w) := by
  have hH := Has.start1 w (bls 10 f) 77
  go_enter Try.func102, Try.ntmps102
  go_wp2
  go_loopw [3, 4] (fun v i wr => ∃ k : Nat, k ≤ 10 ∧ i = .int .i64 k ∧ Has w wr [(bls 10 f, 77)] ∧ Hid (OL wr (w.heap.size + 1) v (selL f k))) (fun _ i _ => 20 - (intOf i).toNat)
  case atStart => exact ⟨0, by omega, rfl, hH.alloc _, hid (by rw [show selL f 0 = [] from rfl]; exact OL.fresh _ (by simp) (by simp))⟩
  case round =>
    clear hH
    obtain ⟨k, hk, rfl, hH, hO⟩ := hrel
    have hsz := hH.size
    simp only [List.length_cons, List.length_nil] at hsz
    have hlen := selL_len f k
    by_cases hlt : k < 10
    · have hk1 : (k : Int) < 10 := by omega
      obtain ⟨fk, hfk⟩ : ∃ fk, f k = fk := ⟨_, rfl⟩
      have c0 : wr.cell? ⟨w.heap.size, k, none⟩ = some (.bool fk) := by rw [hH.c0, bls_get _ _ _ hlt, hfk]
      have HE := hid hfk
      clear hfk
      cases fk with
      | true =>
        go_wp2_with (first | fail | (refine wpL_appI (v := u3) (n := (selL f k).length) (base := w.heap.size + 1) (z := (k : Int)) rfl (by rfl) (by rfl) (by rfl) (World.ownsRow.alloc hO.out _) (by simp) (by omega) (by simp; omega) ?_; intro r cap w2 how hg hor hlt3; have hO2 := hid (OL.add how); replace hH := (hH.alloc _).grown hg (fun x hx => by have := (World.ownsRow.lt hO.out x hx).1; simp; omega); rw [← selL_yes HE.out] at hO2; clear how hg hor hlt3))
        go_roundw
        case rel => exact ⟨k + 1, by omega, by go_num, hH, hO2⟩
        case measure => simp [intOf]; omega
      | false =>
        go_wp2
        go_roundw
        case rel => exact ⟨k + 1, by omega, by go_num, hH, by rw [selL_no HE.out]; exact hO⟩
        case measure => simp [intOf]; omega
    · obtain rfl : k = 10 := by omega
      go_wp2
      go_ret
      exact ⟨_, rfl, hH.below, hO.out.lower (by omega)⟩
end Go.Proofs.Ytbhjbllgmenbaaa
