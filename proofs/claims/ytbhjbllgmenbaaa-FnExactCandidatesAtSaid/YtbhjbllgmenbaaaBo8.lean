/- Proved: what the model's CandidatesAt returns. Conditions: those that each theorem names. -/
import Derived.Test.YtbhjbllgmenbaaaBp0
namespace Go.Proofs.Ytbhjbllgmenbaaa
set_option linter.unusedVariables false
set_option linter.unusedSimpArgs false
open Go.RowKit
set_option maxRecDepth 20000 in
set_option maxHeartbeats 8000000 in
theorem specCandidatesAt_any (b n : Nat) (m : Nat → Nat) (f : Nat → Nat → Int) (i j : Int) (w : World) (hn : n ≤ 1048576) (hm : ∀ x, x < n → m x ≤ 1048576) (hL : SL w b n m f) :
    Calls Try.prog 34 #[.slice (some ⟨b, 0, none⟩) n n, .int .i64 i, .int .i64 j] w (GotL (cdL n m f i j).1 (cdL n m f i j).2 w) := by
  have hH := Has.nil w
  have HC := hid (l09Is_par b n m f w hn hm hL)
  have e2 : IntKind.i64.wrap ((n : Int) - 1) = (n : Int) - 1 := IntWalk.i64_in _ (by omega)
  have hL2 := hid hL
  clear hL
  by_cases hG : ParG n m f
  · have hp := parB_yes hG
    have HG := hid hG
    rw [hp] at HC
    by_cases hi : 0 ≤ i ∧ i < n
    · have hI : ∀ w, Calls Try.prog 61 #[.int .i64 i, .int .i64 0, .int .i64 ((n : Int) - 1)] w fun e w' => e = .returned (.bool true) ∧ w = w' := fun w => by have := l01In_any i 0 ((n : Int) - 1) w; rwa [inB_true hi.1 (by omega)] at this
      have HI := hid hI
      by_cases hj : 0 ≤ j ∧ j < n
      · have hJ : ∀ w, Calls Try.prog 61 #[.int .i64 j, .int .i64 0, .int .i64 ((n : Int) - 1)] w fun e w' => e = .returned (.bool true) ∧ w = w' := fun w => by have := l01In_any j 0 ((n : Int) - 1) w; rwa [inB_true hj.1 (by omega)] at this
        have HJ := hid hJ
        obtain ⟨x, rfl⟩ : ∃ x : Nat, i = x := ⟨i.toNat, by omega⟩
        obtain ⟨y, rfl⟩ : ∃ y : Nat, j = y := ⟨j.toNat, by omega⟩
        have hx : x < n := by omega
        have hy : y < n := by omega
        have hx1 : (x : Int) < n := by omega
        have hy1 : (y : Int) < n := by omega
        have HMX := hid (hG.2.2.1 x hx)
        have h10 := hG.2.1
        have HV : Hid (cdL n m f (x : Int) (y : Int) = if 0 ≤ f x y then ([], 5) else (selL (cndB n f x y) n, 0)) := hid (by unfold cdL; rw [hp, cond_true, if_pos ⟨hi, hj⟩]; rfl)
        clear hI hJ hi hj hm
        obtain ⟨z, hz⟩ : ∃ z, f x y = z := ⟨_, rfl⟩
        have HZ := hid hz
        rw [hz] at HV
        clear hz hG hp
        by_cases hz0 : 0 ≤ z
        · have hz1 : z ≥ 0 := hz0
          rw [HV.out, if_pos hz0]
          clear HV
          go_enter Try.func34, Try.ntmps34
          go_wp2_with (first | fail | (refine wpL_guard rfl rfl ?_) | (go_at_call 72; refine HC.out.mono ?_; rintro e w2 ⟨rfl, hb⟩; replace hH := hH.call' hb; obtain ⟨g, c1, hR⟩ := (hL2.out.below hb).cell hx; rw [HMX.out] at c1 hR; have c2 := hR.cell hy; rw [HZ.out] at c2; clear hb hR) | (go_at_call 61; first | (with_reducible refine (HI.out _).mono ?_; rintro e w2 ⟨rfl, rfl⟩) | (with_reducible refine (HJ.out _).mono ?_; rintro e w2 ⟨rfl, rfl⟩)))
          go_ret2
          exact GotL.err ⟨rfl, hH.below⟩
        · have hz1 : ¬ z ≥ 0 := hz0
          have hz2 : decide (z ≥ 0) = false := decide_eq_false hz0
          rw [HV.out, if_neg hz0]
          clear HV
          go_enter Try.func34, Try.ntmps34
          go_wp2_with (first | fail | (refine wpL_guard rfl rfl ?_) | (go_at_call 72; refine HC.out.mono ?_; rintro e w2 ⟨rfl, hb⟩; replace hH := hH.call' hb; replace hL2 := hid (hL2.out.below hb).sl; obtain ⟨g, c1, hR⟩ := hL2.out.cell hx; rw [HMX.out] at c1 hR; have c2 := hR.cell hy; rw [HZ.out] at c2; clear hb hR) | (go_at_call 61; first | (with_reducible refine (HI.out _).mono ?_; rintro e w2 ⟨rfl, rfl⟩) | (with_reducible refine (HJ.out _).mono ?_; rintro e w2 ⟨rfl, rfl⟩)) | (go_at_call 74; refine (l09Candidates_any b n x y m f _ h10 (HG.out.2.2.1) hx hy hL2.out).mono ?_; rintro e w6 ⟨v, rfl, hb, hO⟩; have hsz := hH.size; simp only [List.length_nil] at hsz; replace hH := hH.call' hb; have HO := hid hO; clear hb hO c1 c2))
          go_ret2
          exact OL.got HO.out hH.below (by omega)
      · have hJ : ∀ w, Calls Try.prog 61 #[.int .i64 j, .int .i64 0, .int .i64 ((n : Int) - 1)] w fun e w' => e = .returned (.bool false) ∧ w = w' := fun w => by have := l01In_any j 0 ((n : Int) - 1) w; rwa [inB_false (by omega)] at this
        have HJ := hid hJ
        have HV : cdL n m f i j = ([], 2) := by unfold cdL; rw [hp, cond_true, if_neg (fun q => hj q.2)]
        rw [HV]
        clear hI hJ hi hj hm HV
        go_enter Try.func34, Try.ntmps34
        go_wp2_with (first | fail | (refine wpL_guard rfl rfl ?_) | (go_at_call 72; refine HC.out.mono ?_; rintro e w2 ⟨rfl, hb⟩; replace hH := hH.call' hb; clear hb) | (go_at_call 61; first | (with_reducible refine (HI.out _).mono ?_; rintro e w2 ⟨rfl, rfl⟩) | (with_reducible refine (HJ.out _).mono ?_; rintro e w2 ⟨rfl, rfl⟩)))
        go_ret2
        exact GotL.err ⟨rfl, hH.below⟩
    · have hI : ∀ w, Calls Try.prog 61 #[.int .i64 i, .int .i64 0, .int .i64 ((n : Int) - 1)] w fun e w' => e = .returned (.bool false) ∧ w = w' := fun w => by have := l01In_any i 0 ((n : Int) - 1) w; rwa [inB_false (by omega)] at this
      have HI := hid hI
      have HV : cdL n m f i j = ([], 2) := by unfold cdL; rw [hp, cond_true, if_neg (fun q => hi q.1)]
      rw [HV]
      clear hI hi hm HV
      go_enter Try.func34, Try.ntmps34
      go_wp2_with (first | fail | (refine wpL_guard rfl rfl ?_) | (go_at_call 72; refine HC.out.mono ?_; rintro e w2 ⟨rfl, hb⟩; replace hH := hH.call' hb; clear hb) | (go_at_call 61; (with_reducible refine (HI.out _).mono ?_; rintro e w2 ⟨rfl, rfl⟩)))
      go_ret2
      exact GotL.err ⟨rfl, hH.below⟩
  · have hp := parB_no hG
    rw [hp] at HC
    have HV : cdL n m f i j = ([], 1) := by unfold cdL; rw [hp, cond_false]
    rw [HV]
    clear HV hm
    go_enter Try.func34, Try.ntmps34
    go_wp2_with (first | fail | (refine wpL_guard rfl rfl ?_) | (go_at_call 72; refine HC.out.mono ?_; rintro e w2 ⟨rfl, hb⟩; replace hH := hH.call' hb; clear hb))
    go_ret2
    exact GotL.err ⟨rfl, hH.below⟩
end Go.Proofs.Ytbhjbllgmenbaaa
