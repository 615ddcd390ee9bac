/- Proved: the law FnExactCandidatesAt returns true, and old memory is left alone. Conditions: those that the theorem names. -/
import Derived.Test.YtbhjbllgmenbaaaBo8
import Derived.Test.YtbhjbllgmenbaaaBo9
import Derived.Test.YtbhjbllgmenbaaaMks
import Derived.Test.YtbhjbllgmenbaaaReg
namespace Go.Proofs.Ytbhjbllgmenbaaa
set_option linter.unusedVariables false
set_option linter.unusedSimpArgs false
open Go.RowKit
set_option maxRecDepth 20000 in
set_option maxHeartbeats 8000000 in
theorem lawCandidatesAt_by (v : Value) (n : Nat) (m : Nat → Nat) (f : Nat → Nat → Int) (i j : Int) (l : List Int) (Z : Int) (w : World) (hl : l.length ≤ 1000) (hI : SIn w v n m f) (hn : n ≤ maxLen) (hm : ∀ i, i < n → m i ≤ maxLen)
    (hS : (n ≤ 1048576 ∧ ∀ i, i < n → m i ≤ 1048576) → Hid (∀ w b, SL w b n m f → Calls Try.prog 34 #[.slice (some ⟨b, 0, none⟩) n n, .int .i64 i, .int .i64 j] w (GotL l Z w)))
    (hT : (n ≤ 1048576 ∧ ∀ i, i < n → m i ≤ 1048576) → Hid (∀ w b, SL w b n m f → Calls Try.prog 35 #[.slice (some ⟨b, 0, none⟩) n n, .int .i64 i, .int .i64 j] w (GotL l Z w))) :
    Calls Try.prog 8 #[v, .int .i64 i, .int .i64 j] w fun e w' => e = .returned (.bool true) ∧ Below w.heap.size w w' := by
  obtain ⟨A, cap, rfl⟩ := hI.form
  have HI := hid hI
  have HM0 := hid hm
  clear hI hm
  obtain ⟨M, hM⟩ : ∃ M, l.length = M := ⟨_, rfl⟩
  rw [hM] at hl
  have HM := hid hM
  clear hM
  obtain ⟨R, hR⟩ : ∃ R, szR n m = R := ⟨_, rfl⟩
  have hH := Has.nil w
  have SZ : Hid (∀ w0, Below w.heap.size w w0 → Calls Try.prog 29 #[.slice A n cap, .int .i64 1048576] w0 fun e w' => e = .returned (.int .i64 R) ∧ Below w0.heap.size w0 w') := hid fun w0 hb => hR ▸ szInt64SS_any _ n m f w0 (HI.out.below hb) hn HM0.out
  by_cases hneg : R < 0
  · go_enter Try.func8, Try.ntmps8
    go_wp2_with (first | fail | (go_at_call 29; refine (SZ.out _ hH.below).mono ?_; rintro e w3 ⟨rfl, hb⟩; replace hH := hH.call' hb; clear hb))
    go_ret
    exact ⟨rfl, hH.below⟩
  · have hbd := szR_ok (by rw [hR]; exact hneg)
    have hS := hS hbd
    have hT := hT hbd
    have hn2 := hbd.1
    have HM2 := hid hbd.2
    have hsum := szR_sum (by rw [hR]; exact hneg)
    have HSUM := hid hsum
    obtain ⟨S, hSe⟩ : ∃ S, sumM m n = S := ⟨_, rfl⟩
    rw [hSe] at hsum
    have HSM := hid hSe
    clear hbd hR hSe
    go_enter Try.func8, Try.ntmps8
    go_wp2_with (first | fail | (go_at_call 29; refine (SZ.out _ hH.below).mono ?_; rintro e w3 ⟨rfl, hb⟩; replace hH := hH.call' hb; clear hb) | (go_at_call 31; refine (toInt64SS_any _ n m f _ (HI.out.below hH.below) hn2 HM2.out).mono ?_; rintro e w3 ⟨ba, rfl, hb, HS, hloa⟩; have za := hb.size; replace hH := hH.call' hb; (try replace HS0 := hid (HS0.out.below hb (by omega))); clear hb) | (go_at_call 34; refine (hS.out _ _ HS.out).mono ?_; rintro e w4 ⟨v0, rfl, hb, hI⟩; have zs := hb.size; have HS0 := hid hI; replace hH := hH.call' hb; have hH5 := hH.size; simp only [List.length_nil] at hH5; clear hb hI HS))
    go_wp2_with (first | fail | (go_at_call 35; have HB := hid (HS.out.bound (Nat.le_refl _)); refine (hT.out _ _ HS.out).mono ?_; rintro e w5 ⟨v1, rfl, hb, hI⟩; have zi := hb.size; have HS1 := hid hI; have HX := hid (HB.out.below hb); have hH4 := hH.size; simp only [List.length_nil] at hH4; replace hH := hH.call' hb; replace HS0 := hid (HS0.out.below hb (by omega)); clear hb hI HS HB))
    go_wp2_with (first | fail | (refine wpL_guard rfl rfl ?_) | (go_at_call 20; refine (eqIL HS1.out HS0.out (by rw [HM.out]; omega)).mono ?_; rintro e w6 ⟨rfl, hb⟩; have z6 := hb.size; replace hH := hH.call' hb; replace HS0 := hid (HS0.out.below hb (by omega)); replace HS1 := hid (HS1.out.below hb (by omega)); replace HX := hid (HX.out.below hb); clear hb) | (go_at_call 31; refine (toInt64SS_any _ n m f _ (HI.out.below hH.below) hn2 HM2.out).mono ?_; rintro e w3 ⟨bc, rfl, hb, HS, hloc⟩; have zc := hb.size; replace hH := hH.call' hb; replace HS0 := hid (HS0.out.below hb (by omega)); replace HS1 := hid (HS1.out.below hb (by omega)); replace HX := hid (HX.out.below hb); clear hb) | (go_at_call 33; refine (eqInt64SS_sl _ _ n n n m f _ hn2 HM2.out HX.out.sl HS.out).mono ?_; rintro e w7 ⟨rfl, hb⟩; have z7 := hb.size; replace hH := hH.call' hb; replace HS0 := hid (HS0.out.below hb (by omega)); replace HS1 := hid (HS1.out.below hb (by omega)); replace HX := hid (HX.out.below hb); clear hb HS))
    go_wp2_with (first | fail | (go_at_call 36; obtain ⟨cs, hXS⟩ := HX.out.sx; have hbl := HX.out.1; refine (markSX _ n 1 m _ cs _ hn2 HSUM.out (by omega) (by omega) hXS).mono ?_; rintro e w8 ⟨rfl, ho⟩; rw [HSM.out]; have z8 := ho.size; replace hH := hH.call (ho.low (by omega)) (by simp only [List.length_nil]; omega); replace HS0 := hid (HS0.out.outX ho (.inl (by omega))); replace HS1 := hid (HS1.out.outX ho (.inr (by omega))); clear ho hXS HX))
    go_wp2_with (first | fail | (refine wpL_guard rfl rfl ?_) | (go_at_call 20; refine (eqIL HS1.out HS0.out (by rw [HM.out]; omega)).mono ?_; rintro e w6 ⟨rfl, hb⟩; have z6 := hb.size; replace hH := hH.call' hb; replace HS0 := hid (HS0.out.below hb (by omega)); replace HS1 := hid (HS1.out.below hb (by omega)); clear hb))
    go_wp2_with (first | fail | (go_at_call 25; refine (markIL HS1.out (by rw [HM.out]; omega) (by omega) (by omega) (by omega)).mono ?_; rintro e w9 ⟨rfl, hb, hI⟩; rw [HM.out]; have z9 := hb.size; replace hH := hH.call hb (by simp only [List.length_nil]; omega); replace HS0 := hid (HS0.out.below hb (by omega)); clear HS1; have HS1 := hid hI; clear hb hI))
    go_wp2_with (first | fail | (go_at_call 26; refine (heldIL HS1.out (by rw [HM.out]; omega) (by omega) (by omega)).mono ?_; rintro e w10 ⟨rfl, rfl⟩; rw [HM.out]) | (go_at_call 31; refine (toInt64SS_any _ n m f _ (HI.out.below hH.below) hn2 HM2.out).mono ?_; rintro e w3 ⟨bd, rfl, hb, HS, hlod⟩; have zd := hb.size; replace hH := hH.call' hb; replace HS0 := hid (HS0.out.below hb (by omega)); replace HS1 := hid (HS1.out.below hb (by omega)); clear hb) | (go_at_call 35; refine (hT.out _ _ HS.out).mono ?_; rintro e w11 ⟨v2, rfl, hb, hI⟩; have z11 := hb.size; have HS2 := hid hI; replace hH := hH.call' hb; replace HS0 := hid (HS0.out.below hb (by omega)); replace HS1 := hid (HS1.out.below hb (by omega)); clear hb hI HS) | (refine wpL_guard rfl rfl ?_) | (go_at_call 20; refine (eqIL HS2.out HS0.out (by rw [HM.out]; omega)).mono ?_; rintro e w6 ⟨rfl, hb⟩; have z6 := hb.size; replace hH := hH.call' hb; replace HS1 := hid (HS1.out.below hb (by omega)); clear hb HS0 HS2))
    go_ret
    exact ⟨rfl, hH.below⟩
theorem cdL_len (n : Nat) (m : Nat → Nat) (f : Nat → Nat → Int) (i j : Int) : (cdL n m f i j).1.length ≤ 1000 := by
  unfold cdL
  by_cases hG : ParG n m f
  · have h10 := hG.2.1
    rw [parB_yes hG, cond_true]
    split
    · split
      · simp
      · have := selL_len (cndB n f i.toNat j.toNat) n
        simp only
        omega
    · simp
  · rw [parB_no hG, cond_false]; simp
theorem lawCandidatesAt_any (v : Value) (n : Nat) (m : Nat → Nat) (f : Nat → Nat → Int) (i : Int) (_ : (Lit.int .i64 i).wf = true) (j : Int) (_ : (Lit.int .i64 j).wf = true) (w : World) (hI : SIn w v n m f ∧ n ≤ maxLen ∧ ∀ i, i < n → m i ≤ maxLen) :
    Calls Try.prog 8 #[v, .int .i64 i, .int .i64 j] w fun e w' => e = .returned (.bool true) ∧ Below w.heap.size w w' :=
  lawCandidatesAt_by v n m f i j _ _ w (cdL_len n m f i j) hI.1 hI.2.1 hI.2.2 (fun h => hid fun w b hL => specCandidatesAt_any b n m f i j w h.1 h.2 hL) (fun h => hid fun w b hL => implCandidatesAt_any b n m f i j w h.1 h.2 hL)
end Go.Proofs.Ytbhjbllgmenbaaa
