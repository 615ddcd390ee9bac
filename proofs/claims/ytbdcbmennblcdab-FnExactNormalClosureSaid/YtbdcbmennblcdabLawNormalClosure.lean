/- Proved: the law FnExactNormalClosure returns true, and old memory is left alone. Conditions: those that the theorem names. -/
import Derived.Test.YtbdcbmennblcdabNz
import Derived.Test.YtbdcbmennblcdabLx
import Derived.Test.YtbdcbmennblcdabTo2
namespace Go.Proofs.Ytbdcbmennblcdab
set_option linter.unusedVariables false
set_option linter.unusedSimpArgs false
open Go.RowKit
theorem Row.cut {w : World} {b n : Nat} {f : Nat → Int} (h : Row w b n f) : ∃ S, b < S ∧ S ≤ w.heap.size ∧ w.heap.size ≤ S := ⟨_, h.lt, Nat.le_refl _, Nat.le_refl _⟩
theorem IL.cut {w : World} {lo : Nat} {v : Value} {l : List Int} (h : IL w lo w.heap.size v l) : ∃ S, Hid (IL w lo S v l) ∧ S ≤ w.heap.size ∧ w.heap.size ≤ S := ⟨_, hid h, Nat.le_refl _, Nat.le_refl _⟩
theorem IL.widen {w : World} {lo hi hi' : Nat} {v : Value} {l : List Int} (h : IL w lo hi v l) (hh : hi ≤ hi') : IL w lo hi' v l := by
  rcases h with h | ⟨g, c, e, h1, h2, h3⟩
  · exact .inl h
  · exact .inr ⟨g, c, e, h1, by omega, h3⟩
set_option maxRecDepth 20000 in
set_option maxHeartbeats 8000000 in
theorem lawNormalClosure_by (o : Int) (g : Nat → UInt8) (v : Value) (n : Nat) (f : Nat → Int) (l : List Int) (z : Int) (w : World) (hnl : n ≤ 1048576) (hll : l.length ≤ 1000) (hI : NIn w v n f)
    (hS : Hid (∀ w b, Row w b n f → Calls Try.prog 25 #[.agg (sqc o g), .slice (some ⟨b, 0, none⟩) n n] w (GotL l z w)))
    (hT : Hid (∀ w b, Row w b n f → Calls Try.prog 26 #[.agg (sqc o g), .slice (some ⟨b, 0, none⟩) n n] w (GotL l z w))) :
    Calls Try.prog 5 #[.agg (sqc o g), v] w fun e w' => e = .returned (.bool true) ∧ Below w.heap.size w w' := by
  have hle : ¬ (1048576 : Int) < (n : Int) := by omega
  obtain ⟨A, cap, hv⟩ : ∃ A cap, v = .slice A n cap := by
    rcases hI with ⟨e, e2⟩ | ⟨a, cap, e, _⟩
    · subst e2; exact ⟨none, 0, e⟩
    · exact ⟨some a, cap, e⟩
  subst hv
  obtain ⟨L, hL⟩ : ∃ L, l.length = L := ⟨_, rfl⟩
  rw [hL] at hll
  have HL := hid hL
  clear hL
  obtain ⟨M, hM⟩ : ∃ M, 1 + n = M := ⟨_, rfl⟩
  have HM := hid hM
  have hM0 : ¬ (M : Int) < 0 := by omega
  clear hM
  have HIa := hid hI
  have HIb := hid hI
  have HIc := hid hI
  have HId := hid hI
  clear hI
  have hH := Has.start1 w (sqc o g) 25
  go_enter Try.func5, Try.ntmps5
  go_wp2_with (first | fail | (refine wpL_loadFull rfl rfl rfl rowSl hH.h0 (sqc_size _ _) ?_) | (go_at_call 16; with_reducible refine (toSquare_any o g _).mono ?_; rintro e w2 ⟨rfl, hb⟩; replace hH := hH.call' hb) | (go_at_call 22; refine (toInt64S_any _ n f _ (HIa.out.below hH.below) hnl).mono ?_; intro e w3 hg; obtain ⟨b0, rfl, hb, H0, hlo0, hhi0⟩ := hg.high (Nat.le_refl _); replace hH := hH.call' hb; clear hlo0 hhi0; clear hg hb HIa) | (go_at_call 25; have zz := hH.size; simp only [List.length_cons, List.length_nil] at zz; refine (hS.out _ _ H0.out).mono ?_; rintro e w4 ⟨v0, rfl, hb, hI0⟩; replace hH := hH.call' hb; have hV := hid (hI0.lower (by omega : w.heap.size + 1 ≤ _)); have hz4 : w.heap.size + 1 ≤ w4.heap.size := (by have := hH.size; simp only [List.length_cons, List.length_nil] at this; omega); clear hb hI0 H0 zz))
  go_wp2_with (first | fail | (refine wpL_loadFull rfl rfl rfl rowSl hH.h0 (sqc_size _ _) ?_) | (go_at_call 16; with_reducible refine (toSquare_any o g _).mono ?_; rintro e w2 ⟨rfl, hb⟩; replace hH := hH.call' hb; have hl1 := H1.out.lt; replace H1 := hid (H1.out.below hb); replace hV := hid (hV.out.below hb (by omega)); clear hb hl1) | (go_at_call 22; refine (toInt64S_any _ n f _ (HIb.out.below hH.below) hnl).mono ?_; intro e w3 hg; obtain ⟨b1, rfl, hb, H1, hlo1, hhi1⟩ := hg.high (Nat.le_refl _); replace hH := hH.call' hb; replace hV := hid ((hV.out.below hb (Nat.le_refl _)).widen hlo1); have hlo0 : w.heap.size + 1 ≤ b1 := (by omega); clear hz4 hhi1; clear hg hb HIb))
  obtain ⟨S, hb1S, hq, hq'⟩ := Row.cut H1.out
  have hlo2 : w.heap.size + 1 ≤ b1 := by omega
  go_wp2_with (first | fail | (refine wpL_guard rfl rfl ?_) | (go_at_call 26; refine (hT.out _ _ H1.out).mono ?_; rintro e w4 ⟨v1, rfl, hb, hI1⟩; have hzs := hb.size; replace hH := hH.call' hb; replace H1 := hid (H1.out.below hb); replace hV := hid (hV.out.below hb (by omega)); obtain ⟨S2, hG, hq2, hq3⟩ := IL.cut (hI1.lower hq); clear hI1 hb))
  have hSS2 : S ≤ S2 := by omega
  clear hq hq' hq3
  go_wp2_with (first | fail | (refine wpL_guard rfl rfl ?_) | (go_at_call 24; refine (eqIL hG.out hV.out (by rw [HL.out]; omega)).mono ?_; rintro e w6 ⟨rfl, hb⟩; have hzs := hb.size; replace hH := hH.call' hb; replace H1 := hid (H1.out.below hb); replace hV := hid (hV.out.below hb (by omega)); replace hG := hid (hG.out.below hb (by omega)); replace hq2 := Nat.le_trans hq2 hb.size; clear hb))
  go_wp2_with (first | fail | (go_at_call 22; refine (toInt64S_any _ n f _ (HIc.out.below hH.below) hnl).mono ?_; intro e w3 hg; obtain ⟨b2, rfl, hb, H2, hlo3, hhi3⟩ := hg.high (Nat.le_refl _); replace hH := hH.call' hb; have hzs := hb.size; replace H1 := hid (H1.out.below hb); replace hV := hid (hV.out.below hb (by omega)); replace hG := hid (hG.out.below hb (by omega)); replace hq2 := Nat.le_trans hq2 hb.size; clear hlo3 hhi3; clear hg hb HIc) | (go_at_call 24; refine (eqInt64S_same b1 b2 _ _ _ f _ hnl H1.out H2.out).mono ?_; rintro e w8 ⟨rfl, hb⟩; have hzs2 := hb.size; replace hH := hH.call' hb; replace H1 := hid (H1.out.below hb); replace hV := hid (hV.out.below hb (by omega)); replace hG := hid (hG.out.below hb (by omega)); replace hq2 := Nat.le_trans hq2 hb.size; clear hb H2))
  go_wp2_with (first | fail | (refine wpL_guard rfl rfl ?_) | (go_at_call 27; refine (mark_one b1 n n f _ M HM.out hnl H1.out).mono ?_; rintro e w9 ⟨rfl, hg⟩; have hzs3 := hg.size; replace hH := hH.grown hg (fun k hk => by cases hk; simp; omega); replace hV := hid (hV.out.grownB hg (.inr (Nat.le_refl _))); replace hG := hid (hG.out.grownB hg (.inl hb1S)); replace hq2 := Nat.le_trans hq2 hzs3; clear hg H1) | (go_at_call 24; refine (eqIL hG.out hV.out (by rw [HL.out]; omega)).mono ?_; rintro e w6 ⟨rfl, hb⟩; have hzs := hb.size; replace hH := hH.call' hb; replace hV := hid (hV.out.below hb (by omega)); replace hG := hid (hG.out.below hb (by omega)); replace hq2 := Nat.le_trans hq2 hb.size; clear hb))
  go_wp2_with (first | fail | (go_at_call 27; refine (markIL hG.out (by rw [HL.out]; omega) (by omega) (by omega) (by omega)).mono ?_; rintro e w11 ⟨rfl, hb, hI2⟩; rw [HL.out]; have hzs5 := hb.size; replace hH := hH.call hb (by simp; omega); replace hV := hid (hV.out.below hb (by omega)); replace hG := hid hI2; replace hq2 := Nat.le_trans hq2 hb.size; clear hb hI2))
  go_wp2_with (first | fail | (refine wpL_loadFull rfl rfl rfl rowSl hH.h0 (sqc_size _ _) ?_) | (go_at_call 16; with_reducible refine (toSquare_any o g _).mono ?_; rintro e w2 ⟨rfl, hb⟩; replace hH := hH.call' hb; have hzs := hb.size; replace hV := hid (hV.out.below hb (by omega)); replace hG := hid (hG.out.below hb (by omega)); replace hq2 := Nat.le_trans hq2 hb.size; clear hb) | (go_at_call 28; refine (heldIL hG.out (by rw [HL.out]; omega) (by omega) (by omega)).mono ?_; rintro e w12 ⟨rfl, rfl⟩; rw [HL.out]))
  go_wp2_with (first | fail | (go_at_call 22; refine (toInt64S_any _ n f _ (HId.out.below hH.below) hnl).mono ?_; intro e w3 hg; obtain ⟨b3, rfl, hb, H3, hlo4, hhi4⟩ := hg.high (Nat.le_refl _); replace hH := hH.call' hb; have hzs := hb.size; replace hV := hid (hV.out.below hb (by omega)); replace hG := hid (hG.out.below hb (by omega)); replace hq2 := Nat.le_trans hq2 hb.size; clear hlo4 hhi4; clear hg hb HId) | (go_at_call 26; have zz := hH.size; simp only [List.length_cons, List.length_nil] at zz; refine (hT.out _ _ H3.out).mono ?_; rintro e w4 ⟨v2, rfl, hb, hI0⟩; have hzs := hb.size; replace hH := hH.call' hb; replace hV := hid (hV.out.below hb (by omega)); replace hG := hid (hG.out.below hb (by omega)); have hW := hid (hI0.lower (by omega : w.heap.size + 1 ≤ _)); clear hb hI0 H3 zz))
  go_wp2_with (first | fail | (refine wpL_guard rfl rfl ?_) | (go_at_call 24; refine (eqIL hW.out hV.out (by rw [HL.out]; omega)).mono ?_; rintro e w6 ⟨rfl, hb⟩; have hzs := hb.size; replace hH := hH.call' hb; replace hG := hid (hG.out.below hb (by omega)); clear hb hW hV) | (go_at_call 28; refine (heldIL hG.out (by rw [HL.out]; omega) (by omega) (by omega)).mono ?_; rintro e w12 ⟨rfl, rfl⟩; rw [HL.out]))
  go_ret
  exact ⟨rfl, hH.below⟩
set_option maxHeartbeats 1000000 in
theorem lawNormalClosure_long (o : Int) (g : Nat → UInt8) (v : Value) (n : Nat) (f : Nat → Int) (w : World) (hn : ¬ n ≤ 1048576) (hI : NIn w v n f) :
    Calls Try.prog 5 #[.agg (sqc o g), v] w fun e w' => e = .returned (.bool true) ∧ Below w.heap.size w w' := by
  have hgt : (1048576 : Int) < (n : Int) := by omega
  rcases hI with ⟨rfl, rfl⟩ | ⟨a, cap, rfl, _⟩
  · exact absurd (by omega : (0 : Nat) ≤ 1048576) hn
  · have hH := Has.start1 w (sqc o g) 25
    go_enter Try.func5, Try.ntmps5
    go_wp2
    go_ret
    exact ⟨rfl, hH.below⟩
theorem lawNormalClosure_any (o : Int) (g : Nat → UInt8) (_ : (Lit.int .i64 o).wf = true) (v : Value) (n : Nat) (f : Nat → Int) (w : World) (hI : NIn w v n f) :
    Calls Try.prog 5 #[.agg (sqc o g), v] w fun e w' => e = .returned (.bool true) ∧ Below w.heap.size w w' := by
  by_cases hn : n ≤ 1048576
  · cases hs : loopB o g with
    | false => exact lawNormalClosure_by o g v n f [] 1 w hn (by simp) hI (hid fun w b hR => (specNormalClosure_err o g b n n f 1 w rfl hR (hid fun w hR => l06List_no o g _ w hs)).mono fun e w2 h => GotL.err h) (hid fun w b hR => (implNormalClosure_err o g b n n f 1 w rfl hR (hid fun w hR => setOf_no o g _ w hs)).mono fun e w2 h => GotL.err h)
    | true =>
      obtain ⟨N, rfl, hL, hsq, hl⟩ := loop_true hs
      rcases bad_or_ok f N n with ⟨k0, hB⟩ | hok
      · exact lawNormalClosure_by N g v n f [] 2 w hn (by simp) hI (hid fun w b hR => (specNormalClosure_err N g b n n f 2 w rfl hR (hid fun w hR => l06List_bad N b n n k0 g f w hl hL.sq.lo hL.sq.hi hn hR hB)).mono fun e w2 h => GotL.err h) (hid fun w b hR => (implNormalClosure_err N g b n n f 2 w rfl hR (hid fun w hR => setOf_bad N b n n k0 g f w hL hl hn hR hB)).mono fun e w2 h => GotL.err h)
      · exact lawNormalClosure_by N g v n f (selL (ncF g N (inL f n)) 10) 0 w hn (Nat.le_trans (selL_len _ _) (by omega)) hI (hid fun w b hR => specNormalClosure_in N b n n g f w hL.sq hR hok (hid fun w hR => l06List_ok N b n n g f w hl hL.sq.lo hL.sq.hi hn hR hok)) (hid fun w b hR => implNormalClosure_in N b n n g f w hL.sq hR (fun i _ h => Classical.byContradiction fun hc => by rw [inL_out hok (Nat.le_of_not_lt hc)] at h; cases h) (hid fun w hR => setOf_ok N b n n g f w hL hl hn hR hok))
  · exact lawNormalClosure_long o g v n f w hn hI
end Go.Proofs.Ytbdcbmennblcdab
