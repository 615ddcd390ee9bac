/- Proved: the law FnExactIsNormalSubloop returns true, and old memory is left alone. Conditions: those that the theorem names. -/
import Derived.Test.YtbdcbmennblcdabNz
import Derived.Test.YtbdcbmennblcdabLx
import Derived.Test.YtbdcbmennblcdabTo2
namespace Go.Proofs.Ytbdcbmennblcdab
set_option linter.unusedVariables false
set_option linter.unusedSimpArgs false
open Go.RowKit
set_option maxRecDepth 20000 in
set_option maxHeartbeats 4000000 in
theorem lawIsNormalSubloop_by (o : Int) (g : Nat → UInt8) (v : Value) (n : Nat) (f : Nat → Int) (r : Bool) (z : Int) (w : World) (hnl : n ≤ 1048576) (hI : NIn w v n f)
    (hS : Hid (∀ w b, Row w b n f → Calls Try.prog 21 #[.agg (sqc o g), .slice (some ⟨b, 0, none⟩) n n] w fun e w' => e = .returned (.tuple #[.bool r, .int .i64 z]) ∧ Below w.heap.size w w'))
    (hT : Hid (∀ w b, Row w b n f → Calls Try.prog 23 #[.agg (sqc o g), .slice (some ⟨b, 0, none⟩) n n] w fun e w' => e = .returned (.tuple #[.bool r, .int .i64 z]) ∧ Below w.heap.size w w')) :
    Calls Try.prog 4 #[.agg (sqc o g), v] w fun e w' => e = .returned (.bool true) ∧ Below w.heap.size w w' := by
  have hle : ¬ (1048576 : Int) < (n : Int) := by omega
  obtain ⟨A, cap, hv⟩ : ∃ A cap, v = .slice A n cap := by
    rcases hI with ⟨e, e2⟩ | ⟨a, cap, e, _⟩
    · subst e2; exact ⟨none, 0, e⟩
    · exact ⟨some a, cap, e⟩
  subst hv
  have HIa := hid hI
  have HIb := hid hI
  have HIc := hid hI
  clear hI
  have hH := Has.start1 w (sqc o g) 25
  cases r
  all_goals
    go_enter Try.func4, Try.ntmps4
    go_wp2_with (first | fail | (refine wpL_loadFull rfl rfl rfl rowSl hH.h0 (sqc_size _ _) ?_) | (go_at_call 16; with_reducible refine (toSquare_any o g _).mono ?_; rintro e w2 ⟨rfl, hb⟩; replace hH := hH.call' hb; clear hb) | (go_at_call 22; refine (toInt64S_any _ n f _ (HIa.out.below hH.below) hnl).mono ?_; intro e w3 hg; obtain ⟨b0, rfl, hb, H0, hlo0, hhi0⟩ := hg.high (Nat.le_refl _); replace hH := hH.call' hb; clear hlo0 hhi0; clear hg hb HIa) | (go_at_call 21; refine (hS.out _ _ H0.out).mono ?_; rintro e w4 ⟨rfl, hb⟩; replace hH := hH.call' hb; clear hb H0))
    go_wp2_with (first | fail | (refine wpL_loadFull rfl rfl rfl rowSl hH.h0 (sqc_size _ _) ?_) | (go_at_call 16; with_reducible refine (toSquare_any o g _).mono ?_; rintro e w2 ⟨rfl, hb⟩; replace hH := hH.call' hb; replace H1 := hid (H1.out.below hb); clear hb) | (go_at_call 22; refine (toInt64S_any _ n f _ (HIb.out.below hH.below) hnl).mono ?_; intro e w3 hg; obtain ⟨b1, rfl, hb, H1, hlo1, hhi1⟩ := hg.high (Nat.le_refl _); replace hH := hH.call' hb; clear hlo1 hhi1; clear hg hb HIb))
    go_wp2_with (first | fail | (refine wpL_guard rfl rfl ?_) | (go_at_call 22; refine (toInt64S_any _ n f _ (HIc.out.below hH.below) hnl).mono ?_; intro e w3 hg; obtain ⟨b2, rfl, hb, H2, hlo3, hhi3⟩ := hg.high (Nat.le_refl _); replace hH := hH.call' hb; replace H1 := hid (H1.out.below hb); clear hlo3 hhi3; clear hg hb HIc) | (go_at_call 23; refine (hT.out _ _ H1.out).mono ?_; rintro e w4 ⟨rfl, hb⟩; replace hH := hH.call' hb; replace H1 := hid (H1.out.below hb); clear hb) | (go_at_call 24; refine (eqInt64S_same b1 b2 _ _ _ f _ hnl H1.out H2.out).mono ?_; rintro e w7 ⟨rfl, hb⟩; replace hH := hH.call' hb; clear hb))
    go_ret
    exact ⟨rfl, hH.below⟩
set_option maxHeartbeats 1000000 in
theorem lawIsNormalSubloop_long (o : Int) (g : Nat → UInt8) (v : Value) (n : Nat) (f : Nat → Int) (w : World) (hn : ¬ n ≤ 1048576) (hI : NIn w v n f) :
    Calls Try.prog 4 #[.agg (sqc o g), v] w fun e w' => e = .returned (.bool true) ∧ Below w.heap.size w w' := by
  have hgt : (1048576 : Int) < (n : Int) := by omega
  rcases hI with ⟨rfl, rfl⟩ | ⟨a, cap, rfl, _⟩
  · exact absurd (by omega : (0 : Nat) ≤ 1048576) hn
  · have hH := Has.start1 w (sqc o g) 25
    go_enter Try.func4, Try.ntmps4
    go_wp2
    go_ret
    exact ⟨rfl, hH.below⟩
theorem lawIsNormalSubloop_any (o : Int) (g : Nat → UInt8) (_ : (Lit.int .i64 o).wf = true) (v : Value) (n : Nat) (f : Nat → Int) (w : World) (hI : NIn w v n f) :
    Calls Try.prog 4 #[.agg (sqc o g), v] w fun e w' => e = .returned (.bool true) ∧ Below w.heap.size w w' := by
  by_cases hn : n ≤ 1048576
  · cases hs : loopB o g with
    | false => exact lawIsNormalSubloop_by o g v n f false 1 w hn hI (hid fun w b hR => specIsNormalSubloop_err o g b n n f 1 w rfl hR (hid fun w hR => l06List_no o g _ w hs)) (hid fun w b hR => implIsNormal_err o g b n n f 1 w rfl hR (hid fun w hR => setOf_no o g _ w hs))
    | true =>
      obtain ⟨N, rfl, hL, hsq, hl⟩ := loop_true hs
      rcases bad_or_ok f N n with ⟨k0, hB⟩ | hok
      · exact lawIsNormalSubloop_by N g v n f false 2 w hn hI (hid fun w b hR => specIsNormalSubloop_err N g b n n f 2 w rfl hR (hid fun w hR => l06List_bad N b n n k0 g f w hl hL.sq.lo hL.sq.hi hn hR hB)) (hid fun w b hR => implIsNormal_err N g b n n f 2 w rfl hR (hid fun w hR => setOf_bad N b n n k0 g f w hL hl hn hR hB))
      · exact lawIsNormalSubloop_by N g v n f (eqL (ncF g N (inL f n)) (inL f n)) 0 w hn hI (hid fun w b hR => specIsNormalSubloop_in N b n n g f w hL.sq hR hok (hid fun w hR => l06List_ok N b n n g f w hl hL.sq.lo hL.sq.hi hn hR hok)) (hid fun w b hR => implIsNormal_in N b n n g f w hL.sq hR (fun i _ h => Classical.byContradiction fun hc => by rw [inL_out hok (Nat.le_of_not_lt hc)] at h; cases h) (hid fun w hR => setOf_ok N b n n g f w hL hl hn hR hok))
  · exact lawIsNormalSubloop_long o g v n f w hn hI
end Go.Proofs.Ytbdcbmennblcdab
