/- Proved: the law FnExactSwitchIntercalate returns true, and old memory is left alone. Conditions: those that the theorem names. -/
import Derived.Test.YtbhjbllgmenbaaaSiz
import Derived.Test.YtbhjbllgmenbaaaLx
import Derived.Test.YtbhjbllgmenbaaaTo2
namespace Go.Proofs.Ytbhjbllgmenbaaa
set_option linter.unusedVariables false
set_option linter.unusedSimpArgs false
open Go.RowKit
theorem Row.otherQ {w w' : World} {b n k : Nat} {f : Nat → Int} (h : Row w b n f) (hO : ∀ b cs t, b ≠ k → holds w b cs t → holds w' b cs t) (hne : b ≠ k) : Row w' b n f := by
  obtain ⟨cs, h1, h2⟩ := h.at'
  exact ⟨cs, hO _ _ _ hne h1, h2⟩
set_option maxRecDepth 20000 in
set_option maxHeartbeats 4000000 in
theorem lawSwitchIntercalate_by (o : Int) (g : Nat → UInt8) (v : Value) (n : Nat) (f : Nat → Int) (O : Int) (T : Nat → UInt8) (z : Int) (w : World) (hnl : n ≤ 1048576) (hI : NIn w v n f)
    (hS : Hid (∀ w b, Row w b n f → Calls Try.prog 15 #[.agg (sqc o g), .slice (some ⟨b, 0, none⟩) n n] w fun e w' => e = .returned (.tuple #[.agg (sqc O T), .int .i64 z]) ∧ Below w.heap.size w w'))
    (hT : Hid (∀ w b, Row w b n f → Calls Try.prog 18 #[.agg (sqc o g), .slice (some ⟨b, 0, none⟩) n n] w fun e w' => e = .returned (.tuple #[.agg (sqc O T), .int .i64 z]) ∧ Below w.heap.size w w')) :
    Calls Try.prog 3 #[.agg (sqc o g), v] w fun e w' => e = .returned (.bool true) ∧ Below w.heap.size w w' := by
  have hle : ¬ (1048576 : Int) < (n : Int) := by omega
  obtain ⟨A, cap, hv⟩ : ∃ A cap, v = .slice A n cap := by
    rcases hI with ⟨e, e2⟩ | ⟨a, cap, e, _⟩
    · subst e2; exact ⟨none, 0, e⟩
    · exact ⟨some a, cap, e⟩
  subst hv
  have HIa := hid hI
  have HIb := hid hI
  have HIc := hid hI
  clear hI
  have hH := Has.start1 w (sqc o g) 25
  go_enter Try.func3, Try.ntmps3
  go_wp2_with (first | fail | (refine wpL_loadFull rfl rfl rfl rowSl hH.h0 (sqc_size _ _) ?_) | (go_at_call 16; with_reducible refine (toSquare_any o g _).mono ?_; rintro e w2 ⟨rfl, hb⟩; replace hH := hH.call' hb; clear hb) | (go_at_call 17; refine (toInt64S_any _ n f _ (HIa.out.below hH.below) hnl).mono ?_; intro e w3 hg; obtain ⟨b0, rfl, hb, H0, hlo0, hhi0⟩ := hg.high (Nat.le_refl _); replace hH := hH.call' hb; clear hlo0 hhi0; clear hg hb HIa) | (go_at_call 15; refine (hS.out _ _ H0.out).mono ?_; rintro e w4 ⟨rfl, hb⟩; replace hH := hH.call' hb; clear hb H0) | (refine wpL_allocN (o := ⟨some 5, _, _, _, _, _⟩) rfl rfl zeroSq ?_; intro g5 w5 hg5 hl hb; have hb5 : w.heap.size + 1 ≤ g5 := (by have := hH.size; simp only [List.length_cons, List.length_nil] at this; omega); replace hH := hH.call' hb; clear hb hl) | (refine wpL_storeN (x := .tmp 5) rfl rfl rfl rfl rowSq hg5 (sqc_size _ _) (sqc_ok _ _) ?_; intro w6 hz hO hT5; replace hg5 := hz; replace hH := hT5 _ _ hH hb5; clear hz hO hT5))
  go_wp2_with (first | fail | (refine wpL_loadFull rfl rfl rfl rowSl hH.h0 (sqc_size _ _) ?_) | (go_at_call 16; with_reducible refine (toSquare_any o g _).mono ?_; rintro e w2 ⟨rfl, hb⟩; replace hH := hH.call' hb; replace H1 := hid (H1.out.below hb); replace hg5 := holds_below hg5 hb (holds_lt hg5); clear hb) | (go_at_call 17; refine (toInt64S_any _ n f _ (HIb.out.below hH.below) hnl).mono ?_; intro e w3 hg; obtain ⟨b1, rfl, hb, H1, hlo1, hhi1⟩ := hg.high (Nat.le_refl _); replace hH := hH.call' hb; replace hg5 := holds_below hg5 hb (holds_lt hg5); clear hlo1 hhi1; clear hg hb HIb) | (go_at_call 18; refine (hT.out _ _ H1.out).mono ?_; rintro e w4 ⟨rfl, hb⟩; replace hH := hH.call' hb; replace H1 := hid (H1.out.below hb); replace hg5 := holds_below hg5 hb (holds_lt hg5); clear hb) | (refine wpL_allocN (o := ⟨some 8, _, _, _, _, _⟩) rfl rfl zeroSq ?_; intro g8 w5 hg8 hl hb; have hb8 : w.heap.size + 1 ≤ g8 := (by have := hH.size; simp only [List.length_cons, List.length_nil] at this; omega); have hn1 : b1 ≠ g8 := (by have := H1.out.lt; omega); have hn5 : g5 ≠ g8 := (by have := holds_lt hg5; omega); replace hH := hH.call' hb; replace H1 := hid (H1.out.below hb); replace hg5 := holds_below hg5 hb (holds_lt hg5); clear hb hl) | (refine wpL_storeN (x := .tmp 8) rfl rfl rfl rfl rowSq hg8 (sqc_size _ _) (sqc_ok _ _) ?_; intro w6 hz hO hT8; replace hg8 := hz; replace hH := hT8 _ _ hH hb8; replace hg5 := hO _ _ _ hn5 hg5; replace H1 := hid (H1.out.otherQ hO hn1); clear hz hO hT8) | (refine wpL_loadFull (x := .tmp 8) rfl rfl rfl rowSq hg8 (sqc_size _ _) ?_) | (refine wpL_loadFull (x := .tmp 5) rfl rfl rfl rowSq hg5 (sqc_size _ _) ?_) | (go_at_call 19; refine (eqSquare_self _ _ _).mono ?_; rintro e w7 ⟨rfl, hb⟩; replace hH := hH.call' hb; replace H1 := hid (H1.out.below hb); clear hb))
  go_wp2_with (first | fail | (go_at_call 17; refine (toInt64S_any _ n f _ (HIc.out.below hH.below) hnl).mono ?_; intro e w3 hg; obtain ⟨b2, rfl, hb, H2, hlo3, hhi3⟩ := hg.high (Nat.le_refl _); replace hH := hH.call' hb; replace H1 := hid (H1.out.below hb); clear hlo3 hhi3; clear hg hb HIc) | (go_at_call 20; refine (eqInt64S_same b1 b2 _ _ _ f _ hnl H1.out H2.out).mono ?_; rintro e w7 ⟨rfl, hb⟩; replace hH := hH.call' hb; clear hb))
  go_ret
  exact ⟨rfl, hH.below⟩
set_option maxHeartbeats 1000000 in
theorem lawSwitchIntercalate_long (o : Int) (g : Nat → UInt8) (v : Value) (n : Nat) (f : Nat → Int) (w : World) (hn : ¬ n ≤ 1048576) (hI : NIn w v n f) :
    Calls Try.prog 3 #[.agg (sqc o g), v] w fun e w' => e = .returned (.bool true) ∧ Below w.heap.size w w' := by
  have hgt : (1048576 : Int) < (n : Int) := by omega
  rcases hI with ⟨rfl, rfl⟩ | ⟨a, cap, rfl, _⟩
  · exact absurd (by omega : (0 : Nat) ≤ 1048576) hn
  · have hH := Has.start1 w (sqc o g) 25
    go_enter Try.func3, Try.ntmps3
    go_wp2
    go_ret
    exact ⟨rfl, hH.below⟩
theorem si_code {N : Nat} {f : Nat → Int} (h : ∀ k, k < 4 → 0 ≤ f k ∧ f k < N) (k : Nat) (hk : k < 4) : ∃ a : Nat, f k = (a : Int) ∧ a < N := by
  obtain ⟨a, ha⟩ := Int.eq_ofNat_of_zero_le (h k hk).1
  exact ⟨a, ha, by have := (h k hk).2; omega⟩
theorem out_ex {N : Nat} {f : Nat → Int} (h : ¬ ∀ k, k < 4 → 0 ≤ f k ∧ f k < (N : Int)) : ∃ k0, k0 < 4 ∧ (∀ k, k < k0 → 0 ≤ f k ∧ f k < (N : Int)) ∧ ¬ (0 ≤ f k0 ∧ f k0 < (N : Int)) := by
  by_cases h0 : 0 ≤ f 0 ∧ f 0 < (N : Int)
  · by_cases h1 : 0 ≤ f 1 ∧ f 1 < (N : Int)
    · by_cases h2 : 0 ≤ f 2 ∧ f 2 < (N : Int)
      · refine ⟨3, by omega, fun k hk => ?_, fun h3 => h fun k hk => ?_⟩
        · match k, hk with
          | 0, _ => exact h0
          | 1, _ => exact h1
          | 2, _ => exact h2
        · match k, hk with
          | 0, _ => exact h0
          | 1, _ => exact h1
          | 2, _ => exact h2
          | 3, _ => exact h3
      · refine ⟨2, by omega, fun k hk => ?_, h2⟩
        match k, hk with
        | 0, _ => exact h0
        | 1, _ => exact h1
    · refine ⟨1, by omega, fun k hk => ?_, h1⟩
      match k, hk with
      | 0, _ => exact h0
  · exact ⟨0, by omega, fun k hk => by omega, h0⟩
theorem lawSwitchIntercalate_any (o : Int) (g : Nat → UInt8) (_ : (Lit.int .i64 o).wf = true) (v : Value) (n : Nat) (f : Nat → Int) (w : World) (hI : NIn w v n f) :
    Calls Try.prog 3 #[.agg (sqc o g), v] w fun e w' => e = .returned (.bool true) ∧ Below w.heap.size w w' := by
  by_cases hn : n ≤ 1048576
  · cases hs : sqB o g with
    | false => exact lawSwitchIntercalate_by o g v n f _ _ 1 w hn hI (hid fun w b hR => specSI_err o g _ 1 w rfl (hid fun w' _ => l09Four_no o g _ w' hs)) (hid fun w b hR => implSI_no o g _ w hs)
    | true =>
      obtain ⟨N, rfl, hq⟩ := sqB_true.1 hs
      by_cases h4 : n = 4
      · subst h4
        by_cases hord : f 1 ≤ f 0 ∨ f 3 ≤ f 2
        · exact lawSwitchIntercalate_by N g v 4 f _ _ 2 w hn hI (hid fun w b hR => specSI_err N g _ 2 w rfl (hid fun w' hb => l09Four_ord N 4 b 4 g f w' hs hn (hR.below hb) (.inr ⟨rfl, hord⟩))) (hid fun w b hR => implSI_range N 4 b 4 g f w hs hn hR (.inr ⟨rfl, by omega⟩))
        · have h01 : f 0 < f 1 := by omega
          have h23 : f 2 < f 3 := by omega
          by_cases hall : ∀ k, k < 4 → 0 ≤ f k ∧ f k < (N : Int)
          · obtain ⟨a, ea, ha⟩ := si_code hall 0 (by omega)
            obtain ⟨b, eb, hb⟩ := si_code hall 1 (by omega)
            obtain ⟨c, ec, hc⟩ := si_code hall 2 (by omega)
            obtain ⟨d, ed, hd⟩ := si_code hall 3 (by omega)
            have HH := lawSwitchIntercalate_by N g v 4 f (bif q4 g a b c d then N else 0) (bif q4 g a b c d then si4 g a b c d else fun _ => 0) (bif q4 g a b c d then 0 else 5) w hn hI
            have HA := fun (w : World) gb (hR : Row w gb 4 f) => specSI_in N gb 4 a b c d g f w hq hR ea eb ec ed (by omega) hb (by omega) hd (hid fun w' hbl => l09Four_in N gb 4 4 g f 0 w' hs (hR.below hbl) h01 h23 hall (by omega) (.inl ⟨rfl, rfl⟩))
            have HB := fun (w : World) gb (hR : Row w gb 4 f) => implSI_in N gb 4 a b c d g f w hs hq hR ea eb ec ed (by omega) hb (by omega) hd
            cases h : q4 g a b c d with
            | true => rw [h] at HA HB HH; exact HH (hid fun w gb hR => HA w gb hR) (hid fun w gb hR => HB w gb hR)
            | false => rw [h] at HA HB HH; exact HH (hid fun w gb hR => HA w gb hR) (hid fun w gb hR => HB w gb hR)
          · obtain ⟨k0, hk0, hlo, hno⟩ := out_ex hall
            have hbad : ¬ (0 ≤ f 0 ∧ f 0 < f 1 ∧ f 1 < (N : Int)) ∨ ¬ (0 ≤ f 2 ∧ f 2 < f 3 ∧ f 3 < (N : Int)) := by
              match k0, hk0, hno with
              | 0, _, hno => exact .inl (by omega)
              | 1, _, hno => exact .inl (by omega)
              | 2, _, hno => exact .inr (by omega)
              | 3, _, hno => exact .inr (by omega)
            exact lawSwitchIntercalate_by N g v 4 f _ _ 2 w hn hI (hid fun w b hR => specSI_err N g _ 2 w rfl (hid fun w' hb => l09Four_in N b 4 k0 g f 2 w' hs (hR.below hb) h01 h23 hlo (by omega) (.inr ⟨hk0, hno, rfl⟩))) (hid fun w b hR => implSI_range N 4 b 4 g f w hs hn hR (.inr ⟨rfl, hbad⟩))
      · exact lawSwitchIntercalate_by N g v n f _ _ 2 w hn hI (hid fun w b hR => specSI_err N g _ 2 w rfl (hid fun w' hb => l09Four_ord N n b n g f w' hs hn (hR.below hb) (.inl h4))) (hid fun w b hR => implSI_range N n b n g f w hs hn hR (.inl h4))
  · exact lawSwitchIntercalate_long o g v n f w hn hI
end Go.Proofs.Ytbhjbllgmenbaaa
