/- Proved: the law FnExactIsTerm returns true, and old memory is left alone. Conditions: those that the theorem names. -/
import Derived.Test.YtfkmhephabmolaaTe2
import Derived.Test.YtfkmhephabmolaaTe3
namespace Go.Proofs.Ytfkmhephabmolaa
set_option linter.unusedVariables false
set_option linter.unusedSimpArgs false
open Go.RowKit
theorem implIsTerm_any (b n c : Nat) (f : Nat → UInt8) (w : World) (hn : n ≤ 1048576) (h : BRow w b n f) :
    Calls Try.prog 32 #[.slice (some ⟨b, 0, none⟩) n c] w fun e w' => e = .returned (.bool (termT f n).isSome) ∧ Below w.heap.size w w' := by
  go_enter Try.func32, Try.ntmps32
  go_wp2_with (go_at_call 57; refine (treeOf_any b n c f _ hn h).mono ?_; rintro e w2 ⟨rfl, hb⟩)
  go_ret
  exact ⟨rfl, hb⟩
theorem GotB.size {n : Nat} {f : Nat → UInt8} {w w' : World} {e : Ending} (h : GotB n f w e w') : ∃ b, e = .returned (.slice (some ⟨b, 0, none⟩) n n) ∧ Below w.heap.size w w' ∧ Hid (BRow w' b n f) := by
  obtain ⟨b, h1, h2, h3, _⟩ := h; exact ⟨b, h1, h2, hid h3⟩
set_option maxHeartbeats 2000000 in
theorem lawIsTerm_any (v : Value) (n : Nat) (f : Nat → UInt8) (w : World) (h : BIn w v n f) :
    Calls Try.prog 8 #[v] w fun e w' => e = .returned (.bool true) ∧ Below w.heap.size w w' := by
  by_cases hn : n ≤ 1048576
  · have HI := hid h
    have hB := Below.refl w.heap.size w
    obtain ⟨r, hr⟩ : ∃ r, (termT f n).isSome = r := ⟨_, rfl⟩
    have HR := hid hr
    clear hr
    have hle : ¬ (1048576 : Int) < (n : Int) := by omega
    rcases h with ⟨rfl, rfl⟩ | ⟨a, cap, rfl, hc⟩
    all_goals
      (try clear hc)
      go_enter Try.func8, Try.ntmps8
      go_wp2_with (go_at_call 31; refine (toByteS_any _ _ f _ (HI.out.below hB) hn).mono ?_; intro e w2 hg; obtain ⟨b0, rfl, hb, H0⟩ := hg.size; replace hB := hB.trans (hb.mono hB.size); clear hg hb)
      go_at_call 30
      refine (specIsTerm_any b0 _ _ f _ hn H0.out).mono ?_
      rintro e w3 ⟨rfl, rfl⟩
      clear H0
      rw [HR.out]
      go_wp2_with (go_at_call 31; refine (toByteS_any _ _ f _ (HI.out.below hB) hn).mono ?_; intro e w4 hg; obtain ⟨b1, rfl, hb, H1⟩ := hg.size; replace hB := hB.trans (hb.mono hB.size); clear hg hb)
      go_at_call 32
      refine (implIsTerm_any b1 _ _ f _ hn H1.out).mono ?_
      rintro e w5 ⟨rfl, hb⟩
      replace H1 := hid (H1.out.below hb)
      replace hB := hB.trans (hb.mono hB.size)
      clear hb
      rw [HR.out]
      clear HR
      cases r
      all_goals
        go_wp2_with (go_at_call 31; refine (toByteS_any _ _ f _ (HI.out.below hB) hn).mono ?_; intro e w6 hg; obtain ⟨b2, rfl, hb, H2⟩ := hg.size; replace H1 := hid (H1.out.below hb); replace hB := hB.trans (hb.mono hB.size); clear hg hb)
        go_at_call 33
        refine (eqByteS_same b1 b2 _ _ _ f _ hn H1.out H2.out).mono ?_
        rintro e w7 ⟨rfl, hb⟩
        replace hB := hB.trans (hb.mono hB.size)
        clear hb
        go_wp2
        go_ret
        exact ⟨rfl, hB⟩
  · have hgt : (1048576 : Int) < (n : Int) := by omega
    rcases h with ⟨rfl, rfl⟩ | ⟨a, cap, rfl, _⟩
    · exact absurd (by omega : (0 : Nat) ≤ 1048576) hn
    · go_enter Try.func8, Try.ntmps8
      go_wp2
      go_ret
      exact ⟨rfl, Below.refl _ _⟩
end Go.Proofs.Ytfkmhephabmolaa
