/- Proved: the law FnExactTermText returns true, and old memory is left alone. Conditions: those that the theorem names. -/
import Derived.Test.YtphninlinegbbacTm
import Derived.Test.YtphninlinegbbacTi2
import Derived.Test.YtphninlinegbbacLawIsTerm
namespace Go.Proofs.Ytphninlinegbbac
set_option linter.unusedVariables false
set_option linter.unusedSimpArgs false
open Go.RowKit
def ttS : Option Tr → ByteArray
  | none => ⟨#[]⟩
  | some t => textB t
def ttZ : Option Tr → Int
  | none => 1
  | some _ => 0
theorem specTermText_any (b n c : Nat) (f : Nat → UInt8) (w : World) (hn : n ≤ 1048576) (h : BRow w b n f) :
    Calls Try.prog 18 #[.slice (some ⟨b, 0, none⟩) n c] w fun e w' => e = .returned (.tuple #[.string (ttS (termT f n)), .int .i64 (ttZ (termT f n))]) ∧ Below w.heap.size w w' := by
  cases ht : termT f n with
  | none =>
    go_enter Try.func18, Try.ntmps18
    go_wp2_with (go_at_call 56; refine (l03Is_any b n c f _ hn h).mono ?_; rintro e w2 ⟨rfl, rfl⟩; rw [ht])
    go_ret2
    exact ⟨rfl, Below.refl _ _⟩
  | some t =>
    go_enter Try.func18, Try.ntmps18
    go_wp2_with (first | fail | (go_at_call 56; refine (l03Is_any b n c f _ hn h).mono ?_; rintro e w2 ⟨rfl, rfl⟩; rw [ht]) | (go_at_call 57; refine (l03Text_any b n c f t _ h ht).mono ?_; rintro e w2 ⟨rfl, hb⟩))
    go_ret2
    exact ⟨rfl, hb⟩
theorem implTermText_any (b n c : Nat) (f : Nat → UInt8) (w : World) (hn : n ≤ 1048576) (h : BRow w b n f) :
    Calls Try.prog 20 #[.slice (some ⟨b, 0, none⟩) n c] w fun e w' => e = .returned (.tuple #[.string (ttS (termT f n)), .int .i64 (ttZ (termT f n))]) ∧ Below w.heap.size w w' := by
  cases ht : termT f n with
  | none =>
    go_enter Try.func20, Try.ntmps20
    go_wp2_with (go_at_call 58; refine (treeOf_any b n c f _ hn h).mono ?_; rintro e w2 ⟨rfl, hb⟩; rw [ht])
    go_ret2
    exact ⟨rfl, hb⟩
  | some t =>
    obtain ⟨h40, hrun, hln⟩ := termT_some ht
    have HW := hid (writes t (by omega))
    obtain ⟨V, hV⟩ : ∃ V, encT t = V := ⟨_, rfl⟩
    have HV := hid hV
    have ht' : treeV (termT f n) = V := by rw [ht]; exact hV
    have ht2 : (termT f n).isSome = true := by rw [ht]; rfl
    clear hrun hln hV
    go_enter Try.func20, Try.ntmps20
    go_wp2_with (first | fail | (go_at_call 58; refine (treeOf_any b n c f _ hn h).mono ?_; rintro e w2 ⟨rfl, hb⟩; rw [ht', ht2]) | (refine wpL_text HV.out rfl (by rfl) (by rfl) HW.out ?_; intro w3 hb2; replace hb := hb.trans (hb2.mono hb.size); clear hb2))
    go_ret2
    exact ⟨rfl, hb⟩
set_option maxHeartbeats 2000000 in
theorem lawTermText_any (v : Value) (n : Nat) (f : Nat → UInt8) (w : World) (h : BIn w v n f) :
    Calls Try.prog 4 #[v] w fun e w' => e = .returned (.bool true) ∧ Below w.heap.size w w' := by
  by_cases hn : n ≤ 1048576
  · have HI := hid h
    have hB := Below.refl w.heap.size w
    obtain ⟨r, hr⟩ : ∃ r, ttS (termT f n) = r := ⟨_, rfl⟩
    obtain ⟨z, hz⟩ : ∃ z, ttZ (termT f n) = z := ⟨_, rfl⟩
    have HR := hid hr
    have HZ := hid hz
    clear hr hz
    have hle : ¬ (1048576 : Int) < (n : Int) := by omega
    rcases h with ⟨rfl, rfl⟩ | ⟨a, cap, rfl, hc⟩
    all_goals
      (try clear hc)
      go_enter Try.func4, Try.ntmps4
      go_wp2_with (go_at_call 19; refine (toByteS_any _ _ f _ (HI.out.below hB) hn).mono ?_; intro e w2 hg; obtain ⟨b0, rfl, hb, H0⟩ := hg.size; replace hB := hB.trans (hb.mono hB.size); clear hg hb)
      go_at_call 18
      refine (specTermText_any b0 _ _ f _ hn H0.out).mono ?_
      rintro e w3 ⟨rfl, hb⟩
      replace hB := hB.trans (hb.mono hB.size)
      clear H0 hb
      rw [HR.out, HZ.out]
      go_wp2_with (go_at_call 19; refine (toByteS_any _ _ f _ (HI.out.below hB) hn).mono ?_; intro e w4 hg; obtain ⟨b1, rfl, hb, H1⟩ := hg.size; replace hB := hB.trans (hb.mono hB.size); clear hg hb)
      go_at_call 20
      refine (implTermText_any b1 _ _ f _ hn H1.out).mono ?_
      rintro e w5 ⟨rfl, hb⟩
      replace H1 := hid (H1.out.below hb)
      replace hB := hB.trans (hb.mono hB.size)
      clear hb
      rw [HR.out, HZ.out]
      clear HR HZ
      all_goals
        go_wp2_with (go_at_call 19; refine (toByteS_any _ _ f _ (HI.out.below hB) hn).mono ?_; intro e w6 hg; obtain ⟨b2, rfl, hb, H2⟩ := hg.size; replace H1 := hid (H1.out.below hb); replace hB := hB.trans (hb.mono hB.size); clear hg hb)
        go_at_call 21
        refine (eqByteS_same b1 b2 _ _ _ f _ hn H1.out H2.out).mono ?_
        rintro e w7 ⟨rfl, hb⟩
        replace hB := hB.trans (hb.mono hB.size)
        clear hb
        go_wp2
        go_ret
        exact ⟨rfl, hB⟩
  · have hgt : (1048576 : Int) < (n : Int) := by omega
    rcases h with ⟨rfl, rfl⟩ | ⟨a, cap, rfl, _⟩
    · exact absurd (by omega : (0 : Nat) ≤ 1048576) hn
    · go_enter Try.func4, Try.ntmps4
      go_wp2
      go_ret
      exact ⟨rfl, Below.refl _ _⟩
end Go.Proofs.Ytphninlinegbbac
