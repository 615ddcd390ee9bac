/- Proved: the law FnExactRowCycles returns true, and old memory is left alone, where program and model return the same list. Conditions: those that the theorem names. -/
import Derived.Test.YtbhjbllgmenbaaaTo2
import Derived.Test.YtbhjbllgmenbaaaCyz
import Derived.Test.YtbhjbllgmenbaaaLi
namespace Go.Proofs.Ytbhjbllgmenbaaa
set_option linter.unusedVariables false
set_option linter.unusedSimpArgs false
open Go.RowKit
set_option maxRecDepth 20000 in
set_option maxHeartbeats 4000000 in
theorem lawRowCycles_by (o0 : Int) (a0 : Nat → UInt8) (p q : UInt8) (l : List Int) (z : Int) (w : World) (hl : l.length ≤ 1000)
    (hS : Hid (∀ w, Calls Try.prog 23 #[.agg (sqc o0 a0), .int .u8 p.toNat, .int .u8 q.toNat] w (GotL l z w)))
    (hT : Hid (∀ w, Calls Try.prog 24 #[.agg (sqc o0 a0), .int .u8 p.toNat, .int .u8 q.toNat] w (GotL l z w)))
    : Calls Try.prog 5 #[.agg (sqc o0 a0), .int .u8 p.toNat, .int .u8 q.toNat] w fun e w' => e = .returned (.bool true) ∧ Below w.heap.size w w' := by
  obtain ⟨M, hM⟩ : ∃ M, l.length = M := ⟨_, rfl⟩
  rw [hM] at hl
  have HM := hid hM
  clear hM
  have hH := Has.start1 w (sqc o0 a0) 25
  have sH := hH.size
  simp only [List.length_cons, List.length_nil] at sH
  go_enter Try.func5, Try.ntmps5
  go_wp2_with (first | fail | (refine wpL_loadFull rfl rfl rfl rowSl hH.h0 (sqc_size _ _) ?_) | (go_at_call 16; refine (toSquare_any _ _ _).mono ?_; rintro e w2 ⟨rfl, hb⟩; have zc := hb.size; replace hH := hH.call' hb; (try replace HS0 := hid (HS0.out.below hb (by omega))); clear hb) | (go_at_call 23; refine (hS.out _).mono ?_; rintro e w3 ⟨v0, rfl, hb, hI⟩; have z3 := hb.size; have HS0 := hid hI; replace hH := hH.call' hb; clear hb hI))
  go_wp2_with (first | fail | (go_at_call 24; refine (hT.out _).mono ?_; rintro e w5 ⟨v1, rfl, hb, hI⟩; have z5 := hb.size; have HS1 := hid hI; replace HS0 := hid (HS0.out.below hb (by omega)); have hH4 := hH.size; simp only [List.length_cons, List.length_nil] at hH4; replace hH := hH.call' hb; clear hb hI))
  go_wp2_with (first | fail | (refine wpL_guard rfl rfl ?_) | (go_at_call 20; refine (eqIL HS1.out HS0.out (by rw [HM.out]; omega)).mono ?_; rintro e w6 ⟨rfl, hb⟩; have z6 := hb.size; replace hH := hH.call' hb; replace HS0 := hid (HS0.out.below hb (by omega)); replace HS1 := hid (HS1.out.below hb (by omega)); clear hb))
  go_wp2_with (first | fail | (go_at_call 25; refine (markIL HS1.out (by rw [HM.out]; omega) (by omega) (by omega) (by omega)).mono ?_; rintro e w7 ⟨rfl, hb, hI⟩; rw [HM.out]; have z7 := hb.size; replace hH := hH.call hb hH4; replace HS0 := hid (HS0.out.below hb (by omega)); clear HS1; have HS1 := hid hI; clear hb hI))
  go_wp2_with (first | fail | (go_at_call 26; refine (heldIL HS1.out (by rw [HM.out]; omega) (by omega) (by omega)).mono ?_; rintro e w8 ⟨rfl, rfl⟩; rw [HM.out]) | (refine wpL_loadFull rfl rfl rfl rowSl hH.h0 (sqc_size _ _) ?_) | (go_at_call 16; refine (toSquare_any _ _ _).mono ?_; rintro e w9 ⟨rfl, hb⟩; have z9 := hb.size; replace hH := hH.call' hb; replace HS0 := hid (HS0.out.below hb (by omega)); replace HS1 := hid (HS1.out.below hb (by omega)); clear hb) | (go_at_call 24; refine (hT.out _).mono ?_; rintro e w10 ⟨v2, rfl, hb, hI⟩; have z10 := hb.size; have HS2 := hid hI; replace hH := hH.call' hb; replace HS0 := hid (HS0.out.below hb (by omega)); replace HS1 := hid (HS1.out.below hb (by omega)); clear hb hI) | (refine wpL_guard rfl rfl ?_) | (go_at_call 20; refine (eqIL HS2.out HS0.out (by rw [HM.out]; omega)).mono ?_; rintro e w11 ⟨rfl, hb⟩; have z11 := hb.size; replace hH := hH.call' hb; replace HS1 := hid (HS1.out.below hb (by omega)); clear hb HS0 HS2))
  go_ret
  exact ⟨rfl, hH.below⟩
theorem lawRowCycles_any (o : Int) (g : Nat → UInt8) (_ : (Lit.int .i64 o).wf = true) (a b : UInt8) (w : World) : Calls Try.prog 5 #[.agg (sqc o g), .int .u8 a.toNat, .int .u8 b.toNat] w fun e w' => e = .returned (.bool true) ∧ Below w.heap.size w w' := by
  cases hs : sqB o g with
  | false => exact lawRowCycles_by o g a b [] 1 w (by simp) (hid fun w => (specRowCycles_err o g a b 1 w rfl (hid fun w => l09Pair_by o g a b 0 1 w rfl (hid fun w => l01Two_no o g a b w hs))).mono fun e w' h => GotL.err h) (hid fun w => (implRowCycles_err o g a b 1 w rfl (hid (rowsC_no _ _ _ _ hs))).mono fun e w' h => GotL.err h)
  | true =>
    obtain ⟨N, rfl, hq⟩ := sqB_true.1 hs
    have HR := rowsC0 (F := fun _ => 0) a b hs
    have h1 := hq.lo
    by_cases hab : N ≤ a.toNat ∨ N ≤ b.toNat
    · rw [if_neg (fun q => by omega)] at HR
      exact lawRowCycles_by N g a b [] 2 w (by simp) (hid fun w => (specRowCycles_err N g a b 2 w rfl (hid fun w => l09Pair_by N g a b 0 2 w rfl (hid fun w => l01Two_far N g a b w hs hab))).mono fun e w' h => GotL.err h) (hid fun w => (implRowCycles_err N g a b 2 w rfl (hid HR)).mono fun e w' h => GotL.err h)
    · have ha : a.toNat < N := by omega
      have hb : b.toNat < N := by omega
      by_cases h : a.toNat = b.toNat
      · rw [if_neg (fun q => q.2.2 (UInt8.toNat.inj h))] at HR
        exact lawRowCycles_by N g a b [] 2 w (by simp) (hid fun w => (specRowCycles_err N g a b 2 w rfl (hid fun w => l09Pair_bad N g a b 0 w hs ha hb (.inl h))).mono fun e w' h => GotL.err h) (hid fun w => (implRowCycles_err N g a b 2 w rfl (hid HR)).mono fun e w' h => GotL.err h)
      · rw [if_pos ⟨ha, hb, fun e => h (by rw [e])⟩] at HR
        exact lawRowCycles_by N g a b (rcL g N a.toNat b.toNat) 0 w (by have := rcL_len g N a.toNat b.toNat hq.hi; omega) (hid fun w => specRowCycles_in N g a b w hq ha hb (hid fun w => l09Pair_in N g a b 0 w hs ha hb h (show (0 : UInt8).toNat < N from h1))) (hid fun w => implRowCycles_in N g a b w hq ha hb (hid HR))
end Go.Proofs.Ytbhjbllgmenbaaa
