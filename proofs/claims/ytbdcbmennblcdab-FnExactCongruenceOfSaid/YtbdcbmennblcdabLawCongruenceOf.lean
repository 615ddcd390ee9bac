/- Proved: the law FnExactCongruenceOf returns true, and old memory is left alone, where program and model return the same list. Conditions: those that the theorem names. -/
import Derived.Test.YtbdcbmennblcdabTo2
import Derived.Test.YtbdcbmennblcdabCz
namespace Go.Proofs.Ytbdcbmennblcdab
set_option linter.unusedVariables false
set_option linter.unusedSimpArgs false
open Go.RowKit
set_option maxRecDepth 20000 in
set_option maxHeartbeats 4000000 in
theorem lawCongruenceOf_by (o0 : Int) (a0 : Nat → UInt8) (p q : UInt8) (n : Nat) (l : Nat → List Int) (z : Int) (w : World) (hn : n ≤ 1000) (hl : ∀ j, j < n → (l j).length ≤ 1000)
    (hS : Hid (∀ w, Calls Try.prog 15 #[.agg (sqc o0 a0), .int .u8 p.toNat, .int .u8 q.toNat] w (GotLL n l z w)))
    (hT : Hid (∀ w, Calls Try.prog 17 #[.agg (sqc o0 a0), .int .u8 p.toNat, .int .u8 q.toNat] w (GotLL n l z w)))
    : Calls Try.prog 3 #[.agg (sqc o0 a0), .int .u8 p.toNat, .int .u8 q.toNat] w fun e w' => e = .returned (.bool true) ∧ Below w.heap.size w w' := by
  have HLn := hid hl
  clear hl
  obtain ⟨M, hM⟩ : ∃ M, offF l n = M := ⟨_, rfl⟩
  have hMb : M ≤ 1000000 := by have := offF_le HLn.out n (Nat.le_refl _); omega
  have HM := hid hM
  clear hM
  have hH := Has.start1 w (sqc o0 a0) 25
  have sH := hH.size
  simp only [List.length_cons, List.length_nil] at sH
  go_enter Try.func3, Try.ntmps3
  go_wp2_with (first | fail | (refine wpL_loadFull rfl rfl rfl rowSl hH.h0 (sqc_size _ _) ?_) | (go_at_call 16; refine (toSquare_any _ _ _).mono ?_; rintro e w2 ⟨rfl, hb⟩; have zc := hb.size; replace hH := hH.call' hb; (try replace HS0 := hid (HS0.out.below hb (by omega))); clear hb) | (go_at_call 15; refine (hS.out _).mono ?_; rintro e w3 ⟨v0, rfl, hb, hI⟩; have z3 := hb.size; have HS0 := hid hI; replace hH := hH.call' hb; clear hb hI))
  go_wp2_with (first | fail | (go_at_call 17; refine (hT.out _).mono ?_; rintro e w5 ⟨v1, rfl, hb, hI⟩; have z5 := hb.size; have HS1 := hid hI; replace HS0 := hid (HS0.out.below hb (by omega)); have hH4 := hH.size; simp only [List.length_cons, List.length_nil] at hH4; replace hH := hH.call' hb; clear hb hI))
  go_wp2_with (first | fail | (refine wpL_guard rfl rfl ?_) | (go_at_call 18; refine (eqLL HS1.out HS0.out hn HLn.out).mono ?_; rintro e w6 ⟨rfl, hb⟩; have z6 := hb.size; replace hH := hH.call' hb; replace HS0 := hid (HS0.out.below hb (by omega)); replace HS1 := hid (HS1.out.below hb (by omega)); clear hb))
  go_wp2_with (first | fail | (go_at_call 19; refine (markLL HS1.out hn HLn.out (by omega) (by omega) (by omega)).mono ?_; rintro e w7 ⟨rfl, hb, hI⟩; rw [HM.out]; have z7 := hb.size; replace hH := hH.call hb hH4; replace HS0 := hid (HS0.out.below hb (by omega)); clear HS1; have HS1 := hid hI; clear hb hI))
  go_wp2_with (first | fail | (go_at_call 20; refine (heldLL HS1.out hn HLn.out (by omega) (by omega)).mono ?_; rintro e w8 ⟨rfl, rfl⟩; rw [HM.out]) | (refine wpL_loadFull rfl rfl rfl rowSl hH.h0 (sqc_size _ _) ?_) | (go_at_call 16; refine (toSquare_any _ _ _).mono ?_; rintro e w9 ⟨rfl, hb⟩; have z9 := hb.size; replace hH := hH.call' hb; replace HS0 := hid (HS0.out.below hb (by omega)); replace HS1 := hid (HS1.out.below hb (by omega)); clear hb) | (go_at_call 17; refine (hT.out _).mono ?_; rintro e w10 ⟨v2, rfl, hb, hI⟩; have z10 := hb.size; have HS2 := hid hI; replace hH := hH.call' hb; replace HS0 := hid (HS0.out.below hb (by omega)); replace HS1 := hid (HS1.out.below hb (by omega)); clear hb hI) | (refine wpL_guard rfl rfl ?_) | (go_at_call 18; refine (eqLL HS2.out HS0.out hn HLn.out).mono ?_; rintro e w11 ⟨rfl, hb⟩; have z11 := hb.size; replace hH := hH.call' hb; replace HS1 := hid (HS1.out.below hb (by omega)); clear hb HS0 HS2))
  go_ret
  exact ⟨rfl, hH.below⟩
theorem lawCongruenceOf_any (o : Int) (g : Nat → UInt8) (_ : (Lit.int .i64 o).wf = true) (p q : UInt8) (w : World) : Calls Try.prog 3 #[.agg (sqc o g), .int .u8 p.toNat, .int .u8 q.toNat] w fun e w' => e = .returned (.bool true) ∧ Below w.heap.size w w' := by
  cases hs : sqB o g with
  | true =>
    obtain ⟨N, rfl, hG⟩ := sqB_true.1 hs
    by_cases hp : p.toNat < N
    · by_cases hq : q.toNat < N
      · exact lawCongruenceOf_by N g p q (cntR (natF (cgD N (N + N) (mapF (rcF g N)) (StI p.toNat (fun _ => q.toNat) 1))) N) (toldL (natF (cgD N (N + N) (mapF (rcF g N)) (StI p.toNat (fun _ => q.toNat) 1))) N) 0 w (by have := cntR_le (C := natF (cgD N (N + N) (mapF (rcF g N)) (StI p.toNat (fun _ => q.toNat) 1))) N; have := hG.hi; omega) (fun j _ => by unfold toldL; exact Nat.le_trans clsL_len (by have := hG.hi; omega)) (hid fun w => specCongruenceOf_in N g p q w hs hG hp hq) (hid fun w => implCongruenceOf_in N g p q w hs hG hp hq)
      · exact lawCongruenceOf_by N g p q 0 (fun _ => []) 2 w (by omega) (fun j hj => by omega) (hid fun w => (specCongruenceOf_far N g p q w hs (.inr (by omega))).mono fun e w' h => GotLL.err h) (hid fun w => (implCongruenceOf_far N g p q w hs (.inr (by omega))).mono fun e w' h => GotLL.err h)
    · exact lawCongruenceOf_by N g p q 0 (fun _ => []) 2 w (by omega) (fun j hj => by omega) (hid fun w => (specCongruenceOf_far N g p q w hs (.inl (by omega))).mono fun e w' h => GotLL.err h) (hid fun w => (implCongruenceOf_far N g p q w hs (.inl (by omega))).mono fun e w' h => GotLL.err h)
  | false => exact lawCongruenceOf_by o g p q 0 (fun _ => []) 1 w (by omega) (fun j hj => by omega) (hid fun w => (specCongruenceOf_no o g p q w hs).mono fun e w' h => GotLL.err h) (hid fun w => (implCongruenceOf_no o g p q w hs).mono fun e w' h => GotLL.err h)
end Go.Proofs.Ytbdcbmennblcdab
