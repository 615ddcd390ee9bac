/- Proved: the law FnExactPowerOf returns true, and old memory is left alone, where program and model return the same. Conditions: those that the theorem names. -/
import Derived.Test.YtphninlinegbbaaTo2
import Derived.Test.YtphninlinegbbaaOr2
import Derived.Test.YtphninlinegbbaaReg
namespace Go.Proofs.Ytphninlinegbbaa
set_option linter.unusedVariables false
set_option linter.unusedSimpArgs false
open Go.RowKit
set_option maxRecDepth 20000 in
set_option maxHeartbeats 2000000 in
theorem lawPowerOf_by (o0 : Int) (a0 : Nat → UInt8) (a1 : UInt8) (a2 : Int) (r0 : UInt8) (r1 : Int) (w : World)
    (hS : Hid (∀ w, Calls Try.prog 42 #[.agg (sqc o0 a0), .int .u8 a1.toNat, .int .i64 a2] w fun e w' => e = .returned (.tuple #[.int .u8 r0.toNat, .int .i64 r1]) ∧ Below w.heap.size w w'))
    (hT : Hid (∀ w, Calls Try.prog 43 #[.agg (sqc o0 a0), .int .u8 a1.toNat, .int .i64 a2] w fun e w' => e = .returned (.tuple #[.int .u8 r0.toNat, .int .i64 r1]) ∧ Below w.heap.size w w'))
    : Calls Try.prog 14 #[.agg (sqc o0 a0), .int .u8 a1.toNat, .int .i64 a2] w fun e w' => e = .returned (.bool true) ∧ Below w.heap.size w w' := by
  have hH := Has.start1 w (sqc o0 a0) 25
  go_enter Try.func14, Try.ntmps14
  go_wp2_with (first | fail | (refine wpL_loadFull rfl rfl rfl rowSl hH.h0 (sqc_size _ _) ?_) | (go_at_call 16; refine (toSquare_any _ _ _).mono ?_; rintro e w2 ⟨rfl, hb⟩; replace hH := hH.call' hb; clear hb) | (go_at_call 42; refine (hS.out _).mono ?_; rintro e w2 ⟨rfl, hb⟩; replace hH := hH.call' hb; clear hb) | (go_at_call 43; refine (hT.out _).mono ?_; rintro e w2 ⟨rfl, hb⟩; replace hH := hH.call' hb; clear hb))
  go_ret
  exact ⟨rfl, hH.below⟩
theorem lawPowerOf_any (o : Int) (g : Nat → UInt8) (_ : (Lit.int .i64 o).wf = true) (x : UInt8) (k : Int) (_ : (Lit.int .i64 k).wf = true) (w : World) : Calls Try.prog 14 #[.agg (sqc o g), .int .u8 x.toNat, .int .i64 k] w fun e w' => e = .returned (.bool true) ∧ Below w.heap.size w w' := by
  cases hl : loopB o g with
  | false => exact lawPowerOf_by o g x k _ _ w (hid fun w => specPowerOf_err o k g x 1 w rfl (hid fun w => l05Code_no o g x 0 0 w hl)) (hid fun w => implPowerOf_err o k g x 1 w rfl (hid fun w b _ => memberCode_no o g 1 b w hl))
  | true =>
    obtain ⟨N, rfl, hL, hs, hl⟩ := loop_true hl
    have hN := hL.sq.lo
    by_cases h : x.toNat < N
    · have hv : ∀ i, i < 1 → (oneF x i).toNat < N := fun i _ => h
      have h1 : Hid (∀ w, Calls Try.prog 53 #[.agg (sqc N g), .int .u8 x.toNat, .int .u8 0, .int .u8 0] w fun e w' => e = .returned (.int .i64 0) ∧ Below w.heap.size w w') := hid fun w => l05Code_in N g x 0 0 w hl h (by show 0 < N; omega) (by show 0 < N; omega)
      have h2 : Hid (∀ w b, holds w b (u8s 1 (oneF x)) 5 → Calls Try.prog 55 #[.agg (sqc N g), .slice (some ⟨b, 0, none⟩) 1 1] w fun e w' => e = .returned (.int .i64 0) ∧ Below w.heap.size w w') := hid fun w b hg => memberCode_in N g (oneF x) 1 b w (by omega) hs hl hg hv
      obtain ⟨m, hO⟩ := ord_ex hL.sq h
      by_cases hk : 0 ≤ k ∧ k ≤ 1000000
      · obtain ⟨K, rfl⟩ : ∃ K : Nat, k = K := ⟨k.toNat, by omega⟩
        exact lawPowerOf_by N g x K _ _ w (hid fun w => specPowerOf_in N m K g x w hL h hO (by omega) h1) (hid fun w => implPowerOf_in N m K g x w hL h hO (by omega) h2)
      · exact lawPowerOf_by N g x k _ _ w (hid fun w => specPowerOf_far N k g x w hk h1) (hid fun w => implPowerOf_far N k g x w hk h2)
    · exact lawPowerOf_by N g x k _ _ w (hid fun w => specPowerOf_err N k g x 2 w rfl (hid fun w => l05Code_far N g x 0 0 w hl (fun hh => h hh.1))) (hid fun w => implPowerOf_err N k g x 2 w rfl (hid fun w b hg => memberCode_far N g (oneF x) 1 b 0 w (by omega) hs hl hg (oneF_far (by omega))))
end Go.Proofs.Ytphninlinegbbaa
