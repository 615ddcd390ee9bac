/- Proved: the law FnExactIsPartial returns true, and old memory is left alone. Conditions: those that the theorem names. -/
import Derived.Test.YtbhjbllgmenbaaaBo5
import Derived.Test.YtbhjbllgmenbaaaSn
import Derived.Test.YtbhjbllgmenbaaaReg
namespace Go.Proofs.Ytbhjbllgmenbaaa
set_option linter.unusedVariables false
set_option linter.unusedSimpArgs false
open Go.RowKit
set_option maxRecDepth 20000 in
set_option maxHeartbeats 4000000 in
theorem lawIsPartial_by  (v : Value) (n : Nat) (m : Nat → Nat) (f : Nat → Nat → Int) (r : Bool) (w : World) (hI : SIn w v n m f) (hn : n ≤ maxLen) (hm : ∀ i, i < n → m i ≤ maxLen)
    (hS : (n ≤ 1048576 ∧ ∀ i, i < n → m i ≤ 1048576) → Hid (∀ w b, SL w b n m f → Calls Try.prog 30 #[.slice (some ⟨b, 0, none⟩) n n] w fun e w' => e = .returned (.bool r) ∧ Below w.heap.size w w'))
    (hT : (n ≤ 1048576 ∧ ∀ i, i < n → m i ≤ 1048576) → Hid (∀ w b, SL w b n m f → Calls Try.prog 32 #[.slice (some ⟨b, 0, none⟩) n n] w fun e w' => e = .returned (.bool r) ∧ Below w.heap.size w w')) :
    Calls Try.prog 7 #[v] w fun e w' => e = .returned (.bool true) ∧ Below w.heap.size w w' := by
  obtain ⟨A, cap, rfl⟩ := hI.form
  have HI := hid hI
  have HM := hid hm
  clear hI hm
  obtain ⟨R, hR⟩ : ∃ R, szR n m = R := ⟨_, rfl⟩
  have hH := Has.nil w
  have SZ : Hid (∀ w0, Below w.heap.size w w0 → Calls Try.prog 29 #[.slice A n cap, .int .i64 1048576] w0 fun e w' => e = .returned (.int .i64 R) ∧ Below w0.heap.size w0 w') := hid fun w0 hb => hR ▸ szInt64SS_any _ n m f w0 (HI.out.below hb) hn HM.out
  by_cases hneg : R < 0
  · go_enter Try.func7, Try.ntmps7
    go_wp2_with (first | fail | (go_at_call 29; refine (SZ.out _ hH.below).mono ?_; rintro e w3 ⟨rfl, hb⟩; replace hH := hH.call' hb; clear hb))
    go_ret
    exact ⟨rfl, hH.below⟩
  · have hbd := szR_ok (by rw [hR]; exact hneg)
    have hS := hS hbd
    have hT := hT hbd
    have hn2 := hbd.1
    have HM2 := hid hbd.2
    clear hbd hR
    go_enter Try.func7, Try.ntmps7
    go_wp2_with (first | fail | (go_at_call 29; refine (SZ.out _ hH.below).mono ?_; rintro e w3 ⟨rfl, hb⟩; replace hH := hH.call' hb; clear hb) | (go_at_call 31; refine (toInt64SS_any _ n m f _ (HI.out.below hH.below) hn2 HM2.out).mono ?_; rintro e w3 ⟨b0, rfl, hb, HS, hlo⟩; replace hH := hH.call' hb; (try replace HX := hid (HX.out.below hb)); clear hb hlo) | (go_at_call 30; refine (hS.out _ _ HS.out).mono ?_; rintro e w3 ⟨rfl, hb⟩; replace hH := hH.call' hb; clear hb HS) | (go_at_call 32; refine (hT.out _ _ HS.out).mono ?_; rintro e w3 ⟨rfl, hb⟩; replace hH := hH.call' hb; have HX := hid (HS.out.below hb); clear hb HS) | (go_at_call 33; refine (eqInt64SS_sl _ _ n n n m f _ hn2 HM2.out HX.out.sl HS.out).mono ?_; rintro e w3 ⟨rfl, hb⟩; replace hH := hH.call' hb; clear hb))
    go_ret
    exact ⟨rfl, hH.below⟩
theorem lawIsPartial_any (v : Value) (n : Nat) (m : Nat → Nat) (f : Nat → Nat → Int) (w : World) (hI : SIn w v n m f ∧ n ≤ maxLen ∧ ∀ i, i < n → m i ≤ maxLen) :
    Calls Try.prog 7 #[v] w fun e w' => e = .returned (.bool true) ∧ Below w.heap.size w w' :=
  lawIsPartial_by v n m f (parB n m f) w hI.1 hI.2.1 hI.2.2 (fun h => hid fun w b hL => specIsPartial_any b n m f w h.1 h.2 hL) (fun h => hid fun w b hL => implIsPartial_any b n m f w h.1 h.2 hL)
end Go.Proofs.Ytbhjbllgmenbaaa
