/- Proved: the law FnExactSquareOfLists returns true, and old memory is left alone. Conditions: those that the theorem names. -/
import Derived.Test.YtcdlnkjljijlmaaTo2
import Derived.Test.YtcdlnkjljijlmaaSl
import Derived.Test.YtcdlnkjljijlmaaSn
import Derived.Test.YtcdlnkjljijlmaaReg
namespace Go.Proofs.Ytcdlnkjljijlmaa
set_option linter.unusedVariables false
set_option linter.unusedSimpArgs false
open Go.RowKit
set_option maxRecDepth 20000 in
set_option maxHeartbeats 4000000 in
theorem lawSquareOfLists_by  (v : Value) (n : Nat) (m : Nat → Nat) (f : Nat → Nat → Int) (O Z : Int) (T : Nat → UInt8) (w : World) (hI : SIn w v n m f) (hn : n ≤ maxLen) (hm : ∀ i, i < n → m i ≤ maxLen)
    (hS : (n ≤ 1048576 ∧ ∀ i, i < n → m i ≤ 1048576) → Hid (∀ w b, SL w b n m f → Calls Try.prog 48 #[.slice (some ⟨b, 0, none⟩) n n] w fun e w' => e = .returned (.tuple #[.agg (sqc O T), .int .i64 Z]) ∧ Below w.heap.size w w'))
    (hT : (n ≤ 1048576 ∧ ∀ i, i < n → m i ≤ 1048576) → Hid (∀ w b, SL w b n m f → Calls Try.prog 49 #[.slice (some ⟨b, 0, none⟩) n n] w fun e w' => e = .returned (.tuple #[.agg (sqc O T), .int .i64 Z]) ∧ Below w.heap.size w w')) :
    Calls Try.prog 14 #[v] w fun e w' => e = .returned (.bool true) ∧ Below w.heap.size w w' := by
  obtain ⟨A, cap, rfl⟩ := hI.form
  have HI := hid hI
  have HM := hid hm
  clear hI hm
  obtain ⟨R, hR⟩ : ∃ R, szR n m = R := ⟨_, rfl⟩
  have hH := Has.nil w
  have SZ : Hid (∀ w0, Below w.heap.size w w0 → Calls Try.prog 33 #[.slice A n cap, .int .i64 1048576] w0 fun e w' => e = .returned (.int .i64 R) ∧ Below w0.heap.size w0 w') := hid fun w0 hb => hR ▸ szInt64SS_any _ n m f w0 (HI.out.below hb) hn HM.out
  by_cases hneg : R < 0
  · go_enter Try.func14, Try.ntmps14
    go_wp2_with (first | fail | (go_at_call 33; refine (SZ.out _ hH.below).mono ?_; rintro e w3 ⟨rfl, hb⟩; replace hH := hH.call' hb; clear hb))
    go_ret
    exact ⟨rfl, hH.below⟩
  · have hbd := szR_ok (by rw [hR]; exact hneg)
    have hS := hS hbd
    have hT := hT hbd
    have hn2 := hbd.1
    have HM2 := hid hbd.2
    clear hbd hR
    go_enter Try.func14, Try.ntmps14
    go_wp2_with (first | fail | (go_at_call 33; refine (SZ.out _ hH.below).mono ?_; rintro e w3 ⟨rfl, hb⟩; replace hH := hH.call' hb; clear hb) | (go_at_call 35; refine (toInt64SS_any _ n m f _ (HI.out.below hH.below) hn2 HM2.out).mono ?_; rintro e w3 ⟨b0, rfl, hb, HS, hlo⟩; replace hH := hH.call' hb; (try replace hg4 := holds_below hg4 hb (holds_lt hg4)); (try replace hg7 := holds_below hg7 hb (holds_lt hg7)); (try replace HX := hid (HX.out.below hb)); clear hb hlo) | (go_at_call 48; refine (hS.out _ _ HS.out).mono ?_; rintro e w3 ⟨rfl, hb⟩; replace hH := hH.call' hb; (try replace hg4 := holds_below hg4 hb (holds_lt hg4)); (try replace hg7 := holds_below hg7 hb (holds_lt hg7)); clear hb HS) | (go_at_call 49; refine (hT.out _ _ HS.out).mono ?_; rintro e w3 ⟨rfl, hb⟩; replace hH := hH.call' hb; (try replace hg4 := holds_below hg4 hb (holds_lt hg4)); (try replace hg7 := holds_below hg7 hb (holds_lt hg7)); have HX := hid (HS.out.below hb); clear hb HS) | (refine wpL_guard rfl rfl ?_) | (go_at_call 18; refine (eqSquare_self _ _ _).mono ?_; rintro e w3 ⟨rfl, hb⟩; replace hH := hH.call' hb; (try replace hg4 := holds_below hg4 hb (holds_lt hg4)); (try replace hg7 := holds_below hg7 hb (holds_lt hg7)); (try replace HX := hid (HX.out.below hb)); clear hb) | (go_at_call 37; refine (eqInt64SS_sl _ _ n n n m f _ hn2 HM2.out HX.out.sl HS.out).mono ?_; rintro e w3 ⟨rfl, hb⟩; replace hH := hH.call' hb; clear hb) | (refine wpL_loadFull (x := .tmp 4) rfl rfl rfl rowSq hg4 (sqc_size _ _) ?_) | (refine wpL_storeN (x := .tmp 4) rfl rfl rfl rfl rowSq hg4 (sqc_size _ _) (sqc_ok _ _) ?_; intro w4 hz hO hT2; (try replace hg7 := hO _ _ _ (by omega) hg7); (try replace HX := hid (HX.out.away hO (Nat.le_refl _))); replace hg4 := hz; replace hH := hT2 _ _ hH hb4; clear hz hO hT2) | (refine wpL_loadFull (x := .tmp 7) rfl rfl rfl rowSq hg7 (sqc_size _ _) ?_) | (refine wpL_storeN (x := .tmp 7) rfl rfl rfl rfl rowSq hg7 (sqc_size _ _) (sqc_ok _ _) ?_; intro w4 hz hO hT2; (try replace hg4 := hO _ _ _ (by omega) hg4); (try replace HX := hid (HX.out.away hO (Nat.le_refl _))); replace hg7 := hz; replace hH := hT2 _ _ hH hb7; clear hz hO hT2) | (refine wpL_allocN (o := ⟨some 4, _, _, _, _, _⟩) rfl rfl zeroSq ?_; intro g4 w4 hg4 hl hb; have hb4 : w.heap.size + 0 ≤ g4 := (by have := hH.size; simp only [List.length_cons, List.length_nil] at this; omega);(try replace HX := hid ((HX.out.bound hl).below hb)); (try have hn7_4 : g7 ≠ g4 := (by have := holds_lt hg7; omega)); replace hH := hH.call' hb; (try replace hg7 := holds_below hg7 hb (holds_lt hg7)); clear hb hl) | (refine wpL_allocN (o := ⟨some 7, _, _, _, _, _⟩) rfl rfl zeroSq ?_; intro g7 w4 hg7 hl hb; have hb7 : w.heap.size + 0 ≤ g7 := (by have := hH.size; simp only [List.length_cons, List.length_nil] at this; omega);(try replace HX := hid ((HX.out.bound hl).below hb)); (try have hn4_7 : g4 ≠ g7 := (by have := holds_lt hg4; omega)); replace hH := hH.call' hb; (try replace hg4 := holds_below hg4 hb (holds_lt hg4)); clear hb hl))
    go_ret
    exact ⟨rfl, hH.below⟩
theorem lawSquareOfLists_any (v : Value) (n : Nat) (m : Nat → Nat) (f : Nat → Nat → Int) (w : World) (hI : SIn w v n m f ∧ n ≤ maxLen ∧ ∀ i, i < n → m i ≤ maxLen) : Calls Try.prog 14 #[v] w fun e w' => e = .returned (.bool true) ∧ Below w.heap.size w w' := by
  obtain ⟨O, Z, T, hR⟩ := solR_ex n m f
  exact lawSquareOfLists_by v n m f O Z T w hI.1 hI.2.1 hI.2.2 (fun hb => hid fun w b hL => specSol_any n b m f O Z T w hb.1 hb.2 hL hR) (fun hb => hid fun w b hL => implSol_any n b m f O Z T w hb.1 hb.2 hL hR)
end Go.Proofs.Ytcdlnkjljijlmaa
