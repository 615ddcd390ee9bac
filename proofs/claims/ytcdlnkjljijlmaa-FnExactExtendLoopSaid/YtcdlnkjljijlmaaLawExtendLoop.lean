/- Proved: the law FnExactExtendLoop returns true, and old memory is left alone. Conditions: those that the theorem names. -/
import Derived.Test.YtcdlnkjljijlmaaTo2
import Derived.Test.YtcdlnkjljijlmaaEl
import Derived.Test.YtcdlnkjljijlmaaSn
import Derived.Test.YtcdlnkjljijlmaaReg
namespace Go.Proofs.Ytcdlnkjljijlmaa
set_option linter.unusedVariables false
set_option linter.unusedSimpArgs false
open Go.RowKit
set_option maxRecDepth 20000 in
set_option maxHeartbeats 4000000 in
theorem lawExtendLoop_by (o0 : Int) (a0 : Nat → UInt8) (a1 : Int) (v : Value) (n : Nat) (m : Nat → Nat) (f : Nat → Nat → Int) (O Z : Int) (T : Nat → UInt8) (w : World) (hI : SIn w v n m f) (hn : n ≤ maxLen) (hm : ∀ i, i < n → m i ≤ maxLen)
    (hS : (n ≤ 1048576 ∧ ∀ i, i < n → m i ≤ 1048576) → Hid (∀ w b, SL w b n m f → Calls Try.prog 46 #[.agg (sqc o0 a0), .int .i64 a1, .slice (some ⟨b, 0, none⟩) n n] w fun e w' => e = .returned (.tuple #[.agg (sqc O T), .int .i64 Z]) ∧ Below w.heap.size w w'))
    (hT : (n ≤ 1048576 ∧ ∀ i, i < n → m i ≤ 1048576) → Hid (∀ w b, SL w b n m f → Calls Try.prog 47 #[.agg (sqc o0 a0), .int .i64 a1, .slice (some ⟨b, 0, none⟩) n n] w fun e w' => e = .returned (.tuple #[.agg (sqc O T), .int .i64 Z]) ∧ Below w.heap.size w w')) :
    Calls Try.prog 13 #[.agg (sqc o0 a0), .int .i64 a1, v] w fun e w' => e = .returned (.bool true) ∧ Below w.heap.size w w' := by
  obtain ⟨A, cap, rfl⟩ := hI.form
  have HI := hid hI
  have HM := hid hm
  clear hI hm
  obtain ⟨R, hR⟩ : ∃ R, szR n m = R := ⟨_, rfl⟩
  have hH := Has.start1 w (sqc o0 a0) 25
  have SZ : Hid (∀ w0, Below w.heap.size w w0 → Calls Try.prog 33 #[.slice A n cap, .int .i64 1048576] w0 fun e w' => e = .returned (.int .i64 R) ∧ Below w0.heap.size w0 w') := hid fun w0 hb => hR ▸ szInt64SS_any _ n m f w0 (HI.out.below hb) hn HM.out
  by_cases hneg : R < 0
  · go_enter Try.func13, Try.ntmps13
    go_wp2_with (first | fail | (go_at_call 33; refine (SZ.out _ hH.below).mono ?_; rintro e w3 ⟨rfl, hb⟩; replace hH := hH.call' hb; clear hb))
    go_ret
    exact ⟨rfl, hH.below⟩
  · have hbd := szR_ok (by rw [hR]; exact hneg)
    have hS := hS hbd
    have hT := hT hbd
    have hn2 := hbd.1
    have HM2 := hid hbd.2
    clear hbd hR
    go_enter Try.func13, Try.ntmps13
    go_wp2_with (first | fail | (go_at_call 33; refine (SZ.out _ hH.below).mono ?_; rintro e w3 ⟨rfl, hb⟩; replace hH := hH.call' hb; clear hb) | (refine wpL_loadFull rfl rfl rfl rowSl hH.h0 (sqc_size _ _) ?_) | (go_at_call 16; refine (toSquare_any _ _ _).mono ?_; rintro e w3 ⟨rfl, hb⟩; replace hH := hH.call' hb; (try replace hg8 := holds_below hg8 hb (holds_lt hg8)); (try replace hg11 := holds_below hg11 hb (holds_lt hg11)); (try replace HX := hid (HX.out.below hb)); (try replace HS := hid (HS.out.below hb)); clear hb) | (go_at_call 35; refine (toInt64SS_any _ n m f _ (HI.out.below hH.below) hn2 HM2.out).mono ?_; rintro e w3 ⟨b0, rfl, hb, HS, hlo⟩; replace hH := hH.call' hb; (try replace hg8 := holds_below hg8 hb (holds_lt hg8)); (try replace hg11 := holds_below hg11 hb (holds_lt hg11)); (try replace HX := hid (HX.out.below hb)); clear hb hlo) | (go_at_call 46; refine (hS.out _ _ HS.out).mono ?_; rintro e w3 ⟨rfl, hb⟩; replace hH := hH.call' hb; (try replace hg8 := holds_below hg8 hb (holds_lt hg8)); (try replace hg11 := holds_below hg11 hb (holds_lt hg11)); clear hb HS) | (go_at_call 47; refine (hT.out _ _ HS.out).mono ?_; rintro e w3 ⟨rfl, hb⟩; replace hH := hH.call' hb; (try replace hg8 := holds_below hg8 hb (holds_lt hg8)); (try replace hg11 := holds_below hg11 hb (holds_lt hg11)); have HX := hid (HS.out.below hb); clear hb HS) | (refine wpL_guard rfl rfl ?_) | (go_at_call 18; refine (eqSquare_self _ _ _).mono ?_; rintro e w3 ⟨rfl, hb⟩; replace hH := hH.call' hb; (try replace hg8 := holds_below hg8 hb (holds_lt hg8)); (try replace hg11 := holds_below hg11 hb (holds_lt hg11)); (try replace HX := hid (HX.out.below hb)); clear hb) | (go_at_call 37; refine (eqInt64SS_sl _ _ n n n m f _ hn2 HM2.out HX.out.sl HS.out).mono ?_; rintro e w3 ⟨rfl, hb⟩; replace hH := hH.call' hb; clear hb) | (refine wpL_loadFull (x := .tmp 8) rfl rfl rfl rowSq hg8 (sqc_size _ _) ?_) | (refine wpL_storeN (x := .tmp 8) rfl rfl rfl rfl rowSq hg8 (sqc_size _ _) (sqc_ok _ _) ?_; intro w4 hz hO hT2; (try replace hg11 := hO _ _ _ (by omega) hg11); (try replace HX := hid (HX.out.away hO (Nat.le_refl _))); replace hg8 := hz; replace hH := hT2 _ _ hH hb8; clear hz hO hT2) | (refine wpL_loadFull (x := .tmp 11) rfl rfl rfl rowSq hg11 (sqc_size _ _) ?_) | (refine wpL_storeN (x := .tmp 11) rfl rfl rfl rfl rowSq hg11 (sqc_size _ _) (sqc_ok _ _) ?_; intro w4 hz hO hT2; (try replace hg8 := hO _ _ _ (by omega) hg8); (try replace HX := hid (HX.out.away hO (Nat.le_refl _))); replace hg11 := hz; replace hH := hT2 _ _ hH hb11; clear hz hO hT2) | (refine wpL_allocN (o := ⟨some 8, _, _, _, _, _⟩) rfl rfl zeroSq ?_; intro g8 w4 hg8 hl hb; have hb8 : w.heap.size + 1 ≤ g8 := (by have := hH.size; simp only [List.length_cons, List.length_nil] at this; omega);(try replace HX := hid ((HX.out.bound hl).below hb)); (try have hn11_8 : g11 ≠ g8 := (by have := holds_lt hg11; omega)); replace hH := hH.call' hb; (try replace hg11 := holds_below hg11 hb (holds_lt hg11)); clear hb hl) | (refine wpL_allocN (o := ⟨some 11, _, _, _, _, _⟩) rfl rfl zeroSq ?_; intro g11 w4 hg11 hl hb; have hb11 : w.heap.size + 1 ≤ g11 := (by have := hH.size; simp only [List.length_cons, List.length_nil] at this; omega);(try replace HX := hid ((HX.out.bound hl).below hb)); (try have hn8_11 : g8 ≠ g11 := (by have := holds_lt hg8; omega)); replace hH := hH.call' hb; (try replace hg8 := holds_below hg8 hb (holds_lt hg8)); clear hb hl))
    go_ret
    exact ⟨rfl, hH.below⟩
theorem lawExtendLoop_any (o : Int) (g : Nat → UInt8) (_ : (Lit.int .i64 o).wf = true) (k : Int) (_ : (Lit.int .i64 k).wf = true) (v : Value) (n : Nat) (m : Nat → Nat) (f : Nat → Nat → Int) (w : World) (hI : SIn w v n m f ∧ n ≤ maxLen ∧ ∀ i, i < n → m i ≤ maxLen) :
    Calls Try.prog 13 #[.agg (sqc o g), .int .i64 k, v] w fun e w' => e = .returned (.bool true) ∧ Below w.heap.size w w' := by
  cases hs : sqB o g with
  | false => exact lawExtendLoop_by o g k v n m f _ _ _ w hI.1 hI.2.1 hI.2.2 (fun hb => hid fun w b hL => specEx_1 o g k b n w hs) (fun hb => hid fun w b hL => implEx_1 o g k b n w hs)
  | true =>
    obtain ⟨N, rfl, hq⟩ := sqB_true.1 hs
    have h10 := hq.hi
    by_cases hk : 1 ≤ k ∧ k ≤ 10
    · obtain ⟨K, rfl⟩ : ∃ K : Nat, k = K := ⟨k.toNat, by omega⟩
      obtain ⟨fa, rfl⟩ := byte_of K (by omega)
      have hk1 : 1 ≤ fa.toNat := by omega
      have hk2 : fa.toNat ≤ 10 := by omega
      cases hc : coB N fa.toNat n m f with
      | false =>
        exact lawExtendLoop_by N g fa.toNat v n m f _ _ _ w hI.1 hI.2.1 hI.2.2
          (fun hb => hid fun w b hL => specEx_2c N g fa.toNat b n w hs _ (hid fun w' hb' => l08Cocycle_any N fa.toNat n b m f w' h10 hk1 hk2 hb.1 hb.2 (hL.below hb')) hc)
          (fun hb => hid fun w b hL => implEx_2c N g fa.toNat b n w hs hk.1 hk.2 _ (hid fun w' hb' => isCocycle_any N fa.toNat n b m f w' h10 hk1 hk2 hb.1 hb.2 (hL.below hb')) hc)
      | true =>
        cases hl : loopB (N : Int) g with
        | false =>
          exact lawExtendLoop_by N g fa.toNat v n m f _ _ _ w hI.1 hI.2.1 hI.2.2
            (fun hb => hid fun w b hL => specEx_5 N g fa.toNat b n w hs _ (hid fun w' hb' => l08Cocycle_any N fa.toNat n b m f w' h10 hk1 hk2 hb.1 hb.2 (hL.below hb')) hc hl)
            (fun hb => hid fun w b hL => implEx_5 N g fa.toNat b n w hs hk.1 hk.2 _ (hid fun w' hb' => isCocycle_any N fa.toNat n b m f w' h10 hk1 hk2 hb.1 hb.2 (hL.below hb')) hc hl)
        | true =>
          by_cases hNK : N * fa.toNat ≤ 10
          · have hG := coB_true hc
            have hnN : n = N := hG.1
            subst hnN
            exact lawExtendLoop_by n g fa.toNat v n m f _ _ _ w hI.1 hI.2.1 hI.2.2
              (fun hb => hid fun w b hL => specEx_good n fa.toNat g m f b w hs hk1 hq hl hNK hG hL _ (hid fun w' hb' => l08Cocycle_any n fa.toNat n b m f w' h10 hk1 hk2 hb.1 hb.2 (hL.below hb')) hc)
              (fun hb => hid fun w b hL => implEx_good n fa g m f b w hs hk1 hq hl hNK hG hL _ (hid fun w' hb' => isCocycle_any n fa.toNat n b m f w' h10 hk1 hk2 hb.1 hb.2 (hL.below hb')) hc)
          · exact lawExtendLoop_by N g fa.toNat v n m f _ _ _ w hI.1 hI.2.1 hI.2.2
              (fun hb => hid fun w b hL => specEx_3 N fa.toNat g b n w hs hk1 hk2 h10 _ (hid fun w' hb' => l08Cocycle_any N fa.toNat n b m f w' h10 hk1 hk2 hb.1 hb.2 (hL.below hb')) hc hl (by omega))
              (fun hb => hid fun w b hL => implEx_3 N fa.toNat g b n w hs hk1 hk2 h10 _ (hid fun w' hb' => isCocycle_any N fa.toNat n b m f w' h10 hk1 hk2 hb.1 hb.2 (hL.below hb')) hc hl (by omega))
    · refine lawExtendLoop_by N g k v n m f _ _ _ w hI.1 hI.2.1 hI.2.2
        (fun hb => hid fun w b hL => specEx_2c N g k b n w hs false (hid fun w' hb' => l08Cocycle_out N k b n w' hk) rfl) (fun hb => hid fun w b hL => ?_)
      by_cases hl : k < 1
      · exact implEx_2k N g k b n w hs hl
      · exact implEx_2l N g k b n w hs (by omega)
end Go.Proofs.Ytcdlnkjljijlmaa
