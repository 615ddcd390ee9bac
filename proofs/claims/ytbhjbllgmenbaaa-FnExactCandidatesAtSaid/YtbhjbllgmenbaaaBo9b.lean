/- Proved: what the program's CandidatesAt returns. Conditions: those that each theorem names. -/
import Derived.Test.YtbhjbllgmenbaaaBp0
namespace Go.Proofs.Ytbhjbllgmenbaaa
set_option linter.unusedVariables false
set_option linter.unusedSimpArgs false
open Go.RowKit
set_option maxRecDepth 20000 in
set_option maxHeartbeats 8000000 in
theorem implCandidatesAt_eq (b n : Nat) (m : Nat → Nat) (f : Nat → Nat → Int) (i j : Int) (w : World) (hn : n ≤ 1048576) (hm : ∀ x, x < n → m x ≤ 1048576) (hL : SL w b n m f) (hij : i = j) :
    Calls Try.prog 35 #[.slice (some ⟨b, 0, none⟩) n n, .int .i64 i, .int .i64 j] w (GotL (cdL n m f i j).1 (cdL n m f i j).2 w) := by
  subst hij
  obtain ⟨V, hVs, hVo, hVe, hC⟩ := boardOf_par b n m f hn hm
  obtain ⟨Z, _, hB0⟩ := bd0_ex
  have HC := hid (hC _ hL)
  have hH := Has.nil w
  clear hC hL hm
  by_cases hG : ParG n m f
  · have hp := parB_yes hG
    have h10 := hG.2.1
    have hV := hVe hp
    clear hVe
    have HN := hid (fun (w : World) (g : Nat) (h : holds w g V 81) => show w.cell? ⟨g, 0, none⟩ = some (.int .i64 n) by rw [holds_cell h, hV, bdc_N])
    rw [hp] at HC
    by_cases h0 : i < 0
    · have HV : cdL n m f i i = ([], 2) := by unfold cdL; rw [hp, cond_true, if_neg (by omega)]
      rw [HV]
      clear HV hV hp hG
      go_enter Try.func35, Try.ntmps35
      go_wp2_with (first | fail | (refine wpL_guard rfl rfl ?_) | (go_at_call 73; refine HC.out.mono ?_; rintro e w2 ⟨rfl, hb⟩; replace hH := hH.call' hb; clear hb) | (refine wpL_storeN (x := .tmp 8) rfl rfl rfl rfl rowBd hgq hB0.s hVo ?_; intro w5 hz hO hT; replace hH := hT _ _ hH (by simp; omega); have cN := HN.out _ _ hz; clear hz hO hT) | (refine wpL_allocN (o := ⟨some 8, _, _, _, _, _⟩) rfl rfl hB0.z ?_; intro gq w4 hgq hlq hb; have hs := hH.size; simp only [List.length_nil] at hs; replace hH := hH.call' hb; clear hb))
      go_ret2
      exact GotL.err ⟨rfl, hH.below⟩
    · have h0b : decide (i < 0) = false := decide_eq_false h0
      by_cases h1 : i ≥ (n : Int)
      · have HV : cdL n m f i i = ([], 2) := by unfold cdL; rw [hp, cond_true, if_neg (by omega)]
        rw [HV]
        clear HV hV hp hG
        go_enter Try.func35, Try.ntmps35
        go_wp2_with (first | fail | (refine wpL_guard rfl rfl ?_) | (go_at_call 73; refine HC.out.mono ?_; rintro e w2 ⟨rfl, hb⟩; replace hH := hH.call' hb; clear hb) | (refine wpL_storeN (x := .tmp 8) rfl rfl rfl rfl rowBd hgq hB0.s hVo ?_; intro w5 hz hO hT; replace hH := hT _ _ hH (by simp; omega); have cN := HN.out _ _ hz; clear hz hO hT) | (refine wpL_allocN (o := ⟨some 8, _, _, _, _, _⟩) rfl rfl hB0.z ?_; intro gq w4 hgq hlq hb; have hs := hH.size; simp only [List.length_nil] at hs; replace hH := hH.call' hb; clear hb))
        go_ret2
        exact GotL.err ⟨rfl, hH.below⟩
      · have h1b : decide (i ≥ (n : Int)) = false := decide_eq_false h1
        have hxy : ∃ x : Nat, i = x ∧ x < n := ⟨i.toNat, by omega, by omega⟩
        obtain ⟨x, rfl, hx⟩ := hxy
        have hx10 : (x : Int) < 10 := by omega
        have hy10 : (x : Int) < 10 := by omega
        have HSEL := hid (cnd_sel hG hx hx)
        have HV : Hid (cdL n m f (x : Int) (x : Int) = if 0 ≤ f x x then ([], 5) else (selL (cndB n f x x) n, 0)) := hid (by unfold cdL; rw [hp, cond_true, if_pos (by omega)]; rfl)
        have hF := Ffn_all hG hx hx
        obtain ⟨T, hT⟩ : ∃ T, Tfn n f n 0 = T := ⟨_, rfl⟩
        obtain ⟨F, hFe⟩ : ∃ F, Ffn n f n 0 = F := ⟨_, rfl⟩
        obtain ⟨R, hR⟩ : ∃ R, Rfn n f n 0 = R := ⟨_, rfl⟩
        obtain ⟨C, hCe⟩ : ∃ C, Cfn n f n 0 = C := ⟨_, rfl⟩
        rw [hT, hFe, hR, hCe] at hV
        rw [hR, hCe] at HSEL
        rw [hFe] at hF
        obtain ⟨fb, hfb⟩ : ∃ r, F (x * 10 + x) = r := ⟨_, rfl⟩
        have HF := hid (fun (w : World) (g : Nat) (h : holds w g V 81) => show w.cell? ⟨g, 101 + x * 10 + x, none⟩ = some (.bool fb) by rw [holds_cell h, hV, Nat.add_assoc, bdc_F (by omega), hfb])
        have HVV := hid hV
        rw [hfb] at hF
        clear hV hp hG hT hFe hR hCe hfb
        cases fb with
        | true =>
          rw [HV.out, if_pos (hF.1 rfl)]
          clear HV hF
          go_enter Try.func35, Try.ntmps35
          go_wp2_with (first | fail | (refine wpL_guard rfl rfl ?_) | (go_at_call 73; refine HC.out.mono ?_; rintro e w2 ⟨rfl, hb⟩; replace hH := hH.call' hb; clear hb) | (refine wpL_storeN (x := .tmp 8) rfl rfl rfl rfl rowBd hgq hB0.s hVo ?_; intro w5 hz hO hT; replace hH := hT _ _ hH (by simp; omega); have cN := HN.out _ _ hz; have cF := HF.out _ _ hz; clear hz hO hT) | (refine wpL_allocN (o := ⟨some 8, _, _, _, _, _⟩) rfl rfl hB0.z ?_; intro gq w4 hgq hlq hb; have hs := hH.size; simp only [List.length_nil] at hs; replace hH := hH.call' hb; clear hb))
          go_ret2
          exact GotL.err ⟨rfl, hH.below⟩
        | false =>
          rw [HV.out, if_neg (fun q => by have := hF.2 q; cases this), ← HSEL.out]
          clear HV hF HSEL
          go_enter Try.func35, Try.ntmps35
          go_wp2_with (first | fail | (refine wpL_guard rfl rfl ?_) | (go_at_call 73; refine HC.out.mono ?_; rintro e w2 ⟨rfl, hb⟩; replace hH := hH.call' hb; clear hb) | (refine wpL_storeN (x := .tmp 8) rfl rfl rfl rfl rowBd hgq hB0.s hVo ?_; intro w5 hz hO hT; replace hH := hT _ _ hH (by simp; omega); have cN := HN.out _ _ hz; have cF := HF.out _ _ hz; have HZ := hid hz; clear hz hO hT) | (refine wpL_allocN (o := ⟨some 8, _, _, _, _, _⟩) rfl rfl hB0.z ?_; intro gq w4 hgq hlq hb; have hs := hH.size; simp only [List.length_nil] at hs; replace hH := hH.call' hb; clear hb) | (refine wpL_build1 (T := 87) rfl rfl rfl (builtCellB _ _) ?_) | (go_at_call 75; refine (boardCandidates_any n _ x x T F R C _ h10 (by omega) (by omega) (by rw [← HVV.out]; exact HZ.out)).mono ?_; rintro e w6 ⟨v, rfl, hb, hO⟩; have hsz := hH.size; simp only [List.length_nil] at hsz; replace hH := hH.call' hb; have HO := hid hO; clear hb hO cN cF))
          go_ret2
          exact OL.got HO.out hH.below (by omega)
  · have hp := parB_no hG
    rw [hp] at HC
    have HV : cdL n m f i i = ([], 1) := by unfold cdL; rw [hp, cond_false]
    rw [HV]
    clear HV hVe
    go_enter Try.func35, Try.ntmps35
    go_wp2_with (first | fail | (refine wpL_guard rfl rfl ?_) | (go_at_call 73; refine HC.out.mono ?_; rintro e w2 ⟨rfl, hb⟩; replace hH := hH.call' hb; clear hb) | (refine wpL_storeN (x := .tmp 8) rfl rfl rfl rfl rowBd hgq hB0.s hVo ?_; intro w5 hz hO hT; replace hH := hT _ _ hH (by simp; omega); clear hz hO hT) | (refine wpL_allocN (o := ⟨some 8, _, _, _, _, _⟩) rfl rfl hB0.z ?_; intro gq w4 hgq hlq hb; have hs := hH.size; simp only [List.length_nil] at hs; replace hH := hH.call' hb; clear hb))
    go_ret2
    exact GotL.err ⟨rfl, hH.below⟩
end Go.Proofs.Ytbhjbllgmenbaaa
