/- Proved: what the program's QuadraticSquare returns. Conditions: those that each theorem names. -/
import Derived.Test.YtbhjbllgmenbaaaQd0
namespace Go.Proofs.Ytbhjbllgmenbaaa
set_option linter.unusedVariables false
set_option linter.unusedSimpArgs false
open Go.RowKit
set_option maxRecDepth 20000 in
set_option maxHeartbeats 1600000 in
theorem implQuad_no (p a b : Int) (w : World) (h3 : ¬ p = 3) (h5 : ¬ p = 5) (h7 : ¬ p = 7) :
    Calls Try.prog 22 #[.int .i64 p, .int .i64 a, .int .i64 b] w fun e w' => e = .returned (.tuple #[.agg (sqc 0 fun _ => 0), .int .i64 2]) ∧ Below w.heap.size w w' := by
  have hH := Has.start1 w (sqc 0 fun _ => 0) 29
  go_enter Try.func22, Try.ntmps22
  go_wp2_with (first | fail | (refine wpL_guard rfl rfl ?_) | (refine wpL_alloc (o := ⟨some 6, _, _, _, _, _⟩) rfl rfl zeroSq ?_; intro g hg; (try simp at hg); subst hg) | (refine wpL_build rfl rfl builtSq ?_) | (refine wpL_storeSame rfl rfl rfl rfl rowSq hH.h0 (sqc_ok _ _) ?_))
  exact ret_ct rfl rfl rfl hH.h0 rowSq (sqc_size _ _) ⟨rfl, hH.below⟩
set_option maxRecDepth 20000 in
set_option maxHeartbeats 1600000 in
theorem implQuad3_out (a b : Int) (w : World) (h : ¬ (0 ≤ a ∧ a < 3 ∧ 0 ≤ b ∧ b < 3)) :
    Calls Try.prog 22 #[.int .i64 3, .int .i64 a, .int .i64 b] w fun e w' => e = .returned (.tuple #[.agg (sqc 0 fun _ => 0), .int .i64 2]) ∧ Below w.heap.size w w' := by
  have hH := Has.start1 w (sqc 0 fun _ => 0) 29
  obtain ⟨mn, hmn⟩ : ∃ mn : Int, min a b = mn := ⟨_, rfl⟩
  obtain ⟨mx, hmx⟩ : ∃ mx : Int, max a b = mx := ⟨_, rfl⟩
  by_cases h0 : mn < 0
  · clear h hmx
    go_enter Try.func22, Try.ntmps22
    go_wp2_with (first | fail | (refine wpL_guard rfl rfl ?_) | (refine wpL_alloc (o := ⟨some 6, _, _, _, _, _⟩) rfl rfl zeroSq ?_; intro g hg; (try simp at hg); subst hg) | (refine wpL_build rfl rfl builtSq ?_) | (refine wpL_storeSame rfl rfl rfl rfl rowSq hH.h0 (sqc_ok _ _) ?_))
    exact ret_ct rfl rfl rfl hH.h0 rowSq (sqc_size _ _) ⟨rfl, hH.below⟩
  · have h1 : (3 : Int) ≤ mx := by omega
    clear h
    go_enter Try.func22, Try.ntmps22
    go_wp2_with (first | fail | (refine wpL_guard rfl rfl ?_) | (refine wpL_alloc (o := ⟨some 6, _, _, _, _, _⟩) rfl rfl zeroSq ?_; intro g hg; (try simp at hg); subst hg) | (refine wpL_build rfl rfl builtSq ?_) | (refine wpL_storeSame rfl rfl rfl rfl rowSq hH.h0 (sqc_ok _ _) ?_))
    exact ret_ct rfl rfl rfl hH.h0 rowSq (sqc_size _ _) ⟨rfl, hH.below⟩
set_option maxRecDepth 20000 in
set_option maxHeartbeats 3000000 in
theorem implQuad3_in (a b : Nat) (O Z RO RZ : Int) (T RT : Nat → UInt8) (w : World) (ha : a < 3) (hb : b < 3)
    (hO : Hid (∀ w, Calls Try.prog 65 #[.agg (sqc (3 : Nat) (cyF 3)), .agg (u8s 10 (plD 3 a b))] w fun e w' => e = .returned (.tuple #[.agg (sqc O T), .int .i64 Z]) ∧ Below w.heap.size w w'))
    (h0 : Z = 0 → RO = O ∧ RT = T ∧ RZ = 0) (h1 : ¬ Z = 0 → RO = 0 ∧ (RT = fun _ => 0) ∧ RZ = 5) :
    Calls Try.prog 22 #[.int .i64 3, .int .i64 (a : Nat), .int .i64 (b : Nat)] w fun e w' => e = .returned (.tuple #[.agg (sqc RO RT), .int .i64 RZ]) ∧ Below w.heap.size w w' := by
  have H0 := hid h0
  have H1 := hid h1
  clear h0 h1
  have hH := Has.start2 w (sqc 0 fun _ => 0) (u8s 10 fun _ => 0) 29 71
  obtain ⟨mn, hmn⟩ : ∃ mn : Int, min (a : Int) (b : Int) = mn := ⟨_, rfl⟩
  obtain ⟨mx, hmx⟩ : ∃ mx : Int, max (a : Int) (b : Int) = mx := ⟨_, rfl⟩
  have m0 : ¬ mn < 0 := by omega
  have m1 : mx < 3 := by omega
  have hP : P357 3 := by unfold P357; omega
  go_enter Try.func22, Try.ntmps22
  go_wp2_with (first | fail | (refine wpL_guard rfl rfl ?_) | (refine wpL_alloc (o := ⟨some 6, _, _, _, _, _⟩) rfl rfl zeroSq ?_; intro g hg; (try simp at hg); subst hg) | (refine wpL_alloc (o := ⟨some 8, _, _, _, _, _⟩) rfl rfl zeroPl ?_; intro g hg; (try simp at hg); subst hg))
  clear hmn hmx m0 m1
  go_loopw [40] (fun i wr => ∃ k : Nat, k ≤ 3 ∧ i = .int .i64 k ∧ Has w wr [(sqc 0 (fun _ => 0), 29), (u8s 10 (mdF (quD 3 a b) k), 71)]) (fun i _ => 10 - (intOf i).toNat)
  case atStart => exact ⟨0, by omega, rfl, by rw [mdF_zero]; exact hH⟩
  case round =>
    clear hH
    obtain ⟨k, hk, rfl, hH⟩ := hrel
    by_cases hlt : k < 3
    · have hlt' : (k : Int) < 3 := by omega
      obtain ⟨c, hc⟩ : ∃ c, quA 3 a b k = c := ⟨_, rfl⟩
      have hcl : c < 3 := by rw [← hc]; unfold quA; split <;> omega
      obtain ⟨U, hU⟩ : ∃ U, c * k = U := ⟨_, rfl⟩
      have hUl : U ≤ 49 := by rw [← hU]; exact Nat.mul_le_mul (show c ≤ 7 by omega) (show k ≤ 7 by omega)
      have hUi : (c : Int) * (k : Int) = (U : Int) := by rw [← hU]; simp
      obtain ⟨R, hR⟩ := byte_of (U % 3) (by omega)
      have hri : (U : Int) % 3 = (R.toNat : Int) := by omega
      have hrt : Int.tmod (U : Int) 3 = (R.toNat : Int) := by rw [Int.tmod_eq_emod_of_nonneg (by omega)]; exact hri
      have hRl : (R.toNat : Int) < 10 := by omega
      have hU49 : (U : Int) ≤ 49 := by omega
      have HQ := hid (show quD 3 a b k = R by unfold quD; rw [hc, hU, ← hR]; exact UInt8.ofNat_toNat)
      cases hqs : qsB 3 k with
      | true =>
        have hca : a = c := by rw [← hc]; unfold quA; rw [hqs]; rfl
        have HS := hid hqs
        clear hqs hc hU hR
        subst hca
        go_wp2_with (first | fail | (go_at_call 63; refine (isSquareBy_any 3 k _ hP).mono ?_; rintro e w3 ⟨rfl, hb⟩; rw [HS.out]; replace hH := hH.call' hb; clear hb; have c1 : w3.cell? ⟨w.heap.size + 1, k, none⟩ = some (.int .u8 (mdF (quD 3 a b) k k).toNat) := (by rw [hH.c1, u8s_get _ _ _ (by omega)]); have f1 := hH.f1 k))
        go_roundw
        case rel => exact ⟨k + 1, by omega, by go_num, hH.s1 _ _ (u8s_step 10 _ _ k R (fun j _ => by rw [mdF_step, HQ.out]))⟩
        case measure => simp [intOf]; omega
      | false =>
        have hca : b = c := by rw [← hc]; unfold quA; rw [hqs]; rfl
        have HS := hid hqs
        clear hqs hc hU hR
        subst hca
        go_wp2_with (first | fail | (go_at_call 63; refine (isSquareBy_any 3 k _ hP).mono ?_; rintro e w3 ⟨rfl, hb⟩; rw [HS.out]; replace hH := hH.call' hb; clear hb; have c1 : w3.cell? ⟨w.heap.size + 1, k, none⟩ = some (.int .u8 (mdF (quD 3 a b) k k).toNat) := (by rw [hH.c1, u8s_get _ _ _ (by omega)]); have f1 := hH.f1 k))
        go_roundw
        case rel => exact ⟨k + 1, by omega, by go_num, hH.s1 _ _ (u8s_step 10 _ _ k R (fun j _ => by rw [mdF_step, HQ.out]))⟩
        case measure => simp [intOf]; omega
    · obtain rfl : k = 3 := by omega
      have HH : Hid (mdF (quD 3 a b) 3 = plD 3 a b) := hid rfl
      rw [HH.out] at hH
      by_cases hz : Z = 0
      · obtain ⟨rfl, rfl, rfl⟩ := H0.out hz
        go_wp2_with (first | fail | (go_at_call 64; refine (implCyclicSquare_good 3 _ (by decide) (by decide)).mono ?_; rintro e w3 ⟨rfl, hb⟩; replace hH := hH.call' hb; clear hb) | (go_at_call 65; refine (hO.out _).mono ?_; rintro e w3 ⟨rfl, hb⟩; replace hH := hH.call' hb; (try replace hg11 := holds_below hg11 hb (holds_lt hg11)); clear hb) | (refine wpL_loadFull rfl rfl rfl rowPl hH.h1 (u8s_size _ _) ?_) | (refine wpL_loadFull (x := .tmp 11) rfl rfl rfl rowSq hg11 (sqc_size _ _) ?_) | (refine wpL_loadFull (x := .tmp 13) rfl rfl rfl rowSq hg13 (sqc_size _ _) ?_) | (refine wpL_storeN (x := .tmp 11) rfl rfl rfl rfl rowSq hg11 (sqc_size _ _) (sqc_ok _ _) ?_; intro w4 hz2 hO2 hT2; replace hg11 := hz2; replace hH := hT2 _ _ hH hb11; clear hz2 hO2 hT2) | (refine wpL_storeN (x := .tmp 13) rfl rfl rfl rfl rowSq hg13 (sqc_size _ _) (sqc_ok _ _) ?_; intro w4 hz2 hO2 hT2; replace hg13 := hz2; replace hH := hT2 _ _ hH hb13; clear hz2 hO2 hT2) | (refine wpL_storeFull (x := .tmp 6) rfl rfl rfl rfl rowSq hH.h0 (sqc_size _ _) (sqc_ok _ _) ?_) | (refine wpL_allocN (o := ⟨some 13, _, _, _, _, _⟩) rfl rfl zeroSq ?_; intro g13 w4 hg13 hl hb; have hb13 : w.heap.size + 2 ≤ g13 := (by have := hH.size; simp only [List.length_cons, List.length_nil] at this; omega); replace hH := hH.call' hb; (try replace hg11 := holds_below hg11 hb (holds_lt hg11)); clear hb hl) | (refine wpL_allocN (o := ⟨some 11, _, _, _, _, _⟩) rfl rfl zeroSq ?_; intro g11 w4 hg11 hl hb; have hb11 : w.heap.size + 2 ≤ g11 := (by have := hH.size; simp only [List.length_cons, List.length_nil] at this; omega); replace hH := hH.call' hb; clear hb hl))
        exact ret_ct rfl rfl rfl hH.r0.h0 rowSq (sqc_size _ _) ⟨rfl, hH.r0.below⟩
      · obtain ⟨rfl, rfl, rfl⟩ := H1.out hz
        go_wp2_with (first | fail | (go_at_call 64; refine (implCyclicSquare_good 3 _ (by decide) (by decide)).mono ?_; rintro e w3 ⟨rfl, hb⟩; replace hH := hH.call' hb; clear hb) | (go_at_call 65; refine (hO.out _).mono ?_; rintro e w3 ⟨rfl, hb⟩; replace hH := hH.call' hb; (try replace hg11 := holds_below hg11 hb (holds_lt hg11)); clear hb) | (refine wpL_loadFull rfl rfl rfl rowPl hH.h1 (u8s_size _ _) ?_) | (refine wpL_loadFull (x := .tmp 11) rfl rfl rfl rowSq hg11 (sqc_size _ _) ?_) | (refine wpL_loadFull (x := .tmp 13) rfl rfl rfl rowSq hg13 (sqc_size _ _) ?_) | (refine wpL_storeN (x := .tmp 11) rfl rfl rfl rfl rowSq hg11 (sqc_size _ _) (sqc_ok _ _) ?_; intro w4 hz2 hO2 hT2; replace hg11 := hz2; replace hH := hT2 _ _ hH hb11; clear hz2 hO2 hT2) | (refine wpL_storeN (x := .tmp 13) rfl rfl rfl rfl rowSq hg13 (sqc_size _ _) (sqc_ok _ _) ?_; intro w4 hz2 hO2 hT2; replace hg13 := hz2; replace hH := hT2 _ _ hH hb13; clear hz2 hO2 hT2) | (refine wpL_build rfl rfl builtSq ?_) | (refine wpL_storeSame rfl rfl rfl rfl rowSq hH.h0 (sqc_ok _ _) ?_) | (refine wpL_allocN (o := ⟨some 13, _, _, _, _, _⟩) rfl rfl zeroSq ?_; intro g13 w4 hg13 hl hb; have hb13 : w.heap.size + 2 ≤ g13 := (by have := hH.size; simp only [List.length_cons, List.length_nil] at this; omega); replace hH := hH.call' hb; (try replace hg11 := holds_below hg11 hb (holds_lt hg11)); clear hb hl) | (refine wpL_allocN (o := ⟨some 11, _, _, _, _, _⟩) rfl rfl zeroSq ?_; intro g11 w4 hg11 hl hb; have hb11 : w.heap.size + 2 ≤ g11 := (by have := hH.size; simp only [List.length_cons, List.length_nil] at this; omega); replace hH := hH.call' hb; clear hb hl))
        exact ret_ct rfl rfl rfl hH.h0 rowSq (sqc_size _ _) ⟨rfl, hH.below⟩
set_option maxRecDepth 20000 in
set_option maxHeartbeats 1600000 in
theorem implQuad5_out (a b : Int) (w : World) (h : ¬ (0 ≤ a ∧ a < 5 ∧ 0 ≤ b ∧ b < 5)) :
    Calls Try.prog 22 #[.int .i64 5, .int .i64 a, .int .i64 b] w fun e w' => e = .returned (.tuple #[.agg (sqc 0 fun _ => 0), .int .i64 2]) ∧ Below w.heap.size w w' := by
  have hH := Has.start1 w (sqc 0 fun _ => 0) 29
  obtain ⟨mn, hmn⟩ : ∃ mn : Int, min a b = mn := ⟨_, rfl⟩
  obtain ⟨mx, hmx⟩ : ∃ mx : Int, max a b = mx := ⟨_, rfl⟩
  by_cases h0 : mn < 0
  · clear h hmx
    go_enter Try.func22, Try.ntmps22
    go_wp2_with (first | fail | (refine wpL_guard rfl rfl ?_) | (refine wpL_alloc (o := ⟨some 6, _, _, _, _, _⟩) rfl rfl zeroSq ?_; intro g hg; (try simp at hg); subst hg) | (refine wpL_build rfl rfl builtSq ?_) | (refine wpL_storeSame rfl rfl rfl rfl rowSq hH.h0 (sqc_ok _ _) ?_))
    exact ret_ct rfl rfl rfl hH.h0 rowSq (sqc_size _ _) ⟨rfl, hH.below⟩
  · have h1 : (5 : Int) ≤ mx := by omega
    clear h
    go_enter Try.func22, Try.ntmps22
    go_wp2_with (first | fail | (refine wpL_guard rfl rfl ?_) | (refine wpL_alloc (o := ⟨some 6, _, _, _, _, _⟩) rfl rfl zeroSq ?_; intro g hg; (try simp at hg); subst hg) | (refine wpL_build rfl rfl builtSq ?_) | (refine wpL_storeSame rfl rfl rfl rfl rowSq hH.h0 (sqc_ok _ _) ?_))
    exact ret_ct rfl rfl rfl hH.h0 rowSq (sqc_size _ _) ⟨rfl, hH.below⟩
set_option maxRecDepth 20000 in
set_option maxHeartbeats 3000000 in
theorem implQuad5_in (a b : Nat) (O Z RO RZ : Int) (T RT : Nat → UInt8) (w : World) (ha : a < 5) (hb : b < 5)
    (hO : Hid (∀ w, Calls Try.prog 65 #[.agg (sqc (5 : Nat) (cyF 5)), .agg (u8s 10 (plD 5 a b))] w fun e w' => e = .returned (.tuple #[.agg (sqc O T), .int .i64 Z]) ∧ Below w.heap.size w w'))
    (h0 : Z = 0 → RO = O ∧ RT = T ∧ RZ = 0) (h1 : ¬ Z = 0 → RO = 0 ∧ (RT = fun _ => 0) ∧ RZ = 5) :
    Calls Try.prog 22 #[.int .i64 5, .int .i64 (a : Nat), .int .i64 (b : Nat)] w fun e w' => e = .returned (.tuple #[.agg (sqc RO RT), .int .i64 RZ]) ∧ Below w.heap.size w w' := by
  have H0 := hid h0
  have H1 := hid h1
  clear h0 h1
  have hH := Has.start2 w (sqc 0 fun _ => 0) (u8s 10 fun _ => 0) 29 71
  obtain ⟨mn, hmn⟩ : ∃ mn : Int, min (a : Int) (b : Int) = mn := ⟨_, rfl⟩
  obtain ⟨mx, hmx⟩ : ∃ mx : Int, max (a : Int) (b : Int) = mx := ⟨_, rfl⟩
  have m0 : ¬ mn < 0 := by omega
  have m1 : mx < 5 := by omega
  have hP : P357 5 := by unfold P357; omega
  go_enter Try.func22, Try.ntmps22
  go_wp2_with (first | fail | (refine wpL_guard rfl rfl ?_) | (refine wpL_alloc (o := ⟨some 6, _, _, _, _, _⟩) rfl rfl zeroSq ?_; intro g hg; (try simp at hg); subst hg) | (refine wpL_alloc (o := ⟨some 8, _, _, _, _, _⟩) rfl rfl zeroPl ?_; intro g hg; (try simp at hg); subst hg))
  clear hmn hmx m0 m1
  go_loopw [40] (fun i wr => ∃ k : Nat, k ≤ 5 ∧ i = .int .i64 k ∧ Has w wr [(sqc 0 (fun _ => 0), 29), (u8s 10 (mdF (quD 5 a b) k), 71)]) (fun i _ => 10 - (intOf i).toNat)
  case atStart => exact ⟨0, by omega, rfl, by rw [mdF_zero]; exact hH⟩
  case round =>
    clear hH
    obtain ⟨k, hk, rfl, hH⟩ := hrel
    by_cases hlt : k < 5
    · have hlt' : (k : Int) < 5 := by omega
      obtain ⟨c, hc⟩ : ∃ c, quA 5 a b k = c := ⟨_, rfl⟩
      have hcl : c < 5 := by rw [← hc]; unfold quA; split <;> omega
      obtain ⟨U, hU⟩ : ∃ U, c * k = U := ⟨_, rfl⟩
      have hUl : U ≤ 49 := by rw [← hU]; exact Nat.mul_le_mul (show c ≤ 7 by omega) (show k ≤ 7 by omega)
      have hUi : (c : Int) * (k : Int) = (U : Int) := by rw [← hU]; simp
      obtain ⟨R, hR⟩ := byte_of (U % 5) (by omega)
      have hri : (U : Int) % 5 = (R.toNat : Int) := by omega
      have hrt : Int.tmod (U : Int) 5 = (R.toNat : Int) := by rw [Int.tmod_eq_emod_of_nonneg (by omega)]; exact hri
      have hRl : (R.toNat : Int) < 10 := by omega
      have hU49 : (U : Int) ≤ 49 := by omega
      have HQ := hid (show quD 5 a b k = R by unfold quD; rw [hc, hU, ← hR]; exact UInt8.ofNat_toNat)
      cases hqs : qsB 5 k with
      | true =>
        have hca : a = c := by rw [← hc]; unfold quA; rw [hqs]; rfl
        have HS := hid hqs
        clear hqs hc hU hR
        subst hca
        go_wp2_with (first | fail | (go_at_call 63; refine (isSquareBy_any 5 k _ hP).mono ?_; rintro e w3 ⟨rfl, hb⟩; rw [HS.out]; replace hH := hH.call' hb; clear hb; have c1 : w3.cell? ⟨w.heap.size + 1, k, none⟩ = some (.int .u8 (mdF (quD 5 a b) k k).toNat) := (by rw [hH.c1, u8s_get _ _ _ (by omega)]); have f1 := hH.f1 k))
        go_roundw
        case rel => exact ⟨k + 1, by omega, by go_num, hH.s1 _ _ (u8s_step 10 _ _ k R (fun j _ => by rw [mdF_step, HQ.out]))⟩
        case measure => simp [intOf]; omega
      | false =>
        have hca : b = c := by rw [← hc]; unfold quA; rw [hqs]; rfl
        have HS := hid hqs
        clear hqs hc hU hR
        subst hca
        go_wp2_with (first | fail | (go_at_call 63; refine (isSquareBy_any 5 k _ hP).mono ?_; rintro e w3 ⟨rfl, hb⟩; rw [HS.out]; replace hH := hH.call' hb; clear hb; have c1 : w3.cell? ⟨w.heap.size + 1, k, none⟩ = some (.int .u8 (mdF (quD 5 a b) k k).toNat) := (by rw [hH.c1, u8s_get _ _ _ (by omega)]); have f1 := hH.f1 k))
        go_roundw
        case rel => exact ⟨k + 1, by omega, by go_num, hH.s1 _ _ (u8s_step 10 _ _ k R (fun j _ => by rw [mdF_step, HQ.out]))⟩
        case measure => simp [intOf]; omega
    · obtain rfl : k = 5 := by omega
      have HH : Hid (mdF (quD 5 a b) 5 = plD 5 a b) := hid rfl
      rw [HH.out] at hH
      by_cases hz : Z = 0
      · obtain ⟨rfl, rfl, rfl⟩ := H0.out hz
        go_wp2_with (first | fail | (go_at_call 64; refine (implCyclicSquare_good 5 _ (by decide) (by decide)).mono ?_; rintro e w3 ⟨rfl, hb⟩; replace hH := hH.call' hb; clear hb) | (go_at_call 65; refine (hO.out _).mono ?_; rintro e w3 ⟨rfl, hb⟩; replace hH := hH.call' hb; (try replace hg11 := holds_below hg11 hb (holds_lt hg11)); clear hb) | (refine wpL_loadFull rfl rfl rfl rowPl hH.h1 (u8s_size _ _) ?_) | (refine wpL_loadFull (x := .tmp 11) rfl rfl rfl rowSq hg11 (sqc_size _ _) ?_) | (refine wpL_loadFull (x := .tmp 13) rfl rfl rfl rowSq hg13 (sqc_size _ _) ?_) | (refine wpL_storeN (x := .tmp 11) rfl rfl rfl rfl rowSq hg11 (sqc_size _ _) (sqc_ok _ _) ?_; intro w4 hz2 hO2 hT2; replace hg11 := hz2; replace hH := hT2 _ _ hH hb11; clear hz2 hO2 hT2) | (refine wpL_storeN (x := .tmp 13) rfl rfl rfl rfl rowSq hg13 (sqc_size _ _) (sqc_ok _ _) ?_; intro w4 hz2 hO2 hT2; replace hg13 := hz2; replace hH := hT2 _ _ hH hb13; clear hz2 hO2 hT2) | (refine wpL_storeFull (x := .tmp 6) rfl rfl rfl rfl rowSq hH.h0 (sqc_size _ _) (sqc_ok _ _) ?_) | (refine wpL_allocN (o := ⟨some 13, _, _, _, _, _⟩) rfl rfl zeroSq ?_; intro g13 w4 hg13 hl hb; have hb13 : w.heap.size + 2 ≤ g13 := (by have := hH.size; simp only [List.length_cons, List.length_nil] at this; omega); replace hH := hH.call' hb; (try replace hg11 := holds_below hg11 hb (holds_lt hg11)); clear hb hl) | (refine wpL_allocN (o := ⟨some 11, _, _, _, _, _⟩) rfl rfl zeroSq ?_; intro g11 w4 hg11 hl hb; have hb11 : w.heap.size + 2 ≤ g11 := (by have := hH.size; simp only [List.length_cons, List.length_nil] at this; omega); replace hH := hH.call' hb; clear hb hl))
        exact ret_ct rfl rfl rfl hH.r0.h0 rowSq (sqc_size _ _) ⟨rfl, hH.r0.below⟩
      · obtain ⟨rfl, rfl, rfl⟩ := H1.out hz
        go_wp2_with (first | fail | (go_at_call 64; refine (implCyclicSquare_good 5 _ (by decide) (by decide)).mono ?_; rintro e w3 ⟨rfl, hb⟩; replace hH := hH.call' hb; clear hb) | (go_at_call 65; refine (hO.out _).mono ?_; rintro e w3 ⟨rfl, hb⟩; replace hH := hH.call' hb; (try replace hg11 := holds_below hg11 hb (holds_lt hg11)); clear hb) | (refine wpL_loadFull rfl rfl rfl rowPl hH.h1 (u8s_size _ _) ?_) | (refine wpL_loadFull (x := .tmp 11) rfl rfl rfl rowSq hg11 (sqc_size _ _) ?_) | (refine wpL_loadFull (x := .tmp 13) rfl rfl rfl rowSq hg13 (sqc_size _ _) ?_) | (refine wpL_storeN (x := .tmp 11) rfl rfl rfl rfl rowSq hg11 (sqc_size _ _) (sqc_ok _ _) ?_; intro w4 hz2 hO2 hT2; replace hg11 := hz2; replace hH := hT2 _ _ hH hb11; clear hz2 hO2 hT2) | (refine wpL_storeN (x := .tmp 13) rfl rfl rfl rfl rowSq hg13 (sqc_size _ _) (sqc_ok _ _) ?_; intro w4 hz2 hO2 hT2; replace hg13 := hz2; replace hH := hT2 _ _ hH hb13; clear hz2 hO2 hT2) | (refine wpL_build rfl rfl builtSq ?_) | (refine wpL_storeSame rfl rfl rfl rfl rowSq hH.h0 (sqc_ok _ _) ?_) | (refine wpL_allocN (o := ⟨some 13, _, _, _, _, _⟩) rfl rfl zeroSq ?_; intro g13 w4 hg13 hl hb; have hb13 : w.heap.size + 2 ≤ g13 := (by have := hH.size; simp only [List.length_cons, List.length_nil] at this; omega); replace hH := hH.call' hb; (try replace hg11 := holds_below hg11 hb (holds_lt hg11)); clear hb hl) | (refine wpL_allocN (o := ⟨some 11, _, _, _, _, _⟩) rfl rfl zeroSq ?_; intro g11 w4 hg11 hl hb; have hb11 : w.heap.size + 2 ≤ g11 := (by have := hH.size; simp only [List.length_cons, List.length_nil] at this; omega); replace hH := hH.call' hb; clear hb hl))
        exact ret_ct rfl rfl rfl hH.h0 rowSq (sqc_size _ _) ⟨rfl, hH.below⟩
set_option maxRecDepth 20000 in
set_option maxHeartbeats 1600000 in
theorem implQuad7_out (a b : Int) (w : World) (h : ¬ (0 ≤ a ∧ a < 7 ∧ 0 ≤ b ∧ b < 7)) :
    Calls Try.prog 22 #[.int .i64 7, .int .i64 a, .int .i64 b] w fun e w' => e = .returned (.tuple #[.agg (sqc 0 fun _ => 0), .int .i64 2]) ∧ Below w.heap.size w w' := by
  have hH := Has.start1 w (sqc 0 fun _ => 0) 29
  obtain ⟨mn, hmn⟩ : ∃ mn : Int, min a b = mn := ⟨_, rfl⟩
  obtain ⟨mx, hmx⟩ : ∃ mx : Int, max a b = mx := ⟨_, rfl⟩
  by_cases h0 : mn < 0
  · clear h hmx
    go_enter Try.func22, Try.ntmps22
    go_wp2_with (first | fail | (refine wpL_guard rfl rfl ?_) | (refine wpL_alloc (o := ⟨some 6, _, _, _, _, _⟩) rfl rfl zeroSq ?_; intro g hg; (try simp at hg); subst hg) | (refine wpL_build rfl rfl builtSq ?_) | (refine wpL_storeSame rfl rfl rfl rfl rowSq hH.h0 (sqc_ok _ _) ?_))
    exact ret_ct rfl rfl rfl hH.h0 rowSq (sqc_size _ _) ⟨rfl, hH.below⟩
  · have h1 : (7 : Int) ≤ mx := by omega
    clear h
    go_enter Try.func22, Try.ntmps22
    go_wp2_with (first | fail | (refine wpL_guard rfl rfl ?_) | (refine wpL_alloc (o := ⟨some 6, _, _, _, _, _⟩) rfl rfl zeroSq ?_; intro g hg; (try simp at hg); subst hg) | (refine wpL_build rfl rfl builtSq ?_) | (refine wpL_storeSame rfl rfl rfl rfl rowSq hH.h0 (sqc_ok _ _) ?_))
    exact ret_ct rfl rfl rfl hH.h0 rowSq (sqc_size _ _) ⟨rfl, hH.below⟩
set_option maxRecDepth 20000 in
set_option maxHeartbeats 3000000 in
theorem implQuad7_in (a b : Nat) (O Z RO RZ : Int) (T RT : Nat → UInt8) (w : World) (ha : a < 7) (hb : b < 7)
    (hO : Hid (∀ w, Calls Try.prog 65 #[.agg (sqc (7 : Nat) (cyF 7)), .agg (u8s 10 (plD 7 a b))] w fun e w' => e = .returned (.tuple #[.agg (sqc O T), .int .i64 Z]) ∧ Below w.heap.size w w'))
    (h0 : Z = 0 → RO = O ∧ RT = T ∧ RZ = 0) (h1 : ¬ Z = 0 → RO = 0 ∧ (RT = fun _ => 0) ∧ RZ = 5) :
    Calls Try.prog 22 #[.int .i64 7, .int .i64 (a : Nat), .int .i64 (b : Nat)] w fun e w' => e = .returned (.tuple #[.agg (sqc RO RT), .int .i64 RZ]) ∧ Below w.heap.size w w' := by
  have H0 := hid h0
  have H1 := hid h1
  clear h0 h1
  have hH := Has.start2 w (sqc 0 fun _ => 0) (u8s 10 fun _ => 0) 29 71
  obtain ⟨mn, hmn⟩ : ∃ mn : Int, min (a : Int) (b : Int) = mn := ⟨_, rfl⟩
  obtain ⟨mx, hmx⟩ : ∃ mx : Int, max (a : Int) (b : Int) = mx := ⟨_, rfl⟩
  have m0 : ¬ mn < 0 := by omega
  have m1 : mx < 7 := by omega
  have hP : P357 7 := by unfold P357; omega
  go_enter Try.func22, Try.ntmps22
  go_wp2_with (first | fail | (refine wpL_guard rfl rfl ?_) | (refine wpL_alloc (o := ⟨some 6, _, _, _, _, _⟩) rfl rfl zeroSq ?_; intro g hg; (try simp at hg); subst hg) | (refine wpL_alloc (o := ⟨some 8, _, _, _, _, _⟩) rfl rfl zeroPl ?_; intro g hg; (try simp at hg); subst hg))
  clear hmn hmx m0 m1
  go_loopw [40] (fun i wr => ∃ k : Nat, k ≤ 7 ∧ i = .int .i64 k ∧ Has w wr [(sqc 0 (fun _ => 0), 29), (u8s 10 (mdF (quD 7 a b) k), 71)]) (fun i _ => 10 - (intOf i).toNat)
  case atStart => exact ⟨0, by omega, rfl, by rw [mdF_zero]; exact hH⟩
  case round =>
    clear hH
    obtain ⟨k, hk, rfl, hH⟩ := hrel
    by_cases hlt : k < 7
    · have hlt' : (k : Int) < 7 := by omega
      obtain ⟨c, hc⟩ : ∃ c, quA 7 a b k = c := ⟨_, rfl⟩
      have hcl : c < 7 := by rw [← hc]; unfold quA; split <;> omega
      obtain ⟨U, hU⟩ : ∃ U, c * k = U := ⟨_, rfl⟩
      have hUl : U ≤ 49 := by rw [← hU]; exact Nat.mul_le_mul (show c ≤ 7 by omega) (show k ≤ 7 by omega)
      have hUi : (c : Int) * (k : Int) = (U : Int) := by rw [← hU]; simp
      obtain ⟨R, hR⟩ := byte_of (U % 7) (by omega)
      have hri : (U : Int) % 7 = (R.toNat : Int) := by omega
      have hrt : Int.tmod (U : Int) 7 = (R.toNat : Int) := by rw [Int.tmod_eq_emod_of_nonneg (by omega)]; exact hri
      have hRl : (R.toNat : Int) < 10 := by omega
      have hU49 : (U : Int) ≤ 49 := by omega
      have HQ := hid (show quD 7 a b k = R by unfold quD; rw [hc, hU, ← hR]; exact UInt8.ofNat_toNat)
      cases hqs : qsB 7 k with
      | true =>
        have hca : a = c := by rw [← hc]; unfold quA; rw [hqs]; rfl
        have HS := hid hqs
        clear hqs hc hU hR
        subst hca
        go_wp2_with (first | fail | (go_at_call 63; refine (isSquareBy_any 7 k _ hP).mono ?_; rintro e w3 ⟨rfl, hb⟩; rw [HS.out]; replace hH := hH.call' hb; clear hb; have c1 : w3.cell? ⟨w.heap.size + 1, k, none⟩ = some (.int .u8 (mdF (quD 7 a b) k k).toNat) := (by rw [hH.c1, u8s_get _ _ _ (by omega)]); have f1 := hH.f1 k))
        go_roundw
        case rel => exact ⟨k + 1, by omega, by go_num, hH.s1 _ _ (u8s_step 10 _ _ k R (fun j _ => by rw [mdF_step, HQ.out]))⟩
        case measure => simp [intOf]; omega
      | false =>
        have hca : b = c := by rw [← hc]; unfold quA; rw [hqs]; rfl
        have HS := hid hqs
        clear hqs hc hU hR
        subst hca
        go_wp2_with (first | fail | (go_at_call 63; refine (isSquareBy_any 7 k _ hP).mono ?_; rintro e w3 ⟨rfl, hb⟩; rw [HS.out]; replace hH := hH.call' hb; clear hb; have c1 : w3.cell? ⟨w.heap.size + 1, k, none⟩ = some (.int .u8 (mdF (quD 7 a b) k k).toNat) := (by rw [hH.c1, u8s_get _ _ _ (by omega)]); have f1 := hH.f1 k))
        go_roundw
        case rel => exact ⟨k + 1, by omega, by go_num, hH.s1 _ _ (u8s_step 10 _ _ k R (fun j _ => by rw [mdF_step, HQ.out]))⟩
        case measure => simp [intOf]; omega
    · obtain rfl : k = 7 := by omega
      have HH : Hid (mdF (quD 7 a b) 7 = plD 7 a b) := hid rfl
      rw [HH.out] at hH
      by_cases hz : Z = 0
      · obtain ⟨rfl, rfl, rfl⟩ := H0.out hz
        go_wp2_with (first | fail | (go_at_call 64; refine (implCyclicSquare_good 7 _ (by decide) (by decide)).mono ?_; rintro e w3 ⟨rfl, hb⟩; replace hH := hH.call' hb; clear hb) | (go_at_call 65; refine (hO.out _).mono ?_; rintro e w3 ⟨rfl, hb⟩; replace hH := hH.call' hb; (try replace hg11 := holds_below hg11 hb (holds_lt hg11)); clear hb) | (refine wpL_loadFull rfl rfl rfl rowPl hH.h1 (u8s_size _ _) ?_) | (refine wpL_loadFull (x := .tmp 11) rfl rfl rfl rowSq hg11 (sqc_size _ _) ?_) | (refine wpL_loadFull (x := .tmp 13) rfl rfl rfl rowSq hg13 (sqc_size _ _) ?_) | (refine wpL_storeN (x := .tmp 11) rfl rfl rfl rfl rowSq hg11 (sqc_size _ _) (sqc_ok _ _) ?_; intro w4 hz2 hO2 hT2; replace hg11 := hz2; replace hH := hT2 _ _ hH hb11; clear hz2 hO2 hT2) | (refine wpL_storeN (x := .tmp 13) rfl rfl rfl rfl rowSq hg13 (sqc_size _ _) (sqc_ok _ _) ?_; intro w4 hz2 hO2 hT2; replace hg13 := hz2; replace hH := hT2 _ _ hH hb13; clear hz2 hO2 hT2) | (refine wpL_storeFull (x := .tmp 6) rfl rfl rfl rfl rowSq hH.h0 (sqc_size _ _) (sqc_ok _ _) ?_) | (refine wpL_allocN (o := ⟨some 13, _, _, _, _, _⟩) rfl rfl zeroSq ?_; intro g13 w4 hg13 hl hb; have hb13 : w.heap.size + 2 ≤ g13 := (by have := hH.size; simp only [List.length_cons, List.length_nil] at this; omega); replace hH := hH.call' hb; (try replace hg11 := holds_below hg11 hb (holds_lt hg11)); clear hb hl) | (refine wpL_allocN (o := ⟨some 11, _, _, _, _, _⟩) rfl rfl zeroSq ?_; intro g11 w4 hg11 hl hb; have hb11 : w.heap.size + 2 ≤ g11 := (by have := hH.size; simp only [List.length_cons, List.length_nil] at this; omega); replace hH := hH.call' hb; clear hb hl))
        exact ret_ct rfl rfl rfl hH.r0.h0 rowSq (sqc_size _ _) ⟨rfl, hH.r0.below⟩
      · obtain ⟨rfl, rfl, rfl⟩ := H1.out hz
        go_wp2_with (first | fail | (go_at_call 64; refine (implCyclicSquare_good 7 _ (by decide) (by decide)).mono ?_; rintro e w3 ⟨rfl, hb⟩; replace hH := hH.call' hb; clear hb) | (go_at_call 65; refine (hO.out _).mono ?_; rintro e w3 ⟨rfl, hb⟩; replace hH := hH.call' hb; (try replace hg11 := holds_below hg11 hb (holds_lt hg11)); clear hb) | (refine wpL_loadFull rfl rfl rfl rowPl hH.h1 (u8s_size _ _) ?_) | (refine wpL_loadFull (x := .tmp 11) rfl rfl rfl rowSq hg11 (sqc_size _ _) ?_) | (refine wpL_loadFull (x := .tmp 13) rfl rfl rfl rowSq hg13 (sqc_size _ _) ?_) | (refine wpL_storeN (x := .tmp 11) rfl rfl rfl rfl rowSq hg11 (sqc_size _ _) (sqc_ok _ _) ?_; intro w4 hz2 hO2 hT2; replace hg11 := hz2; replace hH := hT2 _ _ hH hb11; clear hz2 hO2 hT2) | (refine wpL_storeN (x := .tmp 13) rfl rfl rfl rfl rowSq hg13 (sqc_size _ _) (sqc_ok _ _) ?_; intro w4 hz2 hO2 hT2; replace hg13 := hz2; replace hH := hT2 _ _ hH hb13; clear hz2 hO2 hT2) | (refine wpL_build rfl rfl builtSq ?_) | (refine wpL_storeSame rfl rfl rfl rfl rowSq hH.h0 (sqc_ok _ _) ?_) | (refine wpL_allocN (o := ⟨some 13, _, _, _, _, _⟩) rfl rfl zeroSq ?_; intro g13 w4 hg13 hl hb; have hb13 : w.heap.size + 2 ≤ g13 := (by have := hH.size; simp only [List.length_cons, List.length_nil] at this; omega); replace hH := hH.call' hb; (try replace hg11 := holds_below hg11 hb (holds_lt hg11)); clear hb hl) | (refine wpL_allocN (o := ⟨some 11, _, _, _, _, _⟩) rfl rfl zeroSq ?_; intro g11 w4 hg11 hl hb; have hb11 : w.heap.size + 2 ≤ g11 := (by have := hH.size; simp only [List.length_cons, List.length_nil] at this; omega); replace hH := hH.call' hb; clear hb hl))
        exact ret_ct rfl rfl rfl hH.h0 rowSq (sqc_size _ _) ⟨rfl, hH.below⟩
end Go.Proofs.Ytbhjbllgmenbaaa
