/- Proved: what SquareOfLists returns, of program and model alike. Conditions: those that each theorem names. -/
import Derived.Test.YtcdlnkjljijlmaaSn
import Derived.Test.YtcdlnkjljijlmaaMk6
import Derived.Test.YtcdlnkjljijlmaaSq3b
namespace Go.Proofs.Ytcdlnkjljijlmaa
set_option linter.unusedVariables false
set_option linter.unusedSimpArgs false
open Go.RowKit
/-- The table that lists make. -/
def solV (f : Nat → Nat → Int) (i j : Nat) : UInt8 := UInt8.ofNat (f i j).toNat
/-- The lists are as many as their numbers, and these are in the range. -/
def SolG (n : Nat) (m : Nat → Nat) (f : Nat → Nat → Int) : Prop := 1 ≤ n ∧ n ≤ 10 ∧ ∀ i, i < n → m i = n ∧ ∀ j, j < n → 0 ≤ f i j ∧ f i j < n
/-- What comes out: order, code and table. -/
structure SolR (n : Nat) (m : Nat → Nat) (f : Nat → Nat → Int) (O Z : Int) (T : Nat → UInt8) : Prop where
  bad : ¬ SolG n m f → O = 0 ∧ Z = 2 ∧ T = fun _ => 0
  nosq : SolG n m f → sqB (n : Int) (fillT n (solV f) n 0) = false → O = 0 ∧ Z = 5 ∧ T = fun _ => 0
  good : SolG n m f → sqB (n : Int) (fillT n (solV f) n 0) = true → O = n ∧ Z = 0 ∧ T = fillT n (solV f) n 0
theorem solR_ex (n : Nat) (m : Nat → Nat) (f : Nat → Nat → Int) : ∃ O Z T, SolR n m f O Z T := by
  by_cases hg : SolG n m f
  · cases hs : sqB (n : Int) (fillT n (solV f) n 0) with
    | true => exact ⟨n, 0, _, fun h => absurd hg h, fun _ h => (by rw [hs] at h; cases h), fun _ _ => ⟨rfl, rfl, rfl⟩⟩
    | false => exact ⟨0, 5, _, fun h => absurd hg h, fun _ _ => ⟨rfl, rfl, rfl⟩, fun _ h => (by rw [hs] at h; cases h)⟩
  · exact ⟨0, 2, _, fun _ => ⟨rfl, rfl, rfl⟩, fun h => absurd h hg, fun h => absurd h hg⟩
set_option maxRecDepth 20000 in
set_option maxHeartbeats 3000000 in
theorem specSol_any (n b : Nat) (m : Nat → Nat) (f : Nat → Nat → Int) (O Z : Int) (T : Nat → UInt8) (w : World) (hn : n ≤ 1048576) (hm : ∀ i, i < n → m i ≤ 1048576) (hL : SL w b n m f) (hR : SolR n m f O Z T) :
    Calls Try.prog 48 #[.slice (some ⟨b, 0, none⟩) n n] w fun e w' => e = .returned (.tuple #[.agg (sqc O T), .int .i64 Z]) ∧ Below w.heap.size w w' := by
  have HL := hid hL
  have HR := hid hR
  have HM := hid hm
  clear hL hR hm
  have hb0 : b < w.heap.size := HL.out.lt
  by_cases h1 : 1 ≤ n ∧ n ≤ 10
  · have hi := inB_true (show 1 ≤ (n : Int) by omega) (show (n : Int) ≤ 10 by omega)
    have hn10 : (n : Int) ≤ 10 := by omega
    have hH := Has.start2 w (sqc 0 fun _ => 0) (sqc 0 fun _ => 0) 28 28
    go_enter Try.func48, Try.ntmps48
    go_wp2_with (first | fail | (refine wpL_alloc (o := ⟨some 2, _, _, _, _, _⟩) rfl rfl zeroSq ?_; intro g hg; (try simp at hg); subst hg) | (go_at_call 68; refine (l01In_any _ _ _ _).mono ?_; rintro e w' ⟨rfl, rfl⟩; rw [hi]) | (refine wpL_alloc (o := ⟨some 5, _, _, _, _, _⟩) rfl rfl zeroSq ?_; intro g hg; (try simp at hg); subst hg) | (refine wpL_build1 rfl rfl rfl (builtSqO _) ?_) | (refine wpL_storeFull rfl rfl rfl rfl rowSq hH.h1 (sqc_size _ _) (sqc_ok _ _) ?_; replace hH := hH.r1 (cs' := sqc n fun _ => 0)))
    go_loopw [6] (fun i wr => ∃ k : Nat, k ≤ n ∧ i = .int .i64 k ∧ Has w wr [(sqc 0 (fun _ => 0), 28), (sqc n (fillT n (solV f) k 0), 28)] ∧ Hid (∀ i, i < k → m i = n ∧ ∀ j, j < n → 0 ≤ f i j ∧ f i j < n)) (fun i _ => 10 - (intOf i).toNat)
    case atStart => exact ⟨0, by omega, rfl, by rw [fillT_zero]; exact hH, hid (fun i h => absurd h (Nat.not_lt_zero i))⟩
    case round =>
      clear hH
      obtain ⟨k, hk, rfl, hH, hG⟩ := hrel
      by_cases hlt : k < n
      · obtain ⟨g, cg0, rg0⟩ := HL.out.cell hlt
        have hmk1 := HM.out k hlt
        have cg : wr.cell? ⟨b, k, none⟩ = some (.slice (some ⟨g, 0, none⟩) (m k) (m k)) := (hH.below.cell (p := ⟨b, k, none⟩) hb0).trans cg0
        have hlt' : (k : Int) < n := by omega
        have hk10 : (k : Int) < 10 := by omega
        by_cases hmk : m k = n
        · rw [hmk] at cg cg0 rg0
          have HRg := hid rg0
          clear rg0
          go_wp2
          go_loopw [7] (fun i wx => ∃ j : Nat, j ≤ n ∧ i = .int .i64 j ∧ Has w wx [(sqc 0 (fun _ => 0), 28), (sqc n (fillT n (solV f) k j), 28)] ∧ Hid (∀ j', j' < j → 0 ≤ f k j' ∧ f k j' < n)) (fun i _ => 10 - (intOf i).toNat)
          case atStart => exact ⟨0, by omega, rfl, hH, hid (fun i h => absurd h (Nat.not_lt_zero i))⟩
          case round =>
            clear hH cg
            obtain ⟨j, hj, rfl, hH, hJ⟩ := hrel
            have cg : wr.cell? ⟨b, k, none⟩ = some (.slice (some ⟨g, 0, none⟩) n n) := (hH.below.cell (p := ⟨b, k, none⟩) hb0).trans cg0
            by_cases hlt2 : j < n
            · have hlt2' : (j : Int) < n := by omega
              have hj10 : (j : Int) < 10 := by omega
              have hj10n : j < 10 := by omega
              have cr := (HRg.out.below hH.below).cell hlt2
              by_cases hz : 0 ≤ f k j ∧ f k j < n
              · obtain ⟨Z', hZ⟩ := byte_of (f k j).toNat (by omega)
                have hfz : f k j = (Z'.toNat : Int) := by omega
                have HE := hid (show solV f k j = Z' by unfold solV; rw [← hZ]; exact UInt8.ofNat_toNat)
                have hst := hid (fun i (hi : i < 100) => show fillT n (solV f) k (j + 1) i = if i = k * 10 + j then Z' else fillT n (solV f) k j i by rw [fillT_step n _ k j hj10n i, HE.out])
                have hJ2 : Hid (∀ j', j' < j + 1 → 0 ≤ f k j' ∧ f k j' < n) := hid (fun j' hj' => by
                  by_cases q : j' = j
                  · subst q; exact hz
                  · exact hJ.out j' (by omega))
                rw [hfz] at cr
                have hZn : (Z'.toNat : Int) < n := by omega
                have hZ10 : (Z'.toNat : Int) < 10 := by omega
                have hi2 := inB_true (show (0 : Int) ≤ Z'.toNat by omega) (show (Z'.toNat : Int) ≤ (n : Int) - 1 by omega)
                have HF := hid hfz
                clear hfz hZ hz
                go_wp2_with (first | fail | (go_at_call 68; refine (l01In_any _ _ _ _).mono ?_; rintro e w' ⟨rfl, rfl⟩; rw [hi2]))
                refine wp_region_frame (X := Unit) (fun d _ => [(51, bif d 0 then .int .i64 k else u51), (52, bif d 1 then .int .i64 j else u52), (53, bif d 2 then .slice (some ⟨b, 0, none⟩) n n else u53), (54, bif d 3 then .int .i64 k else u54), (55, bif d 4 then .pointer (some ⟨b, k, none⟩) else u55), (56, bif d 5 then .slice (some ⟨g, 0, none⟩) n n else u56), (57, bif d 6 then .int .i64 j else u57), (58, bif d 7 then .pointer (some ⟨g, j, none⟩) else u58), (59, bif d 8 then .int .i64 Z'.toNat else u59), (60, bif d 9 then .int .u8 Z'.toNat else u60), (61, bif d 10 then .pointer (some ⟨w.heap.size + 1, 1, none⟩) else u61), (62, bif d 11 then .pointer (some ⟨w.heap.size + 1, 1 + k * 10, none⟩) else u62), (63, bif d 12 then .pointer (some ⟨w.heap.size + 1, 1 + k * 10 + j, none⟩) else u63)])
                  (fun d _ w' => Has w w' [(sqc 0 (fun _ => 0), 28), (sqc n (bif d 13 then fillT n (solV f) k (j + 1) else fillT n (solV f) k j), 28)]) (by kernel_rfl) (by kernel_rfl) ?h0_sl ?hs_sl ?hq_sl
                case h0_sl => exact ⟨(), (by simp [lput]), hH.drew⟩
                case hs_sl =>
                  refine ⟨?_, ?_, ?_, ?_, ?_, ?_, ?_, ?_, ?_, ?_, ?_, ?_, ?_, ?_, trivial⟩
                  all_goals
                    clear hH
                    intro d _ w1 hd hn hJ
                    simp only [needs, Region.binds, reduceCtorEq, Bool.false_eq_true, false_implies, true_and, and_true, true_implies, forall_const] at hn
                    simp only [lput, List.set, hn, cond_true]
                    try simp only [hd, cond_false] at hJ
                    have hH := hJ; clear hJ
                    have cg : w1.cell? ⟨b, k, none⟩ = some (.slice (some ⟨g, 0, none⟩) n n) := (hH.below.cell (p := ⟨b, k, none⟩) hb0).trans cg0
                    have cr := (HRg.out.below hH.below).cell hlt2
                    rw [HF.out] at cr
                    go_wp2_with (first | fail | (refine wpL_cellR (g := w.heap.size + 1) (v := .int .u8 Z'.toNat) (cs' := sqc n (fillT n (solV f) k (j + 1))) (off := 1 + k * 10 + j) rfl rfl rfl rfl (by kernel_rfl) (by rfl) hH.h1 (by rw [sqc_size]; omega) (by rw [Nat.add_assoc]; exact sqc_set _ _ _ _ _ hst.out) ?_; replace hH := hH.r1 (cs' := sqc n (fillT n (solV f) k (j + 1)))))
                    first
                      | (refine ⟨(), ?_, hH⟩; (simp [lput, done, hn]; done))
                      | (refine ⟨?_, hH⟩; (simp [lput, done, hn]; done))
                      | (refine ⟨(), ?_, hH⟩; (simp [lput, done, hn]; rfl))
                      | (refine ⟨?_, hH⟩; (simp [lput, done, hn]; rfl))
                      | (refine ⟨(), ?_, hH⟩; (simp [lput, done]; done))
                      | (refine ⟨?_, hH⟩; (simp [lput, done]; done))
                      | (refine ⟨(), ?_, hH⟩; (simp [lput, done]; rfl))
                      | (refine ⟨?_, hH⟩; (simp [lput, done]; rfl))
                case hq_sl =>
                  clear hH
                  intro d _ w1 hd hJ
                  simp only [allDone, List.length_cons, List.length_nil, Nat.reduceAdd, and_true] at hd
                  have hH := hJ; clear hJ
                  simp only [hd, cond_true] at hH
                  simp only [lput, List.set, hd, cond_true]
                  clear hd
                  go_wp2
                  go_roundw
                  case rel => exact ⟨j + 1, by omega, by go_num, hH, hJ2⟩
                  case measure => simp [intOf]; omega
              · obtain ⟨rfl, rfl, rfl⟩ := HR.out.bad (fun hg => hz ((hg.2.2 k hlt).2 j hlt2))
                obtain ⟨z, hzz⟩ : ∃ z, f k j = z := ⟨_, rfl⟩
                rw [hzz] at cr hz
                clear hzz
                have zi : Hid (¬ (0 ≤ z ∧ z < n)) := hid hz
                have hi2 : inB z 0 ((n : Int) - 1) = false := inB_false (fun h => hz ⟨h.1, by omega⟩)
                clear hz
                go_wp2_with (first | fail | (go_at_call 68; refine (l01In_any _ _ _ _).mono ?_; rintro e w' ⟨rfl, rfl⟩; rw [hi2]) | (refine wpL_build rfl rfl builtSq ?_) | (refine wpL_storeSame rfl rfl rfl rfl rowSq hH.h0 (sqc_ok _ _) ?_))
                exact ret_ct rfl rfl rfl hH.h0 rowSq (sqc_size _ _) ⟨rfl, hH.below⟩
            · obtain rfl : j = n := by omega
              have hG2 : Hid (∀ i, i < k + 1 → m i = j ∧ ∀ j', j' < j → 0 ≤ f i j' ∧ f i j' < j) := hid (fun i hi => by
                by_cases q : i = k
                · subst q; exact ⟨hmk, hJ.out⟩
                · exact hG.out i (by omega))
              go_wp2
              go_roundw
              case rel => exact ⟨k + 1, by omega, by go_num, by rw [fillT_row]; exact hH, hG2⟩
              case measure => simp [intOf]; omega
        · obtain ⟨rfl, rfl, rfl⟩ := HR.out.bad (fun hg => hmk (hg.2.2 k hlt).1)
          have hmi : ¬ (m k : Int) = (n : Int) := by omega
          have hmb : ((m k : Int) == (n : Int)) = false := by simpa using hmi
          go_wp2_with (first | fail | (refine wpL_build rfl rfl builtSq ?_) | (refine wpL_storeSame rfl rfl rfl rfl rowSq hH.h0 (sqc_ok _ _) ?_))
          exact ret_ct rfl rfl rfl hH.h0 rowSq (sqc_size _ _) ⟨rfl, hH.below⟩
      · obtain rfl : k = n := by omega
        have hgood : SolG k m f := ⟨h1.1, h1.2, hG.out⟩
        cases hs : sqB (k : Int) (fillT k (solV f) k 0) with
        | true =>
          obtain ⟨rfl, rfl, rfl⟩ := HR.out.good hgood hs
          go_wp2_with (first | fail | (refine wpL_loadFull rfl rfl rfl rowSq hH.h1 (sqc_size _ _) ?_) | (go_at_call 50; refine (l01Is_any _ _ _).mono ?_; rintro e w3 ⟨rfl, hb⟩; rw [hs]; replace hH := hH.call' hb; clear hb) | (refine wpL_storeFull rfl rfl rfl rfl rowSq hH.h0 (sqc_size _ _) (sqc_ok _ _) ?_))
          exact ret_ct rfl rfl rfl hH.r0.h0 rowSq (sqc_size _ _) ⟨rfl, hH.r0.below⟩
        | false =>
          obtain ⟨rfl, rfl, rfl⟩ := HR.out.nosq hgood hs
          go_wp2_with (first | fail | (refine wpL_loadFull rfl rfl rfl rowSq hH.h1 (sqc_size _ _) ?_) | (go_at_call 50; refine (l01Is_any _ _ _).mono ?_; rintro e w3 ⟨rfl, hb⟩; rw [hs]; replace hH := hH.call' hb; clear hb) | (refine wpL_build rfl rfl builtSq ?_) | (refine wpL_storeSame rfl rfl rfl rfl rowSq hH.h0 (sqc_ok _ _) ?_))
          exact ret_ct rfl rfl rfl hH.h0 rowSq (sqc_size _ _) ⟨rfl, hH.below⟩
  · obtain ⟨rfl, rfl, rfl⟩ := HR.out.bad (fun hg => h1 ⟨hg.1, hg.2.1⟩)
    have hi : inB (n : Int) 1 10 = false := inB_false (fun h => h1 ⟨by omega, by omega⟩)
    have hH := Has.start1 w (sqc 0 fun _ => 0) 28
    go_enter Try.func48, Try.ntmps48
    go_wp2_with (first | fail | (refine wpL_alloc (o := ⟨some 2, _, _, _, _, _⟩) rfl rfl zeroSq ?_; intro g hg; (try simp at hg); subst hg) | (go_at_call 68; refine (l01In_any _ _ _ _).mono ?_; rintro e w' ⟨rfl, rfl⟩; rw [hi]) | (refine wpL_build rfl rfl builtSq ?_) | (refine wpL_storeSame rfl rfl rfl rfl rowSq hH.h0 (sqc_ok _ _) ?_))
    exact ret_ct rfl rfl rfl hH.h0 rowSq (sqc_size _ _) ⟨rfl, hH.below⟩
set_option maxRecDepth 20000 in
set_option maxHeartbeats 3000000 in
theorem implSol_any (n b : Nat) (m : Nat → Nat) (f : Nat → Nat → Int) (O Z : Int) (T : Nat → UInt8) (w : World) (hn : n ≤ 1048576) (hm : ∀ i, i < n → m i ≤ 1048576) (hL : SL w b n m f) (hR : SolR n m f O Z T) :
    Calls Try.prog 49 #[.slice (some ⟨b, 0, none⟩) n n] w fun e w' => e = .returned (.tuple #[.agg (sqc O T), .int .i64 Z]) ∧ Below w.heap.size w w' := by
  have HL := hid hL
  have HR := hid hR
  have HM := hid hm
  clear hL hR hm
  have hb0 : b < w.heap.size := HL.out.lt
  by_cases h1 : 1 ≤ n ∧ n ≤ 10
  · have hi := inB_true (show 1 ≤ (n : Int) by omega) (show (n : Int) ≤ 10 by omega)
    have hn10 : (n : Int) ≤ 10 := by omega
    have hH := Has.start2 w (sqc 0 fun _ => 0) (sqc 0 fun _ => 0) 28 28
    go_enter Try.func49, Try.ntmps49
    go_wp2_with (first | fail | (refine wpL_alloc (o := ⟨some 2, _, _, _, _, _⟩) rfl rfl zeroSq ?_; intro g hg; (try simp at hg); subst hg) | (go_at_call 90; refine (isOrder_any _ _).mono ?_; rintro e w' ⟨rfl, rfl⟩; rw [hi]) | (refine wpL_alloc (o := ⟨some 5, _, _, _, _, _⟩) rfl rfl zeroSq ?_; intro g hg; (try simp at hg); subst hg) | (refine wpL_build1 rfl rfl rfl (builtSqO _) ?_) | (refine wpL_storeFull rfl rfl rfl rfl rowSq hH.h1 (sqc_size _ _) (sqc_ok _ _) ?_; replace hH := hH.r1 (cs' := sqc n fun _ => 0)))
    go_loopw [20] (fun i wr => ∃ k : Nat, k ≤ n ∧ i = .int .i64 k ∧ Has w wr [(sqc 0 (fun _ => 0), 28), (sqc n (fillT n (solV f) k 0), 28)] ∧ Hid (∀ i, i < k → m i = n ∧ ∀ j, j < n → 0 ≤ f i j ∧ f i j < n)) (fun i _ => 10 - (intOf i).toNat)
    case atStart => exact ⟨0, by omega, rfl, by rw [fillT_zero]; exact hH, hid (fun i h => absurd h (Nat.not_lt_zero i))⟩
    case round =>
      clear hH
      obtain ⟨k, hk, rfl, hH, hG⟩ := hrel
      by_cases hlt : k < n
      · obtain ⟨g, cg0, rg0⟩ := HL.out.cell hlt
        have hmk1 := HM.out k hlt
        have cg : wr.cell? ⟨b, k, none⟩ = some (.slice (some ⟨g, 0, none⟩) (m k) (m k)) := (hH.below.cell (p := ⟨b, k, none⟩) hb0).trans cg0
        have hlt' : (k : Int) < n := by omega
        have hk10 : (k : Int) < 10 := by omega
        by_cases hmk : m k = n
        · rw [hmk] at cg cg0 rg0
          have HRg := hid rg0
          clear rg0
          go_wp2
          go_loopw [32] (fun i wx => ∃ j : Nat, j ≤ n ∧ i = .int .i64 j ∧ Has w wx [(sqc 0 (fun _ => 0), 28), (sqc n (fillT n (solV f) k j), 28)] ∧ Hid (∀ j', j' < j → 0 ≤ f k j' ∧ f k j' < n)) (fun i _ => 10 - (intOf i).toNat)
          case atStart => exact ⟨0, by omega, rfl, hH, hid (fun i h => absurd h (Nat.not_lt_zero i))⟩
          case round =>
            clear hH cg
            obtain ⟨j, hj, rfl, hH, hJ⟩ := hrel
            have cg : wr.cell? ⟨b, k, none⟩ = some (.slice (some ⟨g, 0, none⟩) n n) := (hH.below.cell (p := ⟨b, k, none⟩) hb0).trans cg0
            by_cases hlt2 : j < n
            · have hlt2' : (j : Int) < n := by omega
              have hj10 : (j : Int) < 10 := by omega
              have hj10n : j < 10 := by omega
              have cr := (HRg.out.below hH.below).cell hlt2
              by_cases hz : 0 ≤ f k j ∧ f k j < n
              · obtain ⟨Z', hZ⟩ := byte_of (f k j).toNat (by omega)
                have hfz : f k j = (Z'.toNat : Int) := by omega
                have HE := hid (show solV f k j = Z' by unfold solV; rw [← hZ]; exact UInt8.ofNat_toNat)
                have hst := hid (fun i (hi : i < 100) => show fillT n (solV f) k (j + 1) i = if i = k * 10 + j then Z' else fillT n (solV f) k j i by rw [fillT_step n _ k j hj10n i, HE.out])
                have hJ2 : Hid (∀ j', j' < j + 1 → 0 ≤ f k j' ∧ f k j' < n) := hid (fun j' hj' => by
                  by_cases q : j' = j
                  · subst q; exact hz
                  · exact hJ.out j' (by omega))
                rw [hfz] at cr
                have hZn : (Z'.toNat : Int) < n := by omega
                have hZ10 : (Z'.toNat : Int) < 10 := by omega
                clear hfz hZ hz
                go_wp2_with (first | fail | (refine wpL_guard rfl rfl ?_) | (refine wpL_cellR (g := w.heap.size + 1) (v := .int .u8 Z'.toNat) (cs' := sqc n (fillT n (solV f) k (j + 1))) (off := 1 + k * 10 + j) rfl rfl rfl rfl (by kernel_rfl) (by rfl) hH.h1 (by rw [sqc_size]; omega) (by rw [Nat.add_assoc]; exact sqc_set _ _ _ _ _ hst.out) ?_; replace hH := hH.r1 (cs' := sqc n (fillT n (solV f) k (j + 1)))))
                go_roundw
                case rel => exact ⟨j + 1, by omega, by go_num, hH, hJ2⟩
                case measure => simp [intOf]; omega
              · obtain ⟨rfl, rfl, rfl⟩ := HR.out.bad (fun hg => hz ((hg.2.2 k hlt).2 j hlt2))
                obtain ⟨z, hzz⟩ : ∃ z, f k j = z := ⟨_, rfl⟩
                rw [hzz] at cr hz
                clear hzz
                have zi : Hid (¬ (0 ≤ z ∧ z < n)) := hid hz
                by_cases z0 : z < 0
                · clear hz
                  go_wp2_with (first | fail | (refine wpL_guard rfl rfl ?_) | (refine wpL_build rfl rfl builtSq ?_) | (refine wpL_storeSame rfl rfl rfl rfl rowSq hH.h0 (sqc_ok _ _) ?_))
                  exact ret_ct rfl rfl rfl hH.h0 rowSq (sqc_size _ _) ⟨rfl, hH.below⟩
                · have z1 : (n : Int) ≤ z := by omega
                  clear hz
                  go_wp2_with (first | fail | (refine wpL_guard rfl rfl ?_) | (refine wpL_build rfl rfl builtSq ?_) | (refine wpL_storeSame rfl rfl rfl rfl rowSq hH.h0 (sqc_ok _ _) ?_))
                  exact ret_ct rfl rfl rfl hH.h0 rowSq (sqc_size _ _) ⟨rfl, hH.below⟩
            · obtain rfl : j = n := by omega
              have hG2 : Hid (∀ i, i < k + 1 → m i = j ∧ ∀ j', j' < j → 0 ≤ f i j' ∧ f i j' < j) := hid (fun i hi => by
                by_cases q : i = k
                · subst q; exact ⟨hmk, hJ.out⟩
                · exact hG.out i (by omega))
              go_wp2
              go_roundw
              case rel => exact ⟨k + 1, by omega, by go_num, by rw [fillT_row]; exact hH, hG2⟩
              case measure => simp [intOf]; omega
        · obtain ⟨rfl, rfl, rfl⟩ := HR.out.bad (fun hg => hmk (hg.2.2 k hlt).1)
          have hmi : ¬ (m k : Int) = (n : Int) := by omega
          have hmb : ((m k : Int) == (n : Int)) = false := by simpa using hmi
          go_wp2_with (first | fail | (refine wpL_build rfl rfl builtSq ?_) | (refine wpL_storeSame rfl rfl rfl rfl rowSq hH.h0 (sqc_ok _ _) ?_))
          exact ret_ct rfl rfl rfl hH.h0 rowSq (sqc_size _ _) ⟨rfl, hH.below⟩
      · obtain rfl : k = n := by omega
        have hgood : SolG k m f := ⟨h1.1, h1.2, hG.out⟩
        cases hs : sqB (k : Int) (fillT k (solV f) k 0) with
        | true =>
          obtain ⟨rfl, rfl, rfl⟩ := HR.out.good hgood hs
          go_wp2_with (first | fail | (refine wpL_loadFull rfl rfl rfl rowSq hH.h1 (sqc_size _ _) ?_) | (go_at_call 87; refine (IsSquare_any _ _ _).mono ?_; rintro e w3 ⟨rfl, hb⟩; rw [hs]; replace hH := hH.call' hb; clear hb) | (refine wpL_storeFull rfl rfl rfl rfl rowSq hH.h0 (sqc_size _ _) (sqc_ok _ _) ?_))
          exact ret_ct rfl rfl rfl hH.r0.h0 rowSq (sqc_size _ _) ⟨rfl, hH.r0.below⟩
        | false =>
          obtain ⟨rfl, rfl, rfl⟩ := HR.out.nosq hgood hs
          go_wp2_with (first | fail | (refine wpL_loadFull rfl rfl rfl rowSq hH.h1 (sqc_size _ _) ?_) | (go_at_call 87; refine (IsSquare_any _ _ _).mono ?_; rintro e w3 ⟨rfl, hb⟩; rw [hs]; replace hH := hH.call' hb; clear hb) | (refine wpL_build rfl rfl builtSq ?_) | (refine wpL_storeSame rfl rfl rfl rfl rowSq hH.h0 (sqc_ok _ _) ?_))
          exact ret_ct rfl rfl rfl hH.h0 rowSq (sqc_size _ _) ⟨rfl, hH.below⟩
  · obtain ⟨rfl, rfl, rfl⟩ := HR.out.bad (fun hg => h1 ⟨hg.1, hg.2.1⟩)
    have hi : inB (n : Int) 1 10 = false := inB_false (fun h => h1 ⟨by omega, by omega⟩)
    have hH := Has.start1 w (sqc 0 fun _ => 0) 28
    go_enter Try.func49, Try.ntmps49
    go_wp2_with (first | fail | (refine wpL_alloc (o := ⟨some 2, _, _, _, _, _⟩) rfl rfl zeroSq ?_; intro g hg; (try simp at hg); subst hg) | (go_at_call 90; refine (isOrder_any _ _).mono ?_; rintro e w' ⟨rfl, rfl⟩; rw [hi]) | (refine wpL_build rfl rfl builtSq ?_) | (refine wpL_storeSame rfl rfl rfl rfl rowSq hH.h0 (sqc_ok _ _) ?_))
    exact ret_ct rfl rfl rfl hH.h0 rowSq (sqc_size _ _) ⟨rfl, hH.below⟩
end Go.Proofs.Ytcdlnkjljijlmaa
