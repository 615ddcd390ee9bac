/- Proved: which lists of lists are cocycles, what the maker of extensions returns, and ExtendLoop, of program and model alike. Conditions: those that each theorem names. -/
import Derived.Test.YtcdlnkjljijlmaaSn
import Derived.Test.YtcdlnkjljijlmaaMk6
namespace Go.Proofs.Ytcdlnkjljijlmaa
set_option linter.unusedVariables false
set_option linter.unusedSimpArgs false
open Go.RowKit
/-- r lists are a cocycle of a loop of order N for K. -/
def CoG (N K r : Nat) (m : Nat → Nat) (f : Nat → Nat → Int) : Prop := r = N ∧ ∀ x, x < N → m x = N ∧ ∀ y, y < N → 0 ≤ f x y ∧ f x y < K ∧ (x = 0 ∨ y = 0 → f x y = 0)
noncomputable def coB (N K r : Nat) (m : Nat → Nat) (f : Nat → Nat → Int) : Bool := @decide (CoG N K r m f) (Classical.propDecidable _)
theorem coB_yes {N K r : Nat} {m : Nat → Nat} {f : Nat → Nat → Int} (h : CoG N K r m f) : coB N K r m f = true := @decide_eq_true _ (Classical.propDecidable _) h
theorem coB_no {N K r : Nat} {m : Nat → Nat} {f : Nat → Nat → Int} (h : ¬ CoG N K r m f) : coB N K r m f = false := @decide_eq_false _ (Classical.propDecidable _) h
theorem coB_true {N K r : Nat} {m : Nat → Nat} {f : Nat → Nat → Int} (h : coB N K r m f = true) : CoG N K r m f := @of_decide_eq_true _ (Classical.propDecidable _) h
set_option maxRecDepth 20000 in
set_option maxHeartbeats 4000000 in
theorem isCocycle_any (N K r b : Nat) (m : Nat → Nat) (f : Nat → Nat → Int) (w : World) (hN : N ≤ 10) (hK1 : 1 ≤ K) (hK : K ≤ 10) (hr : r ≤ 1048576) (hm : ∀ i, i < r → m i ≤ 1048576) (hL : SL w b r m f) :
    Calls Try.prog 88 #[.slice (some ⟨b, 0, none⟩) r r, .int .i64 N, .int .i64 K] w fun e w' => e = .returned (.bool (coB N K r m f)) ∧ Below w.heap.size w w' := by
  have HL := hid hL
  have HM := hid hm
  clear hL hm
  have hb0 : b < w.heap.size := HL.out.lt
  have hKi : (K : Int) ≤ 10 := by omega
  have hNi : (N : Int) ≤ 10 := by omega
  by_cases hrN : r = N
  · subst hrN
    obtain ⟨R, hR⟩ : ∃ R, coB r K r m f = R := ⟨_, rfl⟩
    have HR := hid hR
    rw [hR]
    clear hR
    go_enter Try.func88, Try.ntmps88
    go_wp2_with (first | fail | (refine wpL_guard rfl rfl ?_))
    go_loopw [17] (fun i wr => ∃ k : Nat, k ≤ r ∧ i = .int .i64 k ∧ Has w wr [] ∧ Hid (∀ x, x < k → m x = r ∧ ∀ y, y < r → 0 ≤ f x y ∧ f x y < K ∧ (x = 0 ∨ y = 0 → f x y = 0))) (fun i _ => 10 - (intOf i).toNat)
    case atStart => exact ⟨0, by omega, rfl, Has.nil w, hid (fun i h => absurd h (Nat.not_lt_zero i))⟩
    case round =>
      obtain ⟨k, hk, rfl, hH, hG⟩ := hrel
      by_cases hlt : k < r
      · obtain ⟨g, cg0, rg0⟩ := HL.out.cell hlt
        have hmk1 := HM.out k hlt
        have cg : wr.cell? ⟨b, k, none⟩ = some (.slice (some ⟨g, 0, none⟩) (m k) (m k)) := (hH.below.cell (p := ⟨b, k, none⟩) hb0).trans cg0
        have hlt' : (k : Int) < r := by omega
        by_cases hmk : m k = r
        · rw [hmk] at cg cg0 rg0
          have HRg := hid rg0
          clear rg0
          go_wp2
          go_loopw [28] (fun i wx => ∃ j : Nat, j ≤ r ∧ i = .int .i64 j ∧ Has w wx [] ∧ Hid (∀ y, y < j → 0 ≤ f k y ∧ f k y < K ∧ (k = 0 ∨ y = 0 → f k y = 0))) (fun i _ => 10 - (intOf i).toNat)
          case atStart => exact ⟨0, by omega, rfl, hH, hid (fun i h => absurd h (Nat.not_lt_zero i))⟩
          case round =>
            clear hH cg
            obtain ⟨j, hj, rfl, hH, hJ⟩ := hrel
            have cg : wr.cell? ⟨b, k, none⟩ = some (.slice (some ⟨g, 0, none⟩) r r) := (hH.below.cell (p := ⟨b, k, none⟩) hb0).trans cg0
            by_cases hlt2 : j < r
            · have hlt2' : (j : Int) < r := by omega
              have cr := (HRg.out.below hH.below).cell hlt2
              obtain ⟨z, hzz⟩ : ∃ z, f k j = z := ⟨_, rfl⟩
              rw [hzz] at cr
              have HZ := hid hzz
              by_cases hgood : 0 ≤ z ∧ z < K ∧ (k = 0 ∨ j = 0 → z = 0)
              · have hJ2 : Hid (∀ y, y < j + 1 → 0 ≤ f k y ∧ f k y < K ∧ (k = 0 ∨ y = 0 → f k y = 0)) := hid (fun y hy => by
                  by_cases q : y = j
                  · subst q; rw [hzz]; exact hgood
                  · exact hJ.out y (by omega))
                obtain ⟨z0, z1, z2⟩ := hgood
                clear hzz
                have z1g : ¬ (K : Int) ≤ z := by omega
                have z0g : ¬ z < 0 := by omega
                by_cases k0 : k = 0
                · have zz : z = 0 := z2 (.inl k0)
                  subst zz
                  have ki : ((k : Int) == 0) = true := by rw [k0]; rfl
                  clear k0 z2
                  go_wp2_with (first | fail | (refine wpL_guard rfl rfl ?_))
                  go_roundw
                  case rel => exact ⟨j + 1, by omega, by go_num, hH, hJ2⟩
                  case measure => simp [intOf]; omega
                · have ki : ((k : Int) == 0) = false := by simpa using k0
                  by_cases j0 : j = 0
                  · have zz : z = 0 := z2 (.inr j0)
                    subst zz
                    have ji : ((j : Int) == 0) = true := by rw [j0]; rfl
                    clear j0 z2
                    go_wp2_with (first | fail | (refine wpL_guard rfl rfl ?_))
                    go_roundw
                    case rel => exact ⟨j + 1, by omega, by go_num, hH, hJ2⟩
                    case measure => simp [intOf]; omega
                  · have ji : ((j : Int) == 0) = false := by simpa using j0
                    go_wp2_with (first | fail | (refine wpL_guard rfl rfl ?_))
                    go_roundw
                    case rel => exact ⟨j + 1, by omega, by go_num, hH, hJ2⟩
                    case measure => simp [intOf]; omega
              · have HV := hid (show R = false by rw [← HR.out]; exact coB_no (fun h => hgood (by have := (h.2 k hlt).2 j hlt2; rw [hzz] at this; exact this)))
                clear hzz
                by_cases zin : 0 ≤ z ∧ z ≤ (K : Int) - 1
                · have z1g : ¬ (K : Int) ≤ z := by omega
                  have z0g : ¬ z < 0 := by omega
                  have zn : ¬ z = 0 := fun e => hgood ⟨zin.1, by omega, fun _ => e⟩
                  by_cases k0 : k = 0
                  · have ki : ((k : Int) == 0) = true := by rw [k0]; rfl
                    clear k0 hgood
                    go_wp2_with (first | fail | (refine wpL_guard rfl rfl ?_))
                    go_ret
                    exact ⟨by rw [HV.out]; rfl, hH.below⟩
                  · have ki : ((k : Int) == 0) = false := by simpa using k0
                    have j0 : j = 0 := by
                      by_cases q : j = 0
                      · exact q
                      · exact absurd ⟨zin.1, by omega, fun h => by omega⟩ hgood
                    have ji : ((j : Int) == 0) = true := by rw [j0]; rfl
                    clear j0 hgood
                    go_wp2_with (first | fail | (refine wpL_guard rfl rfl ?_))
                    go_ret
                    exact ⟨by rw [HV.out]; rfl, hH.below⟩
                · by_cases zl : z < 0
                  · go_wp2_with (first | fail | (refine wpL_guard rfl rfl ?_))
                    go_ret
                    exact ⟨by rw [HV.out]; rfl, hH.below⟩
                  · have z1g : (K : Int) ≤ z := by omega
                    go_wp2_with (first | fail | (refine wpL_guard rfl rfl ?_))
                    go_ret
                    exact ⟨by rw [HV.out]; rfl, hH.below⟩
            · obtain rfl : j = r := by omega
              have hG2 : Hid (∀ x, x < k + 1 → m x = j ∧ ∀ y, y < j → 0 ≤ f x y ∧ f x y < K ∧ (x = 0 ∨ y = 0 → f x y = 0)) := hid (fun x hx => by
                by_cases q : x = k
                · subst q; exact ⟨hmk, hJ.out⟩
                · exact hG.out x (by omega))
              go_wp2
              go_roundw
              case rel => exact ⟨k + 1, by omega, by go_num, hH, hG2⟩
              case measure => simp [intOf]; omega
        · have HV := hid (show R = false by rw [← HR.out]; exact coB_no (fun h => hmk (h.2 k hlt).1))
          have hmi : ¬ (m k : Int) = (r : Int) := by omega
          go_wp2
          go_ret
          exact ⟨by rw [HV.out]; rfl, hH.below⟩
      · obtain rfl : k = r := by omega
        have HV := hid (show R = true by rw [← HR.out]; exact coB_yes ⟨rfl, hG.out⟩)
        go_wp2
        go_ret
        exact ⟨by rw [HV.out]; rfl, hH.below⟩
  · have hri : ¬ (r : Int) = (N : Int) := by omega
    have hV : coB N K r m f = false := coB_no (fun h => hrN h.1)
    rw [hV]
    go_enter Try.func88, Try.ntmps88
    go_wp2_with (first | fail | (refine wpL_guard rfl rfl ?_))
    go_ret
    exact ⟨rfl, Below.refl _ _⟩
set_option maxRecDepth 20000 in
set_option maxHeartbeats 4000000 in
theorem l08Cocycle_any (N K r b : Nat) (m : Nat → Nat) (f : Nat → Nat → Int) (w : World) (hN : N ≤ 10) (hK1 : 1 ≤ K) (hK : K ≤ 10) (hr : r ≤ 1048576) (hm : ∀ i, i < r → m i ≤ 1048576) (hL : SL w b r m f) :
    Calls Try.prog 86 #[.int .i64 N, .int .i64 K, .slice (some ⟨b, 0, none⟩) r r] w fun e w' => e = .returned (.bool (coB N K r m f)) ∧ Below w.heap.size w w' := by
  have HL := hid hL
  have HM := hid hm
  clear hL hm
  have hb0 : b < w.heap.size := HL.out.lt
  have hKi : (K : Int) ≤ 10 := by omega
  have hNi : (N : Int) ≤ 10 := by omega
  have hi2 := inB_true (show 1 ≤ (K : Int) by omega) (show (K : Int) ≤ 10 by omega)
  by_cases hrN : r = N
  · subst hrN
    obtain ⟨R, hR⟩ : ∃ R, coB r K r m f = R := ⟨_, rfl⟩
    have HR := hid hR
    rw [hR]
    clear hR
    go_enter Try.func86, Try.ntmps86
    go_wp2_with (first | fail | (refine wpL_guard rfl rfl ?_) | (go_at_call 68; refine (l01In_any _ _ _ _).mono ?_; rintro e w' ⟨rfl, rfl⟩; rw [hi2]))
    go_loopw [7] (fun i wr => ∃ k : Nat, k ≤ r ∧ i = .int .i64 k ∧ Has w wr [] ∧ Hid (∀ x, x < k → m x = r ∧ ∀ y, y < r → 0 ≤ f x y ∧ f x y < K ∧ (x = 0 ∨ y = 0 → f x y = 0))) (fun i _ => 10 - (intOf i).toNat)
    case atStart => exact ⟨0, by omega, rfl, Has.nil w, hid (fun i h => absurd h (Nat.not_lt_zero i))⟩
    case round =>
      obtain ⟨k, hk, rfl, hH, hG⟩ := hrel
      by_cases hlt : k < r
      · obtain ⟨g, cg0, rg0⟩ := HL.out.cell hlt
        have hmk1 := HM.out k hlt
        have cg : wr.cell? ⟨b, k, none⟩ = some (.slice (some ⟨g, 0, none⟩) (m k) (m k)) := (hH.below.cell (p := ⟨b, k, none⟩) hb0).trans cg0
        have hlt' : (k : Int) < r := by omega
        by_cases hmk : m k = r
        · rw [hmk] at cg cg0 rg0
          have HRg := hid rg0
          clear rg0
          go_wp2
          go_loopw [8] (fun i wx => ∃ j : Nat, j ≤ r ∧ i = .int .i64 j ∧ Has w wx [] ∧ Hid (∀ y, y < j → 0 ≤ f k y ∧ f k y < K ∧ (k = 0 ∨ y = 0 → f k y = 0))) (fun i _ => 10 - (intOf i).toNat)
          case atStart => exact ⟨0, by omega, rfl, hH, hid (fun i h => absurd h (Nat.not_lt_zero i))⟩
          case round =>
            clear hH cg
            obtain ⟨j, hj, rfl, hH, hJ⟩ := hrel
            have cg : wr.cell? ⟨b, k, none⟩ = some (.slice (some ⟨g, 0, none⟩) r r) := (hH.below.cell (p := ⟨b, k, none⟩) hb0).trans cg0
            by_cases hlt2 : j < r
            · have hlt2' : (j : Int) < r := by omega
              have cr := (HRg.out.below hH.below).cell hlt2
              obtain ⟨z, hzz⟩ : ∃ z, f k j = z := ⟨_, rfl⟩
              rw [hzz] at cr
              have HZ := hid hzz
              by_cases hgood : 0 ≤ z ∧ z < K ∧ (k = 0 ∨ j = 0 → z = 0)
              · have hJ2 : Hid (∀ y, y < j + 1 → 0 ≤ f k y ∧ f k y < K ∧ (k = 0 ∨ y = 0 → f k y = 0)) := hid (fun y hy => by
                  by_cases q : y = j
                  · subst q; rw [hzz]; exact hgood
                  · exact hJ.out y (by omega))
                obtain ⟨z0, z1, z2⟩ := hgood
                clear hzz
                have hi := inB_true (show (0 : Int) ≤ z by omega) (show z ≤ (K : Int) - 1 by omega)
                have z1g : ¬ (K : Int) ≤ z := by omega
                have z0g : ¬ z < 0 := by omega
                by_cases k0 : k = 0
                · have zz : z = 0 := z2 (.inl k0)
                  subst zz
                  have ki : ((k : Int) == 0) = true := by rw [k0]; rfl
                  clear k0 z2
                  go_wp2_with (first | fail | (refine wpL_guard rfl rfl ?_) | (go_at_call 68; refine (l01In_any _ _ _ _).mono ?_; rintro e w' ⟨rfl, rfl⟩; rw [hi]))
                  go_roundw
                  case rel => exact ⟨j + 1, by omega, by go_num, hH, hJ2⟩
                  case measure => simp [intOf]; omega
                · have ki : ((k : Int) == 0) = false := by simpa using k0
                  by_cases j0 : j = 0
                  · have zz : z = 0 := z2 (.inr j0)
                    subst zz
                    have ji : ((j : Int) == 0) = true := by rw [j0]; rfl
                    clear j0 z2
                    go_wp2_with (first | fail | (refine wpL_guard rfl rfl ?_) | (go_at_call 68; refine (l01In_any _ _ _ _).mono ?_; rintro e w' ⟨rfl, rfl⟩; rw [hi]))
                    go_roundw
                    case rel => exact ⟨j + 1, by omega, by go_num, hH, hJ2⟩
                    case measure => simp [intOf]; omega
                  · have ji : ((j : Int) == 0) = false := by simpa using j0
                    go_wp2_with (first | fail | (refine wpL_guard rfl rfl ?_) | (go_at_call 68; refine (l01In_any _ _ _ _).mono ?_; rintro e w' ⟨rfl, rfl⟩; rw [hi]))
                    go_roundw
                    case rel => exact ⟨j + 1, by omega, by go_num, hH, hJ2⟩
                    case measure => simp [intOf]; omega
              · have HV := hid (show R = false by rw [← HR.out]; exact coB_no (fun h => hgood (by have := (h.2 k hlt).2 j hlt2; rw [hzz] at this; exact this)))
                clear hzz
                by_cases zin : 0 ≤ z ∧ z ≤ (K : Int) - 1
                · have hi := inB_true zin.1 zin.2
                  have zn : ¬ z = 0 := fun e => hgood ⟨zin.1, by omega, fun _ => e⟩
                  by_cases k0 : k = 0
                  · have ki : ((k : Int) == 0) = true := by rw [k0]; rfl
                    clear k0 hgood
                    go_wp2_with (first | fail | (refine wpL_guard rfl rfl ?_) | (go_at_call 68; refine (l01In_any _ _ _ _).mono ?_; rintro e w' ⟨rfl, rfl⟩; rw [hi]))
                    go_ret
                    exact ⟨by rw [HV.out]; rfl, hH.below⟩
                  · have ki : ((k : Int) == 0) = false := by simpa using k0
                    have j0 : j = 0 := by
                      by_cases q : j = 0
                      · exact q
                      · exact absurd ⟨zin.1, by omega, fun h => by omega⟩ hgood
                    have ji : ((j : Int) == 0) = true := by rw [j0]; rfl
                    clear j0 hgood
                    go_wp2_with (first | fail | (refine wpL_guard rfl rfl ?_) | (go_at_call 68; refine (l01In_any _ _ _ _).mono ?_; rintro e w' ⟨rfl, rfl⟩; rw [hi]))
                    go_ret
                    exact ⟨by rw [HV.out]; rfl, hH.below⟩
                · have hi : inB z 0 ((K : Int) - 1) = false := inB_false zin
                  go_wp2_with (first | fail | (refine wpL_guard rfl rfl ?_) | (go_at_call 68; refine (l01In_any _ _ _ _).mono ?_; rintro e w' ⟨rfl, rfl⟩; rw [hi]))
                  go_ret
                  exact ⟨by rw [HV.out]; rfl, hH.below⟩
            · obtain rfl : j = r := by omega
              have hG2 : Hid (∀ x, x < k + 1 → m x = j ∧ ∀ y, y < j → 0 ≤ f x y ∧ f x y < K ∧ (x = 0 ∨ y = 0 → f x y = 0)) := hid (fun x hx => by
                by_cases q : x = k
                · subst q; exact ⟨hmk, hJ.out⟩
                · exact hG.out x (by omega))
              go_wp2
              go_roundw
              case rel => exact ⟨k + 1, by omega, by go_num, hH, hG2⟩
              case measure => simp [intOf]; omega
        · have HV := hid (show R = false by rw [← HR.out]; exact coB_no (fun h => hmk (h.2 k hlt).1))
          have hmi : ¬ (m k : Int) = (r : Int) := by omega
          go_wp2
          go_ret
          exact ⟨by rw [HV.out]; rfl, hH.below⟩
      · obtain rfl : k = r := by omega
        have HV := hid (show R = true by rw [← HR.out]; exact coB_yes ⟨rfl, hG.out⟩)
        go_wp2
        go_ret
        exact ⟨by rw [HV.out]; rfl, hH.below⟩
  · have hri : ¬ (r : Int) = (N : Int) := by omega
    have hV : coB N K r m f = false := coB_no (fun h => hrN h.1)
    rw [hV]
    go_enter Try.func86, Try.ntmps86
    go_wp2_with (first | fail | (refine wpL_guard rfl rfl ?_) | (go_at_call 68; refine (l01In_any _ _ _ _).mono ?_; rintro e w' ⟨rfl, rfl⟩; rw [hi2]))
    go_ret
    exact ⟨rfl, Below.refl _ _⟩
/-- The products of an extension. -/
def exV (g : Nat → UInt8) (f : Nat → Nat → Int) (K x y : Nat) : UInt8 := UInt8.ofNat (K * (g (x / K * 10 + y / K)).toNat + (x % K + y % K + (f (x / K) (y / K)).toNat) % K)
set_option maxRecDepth 20000 in
set_option maxHeartbeats 8000000 in
theorem extended_any (N K gb b x y : Nat) (fa : UInt8) (g : Nat → UInt8) (m : Nat → Nat) (f : Nat → Nat → Int) (w : World) (hq : IsSq N g) (hK1 : 1 ≤ K) (hfa : fa.toNat = K) (hNK : N * K ≤ 10) (hC : CoG N K N m f) (hx : x < N * K) (hy : y < N * K) (hg : Dv w gb N g) (hL : SL w b N m f) :
    Calls Try.prog (mkId 3) #[.agg (matc (.pointer (some ⟨gb, 0, none⟩)) (.slice none 0 0) fa (.slice (some ⟨b, 0, none⟩) N N) fun _ => 0), .int .u8 (x : Nat), .int .u8 (y : Nat)] w fun e w' => e = .returned (.int .u8 (exV g f K x y).toNat) ∧ Below w.heap.size w w' := by
  show Calls Try.prog 111 _ _ _
  have h10 := hq.hi
  have h1 := hq.lo
  have hK : K ≤ 10 := Nat.le_trans (Nat.le_mul_of_pos_left K (by omega)) hNK
  have HQ := hid hq
  have HC := hid hC
  have HL := hid hL
  have hb0 : b < w.heap.size := HL.out.lt
  have hH := Has.start1 w (matc (.pointer (some ⟨gb, 0, none⟩)) (.slice none 0 0) fa (.slice (some ⟨b, 0, none⟩) N N) fun _ => 0) 66
  have hD := hid (holds_alloc hg (.cells (matc (.pointer (some ⟨gb, 0, none⟩)) (.slice none 0 0) fa (.slice (some ⟨b, 0, none⟩) N N) fun _ => 0) 66))
  have c2 := hH.c0 2
  rw [matc_2, hfa] at c2
  clear hg hq hC hL
  have hxi : (x : Int) < 10 := by omega
  have hyi : (y : Int) < 10 := by omega
  have hKi : (K : Int) ≤ 10 := by omega
  have hK0 : ¬ (K : Int) = 0 := by omega
  have hKm : ¬ (K : Int) = -1 := by omega
  have hXd := Nat.div_add_mod x K
  have hYd := Nat.div_add_mod y K
  obtain ⟨X1, hX1⟩ : ∃ X1, x / K = X1 := ⟨_, rfl⟩
  obtain ⟨Y1, hY1⟩ : ∃ Y1, y / K = Y1 := ⟨_, rfl⟩
  obtain ⟨X2, hX2⟩ : ∃ X2, x % K = X2 := ⟨_, rfl⟩
  obtain ⟨Y2, hY2⟩ : ∃ Y2, y % K = Y2 := ⟨_, rfl⟩
  have lX1 : X1 < N := by rw [← hX1]; exact Nat.div_lt_of_lt_mul (by rw [Nat.mul_comm]; exact hx)
  have lY1 : Y1 < N := by rw [← hY1]; exact Nat.div_lt_of_lt_mul (by rw [Nat.mul_comm]; exact hy)
  have lX2 : X2 < K := by rw [← hX2]; exact Nat.mod_lt _ (by omega)
  have lY2 : Y2 < K := by rw [← hY2]; exact Nat.mod_lt _ (by omega)
  have iX1 : (x : Int) / (K : Int) = (X1 : Int) := by rw [← hX1]; simp
  have iY1 : (y : Int) / (K : Int) = (Y1 : Int) := by rw [← hY1]; simp
  have tX1 : Int.tdiv (x : Int) (K : Int) = (X1 : Int) := by rw [← hX1]; exact (Int.ofNat_tdiv x K).symm
  have tY1 : Int.tdiv (y : Int) (K : Int) = (Y1 : Int) := by rw [← hY1]; exact (Int.ofNat_tdiv y K).symm
  have iX2 : (x : Int) % (K : Int) = (X2 : Int) := by rw [← hX2]; simp
  have iY2 : (y : Int) % (K : Int) = (Y2 : Int) := by rw [← hY2]; simp
  have tX2 : Int.tmod (x : Int) (K : Int) = (X2 : Int) := by rw [← hX2]; exact (Int.ofNat_tmod x K).symm
  have tY2 : Int.tmod (y : Int) (K : Int) = (Y2 : Int) := by rw [← hY2]; exact (Int.ofNat_tmod y K).symm
  obtain ⟨v, hv⟩ : ∃ v, g (X1 * 10 + Y1) = v := ⟨_, rfl⟩
  have lv : v.toNat < N := by rw [← hv]; exact (HQ.out.rows X1 lX1).lt Y1 lY1
  have hco := (HC.out.2 X1 lX1).2 Y1 lY1
  obtain ⟨F, hF⟩ : ∃ F, (f X1 Y1).toNat = F := ⟨_, rfl⟩
  have hfF : f X1 Y1 = (F : Int) := by omega
  have lF : F < K := by omega
  obtain ⟨S, hS⟩ : ∃ S, X2 + Y2 = S := ⟨_, rfl⟩
  have iS : (X2 : Int) + (Y2 : Int) = (S : Int) := by omega
  obtain ⟨S2, hS2⟩ : ∃ S2, S + F = S2 := ⟨_, rfl⟩
  have iS2 : (S : Int) + (F : Int) = (S2 : Int) := by omega
  obtain ⟨c, hc⟩ : ∃ c, S2 % K = c := ⟨_, rfl⟩
  have lc : c < K := by rw [← hc]; exact Nat.mod_lt _ (by omega)
  have ic : (S2 : Int) % (K : Int) = (c : Int) := by rw [← hc]; simp
  have tc : Int.tmod (S2 : Int) (K : Int) = (c : Int) := by rw [← hc]; exact (Int.ofNat_tmod S2 K).symm
  obtain ⟨KV, hKV⟩ : ∃ KV, K * v.toNat = KV := ⟨_, rfl⟩
  have iKV : (K : Int) * (v.toNat : Int) = (KV : Int) := by rw [← hKV]; simp
  have lKV : KV + K ≤ 10 := by
    have h1 := Nat.mul_le_mul_left K (show v.toNat + 1 ≤ N by omega)
    rw [Nat.mul_add, hKV, Nat.mul_one, Nat.mul_comm K N] at h1
    omega
  obtain ⟨R, hR⟩ := byte_of (KV + c) (by omega)
  have iR : (KV : Int) + (c : Int) = (R.toNat : Int) := by omega
  have HE := hid (show exV g f K x y = R by unfold exV; rw [hX1, hY1, hX2, hY2, hv, hF, hKV, hS, hS2, hc, ← hR]; exact UInt8.ofNat_toNat)
  have HV := hid hv
  have HF := hid hfF
  have b1 : (X1 : Int) < 10 := by omega
  have b2 : (Y1 : Int) < 10 := by omega
  have b3 : (X2 : Int) < 10 := by omega
  have b4 : (Y2 : Int) < 10 := by omega
  have b5 : (F : Int) < 10 := by omega
  have b6 : (S : Int) < 20 := by omega
  have b7 : (S2 : Int) < 30 := by omega
  have b8 : (KV : Int) ≤ 10 := by omega
  have b9 : (R.toNat : Int) < 10 := by omega
  have b10 : (c : Int) < 10 := by omega
  have b11 : (v.toNat : Int) < 10 := by omega
  have bx1 : (X1 : Int) < (N : Int) := by omega
  have by1 : (Y1 : Int) < (N : Int) := by omega
  clear hXd hYd hX1 hY1 hX2 hY2 hv hco hF hfF hS hS2 hc hKV hR
  obtain ⟨gr, cg0, rg0⟩ := HL.out.cell lX1
  rw [(HC.out.2 X1 lX1).1] at cg0 rg0
  have HRg := hid rg0
  clear rg0
  rw [HE.out]
  go_enter Try.func111, Try.ntmps111
  go_wp2
  clear c2
  refine wp_region_frame (X := Unit) (fun d _ => [(12, bif d 0 then .int .u8 x else undef), (13, bif d 1 then .int .u8 K else undef), (14, bif d 2 then .int .u8 (X1 : Int) else undef), (15, bif d 3 then .int .u8 y else undef), (16, bif d 4 then .int .u8 K else undef), (17, bif d 5 then .int .u8 (Y1 : Int) else undef), (8, bif d 6 then .int .u8 (X1 : Int) else undef), (9, bif d 7 then .int .u8 (Y1 : Int) else undef)])
    (fun d _ w' => Has w w' [(matc (.pointer (some ⟨gb, 0, none⟩)) (.slice none 0 0) fa (.slice (some ⟨b, 0, none⟩) N N) fun _ => 0, 66)] ∧ Hid (Dv w' gb N g)) (by kernel_rfl) (by kernel_rfl) ?h0_ea ?hs_ea ?hq_ea
  case h0_ea => exact ⟨(), (by simp [lput]), hH.drew, hid (holds_drew hD.out)⟩
  case hs_ea =>
    refine ⟨?_, ?_, ?_, ?_, ?_, ?_, ?_, ?_, trivial⟩
    all_goals
      clear hH hD
      intro d _ w1 hd hn hJ
      simp only [needs, Region.binds, reduceCtorEq, Bool.false_eq_true, false_implies, true_and, and_true, true_implies, forall_const] at hn
      simp only [lput, List.set, hn, cond_true]
      obtain ⟨hH, hD⟩ := hJ
      go_wp2_with (first | fail)
      first
        | (refine ⟨(), ?_, hH, hD⟩; (simp [lput, done, hn]; done))
        | (refine ⟨?_, hH, hD⟩; (simp [lput, done, hn]; done))
        | (refine ⟨(), ?_, hH, hD⟩; (simp [lput, done, hn]; rfl))
        | (refine ⟨?_, hH, hD⟩; (simp [lput, done, hn]; rfl))
        | (refine ⟨(), ?_, hH, hD⟩; (simp [lput, done]; done))
        | (refine ⟨?_, hH, hD⟩; (simp [lput, done]; done))
        | (refine ⟨(), ?_, hH, hD⟩; (simp [lput, done]; rfl))
        | (refine ⟨?_, hH, hD⟩; (simp [lput, done]; rfl))
  case hq_ea =>
    clear hH hD
    intro d _ w1 hd hJ
    simp only [allDone, List.length_cons, List.length_nil, Nat.reduceAdd, and_true] at hd
    obtain ⟨hH, hD⟩ := hJ
    simp only [lput, List.set, hd, cond_true]
    clear hd
    go_wp2
    refine wp_region_frame (X := Unit) (fun d _ => [(18, bif d 0 then .int .u8 K else undef), (19, bif d 1 then .pointer (some ⟨w.heap.size, 0, none⟩) else undef), (20, bif d 2 then .pointer (some ⟨gb, 0, none⟩) else undef), (21, bif d 3 then .int .u8 (X1 : Int) else undef), (22, bif d 4 then .int .u8 (Y1 : Int) else undef), (23, bif d 5 then .int .u8 v.toNat else undef), (24, bif d 6 then .int .u8 (KV : Int) else undef), (25, bif d 7 then .int .u8 x else undef), (26, bif d 8 then .int .u8 K else undef), (27, bif d 9 then .int .u8 (X2 : Int) else undef), (28, bif d 10 then .int .u8 y else undef), (29, bif d 11 then .int .u8 K else undef), (30, bif d 12 then .int .u8 (Y2 : Int) else undef), (31, bif d 13 then .int .u8 (S : Int) else undef), (32, bif d 14 then .pointer (some ⟨w.heap.size, 3, none⟩) else undef), (33, bif d 15 then .slice (some ⟨b, 0, none⟩) N N else undef), (34, bif d 16 then .int .u8 (X1 : Int) else undef), (35, bif d 17 then .pointer (some ⟨b, X1, none⟩) else undef), (36, bif d 18 then .slice (some ⟨gr, 0, none⟩) N N else undef), (37, bif d 19 then .int .u8 (Y1 : Int) else undef), (38, bif d 20 then .pointer (some ⟨gr, Y1, none⟩) else undef), (39, bif d 21 then .int .i64 (F : Int) else undef), (40, bif d 22 then .int .u8 (F : Int) else undef), (41, bif d 23 then .int .u8 (S2 : Int) else undef), (42, bif d 24 then .int .u8 K else undef), (43, bif d 25 then .int .u8 (c : Int) else undef), (44, bif d 26 then .int .u8 R.toNat else undef), (6, bif d 27 then .int .u8 R.toNat else .int .u8 0)])
      (fun d _ w' => Has w w' [(matc (.pointer (some ⟨gb, 0, none⟩)) (.slice none 0 0) fa (.slice (some ⟨b, 0, none⟩) N N) fun _ => 0, 66)] ∧ Hid (Dv w' gb N g)) (by kernel_rfl) (by kernel_rfl) ?h0_eb ?hs_eb ?hq_eb
    case h0_eb => exact ⟨(), (by simp [lput]), hH.drew, hid (holds_drew hD.out)⟩
    case hs_eb =>
      refine ⟨?_, ?_, ?_, ?_, ?_, ?_, ?_, ?_, ?_, ?_, ?_, ?_, ?_, ?_, ?_, ?_, ?_, ?_, ?_, ?_, ?_, ?_, ?_, ?_, ?_, ?_, ?_, ?_, trivial⟩
      all_goals
        clear hH hD
        intro d _ w1 hd hn hJ
        simp only [needs, Region.binds, reduceCtorEq, Bool.false_eq_true, false_implies, true_and, and_true, true_implies, forall_const] at hn
        simp only [lput, List.set, hn, cond_true]
        obtain ⟨hH, hD⟩ := hJ
        have c0 : w1.cell? ⟨w.heap.size, 0, none⟩ = some (.pointer (some ⟨gb, 0, none⟩)) := by rw [hH.c0, matc_0]
        have c3 : w1.cell? ⟨w.heap.size, 3, none⟩ = some (.slice (some ⟨b, 0, none⟩) N N) := by rw [hH.c0, matc_3]
        have cg : w1.cell? ⟨b, X1, none⟩ = some (.slice (some ⟨gr, 0, none⟩) N N) := (hH.below.cell (p := ⟨b, X1, none⟩) hb0).trans cg0
        have cr := (HRg.out.below hH.below).cell lY1
        rw [HF.out] at cr
        go_wp2_with (first | fail | (go_at_call 67; refine (product_nat N gb X1 Y1 g _ h10 lX1 lY1 hD.out).mono ?_; rintro e w3 ⟨rfl, hb⟩; rw [HV.out]; replace hH := hH.call' hb; replace hD := hid (Dv.below hD.out hb)))
        first
          | (refine ⟨(), ?_, hH, hD⟩; (simp [lput, done, hn]; done))
          | (refine ⟨?_, hH, hD⟩; (simp [lput, done, hn]; done))
          | (refine ⟨(), ?_, hH, hD⟩; (simp [lput, done, hn]; rfl))
          | (refine ⟨?_, hH, hD⟩; (simp [lput, done, hn]; rfl))
          | (refine ⟨(), ?_, hH, hD⟩; (simp [lput, done]; done))
          | (refine ⟨?_, hH, hD⟩; (simp [lput, done]; done))
          | (refine ⟨(), ?_, hH, hD⟩; (simp [lput, done]; rfl))
          | (refine ⟨?_, hH, hD⟩; (simp [lput, done]; rfl))
    case hq_eb =>
      clear hH hD
      intro d _ w1 hd hJ
      simp only [allDone, List.length_cons, List.length_nil, Nat.reduceAdd, and_true] at hd
      obtain ⟨hH, hD⟩ := hJ
      simp only [lput, List.set, hd, cond_true]
      clear hd
      go_wp2
      go_ret
      exact ⟨rfl, hH.below⟩
set_option maxRecDepth 20000 in
set_option maxHeartbeats 1600000 in
theorem implEx_1 (o : Int) (g : Nat → UInt8) (k : Int) (b r : Nat) (w : World) (hs : sqB o g = false) :
    Calls Try.prog 47 #[.agg (sqc o g), .int .i64 k, .slice (some ⟨b, 0, none⟩) r r] w fun e w' => e = .returned (.tuple #[.agg (sqc 0 fun _ => 0), .int .i64 1]) ∧ Below w.heap.size w w' := by
  have hH := Has.start2 w (sqc o g) (sqc 0 fun _ => 0) 28 28
  go_enter Try.func47, Try.ntmps47
  go_wp2_with (first | fail | (refine wpL_guard rfl rfl ?_) | (refine wpL_alloc (o := ⟨some 6, _, _, _, _, _⟩) rfl rfl zeroSq ?_; intro g hg; (try simp at hg); subst hg) | (refine wpL_loadFull rfl rfl rfl rowSq hH.h0 (sqc_size _ _) ?_) | (go_at_call 87; refine (IsSquare_any _ _ _).mono ?_; rintro e w3 ⟨rfl, hb⟩; rw [hs]; replace hH := hH.call' hb; clear hb; (try clear c0); have c0 := hH.c0 0; rw [sqc_get0] at c0) | (refine wpL_build rfl rfl builtSq ?_) | (refine wpL_storeSame (x := .tmp 6) rfl rfl rfl rfl rowSq hH.h1 (sqc_ok _ _) ?_))
  exact ret_ct rfl rfl rfl hH.h1 rowSq (sqc_size _ _) ⟨rfl, hH.below⟩
set_option maxRecDepth 20000 in
set_option maxHeartbeats 1600000 in
theorem implEx_2k (o : Int) (g : Nat → UInt8) (k : Int) (b r : Nat) (w : World) (hs : sqB o g = true) (hk : k < 1) :
    Calls Try.prog 47 #[.agg (sqc o g), .int .i64 k, .slice (some ⟨b, 0, none⟩) r r] w fun e w' => e = .returned (.tuple #[.agg (sqc 0 fun _ => 0), .int .i64 2]) ∧ Below w.heap.size w w' := by
  have hH := Has.start2 w (sqc o g) (sqc 0 fun _ => 0) 28 28
  go_enter Try.func47, Try.ntmps47
  go_wp2_with (first | fail | (refine wpL_guard rfl rfl ?_) | (refine wpL_alloc (o := ⟨some 6, _, _, _, _, _⟩) rfl rfl zeroSq ?_; intro g hg; (try simp at hg); subst hg) | (refine wpL_loadFull rfl rfl rfl rowSq hH.h0 (sqc_size _ _) ?_) | (go_at_call 87; refine (IsSquare_any _ _ _).mono ?_; rintro e w3 ⟨rfl, hb⟩; rw [hs]; replace hH := hH.call' hb; clear hb; (try clear c0); have c0 := hH.c0 0; rw [sqc_get0] at c0) | (refine wpL_build rfl rfl builtSq ?_) | (refine wpL_storeSame (x := .tmp 6) rfl rfl rfl rfl rowSq hH.h1 (sqc_ok _ _) ?_))
  exact ret_ct rfl rfl rfl hH.h1 rowSq (sqc_size _ _) ⟨rfl, hH.below⟩
set_option maxRecDepth 20000 in
set_option maxHeartbeats 1600000 in
theorem implEx_2l (o : Int) (g : Nat → UInt8) (k : Int) (b r : Nat) (w : World) (hs : sqB o g = true) (hk : 10 < k) :
    Calls Try.prog 47 #[.agg (sqc o g), .int .i64 k, .slice (some ⟨b, 0, none⟩) r r] w fun e w' => e = .returned (.tuple #[.agg (sqc 0 fun _ => 0), .int .i64 2]) ∧ Below w.heap.size w w' := by
  have hH := Has.start2 w (sqc o g) (sqc 0 fun _ => 0) 28 28
  go_enter Try.func47, Try.ntmps47
  go_wp2_with (first | fail | (refine wpL_guard rfl rfl ?_) | (refine wpL_alloc (o := ⟨some 6, _, _, _, _, _⟩) rfl rfl zeroSq ?_; intro g hg; (try simp at hg); subst hg) | (refine wpL_loadFull rfl rfl rfl rowSq hH.h0 (sqc_size _ _) ?_) | (go_at_call 87; refine (IsSquare_any _ _ _).mono ?_; rintro e w3 ⟨rfl, hb⟩; rw [hs]; replace hH := hH.call' hb; clear hb; (try clear c0); have c0 := hH.c0 0; rw [sqc_get0] at c0) | (refine wpL_build rfl rfl builtSq ?_) | (refine wpL_storeSame (x := .tmp 6) rfl rfl rfl rfl rowSq hH.h1 (sqc_ok _ _) ?_))
  exact ret_ct rfl rfl rfl hH.h1 rowSq (sqc_size _ _) ⟨rfl, hH.below⟩
set_option maxRecDepth 20000 in
set_option maxHeartbeats 1600000 in
theorem implEx_2c (o : Int) (g : Nat → UInt8) (k : Int) (b r : Nat) (w : World) (hs : sqB o g = true) (hk1 : 1 ≤ k) (hk : k ≤ 10) (cb : Bool) (hC : Hid (∀ w', Below w.heap.size w w' → Calls Try.prog 88 #[.slice (some ⟨b, 0, none⟩) r r, .int .i64 o, .int .i64 k] w' fun e w'' => e = .returned (.bool cb) ∧ Below w'.heap.size w' w'')) (hcb : cb = false) :
    Calls Try.prog 47 #[.agg (sqc o g), .int .i64 k, .slice (some ⟨b, 0, none⟩) r r] w fun e w' => e = .returned (.tuple #[.agg (sqc 0 fun _ => 0), .int .i64 2]) ∧ Below w.heap.size w w' := by
  have hH := Has.start2 w (sqc o g) (sqc 0 fun _ => 0) 28 28
  go_enter Try.func47, Try.ntmps47
  go_wp2_with (first | fail | (refine wpL_guard rfl rfl ?_) | (refine wpL_alloc (o := ⟨some 6, _, _, _, _, _⟩) rfl rfl zeroSq ?_; intro g hg; (try simp at hg); subst hg) | (refine wpL_loadFull rfl rfl rfl rowSq hH.h0 (sqc_size _ _) ?_) | (go_at_call 87; refine (IsSquare_any _ _ _).mono ?_; rintro e w3 ⟨rfl, hb⟩; rw [hs]; replace hH := hH.call' hb; clear hb; (try clear c0); have c0 := hH.c0 0; rw [sqc_get0] at c0) | (go_at_call 88; refine (hC.out _ hH.below).mono ?_; rintro e w3 ⟨rfl, hb⟩; rw [hcb]; replace hH := hH.call' hb; clear hb; (try clear c0); have c0 := hH.c0 0; rw [sqc_get0] at c0) | (refine wpL_build rfl rfl builtSq ?_) | (refine wpL_storeSame (x := .tmp 6) rfl rfl rfl rfl rowSq hH.h1 (sqc_ok _ _) ?_))
  exact ret_ct rfl rfl rfl hH.h1 rowSq (sqc_size _ _) ⟨rfl, hH.below⟩
set_option maxRecDepth 20000 in
set_option maxHeartbeats 1600000 in
theorem implEx_5 (o : Int) (g : Nat → UInt8) (k : Int) (b r : Nat) (w : World) (hs : sqB o g = true) (hk1 : 1 ≤ k) (hk : k ≤ 10) (cb : Bool) (hC : Hid (∀ w', Below w.heap.size w w' → Calls Try.prog 88 #[.slice (some ⟨b, 0, none⟩) r r, .int .i64 o, .int .i64 k] w' fun e w'' => e = .returned (.bool cb) ∧ Below w'.heap.size w' w'')) (hcb : cb = true) (hl : loopB o g = false) :
    Calls Try.prog 47 #[.agg (sqc o g), .int .i64 k, .slice (some ⟨b, 0, none⟩) r r] w fun e w' => e = .returned (.tuple #[.agg (sqc 0 fun _ => 0), .int .i64 5]) ∧ Below w.heap.size w w' := by
  have hH := Has.start2 w (sqc o g) (sqc 0 fun _ => 0) 28 28
  go_enter Try.func47, Try.ntmps47
  go_wp2_with (first | fail | (refine wpL_guard rfl rfl ?_) | (refine wpL_alloc (o := ⟨some 6, _, _, _, _, _⟩) rfl rfl zeroSq ?_; intro g hg; (try simp at hg); subst hg) | (refine wpL_loadFull rfl rfl rfl rowSq hH.h0 (sqc_size _ _) ?_) | (go_at_call 87; refine (IsSquare_any _ _ _).mono ?_; rintro e w3 ⟨rfl, hb⟩; rw [hs]; replace hH := hH.call' hb; clear hb; (try clear c0); have c0 := hH.c0 0; rw [sqc_get0] at c0) | (go_at_call 88; refine (hC.out _ hH.below).mono ?_; rintro e w3 ⟨rfl, hb⟩; rw [hcb]; replace hH := hH.call' hb; clear hb; (try clear c0); have c0 := hH.c0 0; rw [sqc_get0] at c0) | (go_at_call 89; refine (IsLoop_any _ _ _).mono ?_; rintro e w3 ⟨rfl, hb⟩; rw [hl]; replace hH := hH.call' hb; clear hb; (try clear c0); have c0 := hH.c0 0; rw [sqc_get0] at c0) | (refine wpL_build rfl rfl builtSq ?_) | (refine wpL_storeSame (x := .tmp 6) rfl rfl rfl rfl rowSq hH.h1 (sqc_ok _ _) ?_))
  exact ret_ct rfl rfl rfl hH.h1 rowSq (sqc_size _ _) ⟨rfl, hH.below⟩
set_option maxRecDepth 20000 in
set_option maxHeartbeats 1600000 in
theorem implEx_3 (N K : Nat) (g : Nat → UInt8) (b r : Nat) (w : World) (hs : sqB (N : Int) g = true) (hk1 : 1 ≤ K) (hk : K ≤ 10) (hN : N ≤ 10) (cb : Bool) (hC : Hid (∀ w', Below w.heap.size w w' → Calls Try.prog 88 #[.slice (some ⟨b, 0, none⟩) r r, .int .i64 N, .int .i64 K] w' fun e w'' => e = .returned (.bool cb) ∧ Below w'.heap.size w' w'')) (hcb : cb = true) (hl : loopB (N : Int) g = true) (hNK : 10 < N * K) :
    Calls Try.prog 47 #[.agg (sqc N g), .int .i64 K, .slice (some ⟨b, 0, none⟩) r r] w fun e w' => e = .returned (.tuple #[.agg (sqc 0 fun _ => 0), .int .i64 3]) ∧ Below w.heap.size w w' := by
  have hH := Has.start2 w (sqc N g) (sqc 0 fun _ => 0) 28 28
  have hk1i : 1 ≤ (K : Int) := by omega
  have hki : (K : Int) ≤ 10 := by omega
  obtain ⟨M, hM⟩ : ∃ M, N * K = M := ⟨_, rfl⟩
  have hMi : (N : Int) * (K : Int) = (M : Int) := by rw [← hM]; simp
  have hMl : M ≤ 100 := by rw [← hM]; exact Nat.mul_le_mul (show N ≤ 10 by omega) hk
  have hM10 : (10 : Int) < (M : Int) := by omega
  have hM100 : (M : Int) ≤ 100 := by omega
  clear hM
  go_enter Try.func47, Try.ntmps47
  go_wp2_with (first | fail | (refine wpL_guard rfl rfl ?_) | (refine wpL_alloc (o := ⟨some 6, _, _, _, _, _⟩) rfl rfl zeroSq ?_; intro g hg; (try simp at hg); subst hg) | (refine wpL_loadFull rfl rfl rfl rowSq hH.h0 (sqc_size _ _) ?_) | (go_at_call 87; refine (IsSquare_any _ _ _).mono ?_; rintro e w3 ⟨rfl, hb⟩; rw [hs]; replace hH := hH.call' hb; clear hb; (try clear c0); have c0 := hH.c0 0; rw [sqc_get0] at c0) | (go_at_call 88; refine (hC.out _ hH.below).mono ?_; rintro e w3 ⟨rfl, hb⟩; rw [hcb]; replace hH := hH.call' hb; clear hb; (try clear c0); have c0 := hH.c0 0; rw [sqc_get0] at c0) | (go_at_call 89; refine (IsLoop_any _ _ _).mono ?_; rintro e w3 ⟨rfl, hb⟩; rw [hl]; replace hH := hH.call' hb; clear hb; (try clear c0); have c0 := hH.c0 0; rw [sqc_get0] at c0) | (refine wpL_build rfl rfl builtSq ?_) | (refine wpL_storeSame (x := .tmp 6) rfl rfl rfl rfl rowSq hH.h1 (sqc_ok _ _) ?_))
  exact ret_ct rfl rfl rfl hH.h1 rowSq (sqc_size _ _) ⟨rfl, hH.below⟩
theorem builtMat3 (p : Option Addr) (fa : UInt8) (A : Option Addr) (n c : Nat) : Try.prog.built 66 [(0, .pointer p), (2, .int .u8 fa.toNat), (3, .slice A n c)] = some (matc (.pointer p) (.slice none 0 0) fa (.slice A n c) fun _ => 0) := by kernel_rfl
section
variable {P : Program} {ops : Array Oper} {rest : List Oper} {o : Oper} {a : Act} {w : World} {Q : Exit → Act → World → Prop}
theorem wpL_bu023 {T : Nat} {x y z : Operand} {v u t : Value} {Z : Array Value} (hgd : o.guard = none) (ho : o.op = .build T #[(0, x), (2, y), (3, z)]) (hx : a.eval x = v) (hy : a.eval y = u) (hz : a.eval z = t) (hZ : P.built T [(0, v), (2, u), (3, t)] = some Z)
    (h : wpList P ops Q rest (a.put o.dst (.agg Z)) w) : wpList P ops Q (o :: rest) a w := by
  refine wpList_build hgd T #[(0, x), (2, y), (3, z)] ho ?_ ?_
  · simp [hx, hy, hz, hZ]
  · simpa [hx, hy, hz, hZ] using h
end
set_option maxRecDepth 20000 in
set_option maxHeartbeats 2000000 in
theorem implEx_good (N : Nat) (fa : UInt8) (g : Nat → UInt8) (m : Nat → Nat) (f : Nat → Nat → Int) (b : Nat) (w : World) (hs : sqB (N : Int) g = true) (hk1 : 1 ≤ fa.toNat) (hq : IsSq N g) (hl : loopB (N : Int) g = true) (hNK : N * fa.toNat ≤ 10) (hG : CoG N fa.toNat N m f) (hL : SL w b N m f)
    (cb : Bool) (hC : Hid (∀ w', Below w.heap.size w w' → Calls Try.prog 88 #[.slice (some ⟨b, 0, none⟩) N N, .int .i64 N, .int .i64 fa.toNat] w' fun e w'' => e = .returned (.bool cb) ∧ Below w'.heap.size w' w'')) (hcb : cb = true) :
    Calls Try.prog 47 #[.agg (sqc N g), .int .i64 fa.toNat, .slice (some ⟨b, 0, none⟩) N N] w fun e w' => e = .returned (.tuple #[.agg (sqc (N * fa.toNat : Nat) (fillT (N * fa.toNat) (exV g f fa.toNat) (N * fa.toNat) 0)), .int .i64 0]) ∧ Below w.heap.size w w' := by
  have hk : fa.toNat ≤ 10 := Nat.le_trans (Nat.le_mul_of_pos_left _ hq.lo) hNK
  have hk1i : 1 ≤ (fa.toNat : Int) := by omega
  have hki : (fa.toNat : Int) ≤ 10 := by omega
  have HQ := hid hq
  have HL := hid hL
  have hExt := hid (fun (gb : Nat) (w0 : World) (hb : Below w.heap.size w w0) (hD : Dv w0 gb N g) (w' : World) (x y : Nat) (hb2 : Below w0.heap.size w0 w') (hx : x < N * fa.toNat) (hy : y < N * fa.toNat) => extended_any N fa.toNat gb b x y fa g m f w' hq hk1 rfl hNK hG hx hy (Dv.below hD hb2) ((hL.below hb).below hb2))
  obtain ⟨M, hM⟩ : ∃ M, N * fa.toNat = M := ⟨_, rfl⟩
  have hMi : (N : Int) * (fa.toNat : Int) = (M : Int) := by rw [← hM]; simp
  rw [hM] at hNK hExt ⊢
  have hM10 : (M : Int) ≤ 10 := by omega
  clear hM hq hG hL
  have hH := Has.start2 w (sqc N g) (sqc 0 fun _ => 0) 28 28
  go_enter Try.func47, Try.ntmps47
  go_wp2_with (first | fail | (refine wpL_guard rfl rfl ?_) | (refine wpL_alloc (o := ⟨some 6, _, _, _, _, _⟩) rfl rfl zeroSq ?_; intro g hg; (try simp at hg); subst hg) | (refine wpL_loadFull rfl rfl rfl rowSq hH.h0 (sqc_size _ _) ?_) | (go_at_call 87; refine (IsSquare_any _ _ _).mono ?_; rintro e w3 ⟨rfl, hb⟩; rw [hs]; replace hH := hH.call' hb; clear hb; (try clear c0); have c0 := hH.c0 0; rw [sqc_get0] at c0) | (go_at_call 88; refine (hC.out _ hH.below).mono ?_; rintro e w3 ⟨rfl, hb⟩; rw [hcb]; replace hH := hH.call' hb; clear hb; (try clear c0); have c0 := hH.c0 0; rw [sqc_get0] at c0) | (go_at_call 89; refine (IsLoop_any _ _ _).mono ?_; rintro e w3 ⟨rfl, hb⟩; rw [hl]; replace hH := hH.call' hb; clear hb; (try clear c0); have c0 := hH.c0 0; rw [sqc_get0] at c0) | (go_at_call 56; refine (divide_any N g _ HQ.out).mono ?_; rintro e w3 ⟨gb, rfl, hb, hD, hlo⟩; replace hH := hH.call' hb; clear hb hlo) | (refine wpL_bu023 rfl rfl rfl rfl rfl (builtMat3 _ fa _ N N) ?_) | (refine wpL_loadFull rfl rfl rfl rowMat hm (matc_size _ _ _ _ _) ?_; (try clear c0); have c0 := hH.c0 0; rw [sqc_get0] at c0) | (go_at_call 57; refine (squareBy_any 3 M _ (exV g f fa.toNat) _ (by decide) hNK (matc_size _ _ _ _ _) (hid (hExt.out _ _ hH.below hD))).mono ?_; rintro e w4 ⟨rfl, hb⟩; replace hH := hH.call' hb; clear hb) | (refine wpL_storeFull (x := .tmp 6) rfl rfl rfl rfl rowSq hH.h1 (sqc_size _ _) (sqc_ok _ _) ?_) | (refine wpL_storeN (x := .tmp 8) rfl rfl rfl rfl rowMat hm (matc_size _ _ _ _ _) (matc_ok _ _ _ _ _ _ _ _ _) ?_; intro w5 hz hO hT; replace hD : Dv w5 gb N g := hO _ _ _ (holds_ne hD hm (by decide)) hD; replace hm := hz; replace hH := hT _ _ hH hbm; clear hz hO hT) | (refine wpL_allocN (o := ⟨some 8, _, _, _, _, _⟩) rfl rfl zeroMat ?_; intro mb w4 hm hl2 hb; have hbm : w.heap.size + 2 ≤ mb := (by have := hH.size; simp only [List.length_cons, List.length_nil] at this; omega); replace hH := hH.call' hb; replace hD := Dv.below hD hb; clear hb hl2))
  exact ret_ct rfl rfl rfl hH.r1.h1 rowSq (sqc_size _ _) ⟨rfl, hH.r1.below⟩
set_option maxRecDepth 20000 in
set_option maxHeartbeats 1600000 in
theorem specEx_1 (o : Int) (g : Nat → UInt8) (k : Int) (b r : Nat) (w : World) (hs : sqB o g = false) :
    Calls Try.prog 46 #[.agg (sqc o g), .int .i64 k, .slice (some ⟨b, 0, none⟩) r r] w fun e w' => e = .returned (.tuple #[.agg (sqc 0 fun _ => 0), .int .i64 1]) ∧ Below w.heap.size w w' := by
  have hH := Has.start2 w (sqc o g) (sqc 0 fun _ => 0) 28 28
  go_enter Try.func46, Try.ntmps46
  go_wp2_with (first | fail | (refine wpL_guard rfl rfl ?_) | (refine wpL_alloc (o := ⟨some 6, _, _, _, _, _⟩) rfl rfl zeroSq ?_; intro g hg; (try simp at hg); subst hg) | (refine wpL_loadFull rfl rfl rfl rowSq hH.h0 (sqc_size _ _) ?_) | (go_at_call 50; refine (l01Is_any _ _ _).mono ?_; rintro e w3 ⟨rfl, hb⟩; rw [hs]; replace hH := hH.call' hb; clear hb; (try clear c0); have c0 := hH.c0 0; rw [sqc_get0] at c0) | (refine wpL_build rfl rfl builtSq ?_) | (refine wpL_storeSame (x := .tmp 6) rfl rfl rfl rfl rowSq hH.h1 (sqc_ok _ _) ?_))
  exact ret_ct rfl rfl rfl hH.h1 rowSq (sqc_size _ _) ⟨rfl, hH.below⟩
set_option maxRecDepth 20000 in
set_option maxHeartbeats 1600000 in
theorem specEx_2c (o : Int) (g : Nat → UInt8) (k : Int) (b r : Nat) (w : World) (hs : sqB o g = true) (cb : Bool) (hC : Hid (∀ w', Below w.heap.size w w' → Calls Try.prog 86 #[.int .i64 o, .int .i64 k, .slice (some ⟨b, 0, none⟩) r r] w' fun e w'' => e = .returned (.bool cb) ∧ Below w'.heap.size w' w'')) (hcb : cb = false) :
    Calls Try.prog 46 #[.agg (sqc o g), .int .i64 k, .slice (some ⟨b, 0, none⟩) r r] w fun e w' => e = .returned (.tuple #[.agg (sqc 0 fun _ => 0), .int .i64 2]) ∧ Below w.heap.size w w' := by
  have hH := Has.start2 w (sqc o g) (sqc 0 fun _ => 0) 28 28
  go_enter Try.func46, Try.ntmps46
  go_wp2_with (first | fail | (refine wpL_guard rfl rfl ?_) | (refine wpL_alloc (o := ⟨some 6, _, _, _, _, _⟩) rfl rfl zeroSq ?_; intro g hg; (try simp at hg); subst hg) | (refine wpL_loadFull rfl rfl rfl rowSq hH.h0 (sqc_size _ _) ?_) | (go_at_call 50; refine (l01Is_any _ _ _).mono ?_; rintro e w3 ⟨rfl, hb⟩; rw [hs]; replace hH := hH.call' hb; clear hb; (try clear c0); have c0 := hH.c0 0; rw [sqc_get0] at c0) | (go_at_call 86; refine (hC.out _ hH.below).mono ?_; rintro e w3 ⟨rfl, hb⟩; rw [hcb]; replace hH := hH.call' hb; clear hb; (try clear c0); have c0 := hH.c0 0; rw [sqc_get0] at c0) | (refine wpL_build rfl rfl builtSq ?_) | (refine wpL_storeSame (x := .tmp 6) rfl rfl rfl rfl rowSq hH.h1 (sqc_ok _ _) ?_))
  exact ret_ct rfl rfl rfl hH.h1 rowSq (sqc_size _ _) ⟨rfl, hH.below⟩
set_option maxRecDepth 20000 in
set_option maxHeartbeats 1600000 in
theorem specEx_5 (o : Int) (g : Nat → UInt8) (k : Int) (b r : Nat) (w : World) (hs : sqB o g = true) (cb : Bool) (hC : Hid (∀ w', Below w.heap.size w w' → Calls Try.prog 86 #[.int .i64 o, .int .i64 k, .slice (some ⟨b, 0, none⟩) r r] w' fun e w'' => e = .returned (.bool cb) ∧ Below w'.heap.size w' w'')) (hcb : cb = true) (hl : loopB o g = false) :
    Calls Try.prog 46 #[.agg (sqc o g), .int .i64 k, .slice (some ⟨b, 0, none⟩) r r] w fun e w' => e = .returned (.tuple #[.agg (sqc 0 fun _ => 0), .int .i64 5]) ∧ Below w.heap.size w w' := by
  have hH := Has.start2 w (sqc o g) (sqc 0 fun _ => 0) 28 28
  go_enter Try.func46, Try.ntmps46
  go_wp2_with (first | fail | (refine wpL_guard rfl rfl ?_) | (refine wpL_alloc (o := ⟨some 6, _, _, _, _, _⟩) rfl rfl zeroSq ?_; intro g hg; (try simp at hg); subst hg) | (refine wpL_loadFull rfl rfl rfl rowSq hH.h0 (sqc_size _ _) ?_) | (go_at_call 50; refine (l01Is_any _ _ _).mono ?_; rintro e w3 ⟨rfl, hb⟩; rw [hs]; replace hH := hH.call' hb; clear hb; (try clear c0); have c0 := hH.c0 0; rw [sqc_get0] at c0) | (go_at_call 86; refine (hC.out _ hH.below).mono ?_; rintro e w3 ⟨rfl, hb⟩; rw [hcb]; replace hH := hH.call' hb; clear hb; (try clear c0); have c0 := hH.c0 0; rw [sqc_get0] at c0) | (go_at_call 51; refine (l01Loop_any _ _ _).mono ?_; rintro e w3 ⟨rfl, hb⟩; rw [hl]; replace hH := hH.call' hb; clear hb; (try clear c0); have c0 := hH.c0 0; rw [sqc_get0] at c0) | (refine wpL_build rfl rfl builtSq ?_) | (refine wpL_storeSame (x := .tmp 6) rfl rfl rfl rfl rowSq hH.h1 (sqc_ok _ _) ?_))
  exact ret_ct rfl rfl rfl hH.h1 rowSq (sqc_size _ _) ⟨rfl, hH.below⟩
set_option maxRecDepth 20000 in
set_option maxHeartbeats 1600000 in
theorem specEx_3 (N K : Nat) (g : Nat → UInt8) (b r : Nat) (w : World) (hs : sqB (N : Int) g = true) (hk1 : 1 ≤ K) (hk : K ≤ 10) (hN : N ≤ 10) (cb : Bool) (hC : Hid (∀ w', Below w.heap.size w w' → Calls Try.prog 86 #[.int .i64 N, .int .i64 K, .slice (some ⟨b, 0, none⟩) r r] w' fun e w'' => e = .returned (.bool cb) ∧ Below w'.heap.size w' w'')) (hcb : cb = true) (hl : loopB (N : Int) g = true) (hNK : 10 < N * K) :
    Calls Try.prog 46 #[.agg (sqc N g), .int .i64 K, .slice (some ⟨b, 0, none⟩) r r] w fun e w' => e = .returned (.tuple #[.agg (sqc 0 fun _ => 0), .int .i64 3]) ∧ Below w.heap.size w w' := by
  have hH := Has.start2 w (sqc N g) (sqc 0 fun _ => 0) 28 28
  have hk1i : 1 ≤ (K : Int) := by omega
  have hki : (K : Int) ≤ 10 := by omega
  obtain ⟨M, hM⟩ : ∃ M, N * K = M := ⟨_, rfl⟩
  have hMi : (N : Int) * (K : Int) = (M : Int) := by rw [← hM]; simp
  have hMl : M ≤ 100 := by rw [← hM]; exact Nat.mul_le_mul (show N ≤ 10 by omega) hk
  have hM10 : (10 : Int) < (M : Int) := by omega
  have hM100 : (M : Int) ≤ 100 := by omega
  clear hM
  go_enter Try.func46, Try.ntmps46
  go_wp2_with (first | fail | (refine wpL_guard rfl rfl ?_) | (refine wpL_alloc (o := ⟨some 6, _, _, _, _, _⟩) rfl rfl zeroSq ?_; intro g hg; (try simp at hg); subst hg) | (refine wpL_loadFull rfl rfl rfl rowSq hH.h0 (sqc_size _ _) ?_) | (go_at_call 50; refine (l01Is_any _ _ _).mono ?_; rintro e w3 ⟨rfl, hb⟩; rw [hs]; replace hH := hH.call' hb; clear hb; (try clear c0); have c0 := hH.c0 0; rw [sqc_get0] at c0) | (go_at_call 86; refine (hC.out _ hH.below).mono ?_; rintro e w3 ⟨rfl, hb⟩; rw [hcb]; replace hH := hH.call' hb; clear hb; (try clear c0); have c0 := hH.c0 0; rw [sqc_get0] at c0) | (go_at_call 51; refine (l01Loop_any _ _ _).mono ?_; rintro e w3 ⟨rfl, hb⟩; rw [hl]; replace hH := hH.call' hb; clear hb; (try clear c0); have c0 := hH.c0 0; rw [sqc_get0] at c0) | (refine wpL_build rfl rfl builtSq ?_) | (refine wpL_storeSame (x := .tmp 6) rfl rfl rfl rfl rowSq hH.h1 (sqc_ok _ _) ?_))
  exact ret_ct rfl rfl rfl hH.h1 rowSq (sqc_size _ _) ⟨rfl, hH.below⟩
set_option maxRecDepth 20000 in
set_option maxHeartbeats 1000000 in
theorem l08Cocycle_out (N : Int) (k : Int) (b r : Nat) (w : World) (hk : ¬ (1 ≤ k ∧ k ≤ 10)) :
    Calls Try.prog 86 #[.int .i64 N, .int .i64 k, .slice (some ⟨b, 0, none⟩) r r] w fun e w' => e = .returned (.bool false) ∧ Below w.heap.size w w' := by
  have hi := inB_false hk
  go_enter Try.func86, Try.ntmps86
  go_wp2_with (first | fail | (refine wpL_guard rfl rfl ?_) | (go_at_call 68; refine (l01In_any _ _ _ _).mono ?_; rintro e w' ⟨rfl, rfl⟩; rw [hi]))
  go_ret
  exact ⟨rfl, Below.refl _ _⟩
set_option maxRecDepth 20000 in
set_option maxHeartbeats 8000000 in
theorem specEx_good (N K : Nat) (g : Nat → UInt8) (m : Nat → Nat) (f : Nat → Nat → Int) (b : Nat) (w : World) (hs : sqB (N : Int) g = true) (hk1 : 1 ≤ K) (hq : IsSq N g) (hl : loopB (N : Int) g = true) (hNK : N * K ≤ 10) (hG : CoG N K N m f) (hL : SL w b N m f)
    (cb : Bool) (hC : Hid (∀ w', Below w.heap.size w w' → Calls Try.prog 86 #[.int .i64 N, .int .i64 K, .slice (some ⟨b, 0, none⟩) N N] w' fun e w'' => e = .returned (.bool cb) ∧ Below w'.heap.size w' w'')) (hcb : cb = true) :
    Calls Try.prog 46 #[.agg (sqc N g), .int .i64 K, .slice (some ⟨b, 0, none⟩) N N] w fun e w' => e = .returned (.tuple #[.agg (sqc (N * K : Nat) (fillT (N * K) (exV g f K) (N * K) 0)), .int .i64 0]) ∧ Below w.heap.size w w' := by
  have hK : K ≤ 10 := Nat.le_trans (Nat.le_mul_of_pos_left _ hq.lo) hNK
  have h10 := hq.hi
  have hKi : (K : Int) ≤ 10 := by omega
  have hK1i : 1 ≤ (K : Int) := by omega
  have hK0 : ¬ (K : Int) = 0 := by omega
  have hKm : ¬ (K : Int) = -1 := by omega
  have HQ := hid hq
  have HC := hid hG
  have HL := hid hL
  have hb0 : b < w.heap.size := HL.out.lt
  obtain ⟨M, hM⟩ : ∃ M, N * K = M := ⟨_, rfl⟩
  have hMi : (N : Int) * (K : Int) = (M : Int) := by rw [← hM]; simp
  have HNK := hid hNK
  have HM := hid hM
  rw [hM] at hNK ⊢
  have hM10 : (M : Int) ≤ 10 := by omega
  clear hM hq hG hL
  have hH := Has.start2 w (sqc N g) (sqc 0 fun _ => 0) 28 28
  go_enter Try.func46, Try.ntmps46
  go_wp2_with (first | fail | (refine wpL_guard rfl rfl ?_) | (refine wpL_alloc (o := ⟨some 6, _, _, _, _, _⟩) rfl rfl zeroSq ?_; intro g hg; (try simp at hg); subst hg) | (refine wpL_loadFull rfl rfl rfl rowSq hH.h0 (sqc_size _ _) ?_) | (go_at_call 50; refine (l01Is_any _ _ _).mono ?_; rintro e w3 ⟨rfl, hb⟩; rw [hs]; replace hH := hH.call' hb; clear hb; (try clear c0); have c0 := hH.c0 0; rw [sqc_get0] at c0) | (go_at_call 86; refine (hC.out _ hH.below).mono ?_; rintro e w3 ⟨rfl, hb⟩; rw [hcb]; replace hH := hH.call' hb; clear hb; (try clear c0); have c0 := hH.c0 0; rw [sqc_get0] at c0) | (go_at_call 51; refine (l01Loop_any _ _ _).mono ?_; rintro e w3 ⟨rfl, hb⟩; rw [hl]; replace hH := hH.call' hb; clear hb; (try clear c0); have c0 := hH.c0 0; rw [sqc_get0] at c0) | (refine wpL_build1 rfl rfl rfl (builtSqO _) ?_) | (refine wpL_storeN (x := .tmp 8) rfl rfl rfl rfl rowSq hg (sqc_size _ _) (sqc_ok _ _) ?_; intro w5 hz hO hT; replace hg := hz; replace hH := hT _ _ hH hlo; clear hz hO hT) | (refine wpL_allocN (o := ⟨some 8, _, _, _, _, _⟩) rfl rfl zeroSq ?_; intro gq w4 hg hl2 hb; have hlo : w.heap.size + 2 ≤ gq := (by have := hH.size; simp only [List.length_cons, List.length_nil] at this; omega); replace hH := hH.call' hb; clear hb hl2))
  have HLo := hid hlo
  (try clear c0)
  clear hlo hMi
  go_loopw [9] (fun i wr => ∃ x : Nat, x ≤ M ∧ i = .int .i64 x ∧ Has w wr [(sqc N g, 28), (sqc 0 (fun _ => 0), 28)] ∧ holds wr gq (sqc M (fillT M (exV g f K) x 0)) 28) (fun i _ => 10 - (intOf i).toNat)
  case atStart => exact ⟨0, by omega, rfl, hH, by rw [fillT_zero]; exact hg⟩
  case round =>
    clear hH hg
    obtain ⟨x, hxM, rfl, hH, hg⟩ := hrel
    have cM : wr.cell? ⟨gq, 0, none⟩ = some (.int .i64 M) := by rw [holds_cell hg, sqc_get0]
    by_cases hlt : x < M
    · have hlt' : (x : Int) < M := by omega
      go_wp2
      go_loopw [10] (fun i wx => ∃ y : Nat, y ≤ M ∧ i = .int .i64 y ∧ Has w wx [(sqc N g, 28), (sqc 0 (fun _ => 0), 28)] ∧ holds wx gq (sqc M (fillT M (exV g f K) x y)) 28) (fun i _ => 10 - (intOf i).toNat)
      case atStart => exact ⟨0, by omega, rfl, hH, hg⟩
      case round =>
        clear hH hg cM
        obtain ⟨y, hyM, rfl, hH, hg⟩ := hrel
        have cM : wr.cell? ⟨gq, 0, none⟩ = some (.int .i64 M) := by rw [holds_cell hg, sqc_get0]
        by_cases hlt2 : y < M
        · have hlt2' : (y : Int) < M := by omega
          have hx : x < N * K := by rw [HM.out]; exact hlt
          have hy : y < N * K := by rw [HM.out]; exact hlt2
          have hxi : (x : Int) < 10 := by omega
          have hyi : (y : Int) < 10 := by omega
          have hNK := HNK.out
          have hXd := Nat.div_add_mod x K
          have hYd := Nat.div_add_mod y K
          obtain ⟨X1, hX1⟩ : ∃ X1, x / K = X1 := ⟨_, rfl⟩
          obtain ⟨Y1, hY1⟩ : ∃ Y1, y / K = Y1 := ⟨_, rfl⟩
          obtain ⟨X2, hX2⟩ : ∃ X2, x % K = X2 := ⟨_, rfl⟩
          obtain ⟨Y2, hY2⟩ : ∃ Y2, y % K = Y2 := ⟨_, rfl⟩
          have lX1 : X1 < N := by rw [← hX1]; exact Nat.div_lt_of_lt_mul (by rw [Nat.mul_comm]; exact hx)
          have lY1 : Y1 < N := by rw [← hY1]; exact Nat.div_lt_of_lt_mul (by rw [Nat.mul_comm]; exact hy)
          have lX2 : X2 < K := by rw [← hX2]; exact Nat.mod_lt _ (by omega)
          have lY2 : Y2 < K := by rw [← hY2]; exact Nat.mod_lt _ (by omega)
          have iX1 : (x : Int) / (K : Int) = (X1 : Int) := by rw [← hX1]; simp
          have iY1 : (y : Int) / (K : Int) = (Y1 : Int) := by rw [← hY1]; simp
          have tX1 : Int.tdiv (x : Int) (K : Int) = (X1 : Int) := by rw [← hX1]; exact (Int.ofNat_tdiv x K).symm
          have tY1 : Int.tdiv (y : Int) (K : Int) = (Y1 : Int) := by rw [← hY1]; exact (Int.ofNat_tdiv y K).symm
          have iX2 : (x : Int) % (K : Int) = (X2 : Int) := by rw [← hX2]; simp
          have iY2 : (y : Int) % (K : Int) = (Y2 : Int) := by rw [← hY2]; simp
          have tX2 : Int.tmod (x : Int) (K : Int) = (X2 : Int) := by rw [← hX2]; exact (Int.ofNat_tmod x K).symm
          have tY2 : Int.tmod (y : Int) (K : Int) = (Y2 : Int) := by rw [← hY2]; exact (Int.ofNat_tmod y K).symm
          obtain ⟨v, hv⟩ : ∃ v, g (X1 * 10 + Y1) = v := ⟨_, rfl⟩
          have lv : v.toNat < N := by rw [← hv]; exact (HQ.out.rows X1 lX1).lt Y1 lY1
          have hco := (HC.out.2 X1 lX1).2 Y1 lY1
          obtain ⟨F, hF⟩ : ∃ F, (f X1 Y1).toNat = F := ⟨_, rfl⟩
          have hfF : f X1 Y1 = (F : Int) := by omega
          have lF : F < K := by omega
          obtain ⟨S, hS⟩ : ∃ S, X2 + Y2 = S := ⟨_, rfl⟩
          have iS : (X2 : Int) + (Y2 : Int) = (S : Int) := by omega
          obtain ⟨S2, hS2⟩ : ∃ S2, S + F = S2 := ⟨_, rfl⟩
          have iS2 : (S : Int) + (F : Int) = (S2 : Int) := by omega
          obtain ⟨c, hc⟩ : ∃ c, S2 % K = c := ⟨_, rfl⟩
          have lc : c < K := by rw [← hc]; exact Nat.mod_lt _ (by omega)
          have ic : (S2 : Int) % (K : Int) = (c : Int) := by rw [← hc]; simp
          have tc : Int.tmod (S2 : Int) (K : Int) = (c : Int) := by rw [← hc]; exact (Int.ofNat_tmod S2 K).symm
          obtain ⟨KV, hKV⟩ : ∃ KV, K * v.toNat = KV := ⟨_, rfl⟩
          have iKV : (K : Int) * (v.toNat : Int) = (KV : Int) := by rw [← hKV]; simp
          have lKV : KV + K ≤ 10 := by
            have h1 := Nat.mul_le_mul_left K (show v.toNat + 1 ≤ N by omega)
            rw [Nat.mul_add, hKV, Nat.mul_one, Nat.mul_comm K N] at h1
            omega
          obtain ⟨R, hR⟩ := byte_of (KV + c) (by omega)
          have iR : (KV : Int) + (c : Int) = (R.toNat : Int) := by omega
          have HE := hid (show exV g f K x y = R by unfold exV; rw [hX1, hY1, hX2, hY2, hv, hF, hKV, hS, hS2, hc, ← hR]; exact UInt8.ofNat_toNat)
          have HV := hid hv
          have HF := hid hfF
          have b1 : (X1 : Int) < 10 := by omega
          have b2 : (Y1 : Int) < 10 := by omega
          have b3 : (X2 : Int) < 10 := by omega
          have b4 : (Y2 : Int) < 10 := by omega
          have b5 : (F : Int) < 10 := by omega
          have b6 : (S : Int) < 20 := by omega
          have b7 : (S2 : Int) < 30 := by omega
          have b8 : (KV : Int) ≤ 10 := by omega
          have b9 : (R.toNat : Int) < 10 := by omega
          have b10 : (c : Int) < 10 := by omega
          have b11 : (v.toNat : Int) < 10 := by omega
          have bx1 : (X1 : Int) < (N : Int) := by omega
          have by1 : (Y1 : Int) < (N : Int) := by omega
          clear hXd hYd hX1 hY1 hX2 hY2 hv hco hF hfF hS hS2 hc hKV hR
          have hst := hid (fun i (hi : i < 100) => show fillT M (exV g f K) x (y + 1) i = if i = x * 10 + y then R else fillT M (exV g f K) x y i by rw [fillT_step M _ x y (by omega) i, HE.out])
          clear hNK hx hy
          obtain ⟨gr, cg0, rg0⟩ := HL.out.cell lX1
          rw [(HC.out.2 X1 lX1).1] at cg0 rg0
          have HRg := hid rg0
          clear rg0
          go_wp2
          clear cM
          refine wp_region_frame (X := Unit) (fun d _ => [(54, bif d 0 then .int .i64 x else u54), (55, bif d 1 then .int .i64 K else u55), (56, bif d 2 then .int .i64 (X2 : Int) else u56), (57, bif d 3 then .int .i64 y else u57), (58, bif d 4 then .int .i64 K else u58), (59, bif d 5 then .int .i64 (Y2 : Int) else u59), (60, bif d 6 then .int .i64 (S : Int) else u60), (61, bif d 7 then .slice (some ⟨b, 0, none⟩) N N else u61), (62, bif d 8 then .int .i64 x else u62), (63, bif d 9 then .int .i64 K else u63), (64, bif d 10 then .int .i64 (X1 : Int) else u64), (65, bif d 11 then .pointer (some ⟨b, X1, none⟩) else u65), (66, bif d 12 then .slice (some ⟨gr, 0, none⟩) N N else u66), (67, bif d 13 then .int .i64 y else u67), (68, bif d 14 then .int .i64 K else u68), (69, bif d 15 then .int .i64 (Y1 : Int) else u69), (70, bif d 16 then .pointer (some ⟨gr, Y1, none⟩) else u70), (71, bif d 17 then .int .i64 (F : Int) else u71), (72, bif d 18 then .int .i64 (S2 : Int) else u72), (73, bif d 19 then .int .i64 K else u73), (74, bif d 20 then .int .i64 (c : Int) else u74), (11, bif d 21 then .int .i64 (c : Int) else u11)])
            (fun d _ w' => Has w w' [(sqc N g, 28), (sqc 0 (fun _ => 0), 28)] ∧ holds w' gq (sqc M (fillT M (exV g f K) x y)) 28) (by kernel_rfl) (by kernel_rfl) ?h0_sa ?hs_sa ?hq_sa
          case h0_sa => exact ⟨(), (by simp [lput]), hH.drew, (show _ from hg)⟩
          case hs_sa =>
            refine ⟨?_, ?_, ?_, ?_, ?_, ?_, ?_, ?_, ?_, ?_, ?_, ?_, ?_, ?_, ?_, ?_, ?_, ?_, ?_, ?_, ?_, ?_, trivial⟩
            all_goals
              clear hH hg
              intro d _ w1 hd hn hJ
              simp only [needs, Region.binds, reduceCtorEq, Bool.false_eq_true, false_implies, true_and, and_true, true_implies, forall_const] at hn
              simp only [lput, List.set, hn, cond_true]
              obtain ⟨hH, hg⟩ := hJ
              have cg : w1.cell? ⟨b, X1, none⟩ = some (.slice (some ⟨gr, 0, none⟩) N N) := (hH.below.cell (p := ⟨b, X1, none⟩) hb0).trans cg0
              have cr := (HRg.out.below hH.below).cell lY1
              rw [HF.out] at cr
              go_wp2_with (first | fail)
              first
                | (refine ⟨(), ?_, hH, hg⟩; (simp [lput, done, hn]; done))
                | (refine ⟨?_, hH, hg⟩; (simp [lput, done, hn]; done))
                | (refine ⟨(), ?_, hH, hg⟩; (simp [lput, done, hn]; rfl))
                | (refine ⟨?_, hH, hg⟩; (simp [lput, done, hn]; rfl))
                | (refine ⟨(), ?_, hH, hg⟩; (simp [lput, done]; done))
                | (refine ⟨?_, hH, hg⟩; (simp [lput, done]; done))
                | (refine ⟨(), ?_, hH, hg⟩; (simp [lput, done]; rfl))
                | (refine ⟨?_, hH, hg⟩; (simp [lput, done]; rfl))
          case hq_sa =>
            clear hH hg
            intro d _ w1 hd hJ
            simp only [allDone, List.length_cons, List.length_nil, Nat.reduceAdd, and_true] at hd
            obtain ⟨hH, hg⟩ := hJ
            simp only [lput, List.set, hd, cond_true]
            clear hd
            go_wp2
            refine wp_region_frame (X := Unit) (fun d _ => [(75, bif d 0 then .int .i64 x else u75), (76, bif d 1 then .int .i64 y else u76), (77, bif d 2 then .int .i64 K else u77), (78, bif d 3 then .int .i64 x else u78), (79, bif d 4 then .int .i64 K else u79), (80, bif d 5 then .int .i64 (X1 : Int) else u80), (81, bif d 6 then .int .i64 y else u81), (82, bif d 7 then .int .i64 K else u82), (83, bif d 8 then .int .i64 (Y1 : Int) else u83), (84, bif d 9 then .pointer (some ⟨w.heap.size, 1, none⟩) else u84), (85, bif d 10 then .pointer (some ⟨w.heap.size, 1 + X1 * 10, none⟩) else u85), (86, bif d 11 then .pointer (some ⟨w.heap.size, 1 + X1 * 10 + Y1, none⟩) else u86), (87, bif d 12 then .int .u8 v.toNat else u87), (88, bif d 13 then .int .i64 v.toNat else u88), (89, bif d 14 then .int .i64 (KV : Int) else u89), (90, bif d 15 then .int .i64 (c : Int) else u90), (91, bif d 16 then .int .i64 R.toNat else u91), (92, bif d 17 then .int .u8 R.toNat else u92), (93, bif d 18 then .pointer (some ⟨gq, 1, none⟩) else u93), (94, bif d 19 then .pointer (some ⟨gq, 1 + x * 10, none⟩) else u94), (95, bif d 20 then .pointer (some ⟨gq, 1 + x * 10 + y, none⟩) else u95)])
              (fun d _ w' => Has w w' [(sqc N g, 28), (sqc 0 (fun _ => 0), 28)] ∧ holds w' gq (sqc M (bif d 21 then fillT M (exV g f K) x (y + 1) else fillT M (exV g f K) x y)) 28) (by kernel_rfl) (by kernel_rfl) ?h0_sb ?hs_sb ?hq_sb
            case h0_sb => exact ⟨(), (by simp [lput]), hH.drew, (show _ from hg)⟩
            case hs_sb =>
              refine ⟨?_, ?_, ?_, ?_, ?_, ?_, ?_, ?_, ?_, ?_, ?_, ?_, ?_, ?_, ?_, ?_, ?_, ?_, ?_, ?_, ?_, ?_, trivial⟩
              all_goals
                clear hH hg
                intro d _ w1 hd hn hJ
                simp only [needs, Region.binds, reduceCtorEq, Bool.false_eq_true, false_implies, true_and, and_true, true_implies, forall_const] at hn
                simp only [lput, List.set, hn, cond_true]
                try simp only [hd, cond_false] at hJ
                obtain ⟨hH, hg⟩ := hJ
                have c1 : w1.cell? ⟨w.heap.size, 1 + X1 * 10 + Y1, none⟩ = some (.int .u8 v.toNat) := by rw [hH.c0, Nat.add_assoc, sqc_get _ _ _ (by omega), HV.out]
                go_wp2_with (first | fail | (refine wpL_cellN (v := .int .u8 R.toNat) (cs' := sqc M (fillT M (exV g f K) x (y + 1))) (off := 1 + x * 10 + y) rfl rfl rfl rfl (by kernel_rfl) (by rfl) hg (by rw [sqc_size]; omega) (by rw [Nat.add_assoc]; exact sqc_set _ _ _ _ _ hst.out) ?_; intro w4 hz hO hT; replace hH := hT _ _ hH HLo.out; replace hg := hz; clear hz hO hT))
                first
                  | (refine ⟨(), ?_, hH, hg⟩; (simp [lput, done, hn]; done))
                  | (refine ⟨?_, hH, hg⟩; (simp [lput, done, hn]; done))
                  | (refine ⟨(), ?_, hH, hg⟩; (simp [lput, done, hn]; rfl))
                  | (refine ⟨?_, hH, hg⟩; (simp [lput, done, hn]; rfl))
                  | (refine ⟨(), ?_, hH, hg⟩; (simp [lput, done]; done))
                  | (refine ⟨?_, hH, hg⟩; (simp [lput, done]; done))
                  | (refine ⟨(), ?_, hH, hg⟩; (simp [lput, done]; rfl))
                  | (refine ⟨?_, hH, hg⟩; (simp [lput, done]; rfl))
            case hq_sb =>
              clear hH hg
              intro d _ w1 hd hJ
              simp only [allDone, List.length_cons, List.length_nil, Nat.reduceAdd, and_true] at hd
              obtain ⟨hH, hg⟩ := hJ
              simp only [hd, cond_true] at hH hg
              simp only [lput, List.set, hd, cond_true]
              clear hd
              go_wp2
              go_roundw
              case rel => exact ⟨y + 1, by omega, by go_num, hH, hg⟩
              case measure => simp [intOf]; omega
        · obtain rfl : y = M := by omega
          go_wp2
          go_roundw
          case rel => exact ⟨x + 1, by omega, by go_num, hH, by rw [fillT_row]; exact hg⟩
          case measure => simp [intOf]; omega
    · obtain rfl : x = M := by omega
      go_wp2_with (first | fail | (refine wpL_loadFull rfl rfl rfl rowSq hg (sqc_size _ _) ?_) | (refine wpL_storeFull (x := .tmp 6) rfl rfl rfl rfl rowSq hH.h1 (sqc_size _ _) (sqc_ok _ _) ?_))
      exact ret_ct rfl rfl rfl hH.r1.h1 rowSq (sqc_size _ _) ⟨rfl, hH.r1.below⟩
end Go.Proofs.Ytcdlnkjljijlmaa
