/- Proved: what the model's l09Candidate and l09Candidates return. Conditions: those that each theorem names. -/
import Derived.Test.YtbhjbllgmenbaaaBo4
import Derived.Test.YtbhjbllgmenbaaaSel
namespace Go.Proofs.Ytbhjbllgmenbaaa
set_option linter.unusedVariables false
set_option linter.unusedSimpArgs false
open Go.RowKit
/-- z stands neither in row i nor in column j. -/
noncomputable def cndB (n : Nat) (f : Nat → Nat → Int) (i j z : Nat) : Bool := @decide (∀ k, k < n → f i k ≠ (z : Int) ∧ f k j ≠ (z : Int)) (Classical.propDecidable _)
theorem cndB_yes {n : Nat} {f : Nat → Nat → Int} {i j z : Nat} (h : ∀ k, k < n → f i k ≠ (z : Int) ∧ f k j ≠ (z : Int)) : cndB n f i j z = true := @decide_eq_true _ (Classical.propDecidable _) h
theorem cndB_no {n : Nat} {f : Nat → Nat → Int} {i j z : Nat} (h : ¬ ∀ k, k < n → f i k ≠ (z : Int) ∧ f k j ≠ (z : Int)) : cndB n f i j z = false := @decide_eq_false _ (Classical.propDecidable _) h
theorem cndB_iff {n : Nat} {f : Nat → Nat → Int} {i j z : Nat} : cndB n f i j z = true ↔ ∀ k, k < n → f i k ≠ (z : Int) ∧ f k j ≠ (z : Int) := @decide_eq_true_iff _ (Classical.propDecidable _)
set_option maxRecDepth 20000 in
set_option maxHeartbeats 4000000 in
theorem l09Candidate_any (b n i j z : Nat) (m : Nat → Nat) (f : Nat → Nat → Int) (w : World) (h10 : n ≤ 10) (hm : ∀ x, x < n → m x = n) (hi : i < n) (hj : j < n) (hL : SL w b n m f) :
    Calls Try.prog 110 #[.slice (some ⟨b, 0, none⟩) n n, .int .i64 i, .int .i64 j, .int .i64 z] w fun e w' => e = .returned (.bool (cndB n f i j z)) ∧ Below w.heap.size w w' := by
  have HMN := hid hm
  clear hm
  have hH := Has.nil w
  have hL' := hid hL
  clear hL
  have hi1 : (i : Int) < n := by omega
  have hj1 : (j : Int) < n := by omega
  go_enter Try.func110, Try.ntmps110
  go_wp2
  go_loopw [9] (fun kv wr => ∃ k : Nat, k ≤ n ∧ kv = .int .i64 k ∧ Has w wr [] ∧ Hid (SL wr b n m f) ∧ Hid (∀ k', k' < k → f i k' ≠ (z : Int) ∧ f k' j ≠ (z : Int))) (fun kv _ => 20 - (intOf kv).toNat)
  case atStart => exact ⟨0, by omega, rfl, hH, hL', hid (fun k' h => by omega)⟩
  case round =>
    clear hH hL'
    obtain ⟨k, hk, rfl, hH, hL, hC⟩ := hrel
    by_cases hkl : k < n
    · have hk1 : (k : Int) < n := by omega
      obtain ⟨gi, ci, hri⟩ := hL.out.cell hi
      obtain ⟨gk, ck, hrk⟩ := hL.out.cell hkl
      rw [HMN.out i hi] at ci hri
      rw [HMN.out k hkl] at ck hrk
      have r1 := hri.cell hkl
      have r2 := hrk.cell hj
      obtain ⟨a, ha⟩ : ∃ a, f i k = a := ⟨_, rfl⟩
      obtain ⟨p, hp⟩ : ∃ p, f k j = p := ⟨_, rfl⟩
      rw [ha] at r1
      rw [hp] at r2
      have HA := hid ha
      have HP := hid hp
      clear ha hp hri hrk
      by_cases haz : a = (z : Int)
      · have haz2 : (a == (z : Int)) = true := by simpa using haz
        have HV := hid (cndB_no (n := n) (f := f) (i := i) (j := j) (z := z) (fun q => (q k hkl).1 (by rw [HA.out]; exact haz)))
        clear haz
        go_wp2
        go_ret
        exact ⟨by first | (rw [HV.out]; done) | (rw [HV.out]; rfl), hH.below⟩
      · have haz2 : (a == (z : Int)) = false := by simpa using haz
        by_cases hpz : p = (z : Int)
        · have hpz2 : (p == (z : Int)) = true := by simpa using hpz
          have HV := hid (cndB_no (n := n) (f := f) (i := i) (j := j) (z := z) (fun q => (q k hkl).2 (by rw [HP.out]; exact hpz)))
          clear hpz haz
          go_wp2
          go_ret
          exact ⟨by first | (rw [HV.out]; done) | (rw [HV.out]; rfl), hH.below⟩
        · have hpz2 : (p == (z : Int)) = false := by simpa using hpz
          have HOK := hid (show f i k ≠ (z : Int) ∧ f k j ≠ (z : Int) from ⟨by rw [HA.out]; exact haz, by rw [HP.out]; exact hpz⟩)
          clear hpz haz
          go_wp2
          go_roundw
          case rel => exact ⟨k + 1, by omega, by go_num, hH, hL, hid (fun k' hk' => by
            by_cases e : k' = k
            · subst e; exact HOK.out
            · exact hC.out k' (by omega))⟩
          case measure => simp [intOf]; omega
    · obtain rfl : k = n := by omega
      have HV := hid (cndB_yes hC.out)
      go_wp2
      go_ret
      exact ⟨by first | (rw [HV.out]; done) | (rw [HV.out]; rfl), hH.below⟩
theorem SU.grownV {w w' : World} {b n B : Nat} {r : Option Nat} {m : Nat → Nat} {f : Nat → Nat → Int} (h : SU w b n m f B) (hg : w.grownBy w' r) (hx : ∀ x, r = some x → B ≤ x) : SU w' b n m f B := by
  obtain ⟨h0, cs, h1, h2, h3⟩ := h
  refine ⟨h0, cs, (hg.block b (holds_lt h1) (fun q => by have := hx b q.symm; omega)).trans h1, h2, fun i hi => ?_⟩
  obtain ⟨g, hg1, hr, hl, hgB⟩ := h3 i hi
  exact ⟨g, hg1, hr.block (hg.block g hr.lt (fun q => by have := hx g q.symm; omega)), hl, hgB⟩
set_option maxRecDepth 20000 in
set_option maxHeartbeats 4000000 in
theorem l09Candidates_any (b n i j : Nat) (m : Nat → Nat) (f : Nat → Nat → Int) (w : World) (h10 : n ≤ 10) (hm : ∀ x, x < n → m x = n) (hi : i < n) (hj : j < n) (hL : SL w b n m f) :
    Calls Try.prog 74 #[.slice (some ⟨b, 0, none⟩) n n, .int .i64 i, .int .i64 j] w (GotV (selL (cndB n f i j) n) w) := by
  have HMN := hid hm
  clear hm
  have hH := Has.nil w
  have hL' := hid ((hL.bound (B := w.heap.size) (Nat.le_refl _)).alloc' (.cells #[] 2))
  clear hL
  go_enter Try.func74, Try.ntmps74
  go_wp2
  go_loopw [7, 8] (fun v kv wr => ∃ k : Nat, k ≤ n ∧ kv = .int .i64 k ∧ Has w wr [] ∧ Hid (SU wr b n m f w.heap.size) ∧ Hid (OL wr w.heap.size v (selL (cndB n f i j) k)) ∧ w.heap.size ≤ wr.heap.size) (fun _ kv _ => 20 - (intOf kv).toNat)
  case atStart => exact ⟨0, by omega, rfl, hH.alloc _, hL', hid (by rw [show selL (cndB n f i j) 0 = [] from rfl]; exact OL.fresh _ (by simp) (by simp)), by simp⟩
  case round =>
    clear hH hL'
    obtain ⟨k, hk, rfl, hH, hL, hO, hsz⟩ := hrel
    have hlen := selL_len (cndB n f i j) k
    by_cases hkl : k < n
    · have hk1 : (k : Int) < n := by omega
      cases he : cndB n f i j k with
      | true =>
        have HC := hid (fun w1 h => l09Candidate_any b n i j k m f w1 h10 HMN.out hi hj h)
        have HE := hid he
        rw [he] at HC
        clear he
        go_wp2_with (first | fail | (go_at_call 110; refine (HC.out _ hL.out.sl).mono ?_; rintro e w3 ⟨rfl, hb⟩; have hs3 := hb.size; replace hH := hH.call' hb; replace hO := hid (hO.out.below hb); replace hL := hid (hL.out.below hb); clear hb) | (refine wpL_appI (v := u7) (n := (selL (cndB n f i j) k).length) (base := w.heap.size) (z := (k : Int)) rfl (by rfl) (by rfl) (by rfl) (World.ownsRow.alloc hO.out _) (by simp) (by omega) (by simp; omega) ?_; intro r cap w2 how hg hor hlt3; have hO2 := hid (OL.add how); have hL2 := hid (SU.grownV (hL.out.alloc' _) hg (fun x hx => (World.ownsRow.lt hO.out x hx).1)); have hs2 := hg.size; replace hH := (hH.alloc _).grown hg (fun x hx => by have := (World.ownsRow.lt hO.out x hx).1; simp; omega); rw [← selL_yes HE.out] at hO2; clear how hg hor hlt3))
        go_roundw
        case rel => exact ⟨k + 1, by omega, by go_num, hH, hL2, hO2, by simp at hs2; omega⟩
        case measure => simp [intOf]; omega
      | false =>
        have HC := hid (fun w1 h => l09Candidate_any b n i j k m f w1 h10 HMN.out hi hj h)
        have HE := hid he
        rw [he] at HC
        clear he
        go_wp2_with (first | fail | (go_at_call 110; refine (HC.out _ hL.out.sl).mono ?_; rintro e w3 ⟨rfl, hb⟩; have hs3 := hb.size; replace hH := hH.call' hb; replace hO := hid (hO.out.below hb); replace hL := hid (hL.out.below hb); clear hb))
        go_roundw
        case rel => exact ⟨k + 1, by omega, by go_num, hH, hL, by rw [selL_no HE.out]; exact hO, by omega⟩
        case measure => simp [intOf]; omega
    · obtain rfl : k = n := by omega
      go_wp2
      go_ret
      exact ⟨_, rfl, hH.below, hO.out⟩
end Go.Proofs.Ytbhjbllgmenbaaa
