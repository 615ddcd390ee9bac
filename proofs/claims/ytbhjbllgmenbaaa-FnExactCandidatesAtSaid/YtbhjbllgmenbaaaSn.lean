/- Proved: what the laws' helpers on lists of lists of numbers that come in return. Conditions: those that each theorem names. -/
import Derived.Test.YtbhjbllgmenbaaaSn0
namespace Go.Proofs.Ytbhjbllgmenbaaa
set_option linter.unusedVariables false
set_option linter.unusedSimpArgs false
open Go.RowKit
set_option maxHeartbeats 1000000 in
theorem szInt64S_any (A : Option Addr) (n c : Nat) (L : Int) (w : World) (h0 : 0 ≤ L) (h1 : L ≤ 1048576) (hn : n ≤ maxLen) :
    Calls Try.prog 71 #[.slice A n c, .int .i64 L] w fun e w' => e = .returned (.int .i64 (if L - (n : Int) < 0 then -1 else L - (n : Int))) ∧ Below w.heap.size w w' := by
  have hn' : (n : Int) ≤ 9223372036854775807 := by unfold maxLen at hn; omega
  obtain ⟨D, hD⟩ : ∃ D, L - (n : Int) = D := ⟨_, rfl⟩
  rw [hD]
  have hDl : D ≤ 1048576 := by omega
  have hDg : -9223372036854775807 ≤ D := by omega
  by_cases hl : D < 0
  · rw [if_pos hl]
    go_enter Try.func71, Try.ntmps71
    go_wp2
    go_ret
    exact ⟨rfl, Below.refl _ _⟩
  · rw [if_neg hl]
    go_enter Try.func71, Try.ntmps71
    go_wp2
    go_ret
    exact ⟨rfl, Below.refl _ _⟩
/-- What is left behind k lists, -1 once it is not enough. -/
def szT (m : Nat → Nat) (z : Int) : Nat → Int
  | 0 => z
  | k + 1 => if szT m z k < 0 then -1 else if szT m z k - (m k : Int) < 0 then -1 else szT m z k - (m k : Int)
theorem szT_neg {m : Nat → Nat} {z : Int} {k : Nat} (h : szT m z k = -1) : ∀ n, k ≤ n → szT m z n = -1
  | n, hn => by
    induction n with
    | zero => obtain rfl : k = 0 := by omega
              exact h
    | succ n ih =>
      by_cases q : k = n + 1
      · subst q; exact h
      · have := ih (by omega)
        show (if szT m z n < 0 then (-1 : Int) else _) = -1
        rw [if_pos (by omega)]
theorem szT_le {m : Nat → Nat} {z : Int} (hz : z ≤ 1048576) : ∀ k, szT m z k ≤ 1048576
  | 0 => hz
  | k + 1 => by
    have := szT_le (m := m) hz k
    show (if szT m z k < 0 then (-1 : Int) else _) ≤ _
    split
    · omega
    · split <;> omega
theorem szT_ok {m : Nat → Nat} {z : Int} (hz : z ≤ 1048576) {n : Nat} (h : 0 ≤ szT m z n) : ∀ i, i < n → m i ≤ 1048576 := by
  intro i hi
  by_cases q : m i ≤ 1048576
  · exact q
  · have hle := szT_le (m := m) hz i
    have : szT m z (i + 1) = -1 := by
      show (if szT m z i < 0 then (-1 : Int) else _) = -1
      split
      · rfl
      · rw [if_pos (by omega)]
    have := szT_neg this n (by omega)
    omega
/-- What the count of lists and numbers comes to. -/
def szR (n : Nat) (m : Nat → Nat) : Int := if (1048576 : Int) - (n : Int) < 0 then -1 else szT m ((1048576 : Int) - (n : Int)) n
theorem szR_ok {n : Nat} {m : Nat → Nat} (h : ¬ szR n m < 0) : n ≤ 1048576 ∧ ∀ i, i < n → m i ≤ 1048576 := by
  unfold szR at h
  by_cases q : (1048576 : Int) - (n : Int) < 0
  · rw [if_pos q] at h; omega
  · rw [if_neg q] at h
    exact ⟨by omega, szT_ok (by omega) (Int.not_lt.1 h)⟩
set_option maxHeartbeats 1000000 in
theorem szInt64SS_any (v : Value) (n : Nat) (m : Nat → Nat) (f : Nat → Nat → Int) (w : World) (hI : SIn w v n m f) (hn : n ≤ maxLen) (hm : ∀ i, i < n → m i ≤ maxLen) :
    Calls Try.prog 29 #[v, .int .i64 1048576] w fun e w' => e = .returned (.int .i64 (szR n m)) ∧ Below w.heap.size w w' := by
  obtain ⟨A, cap, rfl⟩ := hI.form
  have HI := hid hI
  have HM := hid hm
  clear hI hm
  have hn' : (n : Int) ≤ 9223372036854775807 := by unfold maxLen at hn; omega
  obtain ⟨D, hD⟩ : ∃ D, (1048576 : Int) - (n : Int) = D := ⟨_, rfl⟩
  have hDl : D ≤ 1048576 := by omega
  have hDg : -9223372036854775807 ≤ D := by omega
  by_cases hl : D < 0
  · have HR := hid (show szR n m = -1 by unfold szR; rw [hD, if_pos hl])
    rw [HR.out]
    go_enter Try.func29, Try.ntmps29
    go_wp2
    go_ret
    exact ⟨rfl, Below.refl _ _⟩
  · have HR := hid (show szR n m = szT m D n by unfold szR; rw [hD, if_neg hl])
    rw [HR.out]
    obtain ⟨R, hR⟩ : ∃ R, szT m D n = R := ⟨_, rfl⟩
    have HRR := hid hR
    rw [hR]
    clear HR hR
    go_enter Try.func29, Try.ntmps29
    go_wp2
    go_loopw [1, 5] (fun l i wr => ∃ (k : Nat) (z : Int), k ≤ n ∧ i = .int .i64 k ∧ l = .int .i64 z ∧ 0 ≤ z ∧ z ≤ 1048576 ∧ Has w wr [] ∧ Hid (szT m D k = z)) (fun _ i _ => n - (intOf i).toNat)
    case atStart => exact ⟨0, D, by omega, rfl, by first | rfl | (rw [← hD]), by omega, by omega, Has.nil w, hid rfl⟩
    case round =>
      clear hD hDl hDg hl
      obtain ⟨k, z, hk, rfl, rfl, hz0, hz1, hH, hB⟩ := hrel
      by_cases hlt : k < n
      · obtain ⟨a, B, c, rfl, ca0, hN⟩ := HI.out.cell hlt
        have hmk := HM.out k hlt
        have ca : wr.cell? (a.add k) = some (.slice B (m k) c) := (hH.below.cell (World.block_lt_of_cell? w _ ca0)).trans ca0
        clear ca0
        have hlt' : (k : Int) < (n : Int) := by omega
        obtain ⟨E, hE⟩ : ∃ E, (if z - (m k : Int) < 0 then -1 else z - (m k : Int)) = E := ⟨_, rfl⟩
        have hEl : E ≤ 1048576 := by rw [← hE]; split <;> omega
        have hS : szT m D (k + 1) = E := by
          show (if szT m D k < 0 then (-1 : Int) else _) = E
          rw [hB.out, if_neg (by omega)]; exact hE
        by_cases he : E < 0
        · have hm1 : E = -1 := by rw [← hE] at he ⊢; split <;> first | rfl | (rename_i q; rw [if_neg q] at he; omega)
          have HV := hid (show R = -1 by rw [← HRR.out]; exact szT_neg (hS.trans hm1) n (by omega))
          have HE := hid hE
          clear hE hS hm1
          go_wp2_with (first | fail | (go_at_call 71; refine (szInt64S_any B (m k) c z _ hz0 hz1 hmk).mono ?_; rintro e w3 ⟨rfl, hb⟩; rw [HE.out]; replace hH := hH.call' hb; clear hb))
          go_ret
          exact ⟨by rw [HV.out]; rfl, hH.below⟩
        · have HS := hid hS
          have HE := hid hE
          clear hE hB hS
          go_wp2_with (first | fail | (go_at_call 71; refine (szInt64S_any B (m k) c z _ hz0 hz1 hmk).mono ?_; rintro e w3 ⟨rfl, hb⟩; rw [HE.out]; replace hH := hH.call' hb; clear hb))
          go_roundw
          case rel => exact ⟨k + 1, E, by omega, by go_num, rfl, by omega, by omega, hH, HS⟩
          case measure => simp [intOf]; omega
      · obtain rfl : k = n := by omega
        have HV := hid (show R = z by rw [← HRR.out]; exact hB.out)
        go_wp2
        go_ret
        exact ⟨by rw [HV.out]; rfl, hH.below⟩
set_option maxHeartbeats 1000000 in
theorem toInt64SS_any (v : Value) (n : Nat) (m : Nat → Nat) (f : Nat → Nat → Int) (w : World) (hI : SIn w v n m f) (hn : n ≤ 1048576) (hm : ∀ i, i < n → m i ≤ 1048576) :
    Calls Try.prog 31 #[v] w (GotS n m f w) := by
  obtain ⟨A, cap, rfl⟩ := hI.form
  have HI := hid hI
  have HM := hid hm
  clear hI hm
  go_enter Try.func31, Try.ntmps31
  go_wp2_with (refine wpL_makeSN m f (n := n) rfl (by rfl) (by rfl) (by rfl) hn ?_; intro w2 hp hb)
  go_loopw [4] (fun i wr => ∃ k : Nat, k ≤ n ∧ i = .int .i64 k ∧ Below w.heap.size w wr ∧ w.heap.size ≤ wr.heap.size ∧ Hid (SPart wr w.heap.size n k m f)) (fun i _ => n - (intOf i).toNat)
  case atStart => exact ⟨0, by omega, rfl, hb, hb.size, hp⟩
  case round =>
    clear hb hp
    obtain ⟨k, hk, rfl, hB, hS, hP⟩ := hrel
    by_cases hlt : k < n
    · obtain ⟨a, B, c, rfl, ca0, hN0⟩ := HI.out.cell hlt
      have hmk := HM.out k hlt
      have ca : wr.cell? (a.add k) = some (.slice B (m k) c) := (hB.cell (World.block_lt_of_cell? w _ ca0)).trans ca0
      have HN := hid (hN0.below hB)
      have hbl := hP.out.lt
      clear ca0 hN0
      have hlt' : (k : Int) < (n : Int) := by omega
      go_wp2_with (first | fail | (go_at_call 17; refine (toInt64S_any _ (m k) (f k) _ HN.out hmk).mono ?_; intro e w3 hg; obtain ⟨b0, rfl, hb, H0, hlo0⟩ := hg.size; clear hg ca; replace hP := hid (hP.out.below hb); have hS2 := hb.size; replace hB := hB.trans (hb.mono hS); obtain ⟨vb, cb⟩ := hP.out.has hlt; have fb := hP.out.frozen k; have hP2 := hid (hP.out.step hlt H0.out (by omega)); clear hb))
      go_roundw
      case rel => exact ⟨k + 1, by omega, by go_num, hB.setCell (by simp) _, by simp [World.setCell]; omega, hP2⟩
      case measure => simp [intOf]; omega
    · obtain rfl : k = n := by omega
      go_wp2
      go_ret
      exact ⟨_, rfl, hB, hP, Nat.le_refl _⟩
set_option maxHeartbeats 2000000 in
theorem eqInt64SS_sl (b1 b2 n c1 c2 : Nat) (m : Nat → Nat) (f : Nat → Nat → Int) (w : World) (hn : n ≤ 1048576) (hm : ∀ i, i < n → m i ≤ 1048576) (h1 : SL w b1 n m f) (h2 : SL w b2 n m f) :
    Calls Try.prog 33 #[.slice (some ⟨b1, 0, none⟩) n c1, .slice (some ⟨b2, 0, none⟩) n c2] w fun e w' => e = .returned (.bool true) ∧ Below w.heap.size w w' := by
  have HM := hid hm
  clear hm
  go_enter Try.func33, Try.ntmps33
  go_wp2
  go_loopw [5] (fun i wr => ∃ k : Nat, k ≤ n ∧ i = .int .i64 k ∧ Has w wr [] ∧ Hid (SL wr b1 n m f) ∧ Hid (SL wr b2 n m f)) (fun i _ => n - (intOf i).toNat)
  case atStart => exact ⟨0, by omega, rfl, Has.nil w, h1, h2⟩
  case round =>
    clear h1 h2
    obtain ⟨k, hk, rfl, hH, h1, h2⟩ := hrel
    by_cases hlt : k < n
    · obtain ⟨g1, k1, r1⟩ := h1.out.cell hlt
      obtain ⟨g2, k2, r2⟩ := h2.out.cell hlt
      have R1 := hid r1
      have R2 := hid r2
      have hmk := HM.out k hlt
      clear r1 r2
      have hlt' : (k : Int) < (n : Int) := by omega
      go_wp2
      refine wp_region_frame (X := Unit) (fun d _ => [(17, bif d 0 then .slice (some ⟨b1, 0, none⟩) n c1 else u17), (18, bif d 1 then .int .i64 k else u18), (19, bif d 2 then .pointer (some ⟨b1, k, none⟩) else u19), (20, bif d 3 then .slice (some ⟨g1, 0, none⟩) (m k) (m k) else u20), (21, bif d 4 then .slice (some ⟨b2, 0, none⟩) n c2 else u21), (22, bif d 5 then .int .i64 k else u22), (23, bif d 6 then .pointer (some ⟨b2, k, none⟩) else u23), (24, bif d 7 then .slice (some ⟨g2, 0, none⟩) (m k) (m k) else u24), (25, bif d 8 then .bool true else u25), (26, bif d 9 then .bool false else u26)])
        (fun d _ w' => Has w w' [] ∧ Hid (SL w' b1 n m f) ∧ Hid (SL w' b2 n m f) ∧ Hid (Row w' g1 (m k) (f k)) ∧ Hid (Row w' g2 (m k) (f k)) ∧ w'.cell? ⟨b1, k, none⟩ = some (.slice (some ⟨g1, 0, none⟩) (m k) (m k)) ∧ w'.cell? ⟨b2, k, none⟩ = some (.slice (some ⟨g2, 0, none⟩) (m k) (m k))) (by kernel_rfl) (by kernel_rfl) ?h0_eqs ?hs_eqs ?hq_eqs
      case h0_eqs => exact ⟨(), (by simp [lput]), hH.drew, hid h1.out.drew, hid h2.out.drew, hid (R1.out.block rfl), hid (R2.out.block rfl), (show _ from k1), (show _ from k2)⟩
      case hs_eqs =>
        refine ⟨?_, ?_, ?_, ?_, ?_, ?_, ?_, ?_, ?_, ?_, trivial⟩
        all_goals
          clear hH h1 h2 R1 R2 k1 k2
          intro d _ w1 hd hn hJ
          simp only [needs, Region.binds, reduceCtorEq, Bool.false_eq_true, false_implies, true_and, and_true, true_implies, forall_const] at hn
          simp only [lput, List.set, hn, cond_true]
          obtain ⟨hH, h1, h2, R1, R2, k1, k2⟩ := hJ
          go_wp2_with (first | fail | (go_at_call 20; refine (eqInt64S_same g1 g2 (m k) (m k) (m k) (f k) _ hmk R1.out R2.out).mono ?_; rintro e w2 ⟨rfl, hb⟩; replace hH := hH.call' hb; replace k1 := (hb.cell (p := ⟨b1, k, none⟩) h1.out.lt).trans k1; replace k2 := (hb.cell (p := ⟨b2, k, none⟩) h2.out.lt).trans k2; replace h1 := hid (h1.out.below hb); replace h2 := hid (h2.out.below hb); replace R1 := hid (R1.out.below hb); replace R2 := hid (R2.out.below hb); clear hb))
          first
            | (refine ⟨(), ?_, hH, h1, h2, R1, R2, k1, k2⟩; (simp [lput, done, hn]; done))
            | (refine ⟨?_, hH, h1, h2, R1, R2, k1, k2⟩; (simp [lput, done, hn]; done))
            | (refine ⟨(), ?_, hH, h1, h2, R1, R2, k1, k2⟩; (simp [lput, done, hn]; rfl))
            | (refine ⟨?_, hH, h1, h2, R1, R2, k1, k2⟩; (simp [lput, done, hn]; rfl))
            | (refine ⟨(), ?_, hH, h1, h2, R1, R2, k1, k2⟩; (simp [lput, done]; done))
            | (refine ⟨?_, hH, h1, h2, R1, R2, k1, k2⟩; (simp [lput, done]; done))
            | (refine ⟨(), ?_, hH, h1, h2, R1, R2, k1, k2⟩; (simp [lput, done]; rfl))
            | (refine ⟨?_, hH, h1, h2, R1, R2, k1, k2⟩; (simp [lput, done]; rfl))
      case hq_eqs =>
        clear hH h1 h2 R1 R2 k1 k2
        intro d _ w1 hd hJ
        simp only [allDone, List.length_cons, List.length_nil, Nat.reduceAdd, and_true] at hd
        obtain ⟨hH, h1, h2, R1, R2, k1, k2⟩ := hJ
        simp only [lput, List.set, hd, cond_true]
        clear hd
        go_wp2
        go_roundw
        case rel => exact ⟨k + 1, by omega, by go_num, hH, h1, h2⟩
        case measure => simp [intOf]; omega
    · go_wp2
      go_ret
      exact ⟨rfl, hH.below⟩
end Go.Proofs.Ytbhjbllgmenbaaa
