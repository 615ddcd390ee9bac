/- Proved: what the laws' helpers on lists of lists of numbers return. Conditions: those that each theorem names. -/
import Derived.Test.YtbhjbllgmenbaaaIl
import Derived.Test.YtbhjbllgmenbaaaReg
namespace Go.Proofs.Ytbhjbllgmenbaaa
set_option linter.unusedVariables false
set_option linter.unusedSimpArgs false
open Go.RowKit
/-- Block bo begins with n slices of L numbers each, in blocks b 0, b 1 .. of their own: the number at i of the one at j is f j i. -/
structure SS (w : World) (bo : Nat) (b : Nat → Nat) (n L : Nat) (f : Nat → Nat → Int) : Prop where
  outer : ∃ cs, holds w bo cs 26 ∧ ∀ j, j < n → ∃ cap, cs[j]? = some (.slice (some ⟨b j, 0, none⟩) L cap)
  inner : ∀ j, j < n → Row w (b j) L (f j)
  ne : ∀ j, j < n → b j ≠ bo
  inj : ∀ i j, i < j → j < n → b i ≠ b j
section
variable {w w' : World} {bo n L : Nat} {b : Nat → Nat} {f f' : Nat → Nat → Int}
theorem SS.lt (h : SS w bo b n L f) : bo < w.heap.size := by
  obtain ⟨cs, h1, _⟩ := h.outer; exact holds_lt h1
theorem SS.cell (h : SS w bo b n L f) {j : Nat} (hj : j < n) : ∃ cap, w.cell? ⟨bo, j, none⟩ = some (.slice (some ⟨b j, 0, none⟩) L cap) := by
  obtain ⟨cs, h1, h2⟩ := h.outer
  obtain ⟨cap, e⟩ := h2 j hj
  exact ⟨cap, by rw [holds_cell h1]; exact e⟩
theorem SS.kept (h : SS w bo b n L f) (e : ∀ k, k < w.heap.size → w'.heap[k]? = w.heap[k]?) : SS w' bo b n L f := by
  obtain ⟨cs, h1, h2⟩ := h.outer
  exact ⟨⟨cs, by show w'.heap[bo]? = _; rw [e bo (holds_lt h1)]; exact h1, h2⟩, fun j hj => (h.inner j hj).block (e _ (h.inner j hj).lt), h.ne, h.inj⟩
theorem SS.below (h : SS w bo b n L f) (hb : Below w.heap.size w w') : SS w' bo b n L f := h.kept hb.block
theorem SS.drew (h : SS w bo b n L f) : SS w.drew bo b n L f := h.kept fun _ _ => rfl
theorem SS.grown (h : SS w bo b n L f) {j : Nat} (hj : j < n) (hg : w.grownBy w' (some (b j))) (hr : Row w' (b j) L (f' j)) (e : ∀ i, i < n → i ≠ j → f' i = f i) : SS w' bo b n L f' := by
  obtain ⟨cs, h1, h2⟩ := h.outer
  refine ⟨⟨cs, by show w'.heap[bo]? = _; rw [hg.block bo (holds_lt h1) (by simp [Ne.symm (h.ne j hj)])]; exact h1, h2⟩, fun i hi => ?_, h.ne, h.inj⟩
  by_cases c : i = j
  · subst c; exact hr
  · rw [e i hi c]
    refine (h.inner i hi).grown hg ?_
    by_cases l : i < j
    · exact h.inj i j l hj
    · exact (h.inj j i (by omega) hi).symm
theorem SS.congr (h : SS w bo b n L f) (e : ∀ j, j < n → f' j = f j) : SS w bo b n L f' := ⟨h.outer, fun j hj => by rw [e j hj]; exact h.inner j hj, h.ne, h.inj⟩
end
set_option maxHeartbeats 2000000 in
theorem eqInt64SS_same (bo1 bo2 n L c1' c2' : Nat) (b1 b2 : Nat → Nat) (f : Nat → Nat → Int) (w : World) (hn : n ≤ 1000) (hL : L ≤ 1000) (h1 : SS w bo1 b1 n L f) (h2 : SS w bo2 b2 n L f) :
    Calls Try.prog 33 #[.slice (some ⟨bo1, 0, none⟩) n c1', .slice (some ⟨bo2, 0, none⟩) n c2'] w fun e w' => e = .returned (.bool true) ∧ Below w.heap.size w w' := by
  go_enter Try.func33, Try.ntmps33
  go_wp2
  go_loopw [5] (fun i wr => ∃ k : Nat, k ≤ n ∧ i = .int .i64 k ∧ Has w wr [] ∧ Hid (SS wr bo1 b1 n L f) ∧ Hid (SS wr bo2 b2 n L f)) (fun i _ => n - (intOf i).toNat)
  case atStart => exact ⟨0, by omega, rfl, Has.nil w, h1, h2⟩
  case round =>
    clear h1 h2
    obtain ⟨k, hk, rfl, hH, h1, h2⟩ := hrel
    by_cases hlt : k < n
    · obtain ⟨p1, c1⟩ := h1.out.cell hlt
      obtain ⟨p2, c2⟩ := h2.out.cell hlt
      have hlt' : (k : Int) < (n : Int) := by omega
      go_wp2
      refine wp_region_frame (X := Unit) (fun d _ => [(17, bif d 0 then .slice (some ⟨bo1, 0, none⟩) n c1' else u17), (18, bif d 1 then .int .i64 k else u18), (19, bif d 2 then .pointer (some ⟨bo1, k, none⟩) else u19), (20, bif d 3 then .slice (some ⟨b1 k, 0, none⟩) L p1 else u20), (21, bif d 4 then .slice (some ⟨bo2, 0, none⟩) n c2' else u21), (22, bif d 5 then .int .i64 k else u22), (23, bif d 6 then .pointer (some ⟨bo2, k, none⟩) else u23), (24, bif d 7 then .slice (some ⟨b2 k, 0, none⟩) L p2 else u24), (25, bif d 8 then .bool true else u25), (26, bif d 9 then .bool false else u26)])
        (fun d _ w' => Has w w' [] ∧ Hid (SS w' bo1 b1 n L f) ∧ Hid (SS w' bo2 b2 n L f) ∧ w'.cell? ⟨bo1, k, none⟩ = some (.slice (some ⟨b1 k, 0, none⟩) L p1) ∧ w'.cell? ⟨bo2, k, none⟩ = some (.slice (some ⟨b2 k, 0, none⟩) L p2)) (by kernel_rfl) (by kernel_rfl) ?h0_eqs ?hs_eqs ?hq_eqs
      case h0_eqs => exact ⟨(), (by simp [lput]), hH.drew, hid h1.out.drew, hid h2.out.drew, (show _ from c1), (show _ from c2)⟩
      case hs_eqs =>
        refine ⟨?_, ?_, ?_, ?_, ?_, ?_, ?_, ?_, ?_, ?_, trivial⟩
        all_goals
          clear hH h1 h2 c1 c2
          intro d _ w1 hd hn hJ
          simp only [needs, Region.binds, reduceCtorEq, Bool.false_eq_true, false_implies, true_and, and_true, true_implies, forall_const] at hn
          simp only [lput, List.set, hn, cond_true]
          obtain ⟨hH, h1, h2, c1, c2⟩ := hJ
          go_wp2_with (first | fail | (go_at_call 20; refine (eqInt64S_same (b1 k) (b2 k) L p1 p2 (f k) _ (by omega) (h1.out.inner k hlt) (h2.out.inner k hlt)).mono ?_; rintro e w2 ⟨rfl, hb⟩; replace hH := hH.call' hb; replace c1 := (hb.cell (p := ⟨bo1, k, none⟩) h1.out.lt).trans c1; replace c2 := (hb.cell (p := ⟨bo2, k, none⟩) h2.out.lt).trans c2; replace h1 := hid (h1.out.below hb); replace h2 := hid (h2.out.below hb); clear hb))
          first
            | (refine ⟨(), ?_, hH, h1, h2, c1, c2⟩; (simp [lput, done, hn]; done))
            | (refine ⟨?_, hH, h1, h2, c1, c2⟩; (simp [lput, done, hn]; done))
            | (refine ⟨(), ?_, hH, h1, h2, c1, c2⟩; (simp [lput, done, hn]; rfl))
            | (refine ⟨?_, hH, h1, h2, c1, c2⟩; (simp [lput, done, hn]; rfl))
            | (refine ⟨(), ?_, hH, h1, h2, c1, c2⟩; (simp [lput, done]; done))
            | (refine ⟨?_, hH, h1, h2, c1, c2⟩; (simp [lput, done]; done))
            | (refine ⟨(), ?_, hH, h1, h2, c1, c2⟩; (simp [lput, done]; rfl))
            | (refine ⟨?_, hH, h1, h2, c1, c2⟩; (simp [lput, done]; rfl))
      case hq_eqs =>
        clear hH h1 h2 c1 c2
        intro d _ w1 hd hJ
        simp only [allDone, List.length_cons, List.length_nil, Nat.reduceAdd, and_true] at hd
        obtain ⟨hH, h1, h2, c1, c2⟩ := hJ
        simp only [lput, List.set, hd, cond_true]
        clear hd
        go_wp2
        go_roundw
        case rel => exact ⟨k + 1, by omega, by go_num, hH, h1, h2⟩
        case measure => simp [intOf]; omega
    · go_wp2
      go_ret
      exact ⟨rfl, hH.below⟩
set_option maxHeartbeats 2000000 in
theorem heldInt64SS_yes (bo n L c : Nat) (b : Nat → Nat) (k : Int) (f : Nat → Nat → Int) (w : World) (hn : n ≤ 1000) (hL : L ≤ 1000) (hk0 : 0 ≤ k) (hk1 : k ≤ 1000000) (h : SS w bo b n L f) (hf : ∀ j, j < n → ∀ i, i < L → f j i = k + ((j * L : Nat) : Int) + i) :
    Calls Try.prog 39 #[.slice (some ⟨bo, 0, none⟩) n c, .int .i64 k] w fun e w' => e = .returned (.int .i64 (k + ((n * L : Nat) : Int))) ∧ w = w' := by
  have HF := hid hf; clear hf
  have hall : ∀ j, j ≤ n → j * L ≤ 1000000 := fun j hj => Nat.le_trans (Nat.mul_le_mul hj hL) (by omega)
  have HA := hid hall; clear hall
  go_enter Try.func39, Try.ntmps39
  go_wp2
  go_loop [1, 5] (fun m i => ∃ j : Nat, j ≤ n ∧ i = .int .i64 j ∧ m = .int .i64 (k + ((j * L : Nat) : Int))) (fun _ i => n - (intOf i).toNat)
  case atStart => exact ⟨0, by omega, rfl, by simp⟩
  case round =>
    obtain ⟨j, hj, rfl, rfl⟩ := hrel
    have ha := HA.out j hj
    obtain ⟨q, hq⟩ : ∃ q, j * L = q := ⟨_, rfl⟩
    have HQ := hid hq
    rw [hq] at ha ⊢
    clear hq
    by_cases hlt : j < n
    · obtain ⟨cap, c1⟩ := h.cell hlt
      have hlt' : (j : Int) < (n : Int) := by omega
      have hq1 : 0 ≤ k + (q : Int) + (L : Int) := by omega
      have hR := hid (h.inner j hlt)
      go_wp2_with (go_at_call 26; refine (heldInt64S_yes (b j) L cap (k + (q : Int)) (f j) _ (by omega) (by omega) (by omega) hR.out (fun i hi => by rw [HF.out j hlt i hi, HQ.out])).mono ?_; rintro e w' ⟨rfl, rfl⟩)
      go_round
      case rel => exact ⟨j + 1, by omega, by go_num, by congr 1; rw [Nat.succ_mul, HQ.out]; omega⟩
      case measure => simp [intOf]; omega
    · obtain rfl : j = n := by omega
      go_wp2
      go_ret
      exact ⟨by rw [← HQ.out]; first | rfl | (simp; done), rfl⟩
set_option maxHeartbeats 2000000 in
theorem markInt64SS_any (bo n L c : Nat) (b : Nat → Nat) (k : Int) (f : Nat → Nat → Int) (w : World) (hn : n ≤ 1000) (hL : L ≤ 1000) (hk0 : 0 ≤ k) (hk1 : k ≤ 1000000) (h : SS w bo b n L f) (B : Nat) (hB : ∀ j, j < n → B ≤ b j) (hS : B ≤ w.heap.size) :
    Calls Try.prog 36 #[.slice (some ⟨bo, 0, none⟩) n c, .int .i64 k] w fun e w' => e = .returned (.int .i64 (k + ((n * L : Nat) : Int))) ∧ Below B w w' ∧ SS w' bo b n L (fun j i => k + ((j * L : Nat) : Int) + i) := by
  have hall : ∀ j, j ≤ n → j * L ≤ 1000000 := fun j hj => Nat.le_trans (Nat.mul_le_mul hj hL) (by omega)
  have HA := hid hall; clear hall
  have HB := hid hB; clear hB
  go_enter Try.func36, Try.ntmps36
  go_wp2
  go_loopw [1, 5] (fun m i wr => ∃ j : Nat, j ≤ n ∧ i = .int .i64 j ∧ m = .int .i64 (k + ((j * L : Nat) : Int)) ∧ Hid (Below B w wr) ∧ Hid (SS wr bo b n L (fun x i => if x < j then k + ((x * L : Nat) : Int) + i else f x i))) (fun _ i _ => n - (intOf i).toNat)
  case atStart => exact ⟨0, by omega, rfl, by simp, Below.refl _ _, h.congr fun j hj => by funext i; simp⟩
  case round =>
    clear h
    obtain ⟨j, hj, rfl, rfl, hG, h⟩ := hrel
    have ha := HA.out j hj
    obtain ⟨q, hq⟩ : ∃ q, j * L = q := ⟨_, rfl⟩
    have HQ := hid hq
    rw [hq] at ha ⊢
    clear hq
    by_cases hlt : j < n
    · obtain ⟨cap, c1⟩ := h.out.cell hlt
      have hlt' : (j : Int) < (n : Int) := by omega
      have hq1 : 0 ≤ k + (q : Int) + (L : Int) := by omega
      have hR := hid (h.out.inner j hlt)
      go_wp2_with (go_at_call 25; refine (markInt64S_any (b j) L cap (k + (q : Int)) _ _ (by omega) (by omega) (by omega) hR.out).mono ?_; rintro e w' ⟨rfl, hg, hr⟩; have HG := hid hg; have HR := hid hr; clear hg hr)
      go_roundw
      case rel => exact ⟨j + 1, by omega, by go_num, by congr 1; rw [Nat.succ_mul, HQ.out]; omega, hid (by
          have g := HG.out
          exact hG.out.trans ⟨g.os, g.tape, g.output, g.size, fun x hx => g.block x (by have := hG.out.size; omega) (by have := HB.out j hlt; simp; omega)⟩), hid (h.out.grown (f' := fun x i => if x < j + 1 then k + ((x * L : Nat) : Int) + i else f x i) hlt HG.out (HR.out.congr fun i hi => by simp [HQ.out]) (fun x hx hne => by funext i; simp [show x < j + 1 ↔ x < j by omega]))⟩
      case measure => simp [intOf]; omega
    · obtain rfl : j = n := by omega
      have HH := hid (h.out.congr (f' := fun x i => k + ((x * L : Nat) : Int) + i) (fun x hx => by funext i; simp [hx]))
      go_wp2
      go_ret
      exact ⟨by rw [← HQ.out]; first | rfl | (simp; done), hG.out, HH.out⟩
end Go.Proofs.Ytbhjbllgmenbaaa
