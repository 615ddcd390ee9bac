/- Proved: lemmas on lists of lists of numbers, each list as long as it is, and what the laws' helpers return for them. Conditions: those that each theorem names. -/
import Derived.Test.YtbhjbllgmenbaaaSel
import Derived.Test.YtbhjbllgmenbaaaReg
import Derived.Test.YtbhjbllgmenbaaaIl5
namespace Go.Proofs.Ytbhjbllgmenbaaa
set_option linter.unusedVariables false
set_option linter.unusedSimpArgs false
open Go.RowKit
/-- How many numbers the lists before j have. -/
def offF (l : Nat → List Int) : Nat → Nat
  | 0 => 0
  | j + 1 => offF l j + (l j).length
theorem offF_le {l : Nat → List Int} {n : Nat} (h : ∀ j, j < n → (l j).length ≤ 1000) : ∀ j, j ≤ n → offF l j ≤ j * 1000
  | 0, _ => by simp [offF]
  | j + 1, hj => by have := offF_le h j (by omega); have := h j (by omega); simp only [offF]; omega
theorem IL.form {w : World} {lo hi : Nat} {v : Value} {l : List Int} (h : IL w lo hi v l) : ∃ a c, v = .slice a l.length c := by
  rcases h with ⟨rfl, rfl⟩ | ⟨g, cap, e, _⟩
  · exact ⟨none, 0, rfl⟩
  · exact ⟨_, cap, e⟩
theorem IL.kept {w w' : World} {lo hi : Nat} {v : Value} {l : List Int} (h : IL w lo hi v l) (e : ∀ b, lo ≤ b → b < hi → b < w.heap.size → w'.heap[b]? = w.heap[b]?) : IL w' lo hi v l := by
  rcases h with h | ⟨g, cap, ev, h1, h2, h3⟩
  · exact .inl h
  · exact .inr ⟨g, cap, ev, h1, h2, h3.block (e g h1 h2 h3.lt)⟩
theorem IL.upper {w : World} {lo hi hi' : Nat} {v : Value} {l : List Int} (h : IL w lo hi v l) (hl : hi ≤ hi') : IL w lo hi' v l := by
  rcases h with h | ⟨g, cap, e, h1, h2, h3⟩
  · exact .inl h
  · exact .inr ⟨g, cap, e, h1, by omega, h3⟩
/-- Blocks outside lo .. hi are left alone. -/
structure Outs (lo hi : Nat) (w w' : World) : Prop where
  os : w'.os = w.os
  tape : w'.tape = w.tape
  output : w'.output = w.output
  size : w.heap.size ≤ w'.heap.size
  block : ∀ k, k < w.heap.size → (k < lo ∨ hi ≤ k) → w'.heap[k]? = w.heap[k]?
theorem markOut {w : World} {lo hi : Nat} {v : Value} {l : List Int} {k : Int} (h : IL w lo hi v l) (hn : l.length ≤ 1048576) (hk0 : 0 ≤ k) (hk1 : k ≤ 1000000000) :
    Calls Try.prog 25 #[v, .int .i64 k] w fun e w' => e = .returned (.int .i64 (k + l.length)) ∧ Outs lo hi w w' ∧ IL w' lo hi v (marks l k) := by
  rcases h with ⟨rfl, rfl⟩ | ⟨g, cap, rfl, h1, h2, h3⟩
  · refine (markInt64S_zero none 0 k w).mono ?_
    rintro e w' ⟨rfl, rfl⟩
    exact ⟨by simp, ⟨rfl, rfl, rfl, Nat.le_refl _, fun _ _ _ => rfl⟩, .inl ⟨rfl, rfl⟩⟩
  · refine (markInt64S_any g _ cap k _ w hn hk0 hk1 h3).mono ?_
    rintro e w' ⟨rfl, hg, hr⟩
    refine ⟨rfl, ⟨hg.os, hg.tape, hg.output, hg.size, fun x hx hxo => hg.block x (by omega) (by simp; omega)⟩, .inr ⟨g, cap, by rw [marks_length], h1, h2, ?_⟩⟩
    rw [marks_length]
    exact hr.congr fun i hi => marks_get l k hi
/-- Block bo begins with n lists: X j is the list l j of numbers, in a block between p j and q j. -/
structure LLn (w : World) (lo hi bo n : Nat) (X : Nat → Value) (p q : Nat → Nat) (l : Nat → List Int) : Prop where
  outer : ∃ cs, holds w bo cs 26 ∧ ∀ j, j < n → cs[j]? = some (X j)
  inner : ∀ j, j < n → IL w (p j) (q j) (X j) (l j)
  away : ∀ j, j < n → bo < p j ∨ q j ≤ bo
  sep : ∀ i j, i < j → j < n → q i ≤ p j
  plo : ∀ j, j < n → lo ≤ p j
  qhi : ∀ j, j < n → q j ≤ hi
  blo : lo ≤ bo
  bhi : bo < hi
section
variable {w w' : World} {lo hi bo n : Nat} {X : Nat → Value} {p q : Nat → Nat} {l l' : Nat → List Int}
theorem LLn.lt (h : LLn w lo hi bo n X p q l) : bo < w.heap.size := by
  obtain ⟨cs, h1, _⟩ := h.outer; exact holds_lt h1
theorem LLn.cell (h : LLn w lo hi bo n X p q l) {j : Nat} (hj : j < n) : ∃ a c, w.cell? ⟨bo, j, none⟩ = some (.slice a (l j).length c) ∧ X j = .slice a (l j).length c := by
  obtain ⟨cs, h1, h2⟩ := h.outer
  obtain ⟨a, c, e⟩ := (h.inner j hj).form
  exact ⟨a, c, by rw [holds_cell h1, h2 j hj, e], e⟩
theorem LLn.kept (h : LLn w lo hi bo n X p q l) (e : ∀ k, lo ≤ k → k < hi → k < w.heap.size → w'.heap[k]? = w.heap[k]?) : LLn w' lo hi bo n X p q l := by
  obtain ⟨cs, h1, h2⟩ := h.outer
  refine ⟨⟨cs, by show w'.heap[bo]? = _; rw [e bo h.blo h.bhi (holds_lt h1)]; exact h1, h2⟩, fun j hj => (h.inner j hj).kept fun b h3 h4 h5 => e b ?_ ?_ h5, h.away, h.sep, h.plo, h.qhi, h.blo, h.bhi⟩
  · have := h.plo j hj; omega
  · have := h.qhi j hj; omega
theorem LLn.below (h : LLn w lo hi bo n X p q l) (hb : Below w.heap.size w w') : LLn w' lo hi bo n X p q l := h.kept fun k _ _ hk => hb.block k hk
theorem LLn.under {B : Nat} (h : LLn w lo hi bo n X p q l) (hb : Below B w w') (hB : hi ≤ B) : LLn w' lo hi bo n X p q l := h.kept fun k _ h2 _ => hb.block k (by omega)
theorem LLn.drew (h : LLn w lo hi bo n X p q l) : LLn w.drew lo hi bo n X p q l := h.kept fun _ _ _ _ => rfl
theorem LLn.congr (h : LLn w lo hi bo n X p q l) (e : ∀ j, j < n → l' j = l j) : LLn w lo hi bo n X p q l' := ⟨h.outer, fun j hj => by rw [e j hj]; exact h.inner j hj, h.away, h.sep, h.plo, h.qhi, h.blo, h.bhi⟩
theorem LLn.step (h : LLn w lo hi bo n X p q l) {j : Nat} (hj : j < n) (ho : Outs (p j) (q j) w w') (hr : IL w' (p j) (q j) (X j) (l' j)) (e : ∀ i, i < n → i ≠ j → l' i = l i) : LLn w' lo hi bo n X p q l' := by
  obtain ⟨cs, h1, h2⟩ := h.outer
  refine ⟨⟨cs, by show w'.heap[bo]? = _; rw [ho.block bo (holds_lt h1) (h.away j hj)]; exact h1, h2⟩, fun i hi => ?_, h.away, h.sep, h.plo, h.qhi, h.blo, h.bhi⟩
  by_cases c : i = j
  · subst c; exact hr
  · rw [e i hi c]
    refine (h.inner i hi).kept fun b h3 h4 h5 => ho.block b h5 ?_
    by_cases d : i < j
    · have := h.sep i j d hj; omega
    · have := h.sep j i (by omega) hi; omega
end
set_option maxHeartbeats 2000000 in
theorem eqLLn (bo1 bo2 n d1 d2 lo1 hi1 lo2 hi2 : Nat) (X1 X2 : Nat → Value) (p1 q1 p2 q2 : Nat → Nat) (l : Nat → List Int) (w : World) (hn : n ≤ 1000) (hL : ∀ j, j < n → (l j).length ≤ 1000) (h1 : LLn w lo1 hi1 bo1 n X1 p1 q1 l) (h2 : LLn w lo2 hi2 bo2 n X2 p2 q2 l) :
    Calls Try.prog 33 #[.slice (some ⟨bo1, 0, none⟩) n d1, .slice (some ⟨bo2, 0, none⟩) n d2] w fun e w' => e = .returned (.bool true) ∧ Below w.heap.size w w' := by
  have HLn := hid hL
  clear hL
  go_enter Try.func33, Try.ntmps33
  go_wp2
  go_loopw [5] (fun i wr => ∃ k : Nat, k ≤ n ∧ i = .int .i64 k ∧ Has w wr [] ∧ Hid (LLn wr lo1 hi1 bo1 n X1 p1 q1 l) ∧ Hid (LLn wr lo2 hi2 bo2 n X2 p2 q2 l)) (fun i _ => n - (intOf i).toNat)
  case atStart => exact ⟨0, by omega, rfl, Has.nil w, h1, h2⟩
  case round =>
    clear h1 h2
    obtain ⟨k, hk, rfl, hH, h1, h2⟩ := hrel
    by_cases hlt : k < n
    · obtain ⟨a1, e1, c1, x1⟩ := h1.out.cell hlt
      obtain ⟨a2, e2, c2, x2⟩ := h2.out.cell hlt
      have HM1 := hid x1
      have HM2 := hid x2
      clear x1 x2
      have hm := HLn.out k hlt
      obtain ⟨m, hme⟩ : ∃ m, (l k).length = m := ⟨_, rfl⟩
      have HME := hid hme
      rw [hme] at c1 c2 HM1 HM2 hm
      clear hme
      have hlt' : (k : Int) < (n : Int) := by omega
      go_wp2
      refine wp_region_frame (X := Unit) (fun d _ => [(17, bif d 0 then .slice (some ⟨bo1, 0, none⟩) n d1 else u17), (18, bif d 1 then .int .i64 k else u18), (19, bif d 2 then .pointer (some ⟨bo1, k, none⟩) else u19), (20, bif d 3 then .slice a1 m e1 else u20), (21, bif d 4 then .slice (some ⟨bo2, 0, none⟩) n d2 else u21), (22, bif d 5 then .int .i64 k else u22), (23, bif d 6 then .pointer (some ⟨bo2, k, none⟩) else u23), (24, bif d 7 then .slice a2 m e2 else u24), (25, bif d 8 then .bool true else u25), (26, bif d 9 then .bool false else u26)])
        (fun d _ w' => Has w w' [] ∧ Hid (LLn w' lo1 hi1 bo1 n X1 p1 q1 l) ∧ Hid (LLn w' lo2 hi2 bo2 n X2 p2 q2 l) ∧ w'.cell? ⟨bo1, k, none⟩ = some (.slice a1 m e1) ∧ w'.cell? ⟨bo2, k, none⟩ = some (.slice a2 m e2)) (by kernel_rfl) (by kernel_rfl) ?h0_eqs ?hs_eqs ?hq_eqs
      case h0_eqs => exact ⟨(), (by simp [lput]), hH.drew, hid h1.out.drew, hid h2.out.drew, (show _ from c1), (show _ from c2)⟩
      case hs_eqs =>
        refine ⟨?_, ?_, ?_, ?_, ?_, ?_, ?_, ?_, ?_, ?_, trivial⟩
        all_goals
          clear hH h1 h2 c1 c2
          intro d _ w1 hd hn hJ
          simp only [needs, Region.binds, reduceCtorEq, Bool.false_eq_true, false_implies, true_and, and_true, true_implies, forall_const] at hn
          simp only [lput, List.set, hn, cond_true]
          obtain ⟨hH, h1, h2, c1, c2⟩ := hJ
          go_wp2_with (first | fail | (go_at_call 20; refine (eqIL (by have := h1.out.inner k hlt; rw [HM1.out] at this; exact this) (by have := h2.out.inner k hlt; rw [HM2.out] at this; exact this) (by rw [HME.out]; omega)).mono ?_; rintro e w2 ⟨rfl, hb⟩; replace hH := hH.call' hb; replace c1 := (hb.cell (p := ⟨bo1, k, none⟩) h1.out.lt).trans c1; replace c2 := (hb.cell (p := ⟨bo2, k, none⟩) h2.out.lt).trans c2; replace h1 := hid (h1.out.below hb); replace h2 := hid (h2.out.below hb); clear hb))
          first
            | (refine ⟨(), ?_, hH, h1, h2, c1, c2⟩; (simp [lput, done, hn]; done))
            | (refine ⟨?_, hH, h1, h2, c1, c2⟩; (simp [lput, done, hn]; done))
            | (refine ⟨(), ?_, hH, h1, h2, c1, c2⟩; (simp [lput, done, hn]; rfl))
            | (refine ⟨?_, hH, h1, h2, c1, c2⟩; (simp [lput, done, hn]; rfl))
            | (refine ⟨(), ?_, hH, h1, h2, c1, c2⟩; (simp [lput, done]; done))
            | (refine ⟨?_, hH, h1, h2, c1, c2⟩; (simp [lput, done]; done))
            | (refine ⟨(), ?_, hH, h1, h2, c1, c2⟩; (simp [lput, done]; rfl))
            | (refine ⟨?_, hH, h1, h2, c1, c2⟩; (simp [lput, done]; rfl))
      case hq_eqs =>
        clear hH h1 h2 c1 c2
        intro d _ w1 hd hJ
        simp only [allDone, List.length_cons, List.length_nil, Nat.reduceAdd, and_true] at hd
        obtain ⟨hH, h1, h2, c1, c2⟩ := hJ
        simp only [lput, List.set, hd, cond_true]
        clear hd
        go_wp2
        go_roundw
        case rel => exact ⟨k + 1, by omega, by go_num, hH, h1, h2⟩
        case measure => simp [intOf]; omega
    · go_wp2
      go_ret
      exact ⟨rfl, hH.below⟩
/-- What the lists read when their numbers have been replaced by k, k + 1, .. -/
def marksF (l : Nat → List Int) (k : Int) : Nat → List Int := fun j => marks (l j) (k + (offF l j : Nat))
set_option maxHeartbeats 2000000 in
theorem heldLLn (bo n c lo hi : Nat) (X : Nat → Value) (p q : Nat → Nat) (k : Int) (l : Nat → List Int) (w : World) (hn : n ≤ 1000) (hL : ∀ j, j < n → (l j).length ≤ 1000) (hk0 : 0 ≤ k) (hk1 : k ≤ 1000000) (h : LLn w lo hi bo n X p q (marksF l k)) :
    Calls Try.prog 39 #[.slice (some ⟨bo, 0, none⟩) n c, .int .i64 k] w fun e w' => e = .returned (.int .i64 (k + (offF l n : Nat))) ∧ w = w' := by
  have HA := hid (offF_le hL)
  have HLn := hid hL
  have HO0 := hid (show offF l 0 = 0 from rfl)
  clear hL
  go_enter Try.func39, Try.ntmps39
  go_wp2
  go_loop [1, 5] (fun m i => ∃ j : Nat, j ≤ n ∧ i = .int .i64 j ∧ m = .int .i64 (k + ((offF l j : Nat) : Int))) (fun _ i => n - (intOf i).toNat)
  case atStart => exact ⟨0, by omega, rfl, by rw [HO0.out]; simp⟩
  case round =>
    obtain ⟨j, hj, rfl, rfl⟩ := hrel
    have ha := HA.out j hj
    obtain ⟨o, ho⟩ : ∃ o, offF l j = o := ⟨_, rfl⟩
    have HQ := hid ho
    rw [ho] at ha ⊢
    clear ho
    by_cases hlt : j < n
    · obtain ⟨a1, e1, c1, x1⟩ := h.cell hlt
      have hR := h.inner j hlt
      have hm := HLn.out j hlt
      obtain ⟨m, hme⟩ : ∃ m, (l j).length = m := ⟨_, rfl⟩
      have hml : (marksF l k j).length = m := by unfold marksF; rw [marks_length, hme]
      rw [hml] at c1 x1
      rw [x1] at hR
      unfold marksF at hR
      rw [HQ.out] at hR
      have HR := hid hR
      have HME := hid hme
      rw [hme] at hm
      clear hR x1 hme hml
      have hlt' : (j : Int) < (n : Int) := by omega
      have hq1 : 0 ≤ k + (o : Int) + (m : Int) := by omega
      have HOS := hid (show offF l (j + 1) = o + m by simp only [offF]; rw [HQ.out, HME.out])
      have HC : Hid (Calls Try.prog 26 #[.slice a1 m e1, .int .i64 (k + (o : Int))] w fun e w' => e = .returned (.int .i64 (k + (o : Int) + (m : Int))) ∧ w = w') := hid (by
        have := heldIL (k := k + (o : Int)) HR.out (by rw [HME.out]; omega) (by omega) (by omega)
        rw [HME.out] at this; exact this)
      go_wp2_with (go_at_call 26; refine HC.out.mono ?_; rintro e w' ⟨rfl, rfl⟩)
      go_round
      case rel => exact ⟨j + 1, by omega, by go_num, by congr 1; rw [HOS.out]; omega⟩
      case measure => simp [intOf]; omega
    · obtain rfl : j = n := by omega
      go_wp2
      go_ret
      exact ⟨by rw [← HQ.out]; first | rfl | (simp; done), rfl⟩
set_option maxHeartbeats 2000000 in
theorem markLLn (bo n c lo hi : Nat) (X : Nat → Value) (p q : Nat → Nat) (k : Int) (l : Nat → List Int) (w : World) (hn : n ≤ 1000) (hL : ∀ j, j < n → (l j).length ≤ 1000) (hk0 : 0 ≤ k) (hk1 : k ≤ 1000000) (h : LLn w lo hi bo n X p q l) (hS : lo ≤ w.heap.size) :
    Calls Try.prog 36 #[.slice (some ⟨bo, 0, none⟩) n c, .int .i64 k] w fun e w' => e = .returned (.int .i64 (k + (offF l n : Nat))) ∧ Below lo w w' ∧ LLn w' lo hi bo n X p q (marksF l k) := by
  have HA := hid (offF_le hL)
  have HLn := hid hL
  have HO0 := hid (show offF l 0 = 0 from rfl)
  clear hL
  go_enter Try.func36, Try.ntmps36
  go_wp2
  go_loopw [1, 5] (fun m i wr => ∃ j : Nat, j ≤ n ∧ i = .int .i64 j ∧ m = .int .i64 (k + ((offF l j : Nat) : Int)) ∧ Hid (Below lo w wr) ∧ Hid (LLn wr lo hi bo n X p q (fun x => if x < j then marksF l k x else l x))) (fun _ i _ => n - (intOf i).toNat)
  case atStart => exact ⟨0, by omega, rfl, by rw [HO0.out]; simp, Below.refl _ _, h.congr fun j hj => by simp⟩
  case round =>
    clear h
    obtain ⟨j, hj, rfl, rfl, hG, h⟩ := hrel
    have ha := HA.out j hj
    obtain ⟨o, ho⟩ : ∃ o, offF l j = o := ⟨_, rfl⟩
    have HQ := hid ho
    rw [ho] at ha ⊢
    clear ho
    by_cases hlt : j < n
    · obtain ⟨a1, e1, c1, x1⟩ := h.out.cell hlt
      have hR := h.out.inner j hlt
      have hm := HLn.out j hlt
      obtain ⟨m, hme⟩ : ∃ m, (l j).length = m := ⟨_, rfl⟩
      simp only [Nat.lt_irrefl, if_false] at hR c1 x1
      rw [hme] at c1 x1 hm
      have HX := hid x1
      rw [x1] at hR
      have HR := hid hR
      have HME := hid hme
      clear hR x1 hme
      have hlt' : (j : Int) < (n : Int) := by omega
      have hq1 : 0 ≤ k + (o : Int) + (m : Int) := by omega
      have HOS := hid (show offF l (j + 1) = o + m by simp only [offF]; rw [HQ.out, HME.out])
      have HC : Hid (Calls Try.prog 25 #[.slice a1 m e1, .int .i64 (k + (o : Int))] wr fun e w' => e = .returned (.int .i64 (k + (o : Int) + (m : Int))) ∧ Outs (p j) (q j) wr w' ∧ IL w' (p j) (q j) (.slice a1 m e1) (marks (l j) (k + (o : Int)))) := hid (by
        have := markOut (k := k + (o : Int)) HR.out (by rw [HME.out]; omega) (by omega) (by omega)
        rw [HME.out] at this; exact this)
      go_wp2_with (go_at_call 25; refine HC.out.mono ?_; rintro e w' ⟨rfl, hg, hr⟩; have HG := hid hg; have HI := hid hr; clear hg hr)
      go_roundw
      case rel => exact ⟨j + 1, by omega, by go_num, by congr 1; rw [HOS.out]; omega, hid (by
          have g := HG.out
          exact hG.out.trans ⟨g.os, g.tape, g.output, g.size, fun x hx => g.block x (by have := hG.out.size; omega) (by have := h.out.plo j hlt; omega)⟩), hid (h.out.step (l' := fun x => if x < j + 1 then marksF l k x else l x) hlt HG.out (by
            have := HI.out
            rw [if_pos (by omega), HX.out]
            unfold marksF
            rw [HQ.out]; exact this) (fun x hx hne => by simp [show x < j + 1 ↔ x < j by omega]))⟩
      case measure => simp [intOf]; omega
    · obtain rfl : j = n := by omega
      have HH := hid (h.out.congr (l' := marksF l k) (fun x hx => by simp [hx]))
      go_wp2
      go_ret
      exact ⟨by rw [← HQ.out]; first | rfl | (simp; done), hG.out, HH.out⟩
/-- v is the list of the n lists l: no block, or blocks between lo and hi. -/
def LL (w : World) (lo hi : Nat) (v : Value) (n : Nat) (l : Nat → List Int) : Prop :=
  (v = .slice none 0 0 ∧ n = 0) ∨ ∃ bo c X p q, v = .slice (some ⟨bo, 0, none⟩) n c ∧ LLn w lo hi bo n X p q l
theorem LL.below {w w' : World} {lo hi B n : Nat} {v : Value} {l : Nat → List Int} (h : LL w lo hi v n l) (hb : Below B w w') (hB : hi ≤ B) : LL w' lo hi v n l := by
  rcases h with h | ⟨bo, c, X, p, q, e, h⟩
  · exact .inl h
  · exact .inr ⟨bo, c, X, p, q, e, h.under hb hB⟩
theorem eqInt64SS_none (w : World) (p q : Option Addr) (c d : Nat) : Calls Try.prog 33 #[.slice p 0 c, .slice q 0 d] w fun e w' => e = .returned (.bool true) ∧ Below w.heap.size w w' := by
  go_enter Try.func33, Try.ntmps33
  go_wp2
  go_loopw [5] (fun i wr => i = .int .i64 0 ∧ Below w.heap.size w wr) (fun _ _ => 0)
  case atStart => exact ⟨rfl, Below.refl _ _⟩
  case round =>
    obtain ⟨rfl, hB⟩ := hrel
    go_wp2
    go_ret
    exact ⟨rfl, hB⟩
theorem markInt64SS_none (w : World) (p : Option Addr) (c : Nat) (k : Int) : Calls Try.prog 36 #[.slice p 0 c, .int .i64 k] w fun e w' => e = .returned (.int .i64 k) ∧ w = w' := by
  go_enter Try.func36, Try.ntmps36
  go_wp2
  go_loop [1, 5] (fun m i => m = .int .i64 k ∧ i = .int .i64 0) (fun _ _ => 0)
  case atStart => exact ⟨rfl, rfl⟩
  case round =>
    obtain ⟨rfl, rfl⟩ := hrel
    go_wp2
    go_ret
    exact ⟨rfl, rfl⟩
theorem heldInt64SS_none (w : World) (p : Option Addr) (c : Nat) (k : Int) : Calls Try.prog 39 #[.slice p 0 c, .int .i64 k] w fun e w' => e = .returned (.int .i64 k) ∧ w = w' := by
  go_enter Try.func39, Try.ntmps39
  go_wp2
  go_loop [1, 5] (fun m i => m = .int .i64 k ∧ i = .int .i64 0) (fun _ _ => 0)
  case atStart => exact ⟨rfl, rfl⟩
  case round =>
    obtain ⟨rfl, rfl⟩ := hrel
    go_wp2
    go_ret
    exact ⟨rfl, rfl⟩
theorem eqLL {w : World} {lo hi lo' hi' n : Nat} {v v' : Value} {l : Nat → List Int} (h : LL w lo hi v n l) (h' : LL w lo' hi' v' n l) (hn : n ≤ 1000) (hL : ∀ j, j < n → (l j).length ≤ 1000) :
    Calls Try.prog 33 #[v, v'] w fun e w' => e = .returned (.bool true) ∧ Below w.heap.size w w' := by
  rcases h with ⟨rfl, rfl⟩ | ⟨bo, c, X, p, q, rfl, h⟩
  · rcases h' with ⟨rfl, _⟩ | ⟨bo', c', X', p', q', rfl, h'⟩
    · exact eqInt64SS_none _ _ _ _ _
    · exact eqInt64SS_none _ _ _ _ _
  · rcases h' with ⟨rfl, rfl⟩ | ⟨bo', c', X', p', q', rfl, h'⟩
    · exact eqInt64SS_none _ _ _ _ _
    · exact eqLLn bo bo' n c c' lo hi lo' hi' X X' p q p' q' l w hn hL h h'
theorem markLL {w : World} {lo hi n : Nat} {v : Value} {l : Nat → List Int} {k : Int} (h : LL w lo hi v n l) (hn : n ≤ 1000) (hL : ∀ j, j < n → (l j).length ≤ 1000) (hk0 : 0 ≤ k) (hk1 : k ≤ 1000000) (hlo : lo ≤ w.heap.size) :
    Calls Try.prog 36 #[v, .int .i64 k] w fun e w' => e = .returned (.int .i64 (k + (offF l n : Nat))) ∧ Below lo w w' ∧ LL w' lo hi v n (marksF l k) := by
  rcases h with ⟨rfl, rfl⟩ | ⟨bo, c, X, p, q, rfl, h⟩
  · refine (markInt64SS_none w none 0 k).mono ?_
    rintro e w' ⟨rfl, rfl⟩
    exact ⟨by simp [offF], Below.refl _ _, .inl ⟨rfl, rfl⟩⟩
  · refine (markLLn bo n c lo hi X p q k l w hn hL hk0 hk1 h hlo).mono ?_
    rintro e w' ⟨rfl, hb, h2⟩
    exact ⟨rfl, hb, .inr ⟨bo, c, X, p, q, rfl, h2⟩⟩
theorem heldLL {w : World} {lo hi n : Nat} {v : Value} {l : Nat → List Int} {k : Int} (h : LL w lo hi v n (marksF l k)) (hn : n ≤ 1000) (hL : ∀ j, j < n → (l j).length ≤ 1000) (hk0 : 0 ≤ k) (hk1 : k ≤ 1000000) :
    Calls Try.prog 39 #[v, .int .i64 k] w fun e w' => e = .returned (.int .i64 (k + (offF l n : Nat))) ∧ w = w' := by
  rcases h with ⟨rfl, rfl⟩ | ⟨bo, c, X, p, q, rfl, h⟩
  · refine (heldInt64SS_none w none 0 k).mono ?_
    rintro e w' ⟨rfl, rfl⟩
    exact ⟨by simp [offF], rfl⟩
  · exact heldLLn bo n c lo hi X p q k l w hn hL hk0 hk1 h
/-- What a function hands back that makes a list of lists, and a code. -/
def GotLL (n : Nat) (l : Nat → List Int) (z : Int) (w : World) (e : Ending) (w' : World) : Prop :=
  ∃ v, e = .returned (.tuple #[v, .int .i64 z]) ∧ Below w.heap.size w w' ∧ LL w' w.heap.size w'.heap.size v n l
theorem GotLL.err {z : Int} {l : Nat → List Int} {w w' : World} {e : Ending} (h : e = .returned (.tuple #[.slice none 0 0, .int .i64 z]) ∧ Below w.heap.size w w') : GotLL 0 l z w e w' := ⟨_, h.1, h.2, .inl ⟨rfl, rfl⟩⟩
/-- A list of lists that is being made behind B: the cells xs of v are the lists l. -/
structure LPx (w : World) (B : Nat) (v : Value) (n : Nat) (xs : List Value) (X : Nat → Value) (p q : Nat → Nat) (l : Nat → List Int) : Prop where
  own : w.ownsRow B 26 1 v n xs
  len : xs.length = n
  at' : ∀ j, j < n → xs[j]? = some (X j)
  inner : ∀ j, j < n → IL w (p j) (q j) (X j) (l j)
  away : ∀ b, v.ownBlock = some b → ∀ j, j < n → b < p j ∨ q j ≤ b
  sep : ∀ i j, i < j → j < n → q i ≤ p j
  lo : ∀ j, j < n → B ≤ p j
  hi : ∀ j, j < n → q j ≤ w.heap.size
def LP (w : World) (B : Nat) (v : Value) (n : Nat) (l : Nat → List Int) : Prop := ∃ xs X p q, LPx w B v n xs X p q l
section
variable {w w' w1 w2 : World} {B n : Nat} {v : Value} {xs : List Value} {X : Nat → Value} {p q : Nat → Nat} {l : Nat → List Int}
theorem LPx.kept (h : LPx w B v n xs X p q l) (hs : w.heap.size ≤ w'.heap.size) (e : ∀ k, k < w.heap.size → w'.heap[k]? = w.heap[k]?) : LPx w' B v n xs X p q l :=
  ⟨own_kept h.own e, h.len, h.at', fun j hj => (h.inner j hj).kept fun b _ _ hb => e b hb, h.away, h.sep, h.lo, fun j hj => Nat.le_trans (h.hi j hj) hs⟩
theorem LP.below (h : LP w B v n l) (hb : Below w.heap.size w w') : LP w' B v n l := by
  obtain ⟨xs, X, p, q, h⟩ := h
  exact ⟨xs, X, p, q, h.kept hb.size hb.block⟩
theorem LP.drew (h : LP w B v n l) : LP w.drew B v n l := by
  obtain ⟨xs, X, p, q, h⟩ := h
  exact ⟨xs, X, p, q, h.kept (Nat.le_refl _) fun _ _ => rfl⟩
theorem LP.alloc (h : LP w B v n l) (o : Obj) : LP (w.alloc o) B v n l := by
  obtain ⟨xs, X, p, q, h⟩ := h
  exact ⟨xs, X, p, q, h.kept (by simp) fun k hk => heap_alloc_old w o hk⟩
theorem LP.start (h : w.ownsRow B 26 1 v 0 []) : LP w B v 0 l :=
  ⟨[], fun _ => v, fun _ => 0, fun _ => 0, h, rfl, fun j hj => by omega, fun j hj => by omega, fun b _ j hj => by omega, fun i j _ hj => by omega, fun j hj => by omega, fun j hj => by omega⟩
theorem LP.nil (w : World) (B : Nat) (l : Nat → List Int) : LP w B (.slice none 0 0) 0 l := LP.start (World.ownsRow_nil _ _ _ _)
/-- The first list, built with the block of the lists. -/
theorem LP.one {x : Value} {lo hi : Nat} (hx : IL w lo hi x (l 0)) (hlo : B ≤ lo) (hhi : hi ≤ w.heap.size) (hB : B ≤ w.heap.size) : LP (w.alloc (.cells #[x] 26)) B (.slice (some ⟨w.heap.size, 0, none⟩) 1 1) 1 l := by
  refine ⟨[x], fun _ => x, fun _ => lo, fun _ => hi, ⟨rfl, .inr ⟨w.heap.size, 1, #[x], rfl, hB, heap_alloc_new w _, by omega, by unfold maxLen; omega, rfl, rfl⟩⟩, rfl, fun j hj => ?_, fun j hj => ?_, fun b hb j hj => ?_, fun i j hi hj => by omega, fun j hj => hlo, fun j hj => ?_⟩
  · obtain rfl : j = 0 := by omega
    rfl
  · obtain rfl : j = 0 := by omega
    exact hx.kept fun b _ _ hb => heap_alloc_old w _ hb
  · have : w.heap.size = b := by simpa [Value.ownBlock] using hb
    right; omega
  · simp; omega
/-- One list more. -/
theorem LPx.push' {x : Value} {g2 cap2 : Nat} {o : Obj} (h : LPx w B v n xs X p q l) (hB : B ≤ w.heap.size) (hb : Below w.heap.size w w1) (hr : IL w1 w.heap.size w1.heap.size x (l n))
    (how : w2.ownsRow B 26 1 (.slice (some ⟨g2, 0, none⟩) (n + 1) cap2) (n + 1) (xs ++ [x]))
    (hgr : (w1.alloc o).grownBy w2 v.ownBlock) (hor : v.ownBlock = some g2 ∨ g2 = (w1.alloc o).heap.size) : LPx w2 B (.slice (some ⟨g2, 0, none⟩) (n + 1) cap2) (n + 1) (xs ++ [x]) (fun j => if j = n then x else X j) (fun j => if j = n then w.heap.size else p j) (fun j => if j = n then w1.heap.size else q j) l := by
  have hlt := h.own.lt
  have hs := hb.size
  have hsz : (w1.alloc o).heap.size = w1.heap.size + 1 := by simp
  have hs2 := hgr.size
  refine ⟨how, by simp [h.len], fun j hj => ?_, fun j hj => ?_, fun b hbe j hj => ?_, fun i j hij hj => ?_, fun j hj => ?_, fun j hj => ?_⟩
  · by_cases e : j = n
    · subst e; simp [h.len]
    · simp only [if_neg e]; rw [List.getElem?_append_left (by have := h.len; omega)]; exact h.at' j (by omega)
  · by_cases e : j = n
    · subst e
      simp only [if_pos]
      refine hr.kept fun b h1 h2 h3 => ?_
      rw [hgr.block b (by omega) (fun e => by have := (hlt b e.symm).2; omega)]
      exact heap_alloc_old w1 o h3
    · simp only [if_neg e]
      refine (h.inner j (by omega)).kept fun b h1 h2 h3 => ?_
      rw [hgr.block b (by omega) (fun e => by have := h.away b e.symm j (by omega); omega), heap_alloc_old w1 o (by omega)]
      exact hb.block b h3
  · obtain rfl : g2 = b := by simpa [Value.ownBlock] using hbe
    by_cases e : j = n
    · simp only [if_pos e]
      rcases hor with e2 | e2
      · have := (hlt g2 e2).2; omega
      · omega
    · simp only [if_neg e]
      rcases hor with e2 | e2
      · exact h.away g2 e2 j (by omega)
      · have := h.hi j (by omega); omega
  · by_cases e : j = n
    · simp only [if_pos e, if_neg (show i ≠ n by omega)]; exact h.hi i (by omega)
    · simp only [if_neg e, if_neg (show i ≠ n by omega)]; exact h.sep i j hij (by omega)
  · by_cases e : j = n
    · simp only [if_pos e]; exact hB
    · simp only [if_neg e]; exact h.lo j (by omega)
  · by_cases e : j = n
    · simp only [if_pos e]; omega
    · simp only [if_neg e]; have := h.hi j (by omega); omega
theorem LPx.push {x : Value} {g2 cap2 : Nat} {o : Obj} (h : LPx w B v n xs X p q l) (hB : B ≤ w.heap.size) (hb : Below w.heap.size w w1) (hr : IL w1 w.heap.size w1.heap.size x (l n))
    (how : w2.ownsRow B 26 1 (.slice (some ⟨g2, 0, none⟩) (n + 1) cap2) (n + 1) (xs ++ [x]))
    (hgr : (w1.alloc o).grownBy w2 v.ownBlock) (hor : v.ownBlock = some g2 ∨ g2 = (w1.alloc o).heap.size) : LP w2 B (.slice (some ⟨g2, 0, none⟩) (n + 1) cap2) (n + 1) l := ⟨_, _, _, _, h.push' hB hb hr how hgr hor⟩
theorem LP.done (h : LP w B v n l) : LL w B w.heap.size v n l := by
  obtain ⟨xs, X, p, q, h⟩ := h
  rcases h.own.2 with ⟨h1, h0⟩ | ⟨g, cap, cur, rfl, hb, hg, hc, _, hs, hx⟩
  · exact .inl ⟨h1, h0⟩
  · refine .inr ⟨g, cap, X, p, q, rfl, ⟨cur, hg, fun j hj => ?_⟩, h.inner, fun j hj => h.away g rfl j hj, h.sep, h.lo, h.hi, hb, (Array.getElem?_eq_some_iff.1 hg).1⟩
    have e := h.at' j hj
    rw [← hx, List.getElem?_take, if_pos (by omega)] at e
    simpa using e
theorem LP.lower {B' : Nat} (h : LP w B v n l) (hb : B' ≤ B) : LP w B' v n l := by
  obtain ⟨xs, X, p, q, h⟩ := h
  refine ⟨xs, X, p, q, ⟨h.own.1, ?_⟩, h.len, h.at', h.inner, h.away, h.sep, fun j hj => by have := h.lo j hj; omega, h.hi⟩
  rcases h.own.2 with h2 | ⟨g, cap, cur, e, hB, hr⟩
  · exact .inl h2
  · exact .inr ⟨g, cap, cur, e, by omega, hr⟩
theorem LP.got (h : LP w' B v n l) (hb : Below w.heap.size w w') (hB : w.heap.size ≤ B) : GotLL n l 0 w (.returned (.tuple #[v, .int .i64 0])) w' := ⟨v, rfl, hb, (h.lower hB).done⟩
theorem LP.congr {l' : Nat → List Int} (h : LP w B v n l) (e : ∀ j, j < n → l' j = l j) : LP w B v n l' := by
  obtain ⟨xs, X, p, q, h⟩ := h
  exact ⟨xs, X, p, q, h.own, h.len, h.at', fun j hj => by rw [e j hj]; exact h.inner j hj, h.away, h.sep, h.lo, h.hi⟩
end
/-- What a function hands back that makes a list of lists alone. -/
def GotLP (n : Nat) (l : Nat → List Int) (w : World) (e : Ending) (w' : World) : Prop := ∃ v, e = .returned v ∧ Below w.heap.size w w' ∧ LP w' w.heap.size v n l
end Go.Proofs.Ytbhjbllgmenbaaa
