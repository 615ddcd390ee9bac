/- Proved: the laws FnExactUpperSeries and FnExactClassOf return true, and old memory is left alone. Conditions: those that each theorem names. -/
import Derived.Test.YtpfhjbcmlebejabIl3
import Derived.Test.YtpfhjbcmlebejabSq3b
import Derived.Test.YtpfhjbcmlebejabSq5
import Derived.Test.YtpfhjbcmlebejabSel
import Derived.Test.YtpfhjbcmlebejabReg
import Derived.Test.YtpfhjbcmlebejabUn0
import Derived.Test.YtpfhjbcmlebejabMl
import Derived.Test.YtpfhjbcmlebejabDx
import Derived.Great.Walk
import Derived.Test.YtpfhjbcmlebejabSb1
import Derived.IntWalk
import Derived.Test.YtpfhjbcmlebejabTo2
namespace Go.Proofs.Ytpfhjbcmlebejab
set_option linter.unusedVariables false
set_option linter.unusedSimpArgs false
open Go.RowKit
/-- The state at the head of a round: k lists have been made. -/
structure Mid (w wr : World) (N k : Nat) (g : Nat → UInt8) (v : Value) : Prop where
  has : Has w wr [(sqc N g, 30)]
  ps : ∃ b, PS wr (w.heap.size + 1) v k N (fun x y => ((g (x * 10 + y)).toNat : Int)) b
/-- The state at the head of an inner round: j numbers of the next list have been put into row; ws is the world at the outer round's head. -/
structure Sub (w ws wr : World) (N k j : Nat) (g : Nat → UInt8) (row : Value) : Prop where
  has : Has w wr [(sqc N g, 30)]
  bel : Below ws.heap.size ws wr
  own : wr.ownsRow ws.heap.size 2 1 row j (ints j fun y => ((g (k * 10 + y)).toNat : Int))
theorem Sub.next {w ws wr w' : World} {N k j : Nat} {g : Nat → UInt8} {row : Value} {o : Obj} {r cap : Nat} (h : Sub w ws wr N k j g row) (hw : w.heap.size + 1 ≤ ws.heap.size)
    (how : w'.ownsRow ws.heap.size 2 1 (.slice (some ⟨r, 0, none⟩) (j + 1) cap) (j + 1) (ints j (fun y => ((g (k * 10 + y)).toNat : Int)) ++ [.int .i64 (g (k * 10 + j)).toNat])) (hg : (wr.alloc o).grownBy w' row.ownBlock) :
    Sub w ws w' N k (j + 1) g (.slice (some ⟨r, 0, none⟩) (j + 1) cap) :=
  ⟨(h.has.alloc o).grown hg (fun x hx => by have := (h.own.lt x hx).1; simp; omega),
   Below.grown (h.bel.alloc h.bel.size o) hg (fun x hx => (h.own.lt x hx).1) (Nat.le_refl _),
   by rw [← ints_succ]; exact how⟩
theorem Mid.next {w ws wr w' : World} {N k : Nat} {g : Nat → UInt8} {v row : Value} {o : Obj} {r cap g2 cap2 : Nat} {xs : List Value} (hM : Mid w ws N k g v) (h : Sub w ws wr N k N g row) (hN : 0 < N) (hrow : row = .slice (some ⟨r, 0, none⟩) N cap)
    {b : Nat → Nat} (hp : PS ws (w.heap.size + 1) v k N (fun x y => ((g (x * 10 + y)).toNat : Int)) b) (hx : ∀ j, j < k → ∃ cap, xs[j]? = some (.slice (some ⟨b j, 0, none⟩) N cap)) (hl : xs.length = k)
    (how : w'.ownsRow (w.heap.size + 1) 45 1 (.slice (some ⟨g2, 0, none⟩) (k + 1) cap2) (k + 1) (xs ++ [.slice (some ⟨r, 0, none⟩) N cap])) (hg : (wr.alloc o).grownBy w' v.ownBlock) (hor : v.ownBlock = some g2 ∨ g2 = (wr.alloc o).heap.size) :
    Mid w w' N (k + 1) g (.slice (some ⟨g2, 0, none⟩) (k + 1) cap2) := by
  have hs := hM.has.size
  simp at hs
  obtain ⟨r', cap', e, hb, hR⟩ := own_row h.own hN
  rw [hrow] at e
  obtain ⟨rfl, rfl⟩ : r = r' ∧ cap = cap' := by simpa using e
  exact ⟨(h.has.alloc o).grown hg (fun x hx => by have := (hp.lt x hx).1; simp; omega), _, hp.push hx hl h.bel hR hb hs how hg hor⟩
theorem Mid.parts {w ws : World} {N k : Nat} {g : Nat → UInt8} {v : Value} (h : Mid w ws N k g v) : ∃ b xs, PS ws (w.heap.size + 1) v k N (fun x y => ((g (x * 10 + y)).toNat : Int)) b ∧ ws.ownsRow (w.heap.size + 1) 45 1 v k xs ∧ (∀ j, j < k → ∃ cap, xs[j]? = some (.slice (some ⟨b j, 0, none⟩) N cap)) ∧ xs.length = k := by
  obtain ⟨b, hp⟩ := h.ps
  obtain ⟨xs, h1, h2⟩ := hp.own
  exact ⟨b, xs, hp, h1, h2, by have := h1.1; omega⟩
theorem Mid.got {w wr : World} {N : Nat} {g : Nat → UInt8} {v : Value} (h : Mid w wr N N g v) (hN : 0 < N) : Got N g w (.returned (.tuple #[v, .int .i64 0])) wr := by
  obtain ⟨b, hp⟩ := h.ps
  obtain ⟨bo, c, rfl, hb, hS⟩ := hp.done hN
  exact ⟨bo, c, b, rfl, h.has.below, hS, by omega, fun j hj => by have := hp.lo j hj; omega⟩
end Go.Proofs.Ytpfhjbcmlebejab
namespace Go.Proofs.Ytpfhjbcmlebejab
set_option linter.unusedVariables false
set_option linter.unusedSimpArgs false
open Go.RowKit
section
variable {ops : Array Oper} {rest : List Oper} {o : Oper} {a : Act} {w : World} {Q : Exit → Act → World → Prop}
theorem wpL_makeI {l c : Operand} (hgd : o.guard = none) (ho : o.op = .makeSlice 45 l c) {n base : Nat} (hl : a.eval l = .int .i64 0) (hc : a.eval c = .int .i64 n) (hn : n ≤ 1000) (hbase : base ≤ w.heap.size)
    (h : ∀ w', w'.ownsRow base 2 1 (.slice (some ⟨w.heap.size, 0, none⟩) 0 n) 0 [] → w.grownBy w' none → wpList Try.prog ops Q rest (a.put o.dst (.slice (some ⟨w.heap.size, 0, none⟩) 0 n)) w') : wpList Try.prog ops Q (o :: rest) a w := by
  obtain ⟨i, hi, hz, h1, h2⟩ := info_parts infoI
  exact wpList_make_own w hgd l c 45 ho base 2 i (.int .i64 0) 1 Try.underlying45 hi hz h1 .i64 .i64 n n hl hc rfl (by rw [h2]; omega) (by unfold maxLen; omega) hbase h
theorem wpL_makeS {l c : Operand} (hgd : o.guard = none) (ho : o.op = .makeSlice 35 l c) {n base : Nat} (hl : a.eval l = .int .i64 0) (hc : a.eval c = .int .i64 n) (hn : n ≤ 1000) (hbase : base ≤ w.heap.size)
    (h : ∀ w', w'.ownsRow base 45 1 (.slice (some ⟨w.heap.size, 0, none⟩) 0 n) 0 [] → w.grownBy w' none → wpList Try.prog ops Q rest (a.put o.dst (.slice (some ⟨w.heap.size, 0, none⟩) 0 n)) w') : wpList Try.prog ops Q (o :: rest) a w := by
  obtain ⟨i, hi, hz, h1, h2⟩ := info_parts infoS
  exact wpList_make_own w hgd l c 35 ho base 45 i (.slice none 0 0) 1 Try.underlying35 hi hz h1 .i64 .i64 n n hl hc rfl (by rw [h2]; omega) (by unfold maxLen; omega) hbase h
end
theorem holds_grown {w w' : World} {b : Nat} {cs : Array Value} {t : TypeId} {r : Option Nat} (h : holds w b cs t) (hg : w.grownBy w' r) (hne : r ≠ some b) : holds w' b cs t := by
  show w'.heap[b]? = _
  rw [hg.block b (holds_lt h) (fun e => hne e.symm)]; exact h
end Go.Proofs.Ytpfhjbcmlebejab
namespace Go.Proofs.Ytpfhjbcmlebejab
set_option linter.unusedVariables false
set_option linter.unusedSimpArgs false
open Go.RowKit
/-- How many numbers the lists before j have. -/
def offF (l : Nat → List Int) : Nat → Nat
  | 0 => 0
  | j + 1 => offF l j + (l j).length
theorem offF_le {l : Nat → List Int} {n : Nat} (h : ∀ j, j < n → (l j).length ≤ 1000) : ∀ j, j ≤ n → offF l j ≤ j * 1000
  | 0, _ => by simp [offF]
  | j + 1, hj => by have := offF_le h j (by omega); have := h j (by omega); simp only [offF]; omega
theorem IL.form {w : World} {lo hi : Nat} {v : Value} {l : List Int} (h : IL w lo hi v l) : ∃ a c, v = .slice a l.length c := by
  rcases h with ⟨rfl, rfl⟩ | ⟨g, cap, e, _⟩
  · exact ⟨none, 0, rfl⟩
  · exact ⟨_, cap, e⟩
theorem IL.kept {w w' : World} {lo hi : Nat} {v : Value} {l : List Int} (h : IL w lo hi v l) (e : ∀ b, lo ≤ b → b < hi → b < w.heap.size → w'.heap[b]? = w.heap[b]?) : IL w' lo hi v l := by
  rcases h with h | ⟨g, cap, ev, h1, h2, h3⟩
  · exact .inl h
  · exact .inr ⟨g, cap, ev, h1, h2, h3.block (e g h1 h2 h3.lt)⟩
theorem IL.upper {w : World} {lo hi hi' : Nat} {v : Value} {l : List Int} (h : IL w lo hi v l) (hl : hi ≤ hi') : IL w lo hi' v l := by
  rcases h with h | ⟨g, cap, e, h1, h2, h3⟩
  · exact .inl h
  · exact .inr ⟨g, cap, e, h1, by omega, h3⟩
/-- Blocks outside lo .. hi are left alone. -/
structure Outs (lo hi : Nat) (w w' : World) : Prop where
  os : w'.os = w.os
  tape : w'.tape = w.tape
  output : w'.output = w.output
  size : w.heap.size ≤ w'.heap.size
  block : ∀ k, k < w.heap.size → (k < lo ∨ hi ≤ k) → w'.heap[k]? = w.heap[k]?
theorem markOut {w : World} {lo hi : Nat} {v : Value} {l : List Int} {k : Int} (h : IL w lo hi v l) (hn : l.length ≤ 1048576) (hk0 : 0 ≤ k) (hk1 : k ≤ 1000000000) :
    Calls Try.prog 30 #[v, .int .i64 k] w fun e w' => e = .returned (.int .i64 (k + l.length)) ∧ Outs lo hi w w' ∧ IL w' lo hi v (marks l k) := by
  rcases h with ⟨rfl, rfl⟩ | ⟨g, cap, rfl, h1, h2, h3⟩
  · refine (markInt64S_zero none 0 k w).mono ?_
    rintro e w' ⟨rfl, rfl⟩
    exact ⟨by simp, ⟨rfl, rfl, rfl, Nat.le_refl _, fun _ _ _ => rfl⟩, .inl ⟨rfl, rfl⟩⟩
  · refine (markInt64S_any g _ cap k _ w hn hk0 hk1 h3).mono ?_
    rintro e w' ⟨rfl, hg, hr⟩
    refine ⟨rfl, ⟨hg.os, hg.tape, hg.output, hg.size, fun x hx hxo => hg.block x (by omega) (by simp; omega)⟩, .inr ⟨g, cap, by rw [marks_length], h1, h2, ?_⟩⟩
    rw [marks_length]
    exact hr.congr fun i hi => marks_get l k hi
/-- Block bo begins with n lists: X j is the list l j of numbers, in a block between p j and q j. -/
structure LLn (w : World) (lo hi bo n : Nat) (X : Nat → Value) (p q : Nat → Nat) (l : Nat → List Int) : Prop where
  outer : ∃ cs, holds w bo cs 45 ∧ ∀ j, j < n → cs[j]? = some (X j)
  inner : ∀ j, j < n → IL w (p j) (q j) (X j) (l j)
  away : ∀ j, j < n → bo < p j ∨ q j ≤ bo
  sep : ∀ i j, i < j → j < n → q i ≤ p j
  plo : ∀ j, j < n → lo ≤ p j
  qhi : ∀ j, j < n → q j ≤ hi
  blo : lo ≤ bo
  bhi : bo < hi
section
variable {w w' : World} {lo hi bo n : Nat} {X : Nat → Value} {p q : Nat → Nat} {l l' : Nat → List Int}
theorem LLn.lt (h : LLn w lo hi bo n X p q l) : bo < w.heap.size := by
  obtain ⟨cs, h1, _⟩ := h.outer; exact holds_lt h1
theorem LLn.cell (h : LLn w lo hi bo n X p q l) {j : Nat} (hj : j < n) : ∃ a c, w.cell? ⟨bo, j, none⟩ = some (.slice a (l j).length c) ∧ X j = .slice a (l j).length c := by
  obtain ⟨cs, h1, h2⟩ := h.outer
  obtain ⟨a, c, e⟩ := (h.inner j hj).form
  exact ⟨a, c, by rw [holds_cell h1, h2 j hj, e], e⟩
theorem LLn.kept (h : LLn w lo hi bo n X p q l) (e : ∀ k, lo ≤ k → k < hi → k < w.heap.size → w'.heap[k]? = w.heap[k]?) : LLn w' lo hi bo n X p q l := by
  obtain ⟨cs, h1, h2⟩ := h.outer
  refine ⟨⟨cs, by show w'.heap[bo]? = _; rw [e bo h.blo h.bhi (holds_lt h1)]; exact h1, h2⟩, fun j hj => (h.inner j hj).kept fun b h3 h4 h5 => e b ?_ ?_ h5, h.away, h.sep, h.plo, h.qhi, h.blo, h.bhi⟩
  · have := h.plo j hj; omega
  · have := h.qhi j hj; omega
theorem LLn.below (h : LLn w lo hi bo n X p q l) (hb : Below w.heap.size w w') : LLn w' lo hi bo n X p q l := h.kept fun k _ _ hk => hb.block k hk
theorem LLn.under {B : Nat} (h : LLn w lo hi bo n X p q l) (hb : Below B w w') (hB : hi ≤ B) : LLn w' lo hi bo n X p q l := h.kept fun k _ h2 _ => hb.block k (by omega)
theorem LLn.drew (h : LLn w lo hi bo n X p q l) : LLn w.drew lo hi bo n X p q l := h.kept fun _ _ _ _ => rfl
theorem LLn.congr (h : LLn w lo hi bo n X p q l) (e : ∀ j, j < n → l' j = l j) : LLn w lo hi bo n X p q l' := ⟨h.outer, fun j hj => by rw [e j hj]; exact h.inner j hj, h.away, h.sep, h.plo, h.qhi, h.blo, h.bhi⟩
theorem LLn.step (h : LLn w lo hi bo n X p q l) {j : Nat} (hj : j < n) (ho : Outs (p j) (q j) w w') (hr : IL w' (p j) (q j) (X j) (l' j)) (e : ∀ i, i < n → i ≠ j → l' i = l i) : LLn w' lo hi bo n X p q l' := by
  obtain ⟨cs, h1, h2⟩ := h.outer
  refine ⟨⟨cs, by show w'.heap[bo]? = _; rw [ho.block bo (holds_lt h1) (h.away j hj)]; exact h1, h2⟩, fun i hi => ?_, h.away, h.sep, h.plo, h.qhi, h.blo, h.bhi⟩
  by_cases c : i = j
  · subst c; exact hr
  · rw [e i hi c]
    refine (h.inner i hi).kept fun b h3 h4 h5 => ho.block b h5 ?_
    by_cases d : i < j
    · have := h.sep i j d hj; omega
    · have := h.sep j i (by omega) hi; omega
end
set_option maxHeartbeats 2000000 in
theorem eqLLn (bo1 bo2 n d1 d2 lo1 hi1 lo2 hi2 : Nat) (X1 X2 : Nat → Value) (p1 q1 p2 q2 : Nat → Nat) (l : Nat → List Int) (w : World) (hn : n ≤ 1000) (hL : ∀ j, j < n → (l j).length ≤ 1000) (h1 : LLn w lo1 hi1 bo1 n X1 p1 q1 l) (h2 : LLn w lo2 hi2 bo2 n X2 p2 q2 l) :
    Calls Try.prog 22 #[.slice (some ⟨bo1, 0, none⟩) n d1, .slice (some ⟨bo2, 0, none⟩) n d2] w fun e w' => e = .returned (.bool true) ∧ Below w.heap.size w w' := by
  have HLn := hid hL
  clear hL
  go_enter Try.func22, Try.ntmps22
  go_wp2
  go_loopw [5] (fun i wr => ∃ k : Nat, k ≤ n ∧ i = .int .i64 k ∧ Has w wr [] ∧ Hid (LLn wr lo1 hi1 bo1 n X1 p1 q1 l) ∧ Hid (LLn wr lo2 hi2 bo2 n X2 p2 q2 l)) (fun i _ => n - (intOf i).toNat)
  case atStart => exact ⟨0, by omega, rfl, Has.nil w, h1, h2⟩
  case round =>
    clear h1 h2
    obtain ⟨k, hk, rfl, hH, h1, h2⟩ := hrel
    by_cases hlt : k < n
    · obtain ⟨a1, e1, c1, x1⟩ := h1.out.cell hlt
      obtain ⟨a2, e2, c2, x2⟩ := h2.out.cell hlt
      have HM1 := hid x1
      have HM2 := hid x2
      clear x1 x2
      have hm := HLn.out k hlt
      obtain ⟨m, hme⟩ : ∃ m, (l k).length = m := ⟨_, rfl⟩
      have HME := hid hme
      rw [hme] at c1 c2 HM1 HM2 hm
      clear hme
      have hlt' : (k : Int) < (n : Int) := by omega
      go_wp2
      refine wp_region_frame (X := Unit) (fun d _ => [(17, bif d 0 then .slice (some ⟨bo1, 0, none⟩) n d1 else u17), (18, bif d 1 then .int .i64 k else u18), (19, bif d 2 then .pointer (some ⟨bo1, k, none⟩) else u19), (20, bif d 3 then .slice a1 m e1 else u20), (21, bif d 4 then .slice (some ⟨bo2, 0, none⟩) n d2 else u21), (22, bif d 5 then .int .i64 k else u22), (23, bif d 6 then .pointer (some ⟨bo2, k, none⟩) else u23), (24, bif d 7 then .slice a2 m e2 else u24), (25, bif d 8 then .bool true else u25), (26, bif d 9 then .bool false else u26)])
        (fun d _ w' => Has w w' [] ∧ Hid (LLn w' lo1 hi1 bo1 n X1 p1 q1 l) ∧ Hid (LLn w' lo2 hi2 bo2 n X2 p2 q2 l) ∧ w'.cell? ⟨bo1, k, none⟩ = some (.slice a1 m e1) ∧ w'.cell? ⟨bo2, k, none⟩ = some (.slice a2 m e2)) (by kernel_rfl) (by kernel_rfl) ?h0_eqs ?hs_eqs ?hq_eqs
      case h0_eqs => exact ⟨(), (by simp [lput]), hH.drew, hid h1.out.drew, hid h2.out.drew, (show _ from c1), (show _ from c2)⟩
      case hs_eqs =>
        refine ⟨?_, ?_, ?_, ?_, ?_, ?_, ?_, ?_, ?_, ?_, trivial⟩
        all_goals
          clear hH h1 h2 c1 c2
          intro d _ w1 hd hn hJ
          simp only [needs, Region.binds, reduceCtorEq, Bool.false_eq_true, false_implies, true_and, and_true, true_implies, forall_const] at hn
          simp only [lput, List.set, hn, cond_true]
          obtain ⟨hH, h1, h2, c1, c2⟩ := hJ
          go_wp2_with (first | fail | (go_at_call 29; refine (eqIL (by have := h1.out.inner k hlt; rw [HM1.out] at this; exact this) (by have := h2.out.inner k hlt; rw [HM2.out] at this; exact this) (by rw [HME.out]; omega)).mono ?_; rintro e w2 ⟨rfl, hb⟩; replace hH := hH.call' hb; replace c1 := (hb.cell (p := ⟨bo1, k, none⟩) h1.out.lt).trans c1; replace c2 := (hb.cell (p := ⟨bo2, k, none⟩) h2.out.lt).trans c2; replace h1 := hid (h1.out.below hb); replace h2 := hid (h2.out.below hb); clear hb))
          first
            | (refine ⟨(), ?_, hH, h1, h2, c1, c2⟩; (simp [lput, done, hn]; done))
            | (refine ⟨?_, hH, h1, h2, c1, c2⟩; (simp [lput, done, hn]; done))
            | (refine ⟨(), ?_, hH, h1, h2, c1, c2⟩; (simp [lput, done, hn]; rfl))
            | (refine ⟨?_, hH, h1, h2, c1, c2⟩; (simp [lput, done, hn]; rfl))
            | (refine ⟨(), ?_, hH, h1, h2, c1, c2⟩; (simp [lput, done]; done))
            | (refine ⟨?_, hH, h1, h2, c1, c2⟩; (simp [lput, done]; done))
            | (refine ⟨(), ?_, hH, h1, h2, c1, c2⟩; (simp [lput, done]; rfl))
            | (refine ⟨?_, hH, h1, h2, c1, c2⟩; (simp [lput, done]; rfl))
      case hq_eqs =>
        clear hH h1 h2 c1 c2
        intro d _ w1 hd hJ
        simp only [allDone, List.length_cons, List.length_nil, Nat.reduceAdd, and_true] at hd
        obtain ⟨hH, h1, h2, c1, c2⟩ := hJ
        simp only [lput, List.set, hd, cond_true]
        clear hd
        go_wp2
        go_roundw
        case rel => exact ⟨k + 1, by omega, by go_num, hH, h1, h2⟩
        case measure => simp [intOf]; omega
    · go_wp2
      go_ret
      exact ⟨rfl, hH.below⟩
/-- What the lists read when their numbers have been replaced by k, k + 1, .. -/
def marksF (l : Nat → List Int) (k : Int) : Nat → List Int := fun j => marks (l j) (k + (offF l j : Nat))
set_option maxHeartbeats 2000000 in
theorem heldLLn (bo n c lo hi : Nat) (X : Nat → Value) (p q : Nat → Nat) (k : Int) (l : Nat → List Int) (w : World) (hn : n ≤ 1000) (hL : ∀ j, j < n → (l j).length ≤ 1000) (hk0 : 0 ≤ k) (hk1 : k ≤ 1000000) (h : LLn w lo hi bo n X p q (marksF l k)) :
    Calls Try.prog 26 #[.slice (some ⟨bo, 0, none⟩) n c, .int .i64 k] w fun e w' => e = .returned (.int .i64 (k + (offF l n : Nat))) ∧ w = w' := by
  have HA := hid (offF_le hL)
  have HLn := hid hL
  have HO0 := hid (show offF l 0 = 0 from rfl)
  clear hL
  go_enter Try.func26, Try.ntmps26
  go_wp2
  go_loop [1, 5] (fun m i => ∃ j : Nat, j ≤ n ∧ i = .int .i64 j ∧ m = .int .i64 (k + ((offF l j : Nat) : Int))) (fun _ i => n - (intOf i).toNat)
  case atStart => exact ⟨0, by omega, rfl, by rw [HO0.out]; simp⟩
  case round =>
    obtain ⟨j, hj, rfl, rfl⟩ := hrel
    have ha := HA.out j hj
    obtain ⟨o, ho⟩ : ∃ o, offF l j = o := ⟨_, rfl⟩
    have HQ := hid ho
    rw [ho] at ha ⊢
    clear ho
    by_cases hlt : j < n
    · obtain ⟨a1, e1, c1, x1⟩ := h.cell hlt
      have hR := h.inner j hlt
      have hm := HLn.out j hlt
      obtain ⟨m, hme⟩ : ∃ m, (l j).length = m := ⟨_, rfl⟩
      have hml : (marksF l k j).length = m := by unfold marksF; rw [marks_length, hme]
      rw [hml] at c1 x1
      rw [x1] at hR
      unfold marksF at hR
      rw [HQ.out] at hR
      have HR := hid hR
      have HME := hid hme
      rw [hme] at hm
      clear hR x1 hme hml
      have hlt' : (j : Int) < (n : Int) := by omega
      have hq1 : 0 ≤ k + (o : Int) + (m : Int) := by omega
      have HOS := hid (show offF l (j + 1) = o + m by simp only [offF]; rw [HQ.out, HME.out])
      have HC : Hid (Calls Try.prog 31 #[.slice a1 m e1, .int .i64 (k + (o : Int))] w fun e w' => e = .returned (.int .i64 (k + (o : Int) + (m : Int))) ∧ w = w') := hid (by
        have := heldIL (k := k + (o : Int)) HR.out (by rw [HME.out]; omega) (by omega) (by omega)
        rw [HME.out] at this; exact this)
      go_wp2_with (go_at_call 31; refine HC.out.mono ?_; rintro e w' ⟨rfl, rfl⟩)
      go_round
      case rel => exact ⟨j + 1, by omega, by go_num, by congr 1; rw [HOS.out]; omega⟩
      case measure => simp [intOf]; omega
    · obtain rfl : j = n := by omega
      go_wp2
      go_ret
      exact ⟨by rw [← HQ.out]; first | rfl | (simp; done), rfl⟩
set_option maxHeartbeats 2000000 in
theorem markLLn (bo n c lo hi : Nat) (X : Nat → Value) (p q : Nat → Nat) (k : Int) (l : Nat → List Int) (w : World) (hn : n ≤ 1000) (hL : ∀ j, j < n → (l j).length ≤ 1000) (hk0 : 0 ≤ k) (hk1 : k ≤ 1000000) (h : LLn w lo hi bo n X p q l) (hS : lo ≤ w.heap.size) :
    Calls Try.prog 25 #[.slice (some ⟨bo, 0, none⟩) n c, .int .i64 k] w fun e w' => e = .returned (.int .i64 (k + (offF l n : Nat))) ∧ Below lo w w' ∧ LLn w' lo hi bo n X p q (marksF l k) := by
  have HA := hid (offF_le hL)
  have HLn := hid hL
  have HO0 := hid (show offF l 0 = 0 from rfl)
  clear hL
  go_enter Try.func25, Try.ntmps25
  go_wp2
  go_loopw [1, 5] (fun m i wr => ∃ j : Nat, j ≤ n ∧ i = .int .i64 j ∧ m = .int .i64 (k + ((offF l j : Nat) : Int)) ∧ Hid (Below lo w wr) ∧ Hid (LLn wr lo hi bo n X p q (fun x => if x < j then marksF l k x else l x))) (fun _ i _ => n - (intOf i).toNat)
  case atStart => exact ⟨0, by omega, rfl, by rw [HO0.out]; simp, Below.refl _ _, h.congr fun j hj => by simp⟩
  case round =>
    clear h
    obtain ⟨j, hj, rfl, rfl, hG, h⟩ := hrel
    have ha := HA.out j hj
    obtain ⟨o, ho⟩ : ∃ o, offF l j = o := ⟨_, rfl⟩
    have HQ := hid ho
    rw [ho] at ha ⊢
    clear ho
    by_cases hlt : j < n
    · obtain ⟨a1, e1, c1, x1⟩ := h.out.cell hlt
      have hR := h.out.inner j hlt
      have hm := HLn.out j hlt
      obtain ⟨m, hme⟩ : ∃ m, (l j).length = m := ⟨_, rfl⟩
      simp only [Nat.lt_irrefl, if_false] at hR c1 x1
      rw [hme] at c1 x1 hm
      have HX := hid x1
      rw [x1] at hR
      have HR := hid hR
      have HME := hid hme
      clear hR x1 hme
      have hlt' : (j : Int) < (n : Int) := by omega
      have hq1 : 0 ≤ k + (o : Int) + (m : Int) := by omega
      have HOS := hid (show offF l (j + 1) = o + m by simp only [offF]; rw [HQ.out, HME.out])
      have HC : Hid (Calls Try.prog 30 #[.slice a1 m e1, .int .i64 (k + (o : Int))] wr fun e w' => e = .returned (.int .i64 (k + (o : Int) + (m : Int))) ∧ Outs (p j) (q j) wr w' ∧ IL w' (p j) (q j) (.slice a1 m e1) (marks (l j) (k + (o : Int)))) := hid (by
        have := markOut (k := k + (o : Int)) HR.out (by rw [HME.out]; omega) (by omega) (by omega)
        rw [HME.out] at this; exact this)
      go_wp2_with (go_at_call 30; refine HC.out.mono ?_; rintro e w' ⟨rfl, hg, hr⟩; have HG := hid hg; have HI := hid hr; clear hg hr)
      go_roundw
      case rel => exact ⟨j + 1, by omega, by go_num, by congr 1; rw [HOS.out]; omega, hid (by
          have g := HG.out
          exact hG.out.trans ⟨g.os, g.tape, g.output, g.size, fun x hx => g.block x (by have := hG.out.size; omega) (by have := h.out.plo j hlt; omega)⟩), hid (h.out.step (l' := fun x => if x < j + 1 then marksF l k x else l x) hlt HG.out (by
            have := HI.out
            rw [if_pos (by omega), HX.out]
            unfold marksF
            rw [HQ.out]; exact this) (fun x hx hne => by simp [show x < j + 1 ↔ x < j by omega]))⟩
      case measure => simp [intOf]; omega
    · obtain rfl : j = n := by omega
      have HH := hid (h.out.congr (l' := marksF l k) (fun x hx => by simp [hx]))
      go_wp2
      go_ret
      exact ⟨by rw [← HQ.out]; first | rfl | (simp; done), hG.out, HH.out⟩
/-- v is the list of the n lists l: no block, or blocks between lo and hi. -/
def LL (w : World) (lo hi : Nat) (v : Value) (n : Nat) (l : Nat → List Int) : Prop :=
  (v = .slice none 0 0 ∧ n = 0) ∨ ∃ bo c X p q, v = .slice (some ⟨bo, 0, none⟩) n c ∧ LLn w lo hi bo n X p q l
theorem LL.below {w w' : World} {lo hi B n : Nat} {v : Value} {l : Nat → List Int} (h : LL w lo hi v n l) (hb : Below B w w') (hB : hi ≤ B) : LL w' lo hi v n l := by
  rcases h with h | ⟨bo, c, X, p, q, e, h⟩
  · exact .inl h
  · exact .inr ⟨bo, c, X, p, q, e, h.under hb hB⟩
theorem eqInt64SS_none (w : World) (p q : Option Addr) (c d : Nat) : Calls Try.prog 22 #[.slice p 0 c, .slice q 0 d] w fun e w' => e = .returned (.bool true) ∧ Below w.heap.size w w' := by
  go_enter Try.func22, Try.ntmps22
  go_wp2
  go_loopw [5] (fun i wr => i = .int .i64 0 ∧ Below w.heap.size w wr) (fun _ _ => 0)
  case atStart => exact ⟨rfl, Below.refl _ _⟩
  case round =>
    obtain ⟨rfl, hB⟩ := hrel
    go_wp2
    go_ret
    exact ⟨rfl, hB⟩
theorem markInt64SS_none (w : World) (p : Option Addr) (c : Nat) (k : Int) : Calls Try.prog 25 #[.slice p 0 c, .int .i64 k] w fun e w' => e = .returned (.int .i64 k) ∧ w = w' := by
  go_enter Try.func25, Try.ntmps25
  go_wp2
  go_loop [1, 5] (fun m i => m = .int .i64 k ∧ i = .int .i64 0) (fun _ _ => 0)
  case atStart => exact ⟨rfl, rfl⟩
  case round =>
    obtain ⟨rfl, rfl⟩ := hrel
    go_wp2
    go_ret
    exact ⟨rfl, rfl⟩
theorem heldInt64SS_none (w : World) (p : Option Addr) (c : Nat) (k : Int) : Calls Try.prog 26 #[.slice p 0 c, .int .i64 k] w fun e w' => e = .returned (.int .i64 k) ∧ w = w' := by
  go_enter Try.func26, Try.ntmps26
  go_wp2
  go_loop [1, 5] (fun m i => m = .int .i64 k ∧ i = .int .i64 0) (fun _ _ => 0)
  case atStart => exact ⟨rfl, rfl⟩
  case round =>
    obtain ⟨rfl, rfl⟩ := hrel
    go_wp2
    go_ret
    exact ⟨rfl, rfl⟩
theorem eqLL {w : World} {lo hi lo' hi' n : Nat} {v v' : Value} {l : Nat → List Int} (h : LL w lo hi v n l) (h' : LL w lo' hi' v' n l) (hn : n ≤ 1000) (hL : ∀ j, j < n → (l j).length ≤ 1000) :
    Calls Try.prog 22 #[v, v'] w fun e w' => e = .returned (.bool true) ∧ Below w.heap.size w w' := by
  rcases h with ⟨rfl, rfl⟩ | ⟨bo, c, X, p, q, rfl, h⟩
  · rcases h' with ⟨rfl, _⟩ | ⟨bo', c', X', p', q', rfl, h'⟩
    · exact eqInt64SS_none _ _ _ _ _
    · exact eqInt64SS_none _ _ _ _ _
  · rcases h' with ⟨rfl, rfl⟩ | ⟨bo', c', X', p', q', rfl, h'⟩
    · exact eqInt64SS_none _ _ _ _ _
    · exact eqLLn bo bo' n c c' lo hi lo' hi' X X' p q p' q' l w hn hL h h'
theorem markLL {w : World} {lo hi n : Nat} {v : Value} {l : Nat → List Int} {k : Int} (h : LL w lo hi v n l) (hn : n ≤ 1000) (hL : ∀ j, j < n → (l j).length ≤ 1000) (hk0 : 0 ≤ k) (hk1 : k ≤ 1000000) (hlo : lo ≤ w.heap.size) :
    Calls Try.prog 25 #[v, .int .i64 k] w fun e w' => e = .returned (.int .i64 (k + (offF l n : Nat))) ∧ Below lo w w' ∧ LL w' lo hi v n (marksF l k) := by
  rcases h with ⟨rfl, rfl⟩ | ⟨bo, c, X, p, q, rfl, h⟩
  · refine (markInt64SS_none w none 0 k).mono ?_
    rintro e w' ⟨rfl, rfl⟩
    exact ⟨by simp [offF], Below.refl _ _, .inl ⟨rfl, rfl⟩⟩
  · refine (markLLn bo n c lo hi X p q k l w hn hL hk0 hk1 h hlo).mono ?_
    rintro e w' ⟨rfl, hb, h2⟩
    exact ⟨rfl, hb, .inr ⟨bo, c, X, p, q, rfl, h2⟩⟩
theorem heldLL {w : World} {lo hi n : Nat} {v : Value} {l : Nat → List Int} {k : Int} (h : LL w lo hi v n (marksF l k)) (hn : n ≤ 1000) (hL : ∀ j, j < n → (l j).length ≤ 1000) (hk0 : 0 ≤ k) (hk1 : k ≤ 1000000) :
    Calls Try.prog 26 #[v, .int .i64 k] w fun e w' => e = .returned (.int .i64 (k + (offF l n : Nat))) ∧ w = w' := by
  rcases h with ⟨rfl, rfl⟩ | ⟨bo, c, X, p, q, rfl, h⟩
  · refine (heldInt64SS_none w none 0 k).mono ?_
    rintro e w' ⟨rfl, rfl⟩
    exact ⟨by simp [offF], rfl⟩
  · exact heldLLn bo n c lo hi X p q k l w hn hL hk0 hk1 h
/-- What a function hands back that makes a list of lists, and a code. -/
def GotLL (n : Nat) (l : Nat → List Int) (z : Int) (w : World) (e : Ending) (w' : World) : Prop :=
  ∃ v, e = .returned (.tuple #[v, .int .i64 z]) ∧ Below w.heap.size w w' ∧ LL w' w.heap.size w'.heap.size v n l
theorem GotLL.err {z : Int} {l : Nat → List Int} {w w' : World} {e : Ending} (h : e = .returned (.tuple #[.slice none 0 0, .int .i64 z]) ∧ Below w.heap.size w w') : GotLL 0 l z w e w' := ⟨_, h.1, h.2, .inl ⟨rfl, rfl⟩⟩
/-- A list of lists that is being made behind B: the cells xs of v are the lists l. -/
structure LPx (w : World) (B : Nat) (v : Value) (n : Nat) (xs : List Value) (X : Nat → Value) (p q : Nat → Nat) (l : Nat → List Int) : Prop where
  own : w.ownsRow B 45 1 v n xs
  len : xs.length = n
  at' : ∀ j, j < n → xs[j]? = some (X j)
  inner : ∀ j, j < n → IL w (p j) (q j) (X j) (l j)
  away : ∀ b, v.ownBlock = some b → ∀ j, j < n → b < p j ∨ q j ≤ b
  sep : ∀ i j, i < j → j < n → q i ≤ p j
  lo : ∀ j, j < n → B ≤ p j
  hi : ∀ j, j < n → q j ≤ w.heap.size
def LP (w : World) (B : Nat) (v : Value) (n : Nat) (l : Nat → List Int) : Prop := ∃ xs X p q, LPx w B v n xs X p q l
section
variable {w w' w1 w2 : World} {B n : Nat} {v : Value} {xs : List Value} {X : Nat → Value} {p q : Nat → Nat} {l : Nat → List Int}
theorem LPx.kept (h : LPx w B v n xs X p q l) (hs : w.heap.size ≤ w'.heap.size) (e : ∀ k, k < w.heap.size → w'.heap[k]? = w.heap[k]?) : LPx w' B v n xs X p q l :=
  ⟨own_kept h.own e, h.len, h.at', fun j hj => (h.inner j hj).kept fun b _ _ hb => e b hb, h.away, h.sep, h.lo, fun j hj => Nat.le_trans (h.hi j hj) hs⟩
theorem LP.below (h : LP w B v n l) (hb : Below w.heap.size w w') : LP w' B v n l := by
  obtain ⟨xs, X, p, q, h⟩ := h
  exact ⟨xs, X, p, q, h.kept hb.size hb.block⟩
theorem LP.drew (h : LP w B v n l) : LP w.drew B v n l := by
  obtain ⟨xs, X, p, q, h⟩ := h
  exact ⟨xs, X, p, q, h.kept (Nat.le_refl _) fun _ _ => rfl⟩
theorem LP.alloc (h : LP w B v n l) (o : Obj) : LP (w.alloc o) B v n l := by
  obtain ⟨xs, X, p, q, h⟩ := h
  exact ⟨xs, X, p, q, h.kept (by simp) fun k hk => heap_alloc_old w o hk⟩
theorem LP.start (h : w.ownsRow B 45 1 v 0 []) : LP w B v 0 l :=
  ⟨[], fun _ => v, fun _ => 0, fun _ => 0, h, rfl, fun j hj => by omega, fun j hj => by omega, fun b _ j hj => by omega, fun i j _ hj => by omega, fun j hj => by omega, fun j hj => by omega⟩
theorem LP.nil (w : World) (B : Nat) (l : Nat → List Int) : LP w B (.slice none 0 0) 0 l := LP.start (World.ownsRow_nil _ _ _ _)
/-- The first list, built with the block of the lists. -/
theorem LP.one {x : Value} {lo hi : Nat} (hx : IL w lo hi x (l 0)) (hlo : B ≤ lo) (hhi : hi ≤ w.heap.size) (hB : B ≤ w.heap.size) : LP (w.alloc (.cells #[x] 45)) B (.slice (some ⟨w.heap.size, 0, none⟩) 1 1) 1 l := by
  refine ⟨[x], fun _ => x, fun _ => lo, fun _ => hi, ⟨rfl, .inr ⟨w.heap.size, 1, #[x], rfl, hB, heap_alloc_new w _, by omega, by unfold maxLen; omega, rfl, rfl⟩⟩, rfl, fun j hj => ?_, fun j hj => ?_, fun b hb j hj => ?_, fun i j hi hj => by omega, fun j hj => hlo, fun j hj => ?_⟩
  · obtain rfl : j = 0 := by omega
    rfl
  · obtain rfl : j = 0 := by omega
    exact hx.kept fun b _ _ hb => heap_alloc_old w _ hb
  · have : w.heap.size = b := by simpa [Value.ownBlock] using hb
    right; omega
  · simp; omega
/-- One list more. -/
theorem LPx.push {x : Value} {g2 cap2 : Nat} {o : Obj} (h : LPx w B v n xs X p q l) (hB : B ≤ w.heap.size) (hb : Below w.heap.size w w1) (hr : IL w1 w.heap.size w1.heap.size x (l n))
    (how : w2.ownsRow B 45 1 (.slice (some ⟨g2, 0, none⟩) (n + 1) cap2) (n + 1) (xs ++ [x]))
    (hgr : (w1.alloc o).grownBy w2 v.ownBlock) (hor : v.ownBlock = some g2 ∨ g2 = (w1.alloc o).heap.size) : LP w2 B (.slice (some ⟨g2, 0, none⟩) (n + 1) cap2) (n + 1) l := by
  have hlt := h.own.lt
  have hs := hb.size
  have hsz : (w1.alloc o).heap.size = w1.heap.size + 1 := by simp
  have hs2 := hgr.size
  refine ⟨xs ++ [x], fun j => if j = n then x else X j, fun j => if j = n then w.heap.size else p j, fun j => if j = n then w1.heap.size else q j, how, by simp [h.len], fun j hj => ?_, fun j hj => ?_, fun b hbe j hj => ?_, fun i j hij hj => ?_, fun j hj => ?_, fun j hj => ?_⟩
  · by_cases e : j = n
    · subst e; simp [h.len]
    · simp only [if_neg e]; rw [List.getElem?_append_left (by have := h.len; omega)]; exact h.at' j (by omega)
  · by_cases e : j = n
    · subst e
      simp only [if_pos]
      refine hr.kept fun b h1 h2 h3 => ?_
      rw [hgr.block b (by omega) (fun e => by have := (hlt b e.symm).2; omega)]
      exact heap_alloc_old w1 o h3
    · simp only [if_neg e]
      refine (h.inner j (by omega)).kept fun b h1 h2 h3 => ?_
      rw [hgr.block b (by omega) (fun e => by have := h.away b e.symm j (by omega); omega), heap_alloc_old w1 o (by omega)]
      exact hb.block b h3
  · obtain rfl : g2 = b := by simpa [Value.ownBlock] using hbe
    by_cases e : j = n
    · simp only [if_pos e]
      rcases hor with e2 | e2
      · have := (hlt g2 e2).2; omega
      · omega
    · simp only [if_neg e]
      rcases hor with e2 | e2
      · exact h.away g2 e2 j (by omega)
      · have := h.hi j (by omega); omega
  · by_cases e : j = n
    · simp only [if_pos e, if_neg (show i ≠ n by omega)]; exact h.hi i (by omega)
    · simp only [if_neg e, if_neg (show i ≠ n by omega)]; exact h.sep i j hij (by omega)
  · by_cases e : j = n
    · simp only [if_pos e]; exact hB
    · simp only [if_neg e]; exact h.lo j (by omega)
  · by_cases e : j = n
    · simp only [if_pos e]; omega
    · simp only [if_neg e]; have := h.hi j (by omega); omega
theorem LP.done (h : LP w B v n l) : LL w B w.heap.size v n l := by
  obtain ⟨xs, X, p, q, h⟩ := h
  rcases h.own.2 with ⟨h1, h0⟩ | ⟨g, cap, cur, rfl, hb, hg, hc, _, hs, hx⟩
  · exact .inl ⟨h1, h0⟩
  · refine .inr ⟨g, cap, X, p, q, rfl, ⟨cur, hg, fun j hj => ?_⟩, h.inner, fun j hj => h.away g rfl j hj, h.sep, h.lo, h.hi, hb, (Array.getElem?_eq_some_iff.1 hg).1⟩
    have e := h.at' j hj
    rw [← hx, List.getElem?_take, if_pos (by omega)] at e
    simpa using e
theorem LP.lower {B' : Nat} (h : LP w B v n l) (hb : B' ≤ B) : LP w B' v n l := by
  obtain ⟨xs, X, p, q, h⟩ := h
  refine ⟨xs, X, p, q, ⟨h.own.1, ?_⟩, h.len, h.at', h.inner, h.away, h.sep, fun j hj => by have := h.lo j hj; omega, h.hi⟩
  rcases h.own.2 with h2 | ⟨g, cap, cur, e, hB, hr⟩
  · exact .inl h2
  · exact .inr ⟨g, cap, cur, e, by omega, hr⟩
theorem LP.got (h : LP w' B v n l) (hb : Below w.heap.size w w') (hB : w.heap.size ≤ B) : GotLL n l 0 w (.returned (.tuple #[v, .int .i64 0])) w' := ⟨v, rfl, hb, (h.lower hB).done⟩
theorem LP.congr {l' : Nat → List Int} (h : LP w B v n l) (e : ∀ j, j < n → l' j = l j) : LP w B v n l' := by
  obtain ⟨xs, X, p, q, h⟩ := h
  exact ⟨xs, X, p, q, h.own, h.len, h.at', fun j hj => by rw [e j hj]; exact h.inner j hj, h.away, h.sep, h.lo, h.hi⟩
end
/-- What a function hands back that makes a list of lists alone. -/
def GotLP (n : Nat) (l : Nat → List Int) (w : World) (e : Ending) (w' : World) : Prop := ∃ v, e = .returned v ∧ Below w.heap.size w w' ∧ LP w' w.heap.size v n l
end Go.Proofs.Ytpfhjbcmlebejab
namespace Go.Proofs.Ytpfhjbcmlebejab
set_option linter.unusedVariables false
set_option linter.unusedSimpArgs false
open Go.RowKit
theorem nxS_iff {g : Nat → UInt8} {N : Nat} {s : Nat → Bool} {i : Nat} : nxS g N s i = true ↔ i < N ∧ winP N 4 s (dfF g N) i := by
  unfold nxS foF
  rw [Bool.and_eq_true, decide_eq_true_iff, winB_iff]
theorem nxS_out {g : Nat → UInt8} {N : Nat} {s : Nat → Bool} {i : Nat} (h : N ≤ i) : nxS g N s i = false := by
  cases e : nxS g N s i with
  | false => rfl
  | true => have := (nxS_iff.1 e).1; omega
theorem nxS_mono {g : Nat → UInt8} {N : Nat} {s t : Nat → Bool} (h : ∀ i, s i = true → t i = true) {i : Nat} (e : nxS g N s i = true) : nxS g N t i = true := by
  rw [nxS_iff] at *
  exact ⟨e.1, fun x hx y hy j hj => h _ (e.2 x hx y hy j hj)⟩
theorem nxS_one {g : Nat → UInt8} {N : Nat} (h : IsLp N g) {i : Nat} (e : oneS i = true) : nxS g N oneS i = true := by
  obtain rfl := oneS_iff.1 e
  have h1 := h.sq.lo
  have e1 : ∀ x, x < N → mu g 0 x = x := fun x hx => by have := h.row x hx; unfold mu; rw [Nat.zero_mul, Nat.zero_add]; exact this
  have e2 : ∀ x, x < N → mu g x 0 = x := fun x hx => by have := h.col x hx; unfold mu; rw [Nat.add_zero]; exact this
  refine nxS_iff.2 ⟨h1, fun x hx y hy j hj => oneS_iff.2 ?_⟩
  have hxy := mu_lt h.sq hx hy
  have : j = 0 ∨ j = 1 ∨ j = 2 ∨ j = 3 := by omega
  rcases this with rfl | rfl | rfl | rfl
  · exact (asc_zero h h1 hx hy).2 (by rw [e1 x hx, e1 _ hxy])
  · exact (asc_zero h hx h1 hy).2 (by rw [e2 x hx, e1 y hy])
  · exact (asc_zero h hx hy h1).2 (by rw [e2 _ hxy, e2 y hy])
  · exact (cmm_zero h h1 hx).2 (by rw [e1 x hx, e2 x hx])
/-- The sets of the upper central series. -/
noncomputable def serS (g : Nat → UInt8) (N : Nat) : Nat → Nat → Bool
  | 0 => nxS g N oneS
  | k + 1 => nxS g N (serS g N k)
theorem serS_out {g : Nat → UInt8} {N i : Nat} (h : N ≤ i) : ∀ k, serS g N k i = false
  | 0 => nxS_out h
  | _ + 1 => nxS_out h
theorem serS_le {g : Nat → UInt8} {N : Nat} (h : IsLp N g) : ∀ k i, serS g N k i = true → serS g N (k + 1) i = true
  | 0, _, e => nxS_mono (fun i e => nxS_one h e) e
  | k + 1, _, e => nxS_mono (serS_le h k) e
theorem sm_leU {f f' : Nat → Nat} : ∀ {k : Nat}, (∀ i, i < k → f i ≤ f' i) → sm f k ≤ sm f' k
  | 0, _ => Nat.le_refl _
  | k + 1, h => by
    have := sm_leU (k := k) (f := f) (f' := f') (fun i hi => h i (by omega))
    have := h k (by omega)
    simp only [sm]; omega
theorem sm_strict {f f' : Nat → Nat} {z : Nat} (hz : f z < f' z) : ∀ {k : Nat}, z < k → (∀ i, i < k → f i ≤ f' i) → sm f k < sm f' k
  | 0, hk, _ => by omega
  | k + 1, hk, h => by
    by_cases e : z = k
    · subst e
      have := sm_leU (k := z) (f := f) (f' := f') (fun i hi => h i (by omega))
      simp only [sm]; omega
    · have := sm_strict hz (k := k) (by omega) (fun i hi => h i (by omega))
      have := h k (by omega)
      simp only [sm]; omega
theorem ind_leU {a b : Bool} (h : a = true → b = true) : ind a ≤ ind b := by
  cases a with
  | false => simp [ind]
  | true => rw [h rfl]; exact Nat.le_refl _
theorem cnt_more {s t : Nat → Bool} (h : ∀ i, s i = true → t i = true) (hn : eqL t s = false) : cntB s < cntB t := by
  have : ∃ i, i < 10 ∧ t i ≠ s i := by
    apply Classical.byContradiction
    intro hc
    have : eqL t s = true := eqL_iff.2 fun i hi => Classical.byContradiction fun e => hc ⟨i, hi, e⟩
    rw [hn] at this; cases this
  obtain ⟨i, hi, e⟩ := this
  unfold cntB
  refine sm_strict (z := i) ?_ hi fun j _ => ind_leU (h j)
  cases es : s i with
  | true => exact absurd ((h i es).trans es.symm) e
  | false =>
    cases et : t i with
    | false => exact absurd (et.trans es.symm) e
    | true => simp [ind]
/-- The series ends at its set of number M, and not before. -/
structure SerE (g : Nat → UInt8) (N M : Nat) : Prop where
  le : M ≤ 10
  eq : eqL (serS g N (M + 1)) (serS g N M) = true
  ne : ∀ i, i < M → eqL (serS g N (i + 1)) (serS g N i) = false
theorem ser_end {g : Nat → UInt8} {N : Nat} (h : IsLp N g) : ∀ d k, (∀ i, i < k → eqL (serS g N (i + 1)) (serS g N i) = false) → 10 ≤ cntB (serS g N k) + d → k + d ≤ 10 → ∃ M, SerE g N M
  | 0, k, hn, hc, hk => by
    cases e : eqL (serS g N (k + 1)) (serS g N k) with
    | true => exact ⟨k, by omega, e, hn⟩
    | false => have := cnt_more (serS_le h k) e; have := cntB_le (serS g N (k + 1)); omega
  | d + 1, k, hn, hc, hk => by
    cases e : eqL (serS g N (k + 1)) (serS g N k) with
    | true => exact ⟨k, by omega, e, hn⟩
    | false =>
      have := cnt_more (serS_le h k) e
      exact ser_end h d (k + 1) (fun i hi => by
        by_cases q : i = k
        · subst q; exact e
        · exact hn i (by omega)) (by omega) (by omega)
theorem ser_ends {g : Nat → UInt8} {N : Nat} (h : IsLp N g) : ∃ M, SerE g N M := ser_end h 10 0 (fun i hi => by omega) (by omega) (by omega)
theorem SerE.step {g : Nat → UInt8} {N M k : Nat} (h : SerE g N M) (hk : k ≤ M) : eqL (serS g N (k + 1)) (serS g N k) = decide (k = M) := by
  by_cases e : k = M
  · subst e; simp [h.eq]
  · simp [e, h.ne k (by omega)]
/-- The series as lists. -/
noncomputable def serL (g : Nat → UInt8) (N : Nat) : Nat → List Int := fun k => selL (serS g N k) 10
theorem serL_len (g : Nat → UInt8) (N k : Nat) : (serL g N k).length ≤ 10 := selL_len _ _
def lenV : Value → Nat
  | .slice _ n _ => n
  | _ => 0
section
variable {w w' : World} {B n : Nat} {v : Value} {l : Nat → List Int}
theorem LP.form (h : LP w B v n l) : ∃ a c, v = .slice a n c := by
  obtain ⟨xs, X, p, q, h⟩ := h
  rcases h.own.2 with ⟨h1, h0⟩ | ⟨g, cap, cur, e, _⟩
  · subst h0; exact ⟨_, _, h1⟩
  · exact ⟨_, _, e⟩
theorem LP.keptB (h : LP w B v n l) (hs : w.heap.size ≤ w'.heap.size) (e : ∀ b, B ≤ b → b < w.heap.size → w'.heap[b]? = w.heap[b]?) : LP w' B v n l := by
  obtain ⟨xs, X, p, q, h⟩ := h
  refine ⟨xs, X, p, q, ⟨h.own.1, ?_⟩, h.len, h.at', fun j hj => (h.inner j hj).kept fun b h1 h2 h3 => e b (by have := h.lo j hj; omega) h3, h.away, h.sep, h.lo, fun j hj => Nat.le_trans (h.hi j hj) hs⟩
  rcases h.own.2 with hn | ⟨g, cap, cur, rfl, hb, hg, rest⟩
  · exact .inl hn
  · exact .inr ⟨g, cap, cur, rfl, hb, by rw [e g hb (Array.getElem?_eq_some_iff.1 hg).1]; exact hg, rest⟩
theorem LP.setRow (h : LP w B v n l) {g : Nat} (hg : g < B) (cs : Array Value) : LP (w.setRow g cs) B v n l :=
  h.keptB (by simp) fun b hb _ => setRow_other w g b cs (by omega)
theorem LP.size (h : LP w B v (n + 1) l) : B ≤ w.heap.size := by
  obtain ⟨xs, X, p, q, h⟩ := h
  rcases h.own.2 with ⟨_, h0⟩ | ⟨g, cap, cur, _, hb, hg, _⟩
  · omega
  · have := (Array.getElem?_eq_some_iff.1 hg).1; omega
theorem LP.top (h : LP w B v n l) : ∀ x, v.ownBlock = some x → B ≤ x ∧ x < w.heap.size := by
  obtain ⟨xs, X, p, q, h⟩ := h
  exact h.own.lt
end
end Go.Proofs.Ytpfhjbcmlebejab
namespace Go.Proofs.Ytpfhjbcmlebejab
set_option linter.unusedVariables false
set_option linter.unusedSimpArgs false
open Go.RowKit
theorem infoMe : (Try.prog.info? 91).map (fun i => (i.zero, i.size, i.bytes)) = some (some (.agg (bls 10 fun _ => false)), 10, 10) := by kernel_rfl
theorem bls_congr (n : Nat) (f g : Nat → Bool) (h : ∀ i, i < n → f i = g i) : bls n f = bls n g :=
  bls_ext n _ g (by simp) fun i hi => by rw [bls_get n f i hi, h i hi]
theorem bls_app (n m : Nat) (F F' f : Nat → Bool) (hF : ∀ i, i < n → F' i = F i) (hf : ∀ j, j < m → F' (n + j) = f j) : (bls n F).toList ++ (bls m f).toList = (bls (n + m) F').toList := by
  unfold bls
  simp only [List.range_add, List.map_append, List.map_map]
  congr 1
  · exact List.map_congr_left fun i hi => by rw [hF i (List.mem_range.1 hi)]
  · exact List.map_congr_left fun i hi => by
      show Value.bool _ = Value.bool _
      rw [hf i (List.mem_range.1 hi)]
def flatS (S : Nat → Nat → Bool) : Nat → Bool := fun i => S (i / 10) (i % 10)
theorem flatS_at (S : Nat → Nat → Bool) (k j : Nat) (h : j < 10) : flatS S (k * 10 + j) = S k j := by
  unfold flatS
  rw [show (k * 10 + j) / 10 = k by omega, show (k * 10 + j) % 10 = j by omega]
/-- v is a list of its own, made behind B, of n sets. -/
def OM (w : World) (B : Nat) (v : Value) (n : Nat) (S : Nat → Nat → Bool) : Prop := w.ownsRow B 91 10 v n (bls (n * 10) (flatS S)).toList
theorem OM.keptB {w w' : World} {B n : Nat} {v : Value} {S : Nat → Nat → Bool} (h : OM w B v n S) (e : ∀ k, B ≤ k → k < w.heap.size → w'.heap[k]? = w.heap[k]?) : OM w' B v n S := by
  refine ⟨h.1, ?_⟩
  rcases h.2 with h2 | ⟨g, cap, cur, hv, hB, hg, hr⟩
  · exact .inl h2
  · exact .inr ⟨g, cap, cur, hv, hB, by rw [e g hB (Array.getElem?_eq_some_iff.1 hg).1]; exact hg, hr⟩
theorem OM.below {w w' : World} {B n : Nat} {v : Value} {S : Nat → Nat → Bool} (h : OM w B v n S) (hb : Below w.heap.size w w') : OM w' B v n S := h.keptB fun k _ hk => hb.block k hk
theorem OM.alloc {w : World} {B n : Nat} {v : Value} {S : Nat → Nat → Bool} (h : OM w B v n S) (o : Obj) : OM (w.alloc o) B v n S := h.keptB fun k _ hk => heap_alloc_old w o hk
theorem OM.setRow {w : World} {B n g : Nat} {v : Value} {S : Nat → Nat → Bool} (h : OM w B v n S) (hg : g < B) (cs : Array Value) : OM (w.setRow g cs) B v n S := h.keptB fun b hb _ => setRow_other w g b cs (by omega)
theorem OM.nil (w : World) (B : Nat) (S : Nat → Nat → Bool) : OM w B (.slice none 0 0) 0 S := World.ownsRow_nil _ _ _ _
theorem OM.top {w : World} {B n : Nat} {v : Value} {S : Nat → Nat → Bool} (h : OM w B v n S) : ∀ x, v.ownBlock = some x → B ≤ x ∧ x < w.heap.size := World.ownsRow.lt h
theorem OM.len {w : World} {B n : Nat} {v : Value} {S : Nat → Nat → Bool} (h : OM w B v n S) : ∃ a c, v = .slice a n c := by
  rcases h.2 with ⟨h1, h0⟩ | ⟨g, cap, cur, e, _⟩
  · subst h0; exact ⟨_, _, h1⟩
  · exact ⟨_, _, e⟩
theorem OM.one {w : World} {B : Nat} {S : Nat → Nat → Bool} (hB : B ≤ w.heap.size) : OM (w.alloc (.cells (bls 10 (S 0)) 91)) B (.slice (some ⟨w.heap.size, 0, none⟩) 1 1) 1 S := by
  have e : bls (1 * 10) (flatS S) = bls 10 (S 0) := bls_congr 10 _ _ fun i hi => by have := flatS_at S 0 i hi; rwa [Nat.zero_mul, Nat.zero_add] at this
  refine ⟨by simp, .inr ⟨w.heap.size, 1, bls 10 (S 0), rfl, hB, heap_alloc_new w _, by omega, by unfold maxLen; omega, by simp, ?_⟩⟩
  rw [e, List.take_of_length_le (by simp)]
/-- Block g begins with n sets. -/
def MRow (w : World) (g n : Nat) (S : Nat → Nat → Bool) : Prop := ∃ cur, holds w g cur 91 ∧ n * 10 ≤ cur.size ∧ ∀ i, i < n * 10 → cur[i]? = some (.bool (flatS S i))
theorem MRow.lt {w : World} {g n : Nat} {S : Nat → Nat → Bool} (h : MRow w g n S) : g < w.heap.size := by
  obtain ⟨cur, h1, _⟩ := h; exact holds_lt h1
theorem MRow.block {w w' : World} {g n : Nat} {S : Nat → Nat → Bool} (h : MRow w g n S) (e : w'.heap[g]? = w.heap[g]?) : MRow w' g n S := by
  obtain ⟨cur, h1, h2⟩ := h; exact ⟨cur, by show w'.heap[g]? = _; rw [e]; exact h1, h2⟩
theorem MRow.below {w w' : World} {g n : Nat} {S : Nat → Nat → Bool} (h : MRow w g n S) (hb : Below w.heap.size w w') : MRow w' g n S := h.block (hb.block g h.lt)
theorem MRow.alloc {w : World} {g n : Nat} {S : Nat → Nat → Bool} (h : MRow w g n S) (o : Obj) : MRow (w.alloc o) g n S := h.block (heap_alloc_old w o h.lt)
theorem MRow.grown {w w' : World} {g n : Nat} {r : Option Nat} {S : Nat → Nat → Bool} (h : MRow w g n S) (hg : w.grownBy w' r) (hne : r ≠ some g) : MRow w' g n S := h.block (hg.block g h.lt (fun e => hne e.symm))
theorem OM.form {w : World} {B n : Nat} {v : Value} {S : Nat → Nat → Bool} (h : OM w B v n S) (hn : 0 < n) : ∃ g cap, v = .slice (some ⟨g, 0, none⟩) n cap ∧ B ≤ g ∧ MRow w g n S := by
  rcases h.2 with ⟨_, h0⟩ | ⟨g, cap, cur, hv, hB, hg, hc, _, hs, hx⟩
  · omega
  · refine ⟨g, cap, hv, hB, cur, hg, by rw [hs]; omega, fun i hi => ?_⟩
    have := bls_get (n * 10) (flatS S) i hi
    rw [← Array.getElem?_toList, ← hx, List.getElem?_take, if_pos hi] at this
    simpa using this
theorem MRow.sub {w : World} {g n : Nat} {S : Nat → Nat → Bool} (h : MRow w g n S) {k : Nat} (hk : k < n) : ∃ cur, holds w g cur 91 ∧ k * 10 + 10 ≤ cur.size ∧ cur.extract (k * 10) (k * 10 + 10) = bls 10 (S k) := by
  obtain ⟨cur, h1, h2, h3⟩ := h
  refine ⟨cur, h1, by omega, ?_⟩
  apply bls_ext
  · simp; omega
  · intro i hi
    rw [Array.getElem?_extract]
    simp
    exact ⟨by omega, by rw [h3 _ (by omega), flatS_at S k i hi]⟩
theorem builtSM1 (f : Nat → Bool) : (Try.prog).builtSlice 91 1 [(0, Value.agg (bls 10 f))] = some (bls 10 f) := by kernel_rfl
section
variable {ops : Array Oper} {rest : List Oper} {o : Oper} {a : Act} {w : World} {Q : Exit → Act → World → Prop}
theorem wpL_loadMr {x : Operand} {g n k : Nat} {S : Nat → Nat → Bool} (hgd : o.guard = none) (ho : o.op = .load 91 x) (hx : a.eval x = .pointer (some ⟨g, k * 10, none⟩)) (hp : MRow w g n S) (hk : k < n)
    (h : wpList Try.prog ops Q rest (a.put o.dst (.agg (bls 10 (S k)))) w) : wpList Try.prog ops Q (o :: rest) a w := by
  obtain ⟨cur, h1, h2, h3⟩ := hp.sub hk
  exact wpL_loadSub hgd ho hx rowMe h1 h2 h3 h
theorem wpL_sliceM {p : Operand} {f : Nat → Bool} (hgd : o.guard = none) (ho : o.op = .buildSlice 99 1 #[(0, p)]) (hx : a.eval p = .agg (bls 10 f))
    (h : wpList Try.prog ops Q rest (a.put o.dst (.slice (some ⟨w.heap.size, 0, none⟩) 1 1)) (w.alloc (.cells (bls 10 f) 91))) : wpList Try.prog ops Q (o :: rest) a w := by
  refine Great.wpList_buildSliceTo hgd 99 91 1 _ ho _ rfl o.dst rfl Try.underlying99 (bls 10 f) ?_ h
  have hp : ((#[(0, p)] : Array (Nat × Operand)).map fun (i, x) => (i, a.eval x)).toList = [(0, Value.agg (bls 10 f))] := by simp [hx]
  rw [hp]
  exact builtSM1 f
set_option maxRecDepth 100000 in
theorem wpL_appM {s x : Operand} (hgd : o.guard = none) (ho : o.op = .call { callee := .builtin .append, args := #[s, x], argTypes := #[99, 99] }) {v : Value} {n base c g : Nat} {S : Nat → Nat → Bool}
    (hs : a.eval s = v) (hx : a.eval x = .slice (some ⟨g, 0, none⟩) 1 c) (hown : OM w base v n S) (hg : holds w g (bls 10 (S n)) 91) (hn : n ≤ 1000) (hbase : base ≤ w.heap.size)
    (h : ∀ g cap w', OM w' base (.slice (some ⟨g, 0, none⟩) (n + 1) cap) (n + 1) S → w.grownBy w' v.ownBlock → (v.ownBlock = some g ∨ g = w.heap.size) → g < w'.heap.size → wpList Try.prog ops Q rest (a.put o.dst (.slice (some ⟨g, 0, none⟩) (n + 1) cap)) w') : wpList Try.prog ops Q (o :: rest) a w := by
  obtain ⟨i, hi, hz, h1, h2⟩ := info_parts infoMe
  refine wpList_append_lies w hgd s x 99 ho base 91 i (.agg (bls 10 fun _ => false)) 10 10 Try.underlying99 hi hz h1 h2 (by simp [Value.cells]) (by omega) v n _ hs hown ⟨g, 0, none⟩ 1 c (bls 10 (S n)).toList hx (by simp) (fun j u hj => ?_) (fun u hu => ?_) (by omega) (by unfold maxLen; omega) (by omega) hbase _ rfl (fun g cap w' ho2 hg2 hor hlt => h g cap w' ?_ hg2 hor hlt)
  · have hadd : (⟨g, 0, none⟩ : Addr).add j = ⟨g, j, none⟩ := by unfold Addr.add; split <;> simp_all
    rw [hadd, holds_cell hg, ← Array.getElem?_toList]; exact hj
  · exact (Array.all_eq_true_iff_forall_mem.1 (bls_one 10 (S n))) u (by simpa using hu)
  · unfold OM
    rw [show (n + 1) * 10 = n * 10 + 10 by omega, ← bls_app (n * 10) 10 (flatS S) (flatS S) (S n) (fun _ _ => rfl) (fun j hj => flatS_at S n j hj)]
    exact ho2
end
/-- What a function hands back that makes a list of sets alone. -/
def GotM (n : Nat) (S : Nat → Nat → Bool) (w : World) (e : Ending) (w' : World) : Prop := ∃ v, e = .returned v ∧ Below w.heap.size w w' ∧ OM w' w.heap.size v n S
theorem OM.lower {w : World} {B B' n : Nat} {v : Value} {S : Nat → Nat → Bool} (h : OM w B v n S) (hb : B' ≤ B) : OM w B' v n S := by
  refine ⟨h.1, ?_⟩
  rcases h.2 with h2 | ⟨g, cap, cur, e, hB, hr⟩
  · exact .inl h2
  · exact .inr ⟨g, cap, cur, e, by omega, hr⟩
set_option maxRecDepth 100000 in
set_option maxHeartbeats 4000000 in
theorem listsOf_any (g n c : Nat) (S : Nat → Nat → Bool) (w : World) (hn : n ≤ 1000) (hM : MRow w g n S) :
    Calls Try.prog 86 #[.slice (some ⟨g, 0, none⟩) n c] w (GotLP n (fun k => selL (S k) 10) w) := by
  have hg := hM.lt
  have HM := hid hM
  clear hM
  have hn2 : (n : Int) ≤ 1000 := by omega
  have hH := Has.nil w
  go_enter Try.func86, Try.ntmps86
  go_wp2_with (refine wpL_makeS (n := n) (base := w.heap.size) rfl (by rfl) (by rfl) (by rfl) (by omega) hH.size ?_; intro w3 hown hgm; replace hH := hH.grown hgm (fun x hx => by cases hx); have HP := hid (LP.start (l := fun k => selL (S k) 10) hown); replace HM := hid (HM.out.grown hgm (by simp)); clear hown hgm)
  go_loopw [3, 11] (fun v i wr => ∃ k : Nat, k ≤ n ∧ i = .int .i64 k ∧ Has w wr [] ∧ Hid (MRow wr g n S) ∧ Hid (LP wr w.heap.size v k (fun k => selL (S k) 10))) (fun _ i _ => n - (intOf i).toNat)
  case atStart => exact ⟨0, by omega, rfl, hH, HM, HP⟩
  case round =>
    clear hH HM HP
    obtain ⟨k, hk, rfl, hH, HM, HP⟩ := hrel
    have hsz := hH.size
    simp only [List.length_nil, Nat.add_zero] at hsz
    by_cases hlt : k < n
    · have hk1 : (k : Int) < n := by omega
      have HZ := hid (show wr.heap.size = wr.heap.size from rfl)
      go_wp2_with (first | fail | (refine wpL_loadMr rfl rfl rfl HM.out hlt ?_) | (refine wpL_allocN (o := ⟨some 5, _, _, _, _, _⟩) rfl rfl zeroMe ?_; intro gb w4 hgb hl4 hb; have hlo : w.heap.size ≤ gb := (by omega); replace hH := hH.call' hb; have HM4 := hid (HM.out.below hb); have HB4 := hid hb; clear hb) | (refine wpL_storeFull (x := .tmp 5) rfl rfl rfl rfl rowMe hgb (bls_size _ _) (bls_ok _ _) ?_; have hgb2 : holds (w4.setRow gb (bls 10 (S k))) gb (bls 10 (S k)) 91 := holds_row hgb; have HB5 := hid (show Below wr.heap.size wr (w4.setRow gb (bls 10 (S k))) from below_setRow HB4.out hl4 _); replace hH := hH.setRowAbove (by simpa using hlo) (bls 10 (S k)); replace HM := hid (HM.out.below HB5.out); replace HP := hid (HP.out.below HB5.out); clear HB4 HM4 hgb) | (refine wpL_loadFull (x := .tmp 5) rfl rfl rfl rowMe hgb2 (bls_size _ _) ?_))
      obtain ⟨w5, hw5⟩ : ∃ w5, w4.setRow gb (bls 10 (S k)) = w5 := ⟨_, rfl⟩
      rw [hw5] at hH HM HP hgb2 ⊢
      clear HB5 hw5
      have hs5 := hH.size
      simp only [List.length_nil, Nat.add_zero] at hs5
      have HPt := hid HP.out.top
      obtain ⟨xs, X, p, q, hP⟩ := HP.out
      have HP2 := hid hP
      clear hP HP hgb2
      go_wp2_with (first | fail | (go_at_call 79; refine (membersList_any (S k) _).mono ?_; rintro e w6 ⟨v0, rfl, hb, hO⟩; obtain ⟨a0, c0, rfl⟩ := (IL.of_own hO).form; have HI := hid (IL.of_own hO); have HOw := hid (own_kept HP2.out.own hb.block); have HB6 := hid hb; have hs6 := hb.size; replace hH := hH.call' hb; replace HM := hid (HM.out.below hb); clear hb hO) | (refine wpL_appS (v := u3) (n := k) (base := w.heap.size) (xs := xs) (p := a0) (l := (selL (S k) 10).length) (k := c0) rfl (by rfl) (by rfl) (by rfl) (World.ownsRow.alloc HOw.out _) (by simp) (by omega) (by simp; omega) ?_; intro r cap w2 how hgr hor hlt3; have HP3 := hid (HP2.out.push hs5 HB6.out HI.out how hgr hor); replace hH := (hH.alloc _).grown hgr (fun x hx => by have := HPt.out x hx; simp; omega); replace HM := hid ((HM.out.alloc _).grown hgr (fun e => by have := HPt.out g e; omega)); clear how hgr hor hlt3))
      go_roundw
      case rel => exact ⟨k + 1, by omega, by go_num, hH, HM, HP3⟩
      case measure => simp [intOf]; omega
    · obtain rfl : k = n := by omega
      go_wp2
      go_ret
      exact ⟨_, rfl, hH.below, HP.out⟩
end Go.Proofs.Ytpfhjbcmlebejab
namespace Go.Proofs.Ytpfhjbcmlebejab
set_option linter.unusedVariables false
set_option linter.unusedSimpArgs false
open Go.RowKit
theorem gdMeU : Try.prog.eqGuardType Try.prog.depth 91 = false := by kernel_rfl
theorem gdBoU : Try.prog.eqGuardType Try.prog.depth 90 = false := by kernel_rfl
theorem szBoolU : (Try.prog.info? 4).map (·.size) = some 1 := by kernel_rfl
theorem eqMeU (a b : Nat → Bool) (w : World) : (Op.equalIn Op.maxDepth 91 (.agg (bls 10 a)) (.agg (bls 10 b))).run Try.prog w = .ok (eqL a b) w :=
  run_eq_bools w _ 91 4 _ _ a b Try.underlying91 Try.underlying4 szBoolU rfl rfl
theorem eqBoU (a b : Nat → Bool) (w : World) : (Op.equalIn Op.maxDepth 90 (.agg (bls 10 a)) (.agg (bls 10 b))).run Try.prog w = .ok (eqL a b) w :=
  run_eq_bools w _ 90 4 _ _ a b Try.underlying90 Try.underlying4 szBoolU rfl rfl
theorem imp_noU {a b : Bool} (h : a = true → b = true) (hb : b = false) : a = false := by
  cases a with
  | false => rfl
  | true => rw [h rfl] at hb; cases hb
theorem in_one : inL (fun _ => (0 : Int)) 1 = oneS := by
  funext j
  have h : inL (fun _ => (0 : Int)) 1 j = true ↔ oneS j = true := by
    rw [inL_iff, oneS_iff]
    constructor
    · rintro ⟨i, _, h⟩; omega
    · rintro rfl; exact ⟨0, by omega, rfl⟩
  exact bool_same h
theorem row_one (w : World) : Row (w.alloc (.cells #[.int .i64 0] 2)) w.heap.size 1 (fun _ => (0 : Int)) :=
  ⟨_, holds_new _ _ _, by simp, fun i hi => by obtain rfl : i = 0 := (by omega); rfl⟩
theorem ok_one {N : Nat} (h : 1 ≤ N) : ∀ i, i < 1 → OkAt (fun _ => (0 : Int)) N i := fun i hi => by
  obtain rfl : i = 0 := by omega
  exact ⟨by show (0 : Int) ≤ 0; omega, by show (0 : Int) < N; omega, fun h => by omega⟩
/-- The blocks of the list of 0 and of the set. -/
structure XN where
  a : Nat
  b : Nat
def rowsBo (w : World) (b : Nat) : Prop := ∃ cs, holds w b cs 90 ∧ cs.size = 10
theorem rowsBo.below {w w' : World} {b : Nat} (h : rowsBo w b) (hb : Below w.heap.size w w') : rowsBo w' b := by
  obtain ⟨cs, h1, h2⟩ := h; exact ⟨cs, holds_below h1 hb (holds_lt h1), h2⟩
theorem rowsBo.alloc {w : World} {b : Nat} (h : rowsBo w b) (o : Obj) : rowsBo (w.alloc o) b := by
  obtain ⟨cs, h1, h2⟩ := h; exact ⟨cs, holds_alloc h1 o, h2⟩
theorem serS_next (g : Nat → UInt8) (N k : Nat) : nxS g N (serS g N k) = serS g N (k + 1) := rfl
theorem serS_first (g : Nat → UInt8) (N : Nat) : nxS g N oneS = serS g N 0 := rfl
set_option maxRecDepth 100000 in
set_option maxHeartbeats 2000000 in
theorem l05Series_any (N M : Nat) (g : Nat → UInt8) (w : World) (hq : IsSq N g) (hE : SerE g N M) :
    Calls Try.prog 88 #[.agg (sqc N g)] w (GotLP (M + 1) (serL g N) w) := by
  have h1 := hq.lo
  have h10 := hq.hi
  have HQ := hid hq
  have HE := hid hE
  have HO1 := hid (ok_one h1)
  clear hq hE
  have hH := Has.start1 w (sqc N g) 30
  go_enter Try.func88, Try.ntmps88
  go_wp2
  refine wp_region_frame (X := XN) (fun d x => [(6, bif d 0 then .agg (sqc N g) else undef), (7, bif d 1 then .slice (some ⟨x.a, 0, none⟩) 1 1 else undef), (8, bif d 2 then .agg (bls 10 oneS) else undef), (9, bif d 3 then .agg (bls 10 (serS g N 0)) else undef), (3, bif d 4 then .pointer (some ⟨x.b, 0, none⟩) else undef)])
    (fun d x w' => Has w w' [(sqc N g, 30)] ∧ (d 1 = true → (d 5 = false → Row w' x.a 1 (fun _ => (0 : Int)))) ∧ (d 4 = true → (w.heap.size + 1 ≤ x.b ∧ rowsBo w' x.b)) ∧ (d 5 = true → holds w' x.b (bls 10 (serS g N 0)) 90) ∧ (d 5 = true → d 4 = true) ∧ (d 5 = true → d 2 = true)) (by kernel_rfl) (by kernel_rfl) ?h0_ra ?hs_ra ?hq_ra
  case h0_ra => exact ⟨⟨0, 0⟩, (by simp [lput]), hH.drew, (fun h => by cases h), (fun h => by cases h), (fun h => by cases h), (fun h => by cases h), (fun h => by cases h)⟩
  case hs_ra =>
    refine ⟨?_, ?_, ?_, ?_, ?_, ?_, trivial⟩
    all_goals
      clear hH
      intro d x w1 hd hn hJ
      simp only [needs, Region.binds, reduceCtorEq, Bool.false_eq_true, false_implies, true_and, and_true, true_implies, forall_const] at hn
      simp only [lput, List.set, hn, cond_true]
      obtain ⟨hH, hA, hG, hS, I5_4, I5_2⟩ := hJ
      (try have hA_ := hA (by simp only [hn]))
      (try have hG_ := hG (by simp only [hn]))
      (try have hS_ := hS (by simp only [hn]))
      have zz := hH.size
      simp only [List.length_cons, List.length_nil] at zz
      go_wp2_with (first | fail | (refine wpL_loadFull rfl rfl rfl rowSq hH.h0 (sqc_size _ _) ?_) | (go_at_call 122; have z5 := imp_noU I5_2 hd; refine (l05Set_any N x.a 1 1 (fun _ => (0 : Int)) _ h10 (hA_ z5) HO1.out).mono ?_; rintro e w3 ⟨rfl, hb⟩; rw [in_one]; replace hH := hH.call' hb; replace hA := fun e f => (hA e f).below hb; replace hG := fun e => And.intro (hG e).1 ((hG e).2.below hb); replace hS := fun e => holds_below (hS e) hb (holds_lt (hS e)); clear hb) | (go_at_call 125; refine (l05Next_any N g oneS _ HQ.out).mono ?_; rintro e w3 ⟨rfl, hb⟩; rw [serS_first]; replace hH := hH.call' hb; replace hA := fun e f => (hA e f).below hb; replace hG := fun e => And.intro (hG e).1 ((hG e).2.below hb); replace hS := fun e => holds_below (hS e) hb (holds_lt (hS e)); clear hb) | (refine wpL_alloc rfl rfl zeroBo ?_; intro g0 hg0; subst hg0; have z5 := imp_noU I5_4 hd) | (obtain ⟨hlo, cs, hcs, hcz⟩ := hG_; refine wpL_storeFull rfl rfl rfl rfl rowBo hcs hcz (bls_ok _ _) ?_))
      first
        | (refine ⟨⟨w1.heap.size, x.b⟩, ?_, hH.alloc _, (fun _ _ => row_one w1), (fun e => ⟨(hG (done_ne e (by decide))).1, (hG (done_ne e (by decide))).2.alloc _⟩), (fun e => holds_alloc (hS (done_ne e (by decide))) _), (by intro e; first | (simp [done]; done) | (have e2 := I5_4 (done_ne e (by decide)); simp [done, e2]; done) | (simp [done, hn]; done)), (by intro e; first | (simp [done]; done) | (have e2 := I5_2 (done_ne e (by decide)); simp [done, e2]; done) | (simp [done, hn]; done))⟩; (simp [lput, done, hn]; done))
        | (refine ⟨⟨x.a, w1.heap.size⟩, ?_, hH.alloc _, (fun e f => (hA (done_ne e (by decide)) z5).alloc _), (fun _ => ⟨by show w.heap.size + 1 ≤ w1.heap.size; omega, _, holds_new _ _ _, bls_size _ _⟩), (fun e => by have := done_ne e (by decide); rw [z5] at this; cases this), (by intro e; first | (simp [done]; done) | (have e2 := I5_4 (done_ne e (by decide)); simp [done, e2]; done) | (simp [done, hn]; done)), (by intro e; first | (simp [done]; done) | (have e2 := I5_2 (done_ne e (by decide)); simp [done, e2]; done) | (simp [done, hn]; done))⟩; (simp [lput, done, hn]; done))
        | (refine ⟨x, ?_, hH.setRowAbove (by simpa using hlo) _, (fun _ f => by simp [done] at f), (fun e => ⟨hlo, _, holds_row hcs, bls_size _ _⟩), (fun _ => holds_row hcs), (by intro e; simp [done, hn]), (by intro e; simp [done, hn])⟩; (simp [lput, done, hn]; done))
        | (refine ⟨x, ?_, hH, (fun e => hA (done_ne e (by decide))), (fun e => hG (done_ne e (by decide))), (fun e => hS (done_ne e (by decide))), (by intro e; first | (simp [done]; done) | (have e2 := I5_4 (done_ne e (by decide)); simp [done, e2]; done) | (simp [done, hn]; done)), (by intro e; first | (simp [done]; done) | (have e2 := I5_2 (done_ne e (by decide)); simp [done, e2]; done) | (simp [done, hn]; done))⟩; (simp [lput, done, hn]; done))
        | (refine ⟨?_, hH, (fun e => hA (done_ne e (by decide))), (fun e => hG (done_ne e (by decide))), (fun e => hS (done_ne e (by decide))), (by intro e; first | (simp [done]; done) | (have e2 := I5_4 (done_ne e (by decide)); simp [done, e2]; done) | (simp [done, hn]; done)), (by intro e; first | (simp [done]; done) | (have e2 := I5_2 (done_ne e (by decide)); simp [done, e2]; done) | (simp [done, hn]; done))⟩; (simp [lput, done, hn]; done))
        | (refine ⟨x, ?_, hH, (fun e => hA (done_ne e (by decide))), (fun e => hG (done_ne e (by decide))), (fun e => hS (done_ne e (by decide))), (by intro e; first | (simp [done]; done) | (have e2 := I5_4 (done_ne e (by decide)); simp [done, e2]; done) | (simp [done, hn]; done)), (by intro e; first | (simp [done]; done) | (have e2 := I5_2 (done_ne e (by decide)); simp [done, e2]; done) | (simp [done, hn]; done))⟩; (simp [lput, done, hn]; rfl))
        | (refine ⟨?_, hH, (fun e => hA (done_ne e (by decide))), (fun e => hG (done_ne e (by decide))), (fun e => hS (done_ne e (by decide))), (by intro e; first | (simp [done]; done) | (have e2 := I5_4 (done_ne e (by decide)); simp [done, e2]; done) | (simp [done, hn]; done)), (by intro e; first | (simp [done]; done) | (have e2 := I5_2 (done_ne e (by decide)); simp [done, e2]; done) | (simp [done, hn]; done))⟩; (simp [lput, done, hn]; rfl))
        | (refine ⟨x, ?_, hH, (fun e => hA (done_ne e (by decide))), (fun e => hG (done_ne e (by decide))), (fun e => hS (done_ne e (by decide))), (by intro e; first | (simp [done]; done) | (have e2 := I5_4 (done_ne e (by decide)); simp [done, e2]; done) | (simp [done, hn]; done)), (by intro e; first | (simp [done]; done) | (have e2 := I5_2 (done_ne e (by decide)); simp [done, e2]; done) | (simp [done, hn]; done))⟩; (simp [lput, done]; done))
        | (refine ⟨?_, hH, (fun e => hA (done_ne e (by decide))), (fun e => hG (done_ne e (by decide))), (fun e => hS (done_ne e (by decide))), (by intro e; first | (simp [done]; done) | (have e2 := I5_4 (done_ne e (by decide)); simp [done, e2]; done) | (simp [done, hn]; done)), (by intro e; first | (simp [done]; done) | (have e2 := I5_2 (done_ne e (by decide)); simp [done, e2]; done) | (simp [done, hn]; done))⟩; (simp [lput, done]; done))
        | (refine ⟨x, ?_, hH, (fun e => hA (done_ne e (by decide))), (fun e => hG (done_ne e (by decide))), (fun e => hS (done_ne e (by decide))), (by intro e; first | (simp [done]; done) | (have e2 := I5_4 (done_ne e (by decide)); simp [done, e2]; done) | (simp [done, hn]; done)), (by intro e; first | (simp [done]; done) | (have e2 := I5_2 (done_ne e (by decide)); simp [done, e2]; done) | (simp [done, hn]; done))⟩; (simp [lput, done]; rfl))
        | (refine ⟨?_, hH, (fun e => hA (done_ne e (by decide))), (fun e => hG (done_ne e (by decide))), (fun e => hS (done_ne e (by decide))), (by intro e; first | (simp [done]; done) | (have e2 := I5_4 (done_ne e (by decide)); simp [done, e2]; done) | (simp [done, hn]; done)), (by intro e; first | (simp [done]; done) | (have e2 := I5_2 (done_ne e (by decide)); simp [done, e2]; done) | (simp [done, hn]; done))⟩; (simp [lput, done]; rfl))
  case hq_ra =>
    clear hH
    intro d x w1 hd hJ
    simp only [allDone, List.length_cons, List.length_nil, Nat.reduceAdd, and_true] at hd
    obtain ⟨hH, hA, hG, hS, I5_4, I5_2⟩ := hJ
    replace hA := hA (by simp only [hd])
    replace hG := hG (by simp only [hd])
    replace hS := hS (by simp only [hd])
    clear I5_4
    clear I5_2
    simp only [lput, List.set, hd, cond_true]
    clear hd
    obtain ⟨gn, hgn⟩ : ∃ gn, x.b = gn := ⟨_, rfl⟩
    rw [hgn] at hG hS ⊢
    have hlo := hG.1
    clear hgn
    have hgn := hS
    clear hA hG hS
    have hgB := holds_lt hgn
    obtain ⟨B, hB⟩ : ∃ B, w1.heap.size = B := ⟨_, rfl⟩
    have hsz := hH.size
    simp only [List.length_cons, List.length_nil] at hsz
    go_wp2_with (first | fail | (refine wpL_loadFull (x := .tmp 3) rfl rfl rfl rowBo hgn (bls_size _ _) ?_) | (go_at_call 124; refine (l05Told_any (serS g N 0) _).mono ?_; rintro e w3 ⟨v0, rfl, hb, hO⟩; rw [hB] at hO; obtain ⟨a0, c0, rfl⟩ := (IL.of_own hO).form; have hs3 := hb.size; have HP := hid (LP.one (l := serL g N) (B := B) (IL.of_own hO) (Nat.le_refl _) (Nat.le_refl _) (by omega)); replace hH := hH.call' hb; replace hgn := holds_below hgn hb (holds_lt hgn); clear hb hO))
    rw [hB] at hgB hsz
    replace hH := hH.alloc (.cells #[.slice a0 (selL (serS g N 0) 10).length c0] 45)
    replace hgn := holds_alloc hgn (.cells #[.slice a0 (selL (serS g N 0) 10).length c0] 45)
    clear hB hs3
    go_loopw [4] (fun v wr => ∃ k : Nat, k ≤ M ∧ Has w wr [(sqc N g, 30)] ∧ holds wr gn (bls 10 (serS g N k)) 90 ∧ Hid (LP wr B v (k + 1) (serL g N))) (fun v _ => 20 - lenV v)
    case atStart => exact ⟨0, by omega, hH, hgn, HP⟩
    case round =>
      clear hH hgn HP
      obtain ⟨k, hk, hH, hgn, HP⟩ := hrel
      obtain ⟨a4, c4, e4⟩ := HP.out.form
      subst e4
      have hM10 := HE.out.le
      have hst := HE.out.step hk
      obtain ⟨sk, hsk⟩ : ∃ s, serS g N k = s := ⟨_, rfl⟩
      obtain ⟨tk, htk⟩ : ∃ s, serS g N (k + 1) = s := ⟨_, rfl⟩
      have HNX : Hid (nxS g N sk = tk) := hid (by rw [← hsk, ← htk]; rfl)
      have HSL : Hid (selL tk 10 = serL g N (k + 1)) := hid (by rw [← htk]; rfl)
      have HTK := hid htk
      rw [hsk, htk] at hst
      rw [hsk] at hgn
      have HST := hid hst
      clear hst hsk htk
      by_cases hkM : k = M
      · have HT : Hid (eqL (tk) (sk) = true) := hid (by have := HST.out; rwa [decide_eq_true hkM] at this)
        go_wp2_with (first | fail | (refine wpL_loadFull rfl rfl rfl rowSq hH.h0 (sqc_size _ _) ?_) | (refine wpL_loadFull (x := .tmp 3) rfl rfl rfl rowBo hgn (bls_size _ _) ?_) | (go_at_call 125; refine (l05Next_any N g (sk) _ HQ.out).mono ?_; rintro e w3 ⟨rfl, hb⟩; rw [HNX.out]; replace hH := hH.call' hb; replace hgn := holds_below hgn hb (holds_lt hgn); replace HP := hid (HP.out.below hb); clear hb) | (refine wpL_storeFull (x := .tmp 5) rfl rfl rfl rfl rowBo hgx (bls_size _ _) (bls_ok _ _) ?_; have hgx2 := holds_row (cs' := bls 10 (tk)) hgx; have HB5 := hid (below_setRow HB4.out hl4 (bls 10 (tk))); replace hH := hH.setRowAbove (by simpa using hlx) (bls 10 (tk)); replace hgn := holds_below hgn HB5.out (holds_lt hgn); replace HP := hid (HP.out.below HB5.out); clear HB4 HB5 hgx) | (refine wpL_loadFull (x := .tmp 5) rfl rfl rfl rowBo hgx2 (bls_size _ _) ?_) | (refine wpL_eqAgg rfl rfl rfl rfl gdBoU (eqBoU _ _ _) ?_; rw [HT.out]) | (refine wpL_allocN (o := ⟨some 5, _, _, _, _, _⟩) rfl rfl zeroBo ?_; intro gx w4 hgx hl4 hb; have HB4 := hid hb; have hlx : w.heap.size + 1 ≤ gx := (by have := hH.size; simp only [List.length_cons, List.length_nil] at this; omega); replace hH := hH.call' hb; clear hb))
        go_ret
        exact ⟨_, rfl, hH.below, by rw [← hkM]; exact HP.out.lower (by omega)⟩
      · have HT : Hid (eqL (tk) (sk) = false) := hid (by have := HST.out; rwa [decide_eq_false hkM] at this)
        clear HST
        go_wp2_with (first | fail | (refine wpL_loadFull rfl rfl rfl rowSq hH.h0 (sqc_size _ _) ?_) | (refine wpL_loadFull (x := .tmp 3) rfl rfl rfl rowBo hgn (bls_size _ _) ?_) | (go_at_call 125; refine (l05Next_any N g (sk) _ HQ.out).mono ?_; rintro e w3 ⟨rfl, hb⟩; rw [HNX.out]; replace hH := hH.call' hb; replace hgn := holds_below hgn hb (holds_lt hgn); replace HP := hid (HP.out.below hb); clear hb) | (refine wpL_storeFull (x := .tmp 5) rfl rfl rfl rfl rowBo hgx (bls_size _ _) (bls_ok _ _) ?_; have hgx2 := holds_row (cs' := bls 10 (tk)) hgx; have HB5 := hid (below_setRow HB4.out hl4 (bls 10 (tk))); replace hH := hH.setRowAbove (by simpa using hlx) (bls 10 (tk)); replace hgn := holds_below hgn HB5.out (holds_lt hgn); replace HP := hid (HP.out.below HB5.out); clear HB4 HB5 hgx) | (refine wpL_loadFull (x := .tmp 5) rfl rfl rfl rowBo hgx2 (bls_size _ _) ?_) | (refine wpL_eqAgg rfl rfl rfl rfl gdBoU (eqBoU _ _ _) ?_; rw [HT.out]) | (refine wpL_storeFull (x := .tmp 3) rfl rfl rfl rfl rowBo hgn (bls_size _ _) (bls_ok _ _) ?_; replace hgn := holds_row (cs' := bls 10 (tk)) hgn; replace hH := hH.setRowAbove (by simpa using hlo) (bls 10 (tk)); replace HP := hid (HP.out.setRow (by omega) (bls 10 (tk))); clear hgx2) | (go_at_call 124; refine (l05Told_any tk _).mono ?_; rintro e w6 ⟨v0, rfl, hb, hO⟩; obtain ⟨a0, c0, rfl⟩ := (IL.of_own hO).form; have hsB := HP.out.size; have HPt := hid HP.out.top; obtain ⟨xs, X, p, q, hP⟩ := HP.out; have HP2 := hid hP; clear HP; have hio := IL.of_own hO; rw [HSL.out] at hio; have HI := hid hio; have HOw := hid (own_kept HP2.out.own hb.block); have HB6 := hid hb; have hs6 := hb.size; replace hH := hH.call' hb; replace hgn := holds_below hgn hb (holds_lt hgn); clear hb hO hio hP) | (refine wpL_appS (v := .slice a4 (k + 1) c4) (n := k + 1) (base := B) (xs := xs) (p := a0) (l := (selL tk 10).length) (k := c0) rfl (by rfl) (by rfl) (by rfl) (World.ownsRow.alloc HOw.out _) (by simp) (by omega) (by simp; omega) ?_; intro r cap w2 how hgr hor hlt3; have HP3 := hid (HP2.out.push hsB HB6.out (by rw [HSL.out]; exact HI.out) how hgr hor); replace hH := (hH.alloc _).grown hgr (fun x hx => by have := HPt.out x hx; simp; omega); replace hgn := holds_grown (holds_alloc hgn _) hgr (fun e => by have := HPt.out gn e; omega); clear how hgr hor hlt3) | (refine wpL_allocN (o := ⟨some 5, _, _, _, _, _⟩) rfl rfl zeroBo ?_; intro gx w4 hgx hl4 hb; have HB4 := hid hb; have hlx : w.heap.size + 1 ≤ gx := (by have := hH.size; simp only [List.length_cons, List.length_nil] at this; omega); replace hH := hH.call' hb; clear hb))
        go_roundw
        case rel => exact ⟨k + 1, by omega, hH, by rw [HTK.out]; exact hgn, HP3⟩
        case measure => simp [lenV]; omega
end Go.Proofs.Ytpfhjbcmlebejab
namespace Go.Proofs.Ytpfhjbcmlebejab
set_option linter.unusedVariables false
set_option linter.unusedSimpArgs false
open Go.RowKit
theorem OM.size {w : World} {B n : Nat} {v : Value} {S : Nat → Nat → Bool} (h : OM w B v (n + 1) S) : B ≤ w.heap.size := by
  obtain ⟨g, c, _, hB, hM⟩ := h.form (by omega)
  have := hM.lt; omega
theorem centreOver_nx (N gb : Nat) (g : Nat → UInt8) (s t : Nat → Bool) (w : World) (hq : IsSq N g) (hg : Dv w gb N g) (ht : nxS g N s = t) :
    Calls Try.prog 127 #[.pointer (some ⟨gb, 0, none⟩), .agg (bls 10 s)] w fun e w' => e = .returned (.agg (bls 10 t)) ∧ Below w.heap.size w w' := by
  rw [← ht]; exact centreOver_any N gb g s w hq hg
set_option maxRecDepth 100000 in
set_option maxHeartbeats 8000000 in
theorem seriesOf_any (N M : Nat) (g : Nat → UInt8) (w : World) (hq : IsSq N g) (hE : SerE g N M) :
    Calls Try.prog 90 #[.agg (sqc N g)] w (GotM (M + 1) (serS g N) w) := by
  have HQ := hid hq
  have HE := hid hE
  clear hq hE
  obtain ⟨s0, hs0⟩ : ∃ s, serS g N 0 = s := ⟨_, rfl⟩
  have HN0 : Hid (nxS g N oneS = s0) := hid (by rw [← hs0]; rfl)
  have HS0 := hid hs0
  clear hs0
  have hH := Has.start1 w (sqc N g) 30
  go_enter Try.func90, Try.ntmps90
  go_wp2_with (first | fail | (refine wpL_loadFull rfl rfl rfl rowSq hH.h0 (sqc_size _ _) ?_) | (go_at_call 126; refine (divide_any N g _ HQ.out).mono ?_; rintro e w3 ⟨gb, rfl, hb, hD, hlo⟩; have hgb := holds_lt hD; replace hH := hH.call' hb; clear hb hlo) | (refine wpL_buildMe rfl (by rfl) (by rfl) ?_) | (go_at_call 127; refine (centreOver_nx N gb g oneS s0 _ HQ.out hD HN0.out).mono ?_; rintro e w4 ⟨rfl, hb⟩; replace hH := hH.call' hb; replace hD := Dv.below hD hb; clear hb) | (refine wpL_storeFull (x := .tmp 4) rfl rfl rfl rfl rowMe hgn (bls_size _ _) (bls_ok _ _) ?_; replace hgn := holds_row (cs' := bls 10 s0) hgn; replace hH := hH.setRowAbove (by simpa using hlo) (bls 10 s0); replace hD := holds_row_other (cs' := bls 10 s0) hD hne) | (refine wpL_loadFull (x := .tmp 4) rfl rfl rfl rowMe hgn (bls_size _ _) ?_) | (refine wpL_sliceM rfl (by rfl) (by rfl) ?_) | (refine wpL_allocN (o := ⟨some 4, _, _, _, _, _⟩) rfl rfl zeroMe ?_; intro gn w5 hgn hl5 hb; have hlo : w.heap.size + 1 ≤ gn := (by have := hH.size; simp only [List.length_cons, List.length_nil] at this; omega); have hne : gb ≠ gn := (by have := holds_lt hD; omega); replace hH := hH.call' hb; replace hD := Dv.below hD hb; clear hb))
  have hz56 : (w5.setRow gn (bls 10 s0)).heap.size = w5.heap.size := by simp
  obtain ⟨w6, h6⟩ : ∃ w6, w5.setRow gn (bls 10 s0) = w6 := ⟨_, rfl⟩
  rw [h6] at hH hgn hD hz56 ⊢
  rw [← hz56]
  clear h6
  have hOM := OM.one (w := w6) (S := serS g N) (B := w6.heap.size) (Nat.le_refl _)
  rw [HS0.out] at hOM
  have hgl := holds_lt hgn
  have hgbl := holds_lt hD
  have hwB := hH.size
  simp only [List.length_cons, List.length_nil] at hwB
  replace hH := hH.alloc (.cells (bls 10 s0) 91)
  replace hgn := holds_alloc hgn (.cells (bls 10 s0) 91)
  replace hD := Dv.alloc hD (.cells (bls 10 s0) 91)
  obtain ⟨B, hB⟩ : ∃ B, w6.heap.size = B := ⟨_, rfl⟩
  rw [hB] at hOM hgl hgbl hwB ⊢
  have HO := hid hOM
  clear hOM hB
  go_loopw [5] (fun v wr => ∃ k : Nat, k ≤ M ∧ Has w wr [(sqc N g, 30)] ∧ holds wr gn (bls 10 (serS g N k)) 91 ∧ Dv wr gb N g ∧ Hid (OM wr B v (k + 1) (serS g N))) (fun v _ => 20 - lenV v)
  case atStart => exact ⟨0, by omega, hH, by rw [HS0.out]; exact hgn, hD, HO⟩
  case round =>
    clear hH hgn hD HO
    obtain ⟨k, hk, hH, hgn, hD, HP⟩ := hrel
    obtain ⟨a5, c5, e5⟩ := HP.out.len
    subst e5
    have hM10 := HE.out.le
    have hst := HE.out.step hk
    obtain ⟨sk, hsk⟩ : ∃ s, serS g N k = s := ⟨_, rfl⟩
    obtain ⟨tk, htk⟩ : ∃ s, serS g N (k + 1) = s := ⟨_, rfl⟩
    have HNX : Hid (nxS g N sk = tk) := hid (by rw [← hsk, ← htk]; rfl)
    have HTK := hid htk
    rw [hsk, htk] at hst
    rw [hsk] at hgn
    have HST := hid hst
    clear hst hsk htk
    have hszr := hH.size
    simp only [List.length_cons, List.length_nil] at hszr
    by_cases hkM : k = M
    · have HT : Hid (eqL tk sk = true) := hid (by have := HST.out; rwa [decide_eq_true hkM] at this)
      go_wp2_with (first | fail | (refine wpL_loadFull (x := .tmp 4) rfl rfl rfl rowMe hgn (bls_size _ _) ?_) | (go_at_call 127; refine (centreOver_nx N gb g sk tk _ HQ.out hD HNX.out).mono ?_; rintro e w3 ⟨rfl, hb⟩; have hs3 := hb.size; replace hH := hH.call' hb; replace hgn := holds_below hgn hb (holds_lt hgn); replace hD := Dv.below hD hb; replace HP := hid (HP.out.below hb); clear hb) | (refine wpL_storeFull (x := .tmp 6) rfl rfl rfl rfl rowMe hgx (bls_size _ _) (bls_ok _ _) ?_; have hgx2 := holds_row (cs' := bls 10 tk) hgx; have HB5 := hid (below_setRow HB4.out hl4 (bls 10 tk)); replace hH := hH.setRowAbove (by simpa using hlx) (bls 10 tk); replace hgn := holds_below hgn HB5.out (holds_lt hgn); replace hD := Dv.below hD HB5.out; replace HP := hid (HP.out.below HB5.out); clear HB4 HB5 hgx) | (refine wpL_loadFull (x := .tmp 6) rfl rfl rfl rowMe hgx2 (bls_size _ _) ?_) | (refine wpL_eqAgg rfl rfl rfl rfl gdMeU (eqMeU _ _ _) ?_; rw [HT.out]) | (refine wpL_allocN (o := ⟨some 6, _, _, _, _, _⟩) rfl rfl zeroMe ?_; intro gx w4 hgx hl4 hb; have HB4 := hid hb; have hs4 := hb.size; have hlx : w.heap.size + 1 ≤ gx := (by have := hH.size; simp only [List.length_cons, List.length_nil] at this; omega); have hzx : wr.heap.size ≤ gx := (by omega); replace hH := hH.call' hb; clear hb))
      go_ret
      exact ⟨_, rfl, hH.below, by rw [← hkM]; exact HP.out.lower (by omega)⟩
    · have HT : Hid (eqL tk sk = false) := hid (by have := HST.out; rwa [decide_eq_false hkM] at this)
      have HPt := hid HP.out.top
      have hsB := HP.out.size
      clear HST
      go_wp2_with (first | fail | (refine wpL_loadFull (x := .tmp 4) rfl rfl rfl rowMe hgn (bls_size _ _) ?_) | (go_at_call 127; refine (centreOver_nx N gb g sk tk _ HQ.out hD HNX.out).mono ?_; rintro e w3 ⟨rfl, hb⟩; have hs3 := hb.size; replace hH := hH.call' hb; replace hgn := holds_below hgn hb (holds_lt hgn); replace hD := Dv.below hD hb; replace HP := hid (HP.out.below hb); clear hb) | (refine wpL_storeFull (x := .tmp 6) rfl rfl rfl rfl rowMe hgx (bls_size _ _) (bls_ok _ _) ?_; have hgx2 := holds_row (cs' := bls 10 tk) hgx; have HB5 := hid (below_setRow HB4.out hl4 (bls 10 tk)); replace hH := hH.setRowAbove (by simpa using hlx) (bls 10 tk); replace hgn := holds_below hgn HB5.out (holds_lt hgn); replace hD := Dv.below hD HB5.out; replace HP := hid (HP.out.below HB5.out); clear HB4 HB5 hgx) | (refine wpL_loadFull (x := .tmp 6) rfl rfl rfl rowMe hgx2 (bls_size _ _) ?_) | (refine wpL_eqAgg rfl rfl rfl rfl gdMeU (eqMeU _ _ _) ?_; rw [HT.out]) | (refine wpL_sliceM rfl (by rfl) (by rfl) ?_) | (refine wpL_appM (v := .slice a5 (k + 1) c5) (n := k + 1) (base := B) (S := serS g N) rfl (by rfl) (by rfl) (by rfl) (HP.out.alloc _) (by rw [HTK.out]; exact holds_new _ _ _) (by omega) (by simp; omega) ?_; intro r cap w2 how hgr hor hlt3; clear HP; have HP := hid how; replace hH := (hH.alloc _).grown hgr (fun x hx => by have := HPt.out x hx; simp; omega); replace hgn := holds_grown (holds_alloc hgn _) hgr (fun e => by have := HPt.out gn e; omega); replace hD := holds_grown (holds_alloc hD _) hgr (fun e => by have := HPt.out gb e; omega); replace hgx2 := holds_grown (holds_alloc hgx2 _) hgr (fun e => by have := HPt.out gx e; omega); clear how hgr hor hlt3) | (refine wpL_storeFull (x := .tmp 4) rfl rfl rfl rfl rowMe hgn (bls_size _ _) (bls_ok _ _) ?_; replace hgn := holds_row (cs' := bls 10 tk) hgn; replace hH := hH.setRowAbove (by simpa using hlo) (bls 10 tk); replace hD := holds_row_other (cs' := bls 10 tk) hD hne; replace HP := hid (HP.out.setRow (by omega) (bls 10 tk))) | (refine wpL_allocN (o := ⟨some 6, _, _, _, _, _⟩) rfl rfl zeroMe ?_; intro gx w4 hgx hl4 hb; have HB4 := hid hb; have hs4 := hb.size; have hlx : w.heap.size + 1 ≤ gx := (by have := hH.size; simp only [List.length_cons, List.length_nil] at this; omega); have hzx : wr.heap.size ≤ gx := (by omega); replace hH := hH.call' hb; clear hb))
      refine ⟨?rel, ?measure⟩
      case rel =>
        (repeat apply Exists.intro)
        refine ⟨?r, rfl⟩
        exact ⟨k + 1, by omega, hH, by rw [HTK.out]; exact hgn, hD, HP⟩
      case measure =>
        show 20 - (k + 1 + 1) < 20 - (k + 1)
        omega
end Go.Proofs.Ytpfhjbcmlebejab
namespace Go.Proofs.Ytpfhjbcmlebejab
set_option linter.unusedVariables false
set_option linter.unusedSimpArgs false
open Go.RowKit
set_option maxRecDepth 20000 in
theorem specUpperSeries_no (o : Int) (g : Nat → UInt8) (w : World) (hs : loopB o g = false) :
    Calls Try.prog 43 #[.agg (sqc o g)] w fun e w' => e = .returned (.tuple #[.slice none 0 0, .int .i64 1]) ∧ Below w.heap.size w w' := by
  have hH := Has.start1 w (sqc o g) 30
  go_enter Try.func43, Try.ntmps43
  go_wp2_with (first | (refine wpL_loadFull rfl rfl rfl rowSq hH.h0 (sqc_size _ _) ?_) | (go_at_call 87; refine (l01Loop_any o g _).mono ?_; rintro e w2 ⟨rfl, hb⟩; replace hH := hH.call' hb; clear hb; rw [hs]))
  go_ret2
  exact ⟨rfl, hH.below⟩
set_option maxRecDepth 20000 in
set_option maxHeartbeats 1000000 in
theorem specUpperSeries_yes (N M : Nat) (g : Nat → UInt8) (w : World) (hl : loopB (N : Int) g = true) (hq : IsSq N g) (hE : SerE g N M) :
    Calls Try.prog 43 #[.agg (sqc N g)] w (GotLL (M + 1) (serL g N) 0 w) := by
  have HQ := hid hq
  have HE := hid hE
  clear hq hE
  have hH := Has.start1 w (sqc N g) 30
  go_enter Try.func43, Try.ntmps43
  go_wp2_with (first | (refine wpL_loadFull rfl rfl rfl rowSq hH.h0 (sqc_size _ _) ?_) | (go_at_call 87; refine (l01Loop_any N g _).mono ?_; rintro e w2 ⟨rfl, hb⟩; replace hH := hH.call' hb; clear hb; rw [hl]) | (go_at_call 88; refine (l05Series_any N M g _ HQ.out HE.out).mono ?_; rintro e w3 ⟨v, rfl, hb, hO⟩; have hlo := hH.size; simp only [List.length_cons, List.length_nil] at hlo; replace hH := hH.call' hb; clear hb))
  go_ret2
  exact hO.got hH.below (by omega)
set_option maxRecDepth 20000 in
theorem implUpperSeries_no (o : Int) (g : Nat → UInt8) (w : World) (hs : loopB o g = false) :
    Calls Try.prog 44 #[.agg (sqc o g)] w fun e w' => e = .returned (.tuple #[.slice none 0 0, .int .i64 1]) ∧ Below w.heap.size w w' := by
  have hH := Has.start1 w (sqc o g) 30
  go_enter Try.func44, Try.ntmps44
  go_wp2_with (first | (refine wpL_loadFull rfl rfl rfl rowSq hH.h0 (sqc_size _ _) ?_) | (go_at_call 89; refine (IsLoop_any o g _).mono ?_; rintro e w2 ⟨rfl, hb⟩; replace hH := hH.call' hb; clear hb; rw [hs]))
  go_ret2
  exact ⟨rfl, hH.below⟩
set_option maxRecDepth 20000 in
set_option maxHeartbeats 1000000 in
theorem implUpperSeries_yes (N M : Nat) (g : Nat → UInt8) (w : World) (hl : loopB (N : Int) g = true) (hq : IsSq N g) (hE : SerE g N M) :
    Calls Try.prog 44 #[.agg (sqc N g)] w (GotLL (M + 1) (serL g N) 0 w) := by
  have hM := hE.le
  have HQ := hid hq
  have HE := hid hE
  clear hq hE
  have hH := Has.start1 w (sqc N g) 30
  go_enter Try.func44, Try.ntmps44
  go_wp2_with (first | (refine wpL_loadFull rfl rfl rfl rowSq hH.h0 (sqc_size _ _) ?_) | (go_at_call 89; refine (IsLoop_any N g _).mono ?_; rintro e w2 ⟨rfl, hb⟩; replace hH := hH.call' hb; clear hb; rw [hl]) | (go_at_call 90; refine (seriesOf_any N M g _ HQ.out HE.out).mono ?_; rintro e w3 ⟨v, rfl, hb, hO⟩; obtain ⟨gs, cs, rfl, hgs, hMR⟩ := hO.form (by omega); have HMR := hid hMR; replace hH := hH.call' hb; clear hb hO hMR) | (go_at_call 86; refine (listsOf_any gs (M + 1) cs (serS g N) _ (by omega) HMR.out).mono ?_; rintro e w4 ⟨v, rfl, hb, hO⟩; have hlo := hH.size; simp only [List.length_cons, List.length_nil] at hlo; replace hH := hH.call' hb; clear hb))
  go_ret2
  exact LP.got (l := serL g N) hO hH.below (by omega)
/-- The class of a loop, and the code. -/
noncomputable def clC (g : Nat → UInt8) (N M : Nat) : Int × Int := if N = 1 then (0, 0) else if (serL g N M).length < N then (0, 4) else ((M : Int) + 1, 0)
theorem clC_one (g : Nat → UInt8) (N M : Nat) (h : N = 1) : clC g N M = (0, 0) := by unfold clC; rw [if_pos h]
theorem clC_no (g : Nat → UInt8) (N M : Nat) (h : ¬ N = 1) (h2 : (serL g N M).length < N) : clC g N M = (0, 4) := by unfold clC; rw [if_neg h, if_pos h2]
theorem clC_yes (g : Nat → UInt8) (N M : Nat) (h : ¬ N = 1) (h2 : ¬ (serL g N M).length < N) : clC g N M = ((M : Int) + 1, 0) := by unfold clC; rw [if_neg h, if_neg h2]
set_option maxRecDepth 20000 in
theorem specClassOf_no (o : Int) (g : Nat → UInt8) (w : World) (hs : loopB o g = false) :
    Calls Try.prog 45 #[.agg (sqc o g)] w fun e w' => e = .returned (.tuple #[.int .i64 0, .int .i64 1]) ∧ Below w.heap.size w w' := by
  have hH := Has.start1 w (sqc o g) 30
  go_enter Try.func45, Try.ntmps45
  go_wp2_with (first | (refine wpL_loadFull rfl rfl rfl rowSq hH.h0 (sqc_size _ _) ?_) | (go_at_call 87; refine (l01Loop_any o g _).mono ?_; rintro e w2 ⟨rfl, hb⟩; replace hH := hH.call' hb; clear hb; rw [hs]))
  go_ret2
  exact ⟨rfl, hH.below⟩
set_option maxRecDepth 20000 in
theorem specClassOf_one (g : Nat → UInt8) (w : World) (hl : loopB 1 g = true) :
    Calls Try.prog 45 #[.agg (sqc 1 g)] w fun e w' => e = .returned (.tuple #[.int .i64 0, .int .i64 0]) ∧ Below w.heap.size w w' := by
  have hH := Has.start1 w (sqc 1 g) 30
  have c0 := hH.c0 0
  rw [sqc_get0] at c0
  go_enter Try.func45, Try.ntmps45
  go_wp2_with (first | (refine wpL_loadFull rfl rfl rfl rowSq hH.h0 (sqc_size _ _) ?_) | (go_at_call 87; refine (l01Loop_any 1 g _).mono ?_; rintro e w2 ⟨rfl, hb⟩; replace hH := hH.call' hb; clear hb; rw [hl]; clear c0; have c0 := hH.c0 0; rw [sqc_get0] at c0))
  go_ret2
  exact ⟨rfl, hH.below⟩
set_option maxRecDepth 20000 in
set_option maxHeartbeats 2000000 in
theorem specClassOf_in (N M : Nat) (g : Nat → UInt8) (w : World) (hl : loopB (N : Int) g = true) (hq : IsSq N g) (hE : SerE g N M) :
    Calls Try.prog 45 #[.agg (sqc N g)] w fun e w' => e = .returned (.tuple #[.int .i64 (clC g N M).1, .int .i64 (clC g N M).2]) ∧ Below w.heap.size w w' := by
  have hM := hE.le
  have HQ := hid hq
  have HE := hid hE
  clear hq hE
  have hH := Has.start1 w (sqc N g) 30
  have c0 := hH.c0 0
  rw [sqc_get0] at c0
  by_cases hN1 : N = 1
  · have hN1' : (N : Int) = 1 := by omega
    rw [clC_one g N M hN1]
    rw [hN1'] at hl ⊢
    exact specClassOf_one g w hl
  · have hN1' : ¬ (N : Int) = 1 := by omega
    obtain ⟨m, hm⟩ : ∃ m, (serL g N M).length = m := ⟨_, rfl⟩
    have HM := hid hm
    have HCy := hid (clC_yes g N M hN1)
    have HCn := hid (clC_no g N M hN1)
    clear hm
    by_cases hmN : m < N
    · have hmN' : (m : Int) < N := by omega
      rw [HCn.out (by rw [HM.out]; exact hmN)]
      go_enter Try.func45, Try.ntmps45
      go_wp2_with (first | (refine wpL_loadFull rfl rfl rfl rowSq hH.h0 (sqc_size _ _) ?_) | (go_at_call 87; refine (l01Loop_any N g _).mono ?_; rintro e w2 ⟨rfl, hb⟩; replace hH := hH.call' hb; clear hb; rw [hl]; clear c0; have c0 := hH.c0 0; rw [sqc_get0] at c0) | (go_at_call 88; refine (l05Series_any N M g _ HQ.out HE.out).mono ?_; rintro e w3 ⟨v, rfl, hb, hO⟩; have hdn := hO.done; replace hH := hH.call' hb; clear hb hO; clear c0; have c0 := hH.c0 0; rw [sqc_get0] at c0; obtain ⟨hx, hx0⟩ | ⟨bo, c, X, p, q, rfl, hLL⟩ := hdn; · omega))
      obtain ⟨a1, e1, c1, _⟩ := hLL.cell (j := M) (by omega)
      rw [HM.out] at c1
      clear hLL
      go_quiet (fail)
      go_wp2
      go_ret2
      exact ⟨rfl, (hH.drewN _).below⟩
    · have hmN' : ¬ (m : Int) < N := by omega
      rw [HCy.out (by rw [HM.out]; exact hmN)]
      go_enter Try.func45, Try.ntmps45
      go_wp2_with (first | (refine wpL_loadFull rfl rfl rfl rowSq hH.h0 (sqc_size _ _) ?_) | (go_at_call 87; refine (l01Loop_any N g _).mono ?_; rintro e w2 ⟨rfl, hb⟩; replace hH := hH.call' hb; clear hb; rw [hl]; clear c0; have c0 := hH.c0 0; rw [sqc_get0] at c0) | (go_at_call 88; refine (l05Series_any N M g _ HQ.out HE.out).mono ?_; rintro e w3 ⟨v, rfl, hb, hO⟩; have hdn := hO.done; replace hH := hH.call' hb; clear hb hO; clear c0; have c0 := hH.c0 0; rw [sqc_get0] at c0; obtain ⟨hx, hx0⟩ | ⟨bo, c, X, p, q, rfl, hLL⟩ := hdn; · omega))
      obtain ⟨a1, e1, c1, _⟩ := hLL.cell (j := M) (by omega)
      rw [HM.out] at c1
      clear hLL
      go_quiet (fail)
      go_wp2
      go_ret2
      exact ⟨by simp, (hH.drewN _).below⟩
set_option maxRecDepth 20000 in
theorem implClassOf_no (o : Int) (g : Nat → UInt8) (w : World) (hs : loopB o g = false) :
    Calls Try.prog 46 #[.agg (sqc o g)] w fun e w' => e = .returned (.tuple #[.int .i64 0, .int .i64 1]) ∧ Below w.heap.size w w' := by
  have hH := Has.start1 w (sqc o g) 30
  go_enter Try.func46, Try.ntmps46
  go_wp2_with (first | (refine wpL_loadFull rfl rfl rfl rowSq hH.h0 (sqc_size _ _) ?_) | (go_at_call 89; refine (IsLoop_any o g _).mono ?_; rintro e w2 ⟨rfl, hb⟩; replace hH := hH.call' hb; clear hb; rw [hs]))
  go_ret2
  exact ⟨rfl, hH.below⟩
set_option maxRecDepth 20000 in
theorem implClassOf_one (g : Nat → UInt8) (w : World) (hl : loopB 1 g = true) :
    Calls Try.prog 46 #[.agg (sqc 1 g)] w fun e w' => e = .returned (.tuple #[.int .i64 0, .int .i64 0]) ∧ Below w.heap.size w w' := by
  have hH := Has.start1 w (sqc 1 g) 30
  have c0 := hH.c0 0
  rw [sqc_get0] at c0
  go_enter Try.func46, Try.ntmps46
  go_wp2_with (first | (refine wpL_loadFull rfl rfl rfl rowSq hH.h0 (sqc_size _ _) ?_) | (go_at_call 89; refine (IsLoop_any 1 g _).mono ?_; rintro e w2 ⟨rfl, hb⟩; replace hH := hH.call' hb; clear hb; rw [hl]; clear c0; have c0 := hH.c0 0; rw [sqc_get0] at c0))
  go_ret2
  exact ⟨rfl, hH.below⟩
set_option maxRecDepth 20000 in
set_option maxHeartbeats 2000000 in
theorem implClassOf_in (N M : Nat) (g : Nat → UInt8) (w : World) (hl : loopB (N : Int) g = true) (hq : IsSq N g) (hE : SerE g N M) :
    Calls Try.prog 46 #[.agg (sqc N g)] w fun e w' => e = .returned (.tuple #[.int .i64 (clC g N M).1, .int .i64 (clC g N M).2]) ∧ Below w.heap.size w w' := by
  have hM := hE.le
  have HQ := hid hq
  have HE := hid hE
  clear hq hE
  have hH := Has.start1 w (sqc N g) 30
  have c0 := hH.c0 0
  rw [sqc_get0] at c0
  by_cases hN1 : N = 1
  · have hN1' : (N : Int) = 1 := by omega
    rw [clC_one g N M hN1]
    rw [hN1'] at hl ⊢
    exact implClassOf_one g w hl
  · have hN1' : ¬ (N : Int) = 1 := by omega
    obtain ⟨m, hm⟩ : ∃ m, (serL g N M).length = m := ⟨_, rfl⟩
    have HML : Hid ((selL (serS g N M) 10).length = m) := hid hm
    have HM := hid hm
    have HCy := hid (clC_yes g N M hN1)
    have HCn := hid (clC_no g N M hN1)
    have hMM : M < M + 1 := by omega
    clear hm
    by_cases hmN : m < N
    · have hmN' : (m : Int) < N := by omega
      rw [HCn.out (by rw [HM.out]; exact hmN)]
      go_enter Try.func46, Try.ntmps46
      go_wp2_with (first | (refine wpL_loadFull rfl rfl rfl rowSq hH.h0 (sqc_size _ _) ?_) | (go_at_call 89; refine (IsLoop_any N g _).mono ?_; rintro e w2 ⟨rfl, hb⟩; replace hH := hH.call' hb; clear hb; rw [hl]; clear c0; have c0 := hH.c0 0; rw [sqc_get0] at c0) | (go_at_call 90; refine (seriesOf_any N M g _ HQ.out HE.out).mono ?_; rintro e w3 ⟨v, rfl, hb, hO⟩; obtain ⟨gs, cs, rfl, hgs, hMR⟩ := hO.form (by omega); have HMR := hid hMR; replace hH := hH.call' hb; clear hb hO hMR; clear c0; have c0 := hH.c0 0; rw [sqc_get0] at c0) | (refine wpL_loadMr (k := M) rfl rfl (by simp [Act.eval]) HMR.out hMM ?_) | (go_at_call 79; refine (membersList_any (serS g N M) _).mono ?_; rintro e w4 ⟨v, rfl, hb, hO⟩; obtain ⟨a0, d0, rfl⟩ := (IL.of_own hO).form; rw [HML.out]; replace hH := hH.call' hb; clear hb hO; clear c0; have c0 := hH.c0 0; rw [sqc_get0] at c0))
      go_ret2
      exact ⟨rfl, hH.below⟩
    · have hmN' : ¬ (m : Int) < N := by omega
      rw [HCy.out (by rw [HM.out]; exact hmN)]
      go_enter Try.func46, Try.ntmps46
      go_wp2_with (first | (refine wpL_loadFull rfl rfl rfl rowSq hH.h0 (sqc_size _ _) ?_) | (go_at_call 89; refine (IsLoop_any N g _).mono ?_; rintro e w2 ⟨rfl, hb⟩; replace hH := hH.call' hb; clear hb; rw [hl]; clear c0; have c0 := hH.c0 0; rw [sqc_get0] at c0) | (go_at_call 90; refine (seriesOf_any N M g _ HQ.out HE.out).mono ?_; rintro e w3 ⟨v, rfl, hb, hO⟩; obtain ⟨gs, cs, rfl, hgs, hMR⟩ := hO.form (by omega); have HMR := hid hMR; replace hH := hH.call' hb; clear hb hO hMR; clear c0; have c0 := hH.c0 0; rw [sqc_get0] at c0) | (refine wpL_loadMr (k := M) rfl rfl (by simp [Act.eval]) HMR.out hMM ?_) | (go_at_call 79; refine (membersList_any (serS g N M) _).mono ?_; rintro e w4 ⟨v, rfl, hb, hO⟩; obtain ⟨a0, d0, rfl⟩ := (IL.of_own hO).form; rw [HML.out]; replace hH := hH.call' hb; clear hb hO; clear c0; have c0 := hH.c0 0; rw [sqc_get0] at c0))
      go_ret2
      exact ⟨by simp, hH.below⟩
end Go.Proofs.Ytpfhjbcmlebejab
namespace Go.Proofs.Ytpfhjbcmlebejab
set_option linter.unusedVariables false
set_option linter.unusedSimpArgs false
open Go.RowKit
set_option maxRecDepth 20000 in
set_option maxHeartbeats 2000000 in
theorem lawClassOf_by (o0 : Int) (a0 : Nat → UInt8) (r0 : Int) (r1 : Int) (w : World)
    (hS : Hid (∀ w, Calls Try.prog 45 #[.agg (sqc o0 a0)] w fun e w' => e = .returned (.tuple #[.int .i64 r0, .int .i64 r1]) ∧ Below w.heap.size w w'))
    (hT : Hid (∀ w, Calls Try.prog 46 #[.agg (sqc o0 a0)] w fun e w' => e = .returned (.tuple #[.int .i64 r0, .int .i64 r1]) ∧ Below w.heap.size w w'))
    : Calls Try.prog 12 #[.agg (sqc o0 a0)] w fun e w' => e = .returned (.bool true) ∧ Below w.heap.size w w' := by
  have hH := Has.start1 w (sqc o0 a0) 25
  go_enter Try.func12, Try.ntmps12
  go_wp2_with (first | fail | (refine wpL_loadFull rfl rfl rfl rowSl hH.h0 (sqc_size _ _) ?_) | (go_at_call 16; refine (toSquare_any _ _ _).mono ?_; rintro e w2 ⟨rfl, hb⟩; replace hH := hH.call' hb; clear hb) | (go_at_call 45; refine (hS.out _).mono ?_; rintro e w2 ⟨rfl, hb⟩; replace hH := hH.call' hb; clear hb) | (go_at_call 46; refine (hT.out _).mono ?_; rintro e w2 ⟨rfl, hb⟩; replace hH := hH.call' hb; clear hb))
  go_ret
  exact ⟨rfl, hH.below⟩
theorem lawClassOf_any (o : Int) (g : Nat → UInt8) (_ : (Lit.int .i64 o).wf = true) (w : World) : Calls Try.prog 12 #[.agg (sqc o g)] w fun e w' => e = .returned (.bool true) ∧ Below w.heap.size w w' := by
  cases hl : loopB o g with
  | false => exact lawClassOf_by o g _ _ w (hid fun w => specClassOf_no o g w hl) (hid fun w => implClassOf_no o g w hl)
  | true =>
    obtain ⟨N, rfl, hL, hs, hl⟩ := loop_true hl
    obtain ⟨M, hE⟩ := ser_ends hL
    exact lawClassOf_by N g _ _ w (hid fun w => specClassOf_in N M g w hl hL.sq hE) (hid fun w => implClassOf_in N M g w hl hL.sq hE)
end Go.Proofs.Ytpfhjbcmlebejab
namespace Go.Proofs.Ytpfhjbcmlebejab
set_option linter.unusedVariables false
set_option linter.unusedSimpArgs false
open Go.RowKit
set_option maxRecDepth 20000 in
set_option maxHeartbeats 4000000 in
theorem lawUpperSeries_by (o0 : Int) (a0 : Nat → UInt8) (n : Nat) (l : Nat → List Int) (z : Int) (w : World) (hn : n ≤ 1000) (hl : ∀ j, j < n → (l j).length ≤ 1000)
    (hS : Hid (∀ w, Calls Try.prog 43 #[.agg (sqc o0 a0)] w (GotLL n l z w)))
    (hT : Hid (∀ w, Calls Try.prog 44 #[.agg (sqc o0 a0)] w (GotLL n l z w)))
    : Calls Try.prog 11 #[.agg (sqc o0 a0)] w fun e w' => e = .returned (.bool true) ∧ Below w.heap.size w w' := by
  have HLn := hid hl
  clear hl
  obtain ⟨M, hM⟩ : ∃ M, offF l n = M := ⟨_, rfl⟩
  have hMb : M ≤ 1000000 := by have := offF_le HLn.out n (Nat.le_refl _); omega
  have HM := hid hM
  clear hM
  have hH := Has.start1 w (sqc o0 a0) 25
  have sH := hH.size
  simp only [List.length_cons, List.length_nil] at sH
  go_enter Try.func11, Try.ntmps11
  go_wp2_with (first | fail | (refine wpL_loadFull rfl rfl rfl rowSl hH.h0 (sqc_size _ _) ?_) | (go_at_call 16; refine (toSquare_any _ _ _).mono ?_; rintro e w2 ⟨rfl, hb⟩; have zc := hb.size; replace hH := hH.call' hb; (try replace HS0 := hid (HS0.out.below hb (by omega))); clear hb) | (go_at_call 43; refine (hS.out _).mono ?_; rintro e w3 ⟨v0, rfl, hb, hI⟩; have z3 := hb.size; have HS0 := hid hI; replace hH := hH.call' hb; clear hb hI))
  go_wp2_with (first | fail | (go_at_call 44; refine (hT.out _).mono ?_; rintro e w5 ⟨v1, rfl, hb, hI⟩; have z5 := hb.size; have HS1 := hid hI; replace HS0 := hid (HS0.out.below hb (by omega)); have hH4 := hH.size; simp only [List.length_cons, List.length_nil] at hH4; replace hH := hH.call' hb; clear hb hI))
  go_wp2_with (first | fail | (refine wpL_guard rfl rfl ?_) | (go_at_call 22; refine (eqLL HS1.out HS0.out hn HLn.out).mono ?_; rintro e w6 ⟨rfl, hb⟩; have z6 := hb.size; replace hH := hH.call' hb; replace HS0 := hid (HS0.out.below hb (by omega)); replace HS1 := hid (HS1.out.below hb (by omega)); clear hb))
  go_wp2_with (first | fail | (go_at_call 25; refine (markLL HS1.out hn HLn.out (by omega) (by omega) (by omega)).mono ?_; rintro e w7 ⟨rfl, hb, hI⟩; rw [HM.out]; have z7 := hb.size; replace hH := hH.call hb hH4; replace HS0 := hid (HS0.out.below hb (by omega)); clear HS1; have HS1 := hid hI; clear hb hI))
  go_wp2_with (first | fail | (go_at_call 26; refine (heldLL HS1.out hn HLn.out (by omega) (by omega)).mono ?_; rintro e w8 ⟨rfl, rfl⟩; rw [HM.out]) | (refine wpL_loadFull rfl rfl rfl rowSl hH.h0 (sqc_size _ _) ?_) | (go_at_call 16; refine (toSquare_any _ _ _).mono ?_; rintro e w9 ⟨rfl, hb⟩; have z9 := hb.size; replace hH := hH.call' hb; replace HS0 := hid (HS0.out.below hb (by omega)); replace HS1 := hid (HS1.out.below hb (by omega)); clear hb) | (go_at_call 44; refine (hT.out _).mono ?_; rintro e w10 ⟨v2, rfl, hb, hI⟩; have z10 := hb.size; have HS2 := hid hI; replace hH := hH.call' hb; replace HS0 := hid (HS0.out.below hb (by omega)); replace HS1 := hid (HS1.out.below hb (by omega)); clear hb hI) | (refine wpL_guard rfl rfl ?_) | (go_at_call 22; refine (eqLL HS2.out HS0.out hn HLn.out).mono ?_; rintro e w11 ⟨rfl, hb⟩; have z11 := hb.size; replace hH := hH.call' hb; replace HS1 := hid (HS1.out.below hb (by omega)); clear hb HS0 HS2))
  go_ret
  exact ⟨rfl, hH.below⟩
theorem lawUpperSeries_any (o : Int) (g : Nat → UInt8) (_ : (Lit.int .i64 o).wf = true) (w : World) : Calls Try.prog 11 #[.agg (sqc o g)] w fun e w' => e = .returned (.bool true) ∧ Below w.heap.size w w' := by
  cases hl : loopB o g with
  | true =>
    obtain ⟨N, rfl, hL, hs, hl⟩ := loop_true hl
    obtain ⟨M, hE⟩ := ser_ends hL
    have hM := hE.le
    exact lawUpperSeries_by N g (M + 1) (serL g N) 0 w (by omega) (fun j _ => Nat.le_trans (serL_len g N j) (by omega)) (hid fun w => specUpperSeries_yes N M g w hl hL.sq hE) (hid fun w => implUpperSeries_yes N M g w hl hL.sq hE)
  | false => exact lawUpperSeries_by o g 0 (fun _ => []) 1 w (by omega) (fun j hj => by omega) (hid fun w => (specUpperSeries_no o g w hl).mono fun e w' h => GotLL.err h) (hid fun w => (implUpperSeries_no o g w hl).mono fun e w' h => GotLL.err h)
end Go.Proofs.Ytpfhjbcmlebejab
