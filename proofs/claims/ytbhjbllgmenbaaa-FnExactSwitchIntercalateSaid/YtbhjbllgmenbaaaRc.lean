/- Proved: what the program's elementCode returns for bytes of whatever block, and what its rowsCode returns. Conditions: those that each theorem names. -/
import Derived.Test.YtbhjbllgmenbaaaEc
import Derived.Test.YtbhjbllgmenbaaaIl3
import Derived.ArgAppend
namespace Go.Proofs.Ytbhjbllgmenbaaa
set_option linter.unusedVariables false
set_option linter.unusedSimpArgs false
open Go.RowKit
theorem infoB8 : (Try.prog.info? 5).map (fun i => (i.zero, i.size, i.bytes)) = some (some (.int .u8 0), 1, 1) := by kernel_rfl
/-- The first n bytes of block b are those of F. -/
def PreB (w : World) (b n : Nat) (F : Nat → UInt8) : Prop := ∃ cs, holds w b cs 5 ∧ ∀ k, k < n → cs[k]? = some (.int .u8 (F k).toNat)
/-- A slice of n bytes that has no room left. -/
def BsW (w : World) (ao : Option Addr) (n : Nat) (f : Nat → UInt8) : Prop := (ao = none ∧ n = 0) ∨ ∃ b, ao = some ⟨b, 0, none⟩ ∧ holds w b (u8s n f) 5
theorem BsW.alloc {w : World} {ao : Option Addr} {n : Nat} {f : Nat → UInt8} (h : BsW w ao n f) (o : Obj) : BsW (w.alloc o) ao n f := by
  rcases h with h | ⟨b, e, h⟩
  · exact .inl h
  · exact .inr ⟨b, e, holds_alloc h o⟩
theorem BsW.drew {w : World} {ao : Option Addr} {n : Nat} {f : Nat → UInt8} (h : BsW w ao n f) : BsW w.drew ao n f := h
theorem BsW.below {w w' : World} {ao : Option Addr} {n : Nat} {f : Nat → UInt8} (h : BsW w ao n f) (hb : Below w.heap.size w w') : BsW w' ao n f := by
  rcases h with h | ⟨b, e, h⟩
  · exact .inl h
  · exact .inr ⟨b, e, holds_below h hb (holds_lt h)⟩
theorem PreB.alloc {w : World} {b n : Nat} {F : Nat → UInt8} (h : PreB w b n F) (o : Obj) : PreB (w.alloc o) b n F := by
  obtain ⟨cs, hg, hc⟩ := h
  exact ⟨cs, holds_alloc hg o, hc⟩
theorem PreB.below {w w' : World} {b n : Nat} {F : Nat → UInt8} (h : PreB w b n F) (hb : Below w.heap.size w w') : PreB w' b n F := by
  obtain ⟨cs, hg, hc⟩ := h
  exact ⟨cs, holds_below hg hb (holds_lt hg), hc⟩
def addF (n : Nat) (f : Nat → UInt8) (x y : UInt8) (k : Nat) : UInt8 := if k < n then f k else if k = n then x else y
noncomputable def elC (o : Int) (g : Nat → UInt8) (n : Nat) (F : Nat → UInt8) : Nat := if sqB o g = false then 1 else if ∀ i, i < n → (F i).toNat < o.toNat then 0 else 2
section
variable {ops : Array Oper} {rest : List Oper} {o : Oper} {a : Act} {w : World} {Q : Exit → Act → World → Prop}
theorem wpL_appB2 {s x : Operand} (hgd : o.guard = none) (ho : o.op = .call { callee := .builtin .append, args := #[s, x], argTypes := #[111, 111] }) {ao : Option Addr} {n sb : Nat} {f : Nat → UInt8} {p q : UInt8}
    (hs : a.eval s = .slice ao n n) (hx : a.eval x = .slice (some ⟨sb, 0, none⟩) 2 2) (hB : BsW w ao n f) (hS : holds w sb (u8s 2 (pairF p q)) 5) (hn : n ≤ 100)
    (h : ∀ g cap w', PreB w' g (n + 2) (addF n f p q) → w.heap.size ≤ g → Below w.heap.size w w' → wpList Try.prog ops Q rest (a.put o.dst (.slice (some ⟨g, 0, none⟩) (n + 2) cap)) w') : wpList Try.prog ops Q (o :: rest) a w := by
  obtain ⟨i, hi, hz, h1, h2⟩ := info_parts infoB8
  refine wpList_append_grows w hgd s x 111 ho 5 i (.int .u8 0) 1 1 Try.underlying111 hi hz h1 h2 rfl (by omega) ao n n ((List.range n).map fun k => .int .u8 (f k).toNat) hs (fun e => ?_) (by simp) (fun b e j u hj => ?_) ⟨sb, 0, none⟩ 2 2 [.int .u8 p.toNat, .int .u8 q.toNat] hx rfl (fun j u hj => ?_) (fun u hu => ?_) (by omega) (by unfold maxLen; omega) (by omega) (fun v' w' how hgr => ?_)
  · rcases hB with ⟨_, h0⟩ | ⟨b, e2, _⟩
    · exact ⟨h0, h0⟩
    · rw [e] at e2; cases e2
  · rcases hB with ⟨h0, _⟩ | ⟨b2, e2, hb⟩
    · rw [e] at h0; cases h0
    · rw [e] at e2
      obtain rfl := Option.some.inj e2
      rw [List.getElem?_map] at hj
      by_cases hjn : j < n
      · rw [List.getElem?_range hjn] at hj
        obtain rfl := Option.some.inj hj
        have e3 : (⟨b2, 0, none⟩ : Addr).add j = ⟨b2, j, none⟩ := by unfold Addr.add; split <;> simp_all
        rw [e3, holds_cell hb, u8s_get n f j hjn]
      · rw [List.getElem?_eq_none (by simpa using hjn)] at hj; cases hj
  · have e3 : (⟨sb, 0, none⟩ : Addr).add j = ⟨sb, j, none⟩ := by unfold Addr.add; split <;> simp_all
    rw [e3, holds_cell hS]
    match j, hj with
    | 0, hj => simp at hj; subst hj; exact u8s_get 2 (pairF p q) 0 (by omega)
    | 1, hj => simp at hj; subst hj; exact u8s_get 2 (pairF p q) 1 (by omega)
    | j + 2, hj => simp at hj
  · simp only [List.mem_cons, List.not_mem_nil, or_false] at hu
    rcases hu with rfl | rfl <;> rfl
  · rcases how.2 with ⟨_, h0⟩ | ⟨g, cap, cur, rfl, hb, hg, hc, _, hs, hx⟩
    · omega
    · refine h g cap w' ⟨cur, hg, fun k hk => ?_⟩ hb ⟨hgr.os, hgr.tape, hgr.output, hgr.size, fun k hk => hgr.block k hk (by simp)⟩
      have e : (cur.toList.take ((n + 2) * 1))[k]? = _ := congrArg (fun l : List Value => l[k]?) hx
      rw [List.getElem?_take, if_pos (by omega), Array.getElem?_toList] at e
      rw [e]
      unfold addF
      by_cases hkn : k < n
      · rw [if_pos hkn, List.getElem?_append_left (by simpa using hkn), List.getElem?_map, List.getElem?_range hkn]; rfl
      · rw [if_neg hkn, List.getElem?_append_right (by simpa using hkn)]
        by_cases hk1 : k = n
        · rw [if_pos hk1]; subst hk1; simp
        · rw [if_neg hk1]
          have : k = n + 1 := by omega
          subst this; simp
end
set_option maxRecDepth 20000 in
set_option maxHeartbeats 1000000 in
theorem elementCodeP_no (o : Int) (g : Nat → UInt8) (n cp b : Nat) (w : World) (hs : sqB o g = false) :
    Calls Try.prog 104 #[.agg (sqc o g), .slice (some ⟨b, 0, none⟩) n cp] w fun e w' => e = .returned (.int .i64 1) ∧ Below w.heap.size w w' := by
  have hH := Has.start1 w (sqc o g) 29
  go_enter Try.func104, Try.ntmps104
  go_wp2_with (first | (refine wpL_loadFull rfl rfl rfl rowSq hH.h0 (sqc_size _ _) ?_) | (go_at_call 56; refine (IsSquare_any o g _).mono ?_; rintro e w2 ⟨rfl, hb⟩; replace hH := hH.call' hb; rw [hs]))
  go_ret
  exact ⟨rfl, hH.below⟩
set_option maxRecDepth 20000 in
set_option maxHeartbeats 2000000 in
theorem elementCodeP_in (N : Nat) (g f : Nat → UInt8) (n cp b : Nat) (cs : Array Value) (w : World) (hn : n ≤ 8) (hs : sqB (N : Int) g = true) (hg : holds w b cs 5) (hcs : Hid (∀ k, k < n → cs[k]? = some (.int .u8 (f k).toNat))) (hf : ∀ i, i < n → (f i).toNat < N) :
    Calls Try.prog 104 #[.agg (sqc N g), .slice (some ⟨b, 0, none⟩) n cp] w fun e w' => e = .returned (.int .i64 0) ∧ Below w.heap.size w w' := by
  have HF := hid hf; clear hf
  have hH := Has.start1 w (sqc N g) 29
  replace hg := holds_alloc hg (.cells (sqc N g) 29)
  go_enter Try.func104, Try.ntmps104
  go_wp2_with (first | (refine wpL_loadFull rfl rfl rfl rowSq hH.h0 (sqc_size _ _) ?_) | (go_at_call 56; refine (IsSquare_any N g _).mono ?_; rintro e w2 ⟨rfl, hb⟩; replace hH := hH.call' hb; replace hg := holds_below hg hb (holds_lt hg); clear hb; rw [hs]))
  go_loopw [12] (fun i wr => ∃ k : Nat, k ≤ n ∧ i = .int .i64 k ∧ Has w wr [(sqc N g, 29)] ∧ holds wr b cs 5) (fun i _ => 10 - (intOf i).toNat)
  case atStart => exact ⟨0, by omega, rfl, hH, hg⟩
  case round =>
    clear hH hg
    obtain ⟨k, hk, rfl, hH, hg⟩ := hrel
    by_cases hlt : k < n
    · have cx : wr.cell? ⟨b, k, none⟩ = some (.int .u8 (f k).toNat) := by rw [holds_cell hg, hcs.out k hlt]
      have cz : wr.cell? ⟨w.heap.size, 0, none⟩ = some (.int .i64 N) := by rw [hH.c0, sqc_get0]
      have hb := u8_bd (f k)
      have hx : ((f k).toNat : Int) < (N : Int) := by have := HF.out k hlt; omega
      go_wp2
      go_roundw
      case rel => exact ⟨k + 1, by omega, by go_num, hH, hg⟩
      case measure => simp [intOf]; omega
    · go_wp2
      go_ret
      exact ⟨rfl, hH.below⟩
set_option maxRecDepth 20000 in
set_option maxHeartbeats 2000000 in
theorem elementCodeP_far (N : Nat) (g f : Nat → UInt8) (n cp b k0 : Nat) (cs : Array Value) (w : World) (hn : n ≤ 8) (hs : sqB (N : Int) g = true) (hg : holds w b cs 5) (hcs : Hid (∀ k, k < n → cs[k]? = some (.int .u8 (f k).toNat))) (hf : FarAt f N n k0) :
    Calls Try.prog 104 #[.agg (sqc N g), .slice (some ⟨b, 0, none⟩) n cp] w fun e w' => e = .returned (.int .i64 2) ∧ Below w.heap.size w w' := by
  have HF := hid hf; clear hf
  have hH := Has.start1 w (sqc N g) 29
  replace hg := holds_alloc hg (.cells (sqc N g) 29)
  go_enter Try.func104, Try.ntmps104
  go_wp2_with (first | (refine wpL_loadFull rfl rfl rfl rowSq hH.h0 (sqc_size _ _) ?_) | (go_at_call 56; refine (IsSquare_any N g _).mono ?_; rintro e w2 ⟨rfl, hb⟩; replace hH := hH.call' hb; replace hg := holds_below hg hb (holds_lt hg); clear hb; rw [hs]))
  go_loopw [12] (fun i wr => ∃ k : Nat, k ≤ k0 ∧ i = .int .i64 k ∧ Has w wr [(sqc N g, 29)] ∧ holds wr b cs 5) (fun i _ => 10 - (intOf i).toNat)
  case atStart => exact ⟨0, by omega, rfl, hH, hg⟩
  case round =>
    clear hH hg
    obtain ⟨k, hk, rfl, hH, hg⟩ := hrel
    have hk0 := HF.out.lt
    have hlt : k < n := by omega
    have cx : wr.cell? ⟨b, k, none⟩ = some (.int .u8 (f k).toNat) := by rw [holds_cell hg, hcs.out k hlt]
    have cz : wr.cell? ⟨w.heap.size, 0, none⟩ = some (.int .i64 N) := by rw [hH.c0, sqc_get0]
    have hb := u8_bd (f k)
    by_cases h2 : k < k0
    · have hx : ((f k).toNat : Int) < (N : Int) := by have := HF.out.lo k h2; omega
      go_wp2
      go_roundw
      case rel => exact ⟨k + 1, by omega, by go_num, hH, hg⟩
      case measure => simp [intOf]; omega
    · obtain rfl : k = k0 := by omega
      have hx : (N : Int) ≤ ((f k).toNat : Int) := by have := HF.out.far; omega
      go_wp2
      go_ret
      exact ⟨rfl, hH.below⟩
theorem far_ex {n N : Nat} {F : Nat → UInt8} (h : ¬ ∀ i, i < n → (F i).toNat < N) : ∃ k0, FarAt F N n k0 := by
  induction n with
  | zero => exact absurd (fun i hi => by omega) h
  | succ n ih =>
    by_cases h1 : ∀ i, i < n → (F i).toNat < N
    · refine ⟨n, by omega, h1, ?_⟩
      by_cases h2 : N ≤ (F n).toNat
      · exact h2
      · exact absurd (fun i hi => by
          by_cases e : i = n
          · subst e; omega
          · exact h1 i (by omega)) h
    · obtain ⟨k0, hk⟩ := ih h1
      exact ⟨k0, by have := hk.lt; omega, hk.lo, hk.far⟩
theorem elementCode_pre (o : Int) (g F : Nat → UInt8) (n cp b : Nat) (w : World) (hn : n ≤ 8) (h : PreB w b n F) :
    Calls Try.prog 104 #[.agg (sqc o g), .slice (some ⟨b, 0, none⟩) n cp] w fun e w' => e = .returned (.int .i64 (elC o g n F)) ∧ Below w.heap.size w w' := by
  obtain ⟨cs, hg, hcs⟩ := h
  unfold elC
  cases hs : sqB o g with
  | false =>
    rw [if_pos rfl]
    exact elementCodeP_no o g n cp b w hs
  | true =>
    rw [if_neg (by simp)]
    obtain ⟨N, rfl, hq⟩ := sq_nat hs
    by_cases hf : ∀ i, i < n → (F i).toNat < N
    · rw [if_pos (by simpa using hf)]
      exact elementCodeP_in N g F n cp b cs w hn hs hg (hid hcs) hf
    · rw [if_neg (by simpa using hf)]
      obtain ⟨k0, hk⟩ := far_ex hf
      exact elementCodeP_far N g F n cp b k0 cs w hn hs hg (hid hcs) hk
structure RQ where
  s : Nat
  g : Nat
  cap : Nat
noncomputable def rowsC (o : Int) (g : Nat → UInt8) (n : Nat) (f : Nat → UInt8) (a b : UInt8) : Nat := if elC o g (n + 2) (addF n f a b) = 0 ∧ a = b then 2 else elC o g (n + 2) (addF n f a b)
set_option maxRecDepth 20000 in
set_option maxHeartbeats 4000000 in
theorem rowsCode_any (o : Int) (g f : Nat → UInt8) (n : Nat) (a b : UInt8) (ao : Option Addr) (w : World) (hn : n ≤ 4) (hv : BsW w ao n f) :
    Calls Try.prog 68 #[.agg (sqc o g), .int .u8 a.toNat, .int .u8 b.toNat, .slice ao n n] w fun e w' => e = .returned (.int .i64 (rowsC o g n f a b)) ∧ Below w.heap.size w w' := by
  unfold rowsC
  obtain ⟨z, hz⟩ : ∃ z, elC o g (n + 2) (addF n f a b) = z := ⟨_, rfl⟩
  rw [hz]
  have HZ := hid hz
  clear hz
  have hH := Has.start1 w (sqc o g) 29
  have hV := hid (hv.alloc (.cells (sqc o g) 29))
  clear hv
  go_enter Try.func68, Try.ntmps68
  go_wp2
  refine wp_region_frame (X := RQ) (fun d x => [(10, bif d 0 then .agg (sqc o g) else undef), (11, bif d 1 then .slice ao n n else undef), (12, bif d 2 then .int .u8 a.toNat else undef), (13, bif d 3 then .int .u8 b.toNat else undef), (14, bif d 4 then .slice (some ⟨x.s, 0, none⟩) 2 2 else undef), (15, bif d 5 then .slice (some ⟨x.g, 0, none⟩) (n + 2) x.cap else undef), (16, bif d 6 then .int .i64 z else undef), (9, bif d 7 then .int .i64 z else undef)])
    (fun d x w' => Has w w' [(sqc o g, 29)] ∧ Hid (BsW w' ao n f) ∧ (d 4 = true → holds w' x.s (u8s 2 (pairF a b)) 5) ∧ (d 5 = true → PreB w' x.g (n + 2) (addF n f a b))) (by kernel_rfl) (by kernel_rfl) ?h0_rc ?hs_rc ?hq_rc
  case h0_rc => exact ⟨⟨0, 0, 0⟩, (by simp [lput]), hH.drew, hid hV.out.drew, (fun h => by cases h), (fun h => by cases h)⟩
  case hs_rc =>
    refine ⟨?_, ?_, ?_, ?_, ?_, ?_, ?_, ?_, trivial⟩
    all_goals
      clear hH hV
      intro d x w1 hd hn hJ
      simp only [needs, Region.binds, reduceCtorEq, Bool.false_eq_true, false_implies, true_and, and_true, true_implies, forall_const] at hn
      simp only [lput, List.set, hn, cond_true]
      obtain ⟨hH, hV, hS, hA⟩ := hJ
      (try have hS_ := hS (by simp only [hn]))
      (try have hA_ := hA (by simp only [hn]))
      go_wp2_with (first | fail | (refine wpL_loadFull rfl rfl rfl rowSq hH.h0 (sqc_size _ _) ?_) | (refine wpL_slice2 (x := a) (y := b) rfl rfl (by rfl) (by rfl) ?_; obtain ⟨w2, hw2⟩ : ∃ w2, w1.alloc (.cells (u8s 2 (pairF a b)) 5) = w2 := ⟨_, rfl⟩; have hSn : holds w2 w1.heap.size (u8s 2 (pairF a b)) 5 := (by rw [← hw2]; exact holds_new _ _ _); replace hH : Has w w2 [(sqc o g, 29)] := (by rw [← hw2]; exact hH.alloc _); replace hV : Hid (BsW w2 ao n f) := (by rw [← hw2]; exact hid (hV.out.alloc _)); replace hA : d 5 = true → PreB w2 x.g (n + 2) (addF n f a b) := (fun e => by rw [← hw2]; exact (hA e).alloc _); rw [hw2]; clear hw2) | (refine wpL_appB2 (p := a) (q := b) (sb := x.s) (n := n) rfl (by rfl) (by rfl) (by rfl) hV.out hS_ (by omega) ?_; intro gn cn w2 hAn hgl hb; replace hH := hH.call' hb; replace hV := hid (hV.out.below hb); have hSk := holds_below hS_ hb (holds_lt hS_); clear hb) | (go_at_call 104; refine (elementCode_pre o g (addF n f a b) (n + 2) _ x.g _ (by omega) hA_).mono ?_; rintro e w2 ⟨rfl, hb⟩; rw [HZ.out]; replace hH := hH.call' hb; replace hV := hid (hV.out.below hb); replace hS := (fun e => holds_below (hS e) hb (holds_lt (hS e))); replace hA := (fun e => (hA e).below hb); clear hb))
      first
        | (refine ⟨{ x with s := w1.heap.size }, ?_, hH, hV, (fun _ => hSn), (fun e => hA (done_ne e (by decide)))⟩; (simp [lput, done, hn]; done))
        | (refine ⟨{ x with g := gn, cap := cn }, ?_, hH, hV, (fun _ => hSk), (fun _ => hAn)⟩; (simp [lput, done, hn]; done))
        | (refine ⟨x, ?_, hH, hV, (fun e => hS (done_ne e (by decide))), (fun e => hA (done_ne e (by decide)))⟩; (simp [lput, done, hn]; done))
        | (refine ⟨?_, hH, hV, (fun e => hS (done_ne e (by decide))), (fun e => hA (done_ne e (by decide)))⟩; (simp [lput, done, hn]; done))
        | (refine ⟨x, ?_, hH, hV, (fun e => hS (done_ne e (by decide))), (fun e => hA (done_ne e (by decide)))⟩; (simp [lput, done, hn]; rfl))
        | (refine ⟨?_, hH, hV, (fun e => hS (done_ne e (by decide))), (fun e => hA (done_ne e (by decide)))⟩; (simp [lput, done, hn]; rfl))
        | (refine ⟨x, ?_, hH, hV, (fun e => hS (done_ne e (by decide))), (fun e => hA (done_ne e (by decide)))⟩; (simp [lput, done]; done))
        | (refine ⟨?_, hH, hV, (fun e => hS (done_ne e (by decide))), (fun e => hA (done_ne e (by decide)))⟩; (simp [lput, done]; done))
        | (refine ⟨x, ?_, hH, hV, (fun e => hS (done_ne e (by decide))), (fun e => hA (done_ne e (by decide)))⟩; (simp [lput, done]; rfl))
        | (refine ⟨?_, hH, hV, (fun e => hS (done_ne e (by decide))), (fun e => hA (done_ne e (by decide)))⟩; (simp [lput, done]; rfl))
  case hq_rc =>
    clear hH hV
    intro d x w1 hd hJ
    simp only [allDone, List.length_cons, List.length_nil, Nat.reduceAdd, and_true] at hd
    obtain ⟨hH, hV, hS, hA⟩ := hJ
    replace hS := hS (by simp only [hd])
    replace hA := hA (by simp only [hd])
    simp only [lput, List.set, hd, cond_true]
    clear hd
    by_cases hz0 : z = 0
    · subst hz0
      by_cases hab : a = b
      · subst hab
        go_wp2
        go_ret
        exact ⟨by simp, hH.below⟩
      · have e1 : ¬ (a.toNat : Int) = (b.toNat : Int) := fun e => hab (UInt8.toNat.inj (by omega))
        have e2 : ((a.toNat : Int) == (b.toNat : Int)) = false := by simpa using e1
        go_wp2
        go_ret
        exact ⟨by simp [hab], hH.below⟩
    · have e1 : ¬ (z : Int) = 0 := by omega
      have e2 : ((z : Int) == 0) = false := by simpa using e1
      go_wp2
      go_ret
      exact ⟨by simp [hz0], hH.below⟩
end Go.Proofs.Ytbhjbllgmenbaaa
