/- Proved: lemmas on lists of maps and their orbits, what slices.Sort does to a few numbers, and what KeptByInner returns, of program and model alike. Conditions: those that each theorem names. -/
import Derived.Test.YtbhjbllgmenbaabPs
import Derived.Test.YtbhjbllgmenbaabPl2
import Derived.Test.YtbhjbllgmenbaabQs
import Derived.Test.YtbhjbllgmenbaabIl5
import Derived.Lib.AppendZeros
import Derived.Test.YtbhjbllgmenbaabSel
import Derived.Test.YtbhjbllgmenbaabReg
import Derived.IntWalk
import Derived.Test.YtbhjbllgmenbaabShelf
import Derived.Test.YtbhjbllgmenbaabTn3
import Derived.Test.YtbhjbllgmenbaabIt2
import Derived.Test.YtbhjbllgmenbaabLx
namespace Go.Proofs.Ytbhjbllgmenbaab
set_option linter.unusedVariables false
set_option linter.unusedSimpArgs false
open Go.RowKit
theorem PRow.cell {w : World} {g n i : Nat} {F : Nat → UInt8} (h : PRow w g n F) (hi : i < n * 10) : w.cell? ⟨g, i, none⟩ = some (.int .u8 (F i).toNat) := by
  obtain ⟨cur, h1, h2, h3⟩ := h; rw [holds_cell h1]; exact h3 i hi
theorem PRow.frozen {w : World} {g n : Nat} {F : Nat → UInt8} (h : PRow w g n F) (i : Nat) : w.frozen? ⟨g, i, none⟩ = false := by
  obtain ⟨cur, h1, _⟩ := h; exact holds_frozen h1 i
theorem PRow.set {w : World} {g n : Nat} {F F' : Nat → UInt8} (h : PRow w g n F) (k t : Nat) (ht : t < 256) (e : ∀ i, i < n * 10 → F' i = if i = k then UInt8.ofNat t else F i) : PRow (w.setCell ⟨g, k, none⟩ (.int .u8 t)) g n F' := by
  obtain ⟨cur, h1, h2, h3⟩ := h
  refine ⟨cur.setIfInBounds k (.int .u8 t), holds_set h1 k _, by simpa using h2, fun i hi => ?_⟩
  rw [Array.getElem?_setIfInBounds, e i hi]
  by_cases ek : k = i
  · subst ek; rw [if_pos rfl, if_pos (by omega), if_pos rfl, u8_of t ht]
  · rw [if_neg ek, if_neg (Ne.symm ek)]; exact h3 i hi
theorem PRow.congr {w : World} {g n : Nat} {F F' : Nat → UInt8} (h : PRow w g n F) (e : ∀ i, i < n * 10 → F i = F' i) : PRow w g n F' := by
  obtain ⟨cur, h1, h2, h3⟩ := h; exact ⟨cur, h1, h2, fun i hi => by rw [← e i hi]; exact h3 i hi⟩
/-- The first t bytes are 1, 2, .. -/
def mixF (F : Nat → UInt8) (t : Nat) : Nat → UInt8 := fun i => if i < t then UInt8.ofNat (1 + i) else F i
def mrkF : Nat → UInt8 := fun i => UInt8.ofNat (1 + i)
set_option maxRecDepth 20000 in
set_option maxHeartbeats 2000000 in
theorem eqPlacesS_same (b1 b2 n c1 c2 : Nat) (F : Nat → UInt8) (w : World) (hn : n ≤ 1000) (h1 : PRow w b1 n F) (h2 : PRow w b2 n F) :
    Calls Try.prog 33 #[.slice (some ⟨b1, 0, none⟩) n c1, .slice (some ⟨b2, 0, none⟩) n c2] w fun e w' => e = .returned (.bool true) ∧ Below w.heap.size w w' := by
  have hH := Has.nil w
  go_enter Try.func33, Try.ntmps33
  go_wp2
  go_loopw [5] (fun i wr => ∃ k : Nat, k ≤ n ∧ i = .int .i64 k ∧ Has w wr [] ∧ Hid (PRow wr b1 n F) ∧ Hid (PRow wr b2 n F)) (fun i _ => n - (intOf i).toNat)
  case atStart => exact ⟨0, by omega, rfl, hH, hid h1, hid h2⟩
  case round =>
    clear hH h1 h2
    obtain ⟨k, hk, rfl, hH, h1, h2⟩ := hrel
    by_cases hlt : k < n
    · have hlt' : (k : Int) < (n : Int) := by omega
      obtain ⟨f, hf⟩ : ∃ f : Nat → UInt8, ∀ j, j < 10 → F (k * 10 + j) = f j := ⟨fun j => F (k * 10 + j), fun j _ => rfl⟩
      have HF := hid hf
      clear hf
      go_wp2
      refine wp_region_frame (X := Unit) (fun d _ => [(17, bif d 0 then .slice (some ⟨b1, 0, none⟩) n c1 else u17), (18, bif d 1 then .int .i64 k else u18), (19, bif d 2 then .pointer (some ⟨b1, k * 10, none⟩) else u19), (20, bif d 3 then .agg (u8s 10 f) else u20), (21, bif d 4 then .slice (some ⟨b2, 0, none⟩) n c2 else u21), (22, bif d 5 then .int .i64 k else u22), (23, bif d 6 then .pointer (some ⟨b2, k * 10, none⟩) else u23), (24, bif d 7 then .agg (u8s 10 f) else u24), (25, bif d 8 then .bool true else u25), (26, bif d 9 then .bool false else u26)])
        (fun d _ w' => Has w w' [] ∧ Hid (PRow w' b1 n F) ∧ Hid (PRow w' b2 n F)) (by kernel_rfl) (by kernel_rfl) ?h0_ep ?hs_ep ?hq_ep
      case h0_ep => exact ⟨(), (by simp [lput]), hH.drew, (show _ from h1), (show _ from h2)⟩
      case hs_ep =>
        refine ⟨?_, ?_, ?_, ?_, ?_, ?_, ?_, ?_, ?_, ?_, trivial⟩
        all_goals
          clear hH h1 h2
          intro d _ w1 hd hn hJ
          simp only [needs, Region.binds, reduceCtorEq, Bool.false_eq_true, false_implies, true_and, and_true, true_implies, forall_const] at hn
          simp only [lput, List.set, hn, cond_true]
          obtain ⟨hH, h1, h2⟩ := hJ
          go_wp2_with (first | fail | (refine wpL_loadPr (g := b1) (k := k) (f := f) rfl rfl rfl h1.out hlt HF.out ?_) | (refine wpL_loadPr (g := b2) (k := k) (f := f) rfl rfl rfl h2.out hlt HF.out ?_) | (go_at_call 79; refine (eqPlaces_self f _).mono ?_; rintro e w3 ⟨rfl, hb⟩; replace hH := hH.call' hb; replace h1 := hid (h1.out.below hb); replace h2 := hid (h2.out.below hb); clear hb))
          first
            | (refine ⟨(), ?_, hH, h1, h2⟩; (simp [lput, done, hn]; done))
            | (refine ⟨?_, hH, h1, h2⟩; (simp [lput, done, hn]; done))
            | (refine ⟨(), ?_, hH, h1, h2⟩; (simp [lput, done, hn]; rfl))
            | (refine ⟨?_, hH, h1, h2⟩; (simp [lput, done, hn]; rfl))
            | (refine ⟨(), ?_, hH, h1, h2⟩; (simp [lput, done]; done))
            | (refine ⟨?_, hH, h1, h2⟩; (simp [lput, done]; done))
            | (refine ⟨(), ?_, hH, h1, h2⟩; (simp [lput, done]; rfl))
            | (refine ⟨?_, hH, h1, h2⟩; (simp [lput, done]; rfl))
      case hq_ep =>
        clear hH h1 h2
        intro d _ w1 hd hJ
        simp only [allDone, List.length_cons, List.length_nil, Nat.reduceAdd, and_true] at hd
        obtain ⟨hH, h1, h2⟩ := hJ
        simp only [lput, List.set, hd, cond_true]
        clear hd
        go_wp2
        go_roundw
        case rel => exact ⟨k + 1, by omega, by go_num, hH, h1, h2⟩
        case measure => simp [intOf]; omega
    · go_wp2
      go_ret
      exact ⟨rfl, hH.below⟩
set_option maxHeartbeats 1000000 in
theorem eqPlacesS_zero (p q : Option Addr) (c d : Nat) (w : World) : Calls Try.prog 33 #[.slice p 0 c, .slice q 0 d] w fun e w' => e = .returned (.bool true) ∧ Below w.heap.size w w' := by
  go_enter Try.func33, Try.ntmps33
  go_wp2
  go_loopw [5] (fun i wr => i = .int .i64 0 ∧ Below w.heap.size w wr) (fun _ _ => 0)
  case atStart => exact ⟨rfl, Below.refl _ _⟩
  case round =>
    obtain ⟨rfl, hB⟩ := hrel
    go_wp2
    go_ret
    exact ⟨rfl, hB⟩
set_option maxRecDepth 20000 in
set_option maxHeartbeats 2000000 in
theorem markPlacesS_any (b n c M : Nat) (F : Nat → UInt8) (w : World) (hn : n ≤ 10) (hM : 1 + n * 10 = M) (h : PRow w b n F) :
    Calls Try.prog 34 #[.slice (some ⟨b, 0, none⟩) n c, .int .i64 1] w fun e w' => e = .returned (.int .i64 M) ∧ w.grownBy w' (some b) ∧ PRow w' b n mrkF := by
  have HM := hid hM
  clear hM
  go_enter Try.func34, Try.ntmps34
  go_wp2
  go_loopw [1, 5] (fun m i wr => ∃ k t : Nat, k ≤ n ∧ Hid (1 + k * 10 = t) ∧ m = .int .i64 t ∧ i = .int .i64 k ∧ Hid (w.grownBy wr (some b)) ∧ Hid (PRow wr b n (mixF F (k * 10)))) (fun _ i _ => 20 - (intOf i).toNat)
  case atStart => exact ⟨0, 1, by omega, rfl, rfl, rfl, hid (grown_refl _ _), hid (h.congr fun i _ => by unfold mixF; rw [if_neg (by omega)])⟩
  case round =>
    clear h
    obtain ⟨k, t, hk, HT, rfl, rfl, hg, hP⟩ := hrel
    by_cases hlt : k < n
    · have hk1 : (k : Int) < n := by omega
      go_wp2
      go_loopw [1, 6] (fun m i wx => ∃ j t : Nat, j ≤ 10 ∧ Hid (1 + k * 10 + j = t) ∧ m = .int .i64 t ∧ i = .int .i64 j ∧ Hid (w.grownBy wx (some b)) ∧ Hid (PRow wx b n (mixF F (k * 10 + j)))) (fun _ i _ => 20 - (intOf i).toNat)
      case atStart => exact ⟨0, t, by omega, HT, rfl, rfl, hg, hP⟩
      case round =>
        clear hg hP HT
        obtain ⟨j, t, hj, HT, rfl, rfl, hg, hP⟩ := hrel
        by_cases hlt2 : j < 10
        · have hj1 : (j : Int) < 10 := by omega
          have ht : t ≤ 200 := by have := HT.out; omega
          have ht1 : (t : Int) ≤ 200 := by omega
          have cc := hP.out.cell (i := k * 10 + j) (by omega)
          have fr := hP.out.frozen (k * 10 + j)
          go_wp2
          go_roundw
          case rel => exact ⟨j + 1, t + 1, by omega, hid (by have := HT.out; omega), by go_num, by go_num, hid (grown_set hg.out _ _), hid (hP.out.set (k * 10 + j) t (by omega) (fun i _ => by
            have hT := HT.out
            unfold mixF
            by_cases e : i = k * 10 + j
            · rw [if_pos (by omega), if_pos e]; congr 1; omega
            · rw [if_neg e]
              by_cases e2 : i < k * 10 + j
              · rw [if_pos e2, if_pos (by omega)]
              · rw [if_neg e2, if_neg (by omega)]))⟩
          case measure => simp [intOf]; omega
        · obtain rfl : j = 10 := by omega
          go_wp2
          go_roundw
          case rel => exact ⟨k + 1, t, by omega, hid (by have := HT.out; omega), rfl, by go_num, hg, by rw [show (k + 1) * 10 = k * 10 + 10 by omega]; exact hP⟩
          case measure => simp [intOf]; omega
    · obtain rfl : k = n := by omega
      obtain rfl : t = M := by have := HT.out; have := HM.out; omega
      go_wp2
      go_ret
      exact ⟨rfl, hg.out, hP.out.congr fun i hi => by unfold mixF mrkF; rw [if_pos hi]⟩
set_option maxHeartbeats 1000000 in
theorem markPlacesS_zero (p : Option Addr) (c : Nat) (w : World) : Calls Try.prog 34 #[.slice p 0 c, .int .i64 1] w fun e w' => e = .returned (.int .i64 1) ∧ w = w' := by
  go_enter Try.func34, Try.ntmps34
  go_wp2
  go_loop [1, 5] (fun m i => m = .int .i64 1 ∧ i = .int .i64 0) (fun _ _ => 0)
  case atStart => exact ⟨rfl, rfl⟩
  case round =>
    obtain ⟨rfl, rfl⟩ := hrel
    go_wp2
    go_ret
    exact ⟨rfl, rfl⟩
/-- v is the list of n permutations with the bytes F: no block, or a block between lo and hi. -/
def IP (w : World) (lo hi : Nat) (v : Value) (n : Nat) (F : Nat → UInt8) : Prop :=
  (v = .slice none 0 0 ∧ n = 0) ∨ ∃ g cap, v = .slice (some ⟨g, 0, none⟩) n cap ∧ lo ≤ g ∧ g < hi ∧ PRow w g n F
def GotPP (n : Nat) (F : Nat → UInt8) (z : Int) (w : World) (e : Ending) (w' : World) : Prop :=
  ∃ v, e = .returned (.tuple #[v, .int .i64 z]) ∧ Below w.heap.size w w' ∧ IP w' w.heap.size w'.heap.size v n F
theorem IP.below {w w' : World} {lo hi B n : Nat} {v : Value} {F : Nat → UInt8} (h : IP w lo hi v n F) (hb : Below B w w') (hB : hi ≤ B) : IP w' lo hi v n F := by
  rcases h with h | ⟨g, cap, e, h1, h2, h3⟩
  · exact .inl h
  · exact .inr ⟨g, cap, e, h1, h2, h3.block (hb.block g (by omega))⟩
theorem OP.got {w w' : World} {B n : Nat} {v : Value} {F : Nat → UInt8} (h : OP w' B v n F) (hn : 0 < n) (hb : Below w.heap.size w w') (hB : w.heap.size ≤ B) : GotPP n F 0 w (.returned (.tuple #[v, .int .i64 0])) w' := by
  obtain ⟨g, cap, e, h1, h2⟩ := h.form hn
  exact ⟨v, rfl, hb, .inr ⟨g, cap, e, by omega, h2.lt, h2⟩⟩
theorem GotPP.err {z : Int} {w w' : World} {e : Ending} (F : Nat → UInt8) (h : e = .returned (.tuple #[.slice none 0 0, .int .i64 z]) ∧ Below w.heap.size w w') : GotPP 0 F z w e w' := ⟨_, h.1, h.2, .inl ⟨rfl, rfl⟩⟩
theorem eqIP {w : World} {lo hi lo' hi' n : Nat} {v v' : Value} {F : Nat → UInt8} (h : IP w lo hi v n F) (h' : IP w lo' hi' v' n F) (hn : n ≤ 1000) :
    Calls Try.prog 33 #[v, v'] w fun e w' => e = .returned (.bool true) ∧ Below w.heap.size w w' := by
  rcases h with ⟨rfl, rfl⟩ | ⟨g, cap, rfl, h1, h2, h3⟩
  · rcases h' with ⟨rfl, _⟩ | ⟨g', cap', rfl, h1', h2', h3'⟩
    · exact eqPlacesS_zero _ _ _ _ _
    · exact eqPlacesS_zero _ _ _ _ _
  · rcases h' with ⟨rfl, rfl⟩ | ⟨g', cap', rfl, h1', h2', h3'⟩
    · exact eqPlacesS_zero _ _ _ _ _
    · exact eqPlacesS_same g g' _ cap cap' F w hn h3 h3'
theorem markIP {w : World} {lo hi n M : Nat} {v : Value} {F : Nat → UInt8} (h : IP w lo hi v n F) (hn : n ≤ 10) (hM : 1 + n * 10 = M) (hlo : lo ≤ w.heap.size) :
    Calls Try.prog 34 #[v, .int .i64 1] w fun e w' => e = .returned (.int .i64 M) ∧ Below lo w w' ∧ IP w' lo hi v n mrkF := by
  rcases h with ⟨rfl, rfl⟩ | ⟨g, cap, rfl, h1, h2, h3⟩
  · refine (markPlacesS_zero none 0 w).mono ?_
    rintro e w' ⟨rfl, rfl⟩
    exact ⟨by rw [← hM]; rfl, Below.refl _ _, .inl ⟨rfl, rfl⟩⟩
  · refine (markPlacesS_any g _ cap M F w hn hM h3).mono ?_
    rintro e w' ⟨rfl, hg, hr⟩
    exact ⟨rfl, ⟨hg.os, hg.tape, hg.output, hg.size, fun x hx => hg.block x (by omega) (by simp; omega)⟩, .inr ⟨g, cap, rfl, h1, h2, hr⟩⟩
end Go.Proofs.Ytbhjbllgmenbaab
namespace Go.Proofs.Ytbhjbllgmenbaab
set_option linter.unusedVariables false
set_option linter.unusedSimpArgs false
open Go.RowKit
theorem OP.hold {w w' : World} {B n gr : Nat} {v : Value} {F : Nat → UInt8} (h : OP w B v n F) (hgr : w.heap.size ≤ gr ∨ v.ownBlock ≠ some gr) (hO : ∀ b c u, b ≠ gr → holds w b c u → holds w' b c u) : OP w' B v n F := by
  refine ⟨h.1, ?_⟩
  rcases h.2 with h2 | ⟨g, cap, cur, hv, hB, hg, hr⟩
  · exact .inl h2
  · refine .inr ⟨g, cap, cur, hv, hB, hO g cur _ ?_ hg, hr⟩
    intro e
    subst e
    rcases hgr with h1 | h1
    · have := (Array.getElem?_eq_some_iff.1 hg).1; omega
    · exact h1 (by rw [hv]; rfl)
theorem OP.fresh (w : World) {B n : Nat} (F : Nat → UInt8) (h : B ≤ w.heap.size) (hn : w.heap.size = n) : OP (w.alloc (.cells #[] 97)) B (.slice (some ⟨n, 0, none⟩) 0 0) 0 F := by
  subst hn
  exact ⟨rfl, .inr ⟨w.heap.size, 0, #[], rfl, h, heap_alloc_new w _, Nat.le_refl _, by unfold maxLen; omega, rfl, rfl⟩⟩
theorem l01Row_nat (N k : Nat) (g : Nat → UInt8) (w : World) (hk : k < 10) :
    Calls Try.prog 153 #[.agg (sqc N g), .int .u8 k] w fun e w' => e = .returned (.agg (u8s 10 (rowF g k))) ∧ Below w.heap.size w w' := by
  have := l01Row_any N g (UInt8.ofNat k) w (by rw [u8_of k (by omega)]; exact hk)
  rw [u8_of k (by omega)] at this
  exact this
theorem l01Column_nat (N k : Nat) (g : Nat → UInt8) (w : World) (hq : IsSq N g) (hk : k < 10) :
    Calls Try.prog 155 #[.agg (sqc N g), .int .u8 k] w fun e w' => e = .returned (.agg (u8s 10 (colF g k))) ∧ Below w.heap.size w w' := by
  have := l01Column_any N g (UInt8.ofNat k) w hq (by rw [u8_of k (by omega)]; exact hk)
  rw [u8_of k (by omega)] at this
  exact this
set_option maxRecDepth 20000 in
set_option maxHeartbeats 4000000 in
theorem rowMapsOf_any (N : Nat) (g : Nat → UInt8) (w : World) (h1 : 1 ≤ N) (h10 : N ≤ 10) :
    Calls Try.prog 138 #[.agg (sqc N g)] w (GotP N g w) := by
  have hN2 : (N : Int) ≤ 10 := by omega
  have hH := Has.start1 w (sqc N g) 32
  have c0 := hH.c0 0
  rw [sqc_get0] at c0
  go_enter Try.func138, Try.ntmps138
  go_wp2_with (refine wpL_makeP (n := N) (base := w.heap.size + 1) rfl (by rfl) g (by rfl) (by rfl) (by omega) hH.size ?_; intro w3 hown hgm; replace hH := hH.grown hgm (fun x hx => by cases hx); clear c0; have c0 := hH.c0 0; rw [sqc_get0] at c0)
  clear c0
  go_loopw [3, 14] (fun v i wr => ∃ k : Nat, k ≤ N ∧ i = .int .i64 k ∧ Has w wr [(sqc N g, 32)] ∧ Hid (OP wr (w.heap.size + 1) v k g)) (fun _ i _ => 20 - (intOf i).toNat)
  case atStart => exact ⟨0, by omega, rfl, hH, hid (by simpa using hown)⟩
  case round =>
    clear hH hown hgm
    obtain ⟨k, hk, rfl, hH, hO⟩ := hrel
    have hsz := hH.size
    simp only [List.length_cons, List.length_nil] at hsz
    by_cases hlt : k < N
    · have hk10 : k < 10 := by omega
      have hk10' : (k : Int) < 10 := by omega
      have hoff : k * 10 + 10 ≤ 100 := by omega
      have har := arr10
      go_wp2_with (first | fail | (refine wpL_loadRowSq rfl rfl rfl rowB10 hH.h0 hoff ?_) | (refine wpL_allocN (o := ⟨some 5, _, _, _, _, _⟩) rfl rfl zeroB10 ?_; intro gr w4 hgr hl hb; have hlo : w.heap.size + 1 ≤ gr := (by omega); have hne : u3.ownBlock ≠ some gr := (fun e => by have := (World.ownsRow.lt hO.out gr e).2; omega); replace hH := hH.call' hb; replace hO := hid (hO.out.below hb); have hs4 := hb.size; clear hb) | (refine wpL_storeN (x := .tmp 5) rfl rfl rfl rfl rowB10 hgr (u8s_size _ _) (u8s_ok _ _) ?_; intro w5 hz hOo hT; replace hgr := hz; replace hH := hT _ _ hH hlo; replace hO := hid (hO.out.hold (.inr hne) hOo); clear hz hOo hT) | (refine wpL_loadFull (x := .tmp 20) rfl rfl rfl rowPl hgr (u8s_size _ _) ?_) | (refine wpL_sliceP (f := rowF g k) rfl (by rfl) (by rfl) ?_) | (refine wpL_appP (v := u3) (n := k) (base := w.heap.size + 1) (f := rowF g k) rfl (by rfl) g (by rfl) (by rfl) (hO.out.alloc _) (holds_new _ _ _) (by omega) (by have := hH.size; simp at this; simp; omega) (fun i _ => rfl) (fun j hj => rfl) ?_; intro r cap w6 how hg hor hlt3))
      have hO2 := hid how
      replace hH := (hH.alloc _).grown hg (fun x hx => by have := (World.ownsRow.lt hO.out x hx).1; simp; omega)
      clear how hg hor hlt3 hO hgr
      go_wp2
      go_roundw
      case rel => exact ⟨k + 1, by omega, by go_num, hH, hO2⟩
      case measure => simp [intOf]; omega
    · obtain rfl : k = N := by omega
      go_wp2
      go_ret
      exact ⟨_, rfl, hH.below, hO.out.lower (by omega)⟩
end Go.Proofs.Ytbhjbllgmenbaab
namespace Go.Proofs.Ytbhjbllgmenbaab
set_option linter.unusedVariables false
set_option linter.unusedSimpArgs false
open Go.RowKit
theorem PRow.grown {w w' : World} {g n : Nat} {r : Option Nat} {F : Nat → UInt8} (h : PRow w g n F) (hg : w.grownBy w' r) (hne : r ≠ some g) : PRow w' g n F := h.block (hg.block g h.lt (fun e => hne e.symm))
theorem PRow.alloc {w : World} {g n : Nat} {F : Nat → UInt8} (h : PRow w g n F) (o : Obj) : PRow (w.alloc o) g n F := h.block (heap_alloc_old w o h.lt)
section
variable {ops : Array Oper} {rest : List Oper} {o : Oper} {a : Act} {w : World} {Q : Exit → Act → World → Prop}
theorem wpL_appPs {s x : Operand} (hgd : o.guard = none) (ho : o.op = .call { callee := .builtin .append, args := #[s, x], argTypes := #[48, 48] }) {v : Value} {n m base c g : Nat} {F f : Nat → UInt8} (F' : Nat → UInt8)
    (hs : a.eval s = v) (hx : a.eval x = .slice (some ⟨g, 0, none⟩) m c) (hown : OP w base v n F) (hg : PRow w g m f) (hm : 0 < m) (hn : n ≤ 1000) (hm2 : m ≤ 1000) (hbase : base ≤ w.heap.size) (hF : ∀ i, i < n * 10 → F' i = F i) (hf : ∀ j, j < m * 10 → F' (n * 10 + j) = f j)
    (h : ∀ g cap w', OP w' base (.slice (some ⟨g, 0, none⟩) (n + m) cap) (n + m) F' → w.grownBy w' v.ownBlock → (v.ownBlock = some g ∨ g = w.heap.size) → g < w'.heap.size → wpList Try.prog ops Q rest (a.put o.dst (.slice (some ⟨g, 0, none⟩) (n + m) cap)) w') : wpList Try.prog ops Q (o :: rest) a w := by
  obtain ⟨i, hi, hz, h1, h2⟩ := info_parts infoP
  refine wpList_append_lies w hgd s x 48 ho base 97 i (.agg (u8s 10 fun _ => 0)) 10 10 Try.underlying48 hi hz h1 h2 (by simp [Value.cells]) (by omega) v n _ hs hown ⟨g, 0, none⟩ m c (u8s (m * 10) f).toList hx (by simp) (fun j u hj => ?_) (fun u hu => ?_) hm (by unfold maxLen; omega) (by omega) hbase _ rfl (fun g cap w' ho2 hg2 hor hlt => h g cap w' ?_ hg2 hor hlt)
  · have hadd : (⟨g, 0, none⟩ : Addr).add j = ⟨g, j, none⟩ := by unfold Addr.add; split <;> simp_all
    have hjl : j < m * 10 := by
      have := (List.getElem?_eq_some_iff.1 hj).1
      simpa using this
    rw [hadd, hg.cell hjl]
    rw [Array.getElem?_toList, u8s_get _ _ _ hjl] at hj
    exact hj
  · exact (Array.all_eq_true_iff_forall_mem.1 (u8s_one (m * 10) f)) u (by simpa using hu)
  · unfold OP
    rw [show (n + m) * 10 = n * 10 + m * 10 by omega, ← u8s_app (n * 10) (m * 10) F F' f hF hf]
    exact ho2
end
theorem zeroCells_size (z : Array Value) (n : Nat) : (Builtin.zeroCells z n).size = n * z.size := size_zeroCells z n
set_option maxRecDepth 20000 in
set_option maxHeartbeats 2000000 in
theorem growPlaces_any (n : Nat) (F : Nat → UInt8) (w : World) (h1 : 1 ≤ n) (h2 : n ≤ 100) :
    Calls Try.prog 165 #[.slice none 0 0, .int .i64 n] w (GotP 0 F w) := by
  obtain ⟨i, hi, hz, hs1, hs2⟩ := info_parts infoP
  have hn0 : ¬ (n : Int) < 0 := by omega
  have hn1 : 0 < (n : Int) := by omega
  have hn2 : (n : Int) ≤ 100 := by omega
  obtain ⟨C, hC⟩ : ∃ C, C = grownCap w n 0 97 := ⟨_, rfl⟩
  obtain ⟨Z, hZ⟩ : ∃ Z, Z = Builtin.zeroCells (Value.agg (u8s 10 fun _ => 0)).cells n ++ Builtin.zeroCells (Value.agg (u8s 10 fun _ => 0)).cells (C - n) := ⟨_, rfl⟩
  have hCn : n ≤ C := by rw [hC]; exact grownCap_ge w n 0 _
  have hCm : C ≤ maxLen := by rw [hC]; exact grownCap_le_maxLen w n 0 _ (by unfold maxLen; omega)
  have hZs : Z.size = C * 10 := by
    rw [hZ, Array.size_append, zeroCells_size, zeroCells_size]
    have : (Value.agg (u8s 10 fun _ => 0)).cells.size = 10 := by simp [Value.cells]
    rw [this]; omega
  have HR : Hid (∀ ty, (Builtin.append_ #[48, 3] ty #[.slice none 0 0, .int .i64 n]).run Try.prog w = .ok (.slice (some ⟨w.heap.size, 0, none⟩) n C) (w.drew.alloc (.cells Z 97))) := hid (fun ty => by
    rw [hZ, hC]
    exact Lib.run_append_nil_zeros w 48 3 ty 97 i (.agg (u8s 10 fun _ => 0)) .i64 .i64 Try.underlying48 Try.underlying3 hi hz n (by omega) (by rw [hs1]; omega) (by omega) (by rw [hs2]; omega))
  have hsl : (Instr.slice 48 (.slice (some ⟨w.heap.size, 0, none⟩) n C) none (some (.int .i64 0)) none).run Try.prog (w.drew.alloc (.cells Z 97)) = .ok (.slice (some ⟨w.heap.size, 0, none⟩) 0 C) (w.drew.alloc (.cells Z 97)) := by
    have hq : (sizeOf 97).run Try.prog (w.drew.alloc (.cells Z 97)) = .ok i.size (w.drew.alloc (.cells Z 97)) := by simp [sizeOf, typeInfo, hi]
    by_cases hC0 : C = 0
    · simp [Instr.slice, Instr.sliceBounds, Instr.sliceBound, asIntOf, Sem.run_bind, run_underlying Try.underlying48, hq, hC0, Addr.add]
    · simp [Instr.slice, Instr.sliceBounds, Instr.sliceBound, asIntOf, Sem.run_bind, run_underlying Try.underlying48, hq, hC0, Addr.add]
  have HO : Hid (OP (w.drew.alloc (.cells Z 97)) w.heap.size (.slice (some ⟨w.heap.size, 0, none⟩) 0 C) 0 F) := hid ⟨rfl, .inr ⟨w.heap.size, C, Z, rfl, Nat.le_refl _, heap_alloc_new w.drew _, Nat.zero_le _, hCm, hZs, rfl⟩⟩
  clear hC hZ hi hz hs1 hs2 hZs
  go_enter Try.func165, Try.ntmps165
  go_wp2_with (at_builtin; refine Lib.wpList_append_run _ rfl _ _ _ _ rfl _ _ rfl rfl _ _ (HR.out _) ?_)
  go_ret
  exact ⟨_, rfl, ((Below.refl _ _).drew).alloc (Nat.le_refl _) _, HO.out⟩
/-- The bytes of n permutations, then those of others. -/
def catF (F1 F2 : Nat → UInt8) (n : Nat) : Nat → UInt8 := fun i => if i < n * 10 then F1 i else F2 (i - n * 10)
theorem catF_lo {F1 F2 : Nat → UInt8} {n i : Nat} (h : i < n * 10) : catF F1 F2 n i = F1 i := by unfold catF; rw [if_pos h]
theorem catF_hi {F1 F2 : Nat → UInt8} {n j : Nat} : catF F1 F2 n (n * 10 + j) = F2 j := by unfold catF; rw [if_neg (by omega), Nat.add_sub_cancel_left]
/-- The two slices that Concat gets. -/
def Two2 (w : World) (b : Nat) (v1 v2 : Value) : Prop := w.cell? ⟨b, 0, none⟩ = some v1 ∧ w.cell? ⟨b, 1, none⟩ = some v2 ∧ b < w.heap.size
theorem Two2.below {w w' : World} {b : Nat} {v1 v2 : Value} (h : Two2 w b v1 v2) (hb : Below w.heap.size w w') : Two2 w' b v1 v2 :=
  ⟨(World.cell?_of_block (a := ⟨b, 0, none⟩) (hb.block b h.2.2)).trans h.1, (World.cell?_of_block (a := ⟨b, 1, none⟩) (hb.block b h.2.2)).trans h.2.1, by have := hb.size; have := h.2.2; omega⟩
theorem Two2.grown {w w' : World} {b : Nat} {v1 v2 : Value} {r : Option Nat} (h : Two2 w b v1 v2) (hg : w.grownBy w' r) (hne : r ≠ some b) : Two2 w' b v1 v2 :=
  ⟨(World.cell?_of_block (a := ⟨b, 0, none⟩) (hg.block b h.2.2 (fun e => hne e.symm))).trans h.1, (World.cell?_of_block (a := ⟨b, 1, none⟩) (hg.block b h.2.2 (fun e => hne e.symm))).trans h.2.1, by have := hg.size; have := h.2.2; omega⟩
set_option maxRecDepth 20000 in
set_option maxHeartbeats 4000000 in
theorem concatPlaces_any (b g1 g2 c1 c2 n : Nat) (F1 F2 : Nat → UInt8) (w : World) (h1 : 1 ≤ n) (h2 : n ≤ 10) (hT : Two2 w b (.slice (some ⟨g1, 0, none⟩) n c1) (.slice (some ⟨g2, 0, none⟩) n c2)) (hp1 : PRow w g1 n F1) (hp2 : PRow w g2 n F2) :
    Calls Try.prog 137 #[.slice (some ⟨b, 0, none⟩) 2 2] w (GotP (n + n) (catF F1 F2 n) w) := by
  have hT0 := hid hT
  have hn1 : 1 ≤ (n : Int) := by omega
  have hn2 : (n : Int) ≤ 10 := by omega
  have k1 := hT.1
  have k2 := hT.2.1
  have hb := hT.2.2
  have hg1 := hp1.lt
  have hg2 := hp2.lt
  clear hT
  go_enter Try.func137, Try.ntmps137
  go_wp2
  go_loop [3, 11] (fun s i => (s = .int .i64 0 ∧ i = .int .i64 0) ∨ (s = .int .i64 n ∧ i = .int .i64 1) ∨ (s = .int .i64 ((n + n : Nat) : Int) ∧ i = .int .i64 2)) (fun _ i => 3 - (intOf i).toNat)
  case atStart => exact .inl ⟨rfl, rfl⟩
  case round =>
    rcases hrel with ⟨rfl, rfl⟩ | ⟨rfl, rfl⟩ | ⟨rfl, rfl⟩
    · go_wp2
      go_round
      case rel => exact .inr (.inl ⟨by go_num, rfl⟩)
      case measure => simp [intOf]
    · go_wp2
      go_round
      case rel => exact .inr (.inr ⟨by go_num, rfl⟩)
      case measure => simp [intOf]
    · clear k1 k2
      go_wp2_with (first | fail | (go_at_call 165; refine (growPlaces_any (n + n) (catF F1 F2 n) _ (by omega) (by omega)).mono ?_; rintro e w2 ⟨v0, rfl, hB, hO⟩; replace hT0 := hid (hT0.out.below hB); replace hp1 := hp1.below hB; replace hp2 := hp2.below hB))
      obtain ⟨S, hS⟩ : ∃ S, w.heap.size = S := ⟨_, rfl⟩
      rw [hS] at hO hB hg1 hg2 hb
      have hSB : S ≤ w2.heap.size := by have := hB.size; omega
      have HB := hid hB
      have HO := hid hO
      have HP1 := hid hp1
      have HP2 := hid hp2
      have HS := hid hS
      clear hB hO hp1 hp2 hS
      go_loopw [6, 27] (fun v i wr => S ≤ wr.heap.size ∧ Hid (Below S w wr) ∧ Hid (Two2 wr b (.slice (some ⟨g1, 0, none⟩) n c1) (.slice (some ⟨g2, 0, none⟩) n c2)) ∧ Hid (PRow wr g1 n F1) ∧ Hid (PRow wr g2 n F2) ∧ ∃ k m : Nat, i = .int .i64 k ∧ ((k = 0 ∧ m = 0) ∨ (k = 1 ∧ m = n) ∨ (k = 2 ∧ m = n + n)) ∧ Hid (OP wr S v m (catF F1 F2 n))) (fun _ i _ => 3 - (intOf i).toNat)
      case atStart => exact ⟨hSB, HB, hT0, HP1, HP2, 0, 0, rfl, .inl ⟨rfl, rfl⟩, HO⟩
      case round =>
        clear hSB HB hT0 HP1 HP2 HO
        obtain ⟨hSB, HB, HT, HP1, HP2, k, m, rfl, hkm, HO⟩ := hrel
        have k1 := HT.out.1
        have k2 := HT.out.2.1
        rcases hkm with ⟨rfl, rfl⟩ | ⟨rfl, rfl⟩ | ⟨rfl, rfl⟩
        · go_wp2_with (first | fail | (refine wpL_appPs (v := u6) (n := 0) (m := n) (base := S) (F := catF F1 F2 n) (f := F1) rfl (by rfl) (catF F1 F2 n) (by rfl) (by rfl) HO.out HP1.out (by omega) (by omega) (by omega) hSB (fun i _ => rfl) (fun j hj => by rw [Nat.zero_mul, Nat.zero_add]; exact catF_lo hj) ?_; intro r cap w3 how hg hor hlt))
          have hne : ∀ x, u6.ownBlock = some x → S ≤ x := fun x hx => (World.ownsRow.lt HO.out x hx).1
          have HB2 := hid (_root_.Go.Proofs.Ytbhjbllgmenbaab.Below.grown HB.out hg hne (by rw [HS.out]; exact Nat.le_refl _))
          have HT2 := hid (HT.out.grown hg (fun e => by have := hne _ e; omega))
          have HP12 := hid (HP1.out.grown hg (fun e => by have := hne _ e; omega))
          have HP22 := hid (HP2.out.grown hg (fun e => by have := hne _ e; omega))
          have hs3 := hg.size
          rw [Nat.zero_add] at how
          have HO2 := hid how
          clear hg hne how HO
          go_wp2
          go_roundw
          case rel => exact ⟨by omega, HB2, HT2, HP12, HP22, 1, n, rfl, .inr (.inl ⟨rfl, rfl⟩), by first | exact HO2 | simpa using HO2⟩
          case measure => simp [intOf]
        · go_wp2_with (first | fail | (refine wpL_appPs (v := u6) (n := m) (m := m) (base := S) (F := catF F1 F2 m) (f := F2) rfl (by rfl) (catF F1 F2 m) (by rfl) (by rfl) HO.out HP2.out (by omega) (by omega) (by omega) hSB (fun i _ => rfl) (fun j hj => catF_hi) ?_; intro r cap w3 how hg hor hlt))
          have hne : ∀ x, u6.ownBlock = some x → S ≤ x := fun x hx => (World.ownsRow.lt HO.out x hx).1
          have HB2 := hid (_root_.Go.Proofs.Ytbhjbllgmenbaab.Below.grown HB.out hg hne (by rw [HS.out]; exact Nat.le_refl _))
          have HT2 := hid (HT.out.grown hg (fun e => by have := hne _ e; omega))
          have HP12 := hid (HP1.out.grown hg (fun e => by have := hne _ e; omega))
          have HP22 := hid (HP2.out.grown hg (fun e => by have := hne _ e; omega))
          have hs3 := hg.size
          have HO2 := hid how
          clear hg hne how HO
          go_wp2
          go_roundw
          case rel => exact ⟨by omega, HB2, HT2, HP12, HP22, 2, m + m, rfl, .inr (.inr ⟨rfl, rfl⟩), HO2⟩
          case measure => simp [intOf]
        · go_wp2
          go_ret
          exact ⟨_, rfl, by rw [HS.out]; exact HB.out, by rw [HS.out]; exact HO.out⟩
end Go.Proofs.Ytbhjbllgmenbaab
namespace Go.Proofs.Ytbhjbllgmenbaab
set_option linter.unusedVariables false
set_option linter.unusedSimpArgs false
open Go.RowKit
theorem asc_uniq : ∀ {l l' : List Int}, l.Pairwise (· ≤ ·) → l'.Pairwise (· ≤ ·) → l.Perm l' → l = l'
  | [], l', _, _, h => h.nil_eq
  | a :: l, [], _, _, h => by have := h.length_eq; simp at this
  | a :: l, b :: l', h1, h2, h => by
    obtain ⟨a1, a2⟩ := List.pairwise_cons.1 h1
    obtain ⟨b1, b2⟩ := List.pairwise_cons.1 h2
    have ma : a ∈ b :: l' := h.subset (List.mem_cons_self)
    have mb : b ∈ a :: l := h.symm.subset (List.mem_cons_self)
    have e : a = b := by
      rcases List.mem_cons.1 ma with e | ma
      · exact e
      · rcases List.mem_cons.1 mb with e | mb
        · exact e.symm
        · have := b1 a ma
          have := a1 b mb
          omega
    subst e
    rw [asc_uniq a2 b2 (List.Perm.cons_inv h)]
/-- What stands ahead of the element on its way is not greater, or not yet compared; what stands behind it is greater. -/
theorem ins_asc {A B : List Int} {x : Int} (h : (A ++ B).Pairwise (· ≤ ·)) (hA : ∀ y, A.getLast? = some y → y ≤ x) (hB : ∀ y, y ∈ B → x < y) : (A ++ x :: B).Pairwise (· ≤ ·) := by
  rw [List.pairwise_append] at h ⊢
  obtain ⟨h1, h2, h3⟩ := h
  have hAx : ∀ y, y ∈ A → y ≤ x := by
    intro y hy
    rcases List.eq_nil_or_concat A with e | ⟨A', z, e⟩
    · subst e; cases hy
    · subst e
      have hz : z ≤ x := hA z (by simp)
      rw [List.concat_eq_append] at h1 hy
      rw [List.pairwise_append] at h1
      rcases List.mem_append.1 hy with m | m
      · have := h1.2.2 y m z (by simp); omega
      · simp at m; omega
  refine ⟨h1, List.pairwise_cons.2 ⟨fun y hy => by have := hB y hy; omega, h2⟩, fun a ha b hb => ?_⟩
  rcases List.mem_cons.1 hb with e | hb
  · subst e; exact hAx a ha
  · exact h3 a ha b hb
theorem selL_asc (p : Nat → Bool) (k : Nat) : (selL p k).Pairwise (· < ·) := by
  unfold selL
  rw [List.pairwise_map]
  refine List.Pairwise.imp (R := (· < ·)) (fun h => by omega) ?_
  exact List.Pairwise.filter _ List.pairwise_lt_range
theorem selL_mem {p : Nat → Bool} {k : Nat} {z : Int} : z ∈ selL p k ↔ ∃ j : Nat, z = j ∧ j < k ∧ p j = true := by
  unfold selL
  rw [List.mem_map]
  constructor
  · rintro ⟨j, hj, e⟩
    rw [List.mem_filter, List.mem_range] at hj
    exact ⟨j, e.symm, hj.1, hj.2⟩
  · rintro ⟨j, e, h1, h2⟩
    exact ⟨j, List.mem_filter.2 ⟨List.mem_range.2 h1, h2⟩, e.symm⟩
/-- A sorted list of different numbers is that of the numbers that are in it. -/
theorem asc_sel {l l' : List Int} {p : Nat → Bool} {k : Nat} (hs : l'.Pairwise (· ≤ ·)) (hp : l'.Perm l) (hn : l.Nodup) (hm : ∀ z, z ∈ l ↔ ∃ j : Nat, z = j ∧ j < k ∧ p j = true) : l' = selL p k := by
  have h1 := selL_asc p k
  refine asc_uniq hs (List.Pairwise.imp (fun h => by omega) h1) ?_
  refine hp.trans ((List.perm_ext_iff_of_nodup hn (List.Pairwise.imp (fun h => by omega) h1)).2 fun z => ?_)
  rw [hm, selL_mem]
/-- Each number from 1 to m as often as c tells. -/
def byCnt (c : Nat → Nat) : Nat → List Int
  | 0 => []
  | m + 1 => byCnt c m ++ List.replicate (c (m + 1)) ((m + 1 : Nat) : Int)
theorem byCnt_le (c : Nat → Nat) : ∀ m (z : Int), z ∈ byCnt c m → 1 ≤ z ∧ z ≤ m
  | 0, z, h => by cases h
  | m + 1, z, h => by
    rcases List.mem_append.1 h with h | h
    · have := byCnt_le c m z h; omega
    · have := (List.mem_replicate.1 h).2; omega
theorem byCnt_asc (c : Nat → Nat) : ∀ m, (byCnt c m).Pairwise (· ≤ ·)
  | 0 => List.Pairwise.nil
  | m + 1 => by
    show (byCnt c m ++ _).Pairwise _
    rw [List.pairwise_append]
    refine ⟨byCnt_asc c m, ?_, fun a ha b hb => ?_⟩
    · rw [List.pairwise_replicate]; right; omega
    · have := byCnt_le c m a ha
      have := (List.mem_replicate.1 hb).2
      omega
theorem byCnt_count (c : Nat → Nat) (z : Int) : ∀ m, (byCnt c m).count z = if 1 ≤ z ∧ z ≤ m then c z.toNat else 0
  | 0 => by rw [if_neg (by omega)]; rfl
  | m + 1 => by
    show (byCnt c m ++ _).count z = _
    rw [List.count_append, byCnt_count c z m, List.count_replicate]
    by_cases e : ((m + 1 : Nat) : Int) = z
    · subst e
      rw [if_neg (by omega), if_pos (beq_self_eq_true _), if_pos (by omega), Nat.zero_add]
      rfl
    · have e2 : (((m + 1 : Nat) : Int) == z) = false := by simpa using e
      rw [e2, if_neg Bool.false_ne_true, Nat.add_zero]
      by_cases h : 1 ≤ z ∧ z ≤ m
      · rw [if_pos h, if_pos (by omega)]
      · rw [if_neg h, if_neg (by omega)]
/-- A sorted list of numbers from 1 to m is that of their counts. -/
theorem asc_byCnt {l l' : List Int} {m : Nat} {c : Nat → Nat} (hs : l'.Pairwise (· ≤ ·)) (hp : l'.Perm l) (hl : ∀ z, z ∈ l → 1 ≤ z ∧ z ≤ m) (hc : ∀ k : Nat, 1 ≤ k → k ≤ m → l.count (k : Int) = c k) : l' = byCnt c m := by
  refine asc_uniq hs (byCnt_asc c m) (hp.trans (List.perm_iff_count.2 fun z => ?_))
  rw [byCnt_count]
  by_cases h : 1 ≤ z ∧ z ≤ m
  · rw [if_pos h]
    have := hc z.toNat (by omega) (by omega)
    rwa [show ((z.toNat : Nat) : Int) = z by omega] at this
  · rw [if_neg h]
    exact List.count_eq_zero.2 fun hz => h (hl z hz)
end Go.Proofs.Ytbhjbllgmenbaab
namespace Go.Proofs.Ytbhjbllgmenbaab
set_option linter.unusedVariables false
set_option linter.unusedSimpArgs false
open Go.RowKit
theorem imp_not {p q : Bool} (h : p = true → q = true) (hq : q = false) : p = false := by
  cases p with
  | false => rfl
  | true => rw [h rfl] at hq; cases hq
/-- Block g begins with the numbers l. -/
def RowL (w : World) (g : Nat) (l : List Int) : Prop := Row w g l.length (fun i => l.getD i 0)
section
variable {w w' : World} {g : Nat} {l l' A B : List Int} {x y : Int}
theorem RowL.cell (h : RowL w g l) {i : Nat} (hi : i < l.length) : w.cell? ⟨g, i, none⟩ = some (.int .i64 (l.getD i 0)) := Row.cell h hi
theorem RowL.frozen (h : RowL w g l) (i : Nat) : w.frozen? ⟨g, i, none⟩ = false := Row.frozen h i
theorem RowL.block (h : RowL w g l) (e : w'.heap[g]? = w.heap[g]?) : RowL w' g l := Row.block h e
theorem RowL.mid (h : RowL w g (A ++ x :: B)) : w.cell? ⟨g, A.length, none⟩ = some (.int .i64 x) := by
  rw [h.cell (by simp)]; simp [List.getD]
theorem RowL.put {z : Int} (h : RowL w g (A ++ x :: B)) : RowL (w.setCell ⟨g, A.length, none⟩ (.int .i64 z)) g (A ++ z :: B) := by
  have hl : (A ++ z :: B).length = (A ++ x :: B).length := by simp
  unfold RowL at *
  rw [hl]
  refine Row.set h A.length z _ fun i hi => ?_
  by_cases e : i = A.length
  · subst e; simp [List.getD]
  · rw [if_neg e]
    by_cases hlt : i < A.length
    · simp [List.getD, List.getElem?_append_left hlt]
    · obtain ⟨m, rfl⟩ : ∃ m, i = A.length + (m + 1) := ⟨i - A.length - 1, by omega⟩
      simp [List.getD, List.getElem?_append_right]
theorem RowL.two (h : RowL w g (A ++ y :: x :: B)) : w.cell? ⟨g, A.length + 1, none⟩ = some (.int .i64 x) := by
  rw [h.cell (by simp)]; simp [List.getD, List.getElem?_append_right]
theorem RowL.put2 {z : Int} (h : RowL w g (A ++ y :: x :: B)) : RowL (w.setCell ⟨g, A.length + 1, none⟩ (.int .i64 z)) g (A ++ y :: z :: B) := by
  have h2 : RowL w g ((A ++ [y]) ++ x :: B) := by rw [List.append_assoc]; exact h
  have := h2.put (z := z)
  rw [List.append_assoc, List.length_append] at this
  exact this
theorem swap_perm : (A ++ x :: y :: B).Perm (A ++ y :: x :: B) := List.Perm.append_left A (List.Perm.swap y x B)
end
theorem pick_ff {p q : Bool} {w : World} {g : Nat} {a b c : List Int} (hq : q = false) (hp : p = false) (h : RowL w g (bif q then a else bif p then b else c)) : RowL w g c := by subst hq hp; exact h
theorem pick_f {q : Bool} {w : World} {g : Nat} {a c : List Int} (hq : q = false) (h : RowL w g (bif q then a else c)) : RowL w g c := by subst hq; exact h
theorem pick_t {p : Bool} {w : World} {g : Nat} {b c : List Int} (hp : p = true) (h : RowL w g (bif p then b else c)) : RowL w g b := by subst hp; exact h
theorem less64_any (x y : Int) (w : World) : Calls Try.prog 178 #[.int .i64 x, .int .i64 y] w fun e w' => e = .returned (.bool (decide (x < y))) ∧ w' = w := by
  go_enter Try.func178, Try.ntmps178
  go_wp2
  go_ret
  exact ⟨by simp, rfl⟩
set_option maxRecDepth 20000 in
set_option maxHeartbeats 4000000 in
theorem insertionSort64_any (g n c : Nat) (l : List Int) (w : World) (hl : l.length = n) (hn : n ≤ 100) (h : RowL w g l) :
    Calls Try.prog 172 #[.slice (some ⟨g, 0, none⟩) n c, .int .i64 0, .int .i64 n] w fun e w' => e = .returned (.tuple #[]) ∧ w.grownBy w' (some g) ∧ ∃ l', l'.Perm l ∧ l'.Pairwise (· ≤ ·) ∧ RowL w' g l' := by
  have hG := hid (grown_refl w (some g))
  have hn100 : (n : Int) ≤ 100 := by omega
  go_enter Try.func172, Try.ntmps172
  go_wp2
  go_loopw [6] (fun i wr => ∃ (k : Nat) (S R : List Int), i = .int .i64 k ∧ k ≤ 101 ∧ Hid (w.grownBy wr (some g)) ∧ Hid (RowL wr g (S ++ R)) ∧ Hid (S.Pairwise (· ≤ ·)) ∧ Hid ((S ++ R).Perm l) ∧ (S.length = k ∨ (R = [] ∧ n ≤ k))) (fun i _ => 200 - (intOf i).toNat)
  case atStart =>
    refine ⟨1, l.take 1, l.drop 1, rfl, by omega, hG, hid (by rw [List.take_append_drop]; exact h), hid ?_, hid (by rw [List.take_append_drop]), ?_⟩
    · cases l with
      | nil => exact List.Pairwise.nil
      | cons a l => exact List.pairwise_singleton _ _
    · cases l with
      | nil => right; simp at hl; exact ⟨rfl, by omega⟩
      | cons a l => left; simp
  case round =>
    clear hG h
    obtain ⟨k, S, R, rfl, hk, hG, hR, hS, hP, hkk⟩ := hrel
    have hlen : S.length + R.length = n := by have := hP.out.length_eq; simp at this; omega
    by_cases hlt : k < n
    · have hSk : S.length = k := by
        rcases hkk with h | ⟨_, h⟩
        · exact h
        · omega
      have hkn : (k : Int) < n := by omega
      obtain ⟨x, R', hRx⟩ : ∃ x R', R = x :: R' := by
        cases R with
        | nil => simp at hlen; omega
        | cons x R' => exact ⟨x, R', rfl⟩
      subst hRx
      have HLen := hid hlen
      clear hkk hlen
      go_wp2
      go_loopw [7] (fun j wr => ∃ (A B : List Int) (m : Nat), j = .int .i64 m ∧ A.length = m ∧ m ≤ k ∧ Hid (A.length + B.length = k) ∧ Hid (w.grownBy wr (some g)) ∧ Hid (RowL wr g (A ++ x :: (B ++ R'))) ∧ Hid ((A ++ B).Pairwise (· ≤ ·)) ∧ Hid (∀ z, z ∈ B → x < z) ∧ Hid ((A ++ x :: (B ++ R')).Perm l)) (fun j _ => (intOf j).toNat)
      case atStart => exact ⟨S, [], k, rfl, hSk, Nat.le_refl _, hid (by simp [hSk]), hG, hR, hid (by rw [List.append_nil]; exact hS.out), hid (fun z hz => by cases hz), hP⟩
      case round =>
        clear hG hR hS hP
        obtain ⟨A, B, m, rfl, hAm, hmk, hAB, hG, hR, hS, hB, hP⟩ := hrel
        have cm := hR.out.mid
        rw [hAm] at cm
        have hm100 : (m : Int) ≤ 100 := by omega
        have hmn : (m : Int) < n := by omega
        by_cases hm0 : m = 0
        · have hA : A = [] := List.length_eq_zero_iff.1 (by omega)
          subst hA
          subst hm0
          have HD : (x :: B).Pairwise (· ≤ ·) := List.pairwise_cons.2 ⟨fun z hz => by have := hB.out z hz; omega, hS.out⟩
          have HD2 := hid HD
          clear HD
          go_wp2
          go_quiet (fail)
          go_wp2
          go_roundw
          case rel => exact ⟨k + 1, x :: B, R', by go_num, by omega, hid ⟨hG.out.os, hG.out.tape, hG.out.output, hG.out.size, hG.out.block⟩, hid (hR.out.block rfl), HD2, hP, .inl (by have := hAB.out; simp at this ⊢; omega)⟩
          case measure => simp [intOf]; omega
        · obtain ⟨j, rfl⟩ : ∃ j, m = j + 1 := ⟨m - 1, by omega⟩
          obtain ⟨A', y, hA⟩ : ∃ A' y, A = A' ++ [y] := by
            rcases List.eq_nil_or_concat A with e | ⟨A', y, e⟩
            · subst e; simp at hAm
            · exact ⟨A', y, by rw [e, List.concat_eq_append]⟩
          subst hA
          have hA' : A'.length = j := by simpa using hAm
          have hR1 := hR.out
          rw [List.append_assoc, List.singleton_append] at hR1
          have cy := hR1.mid
          rw [hA'] at cy
          have e1 : IntKind.i64.wrap (((j + 1 : Nat) : Int) - 1) = (j : Int) := by rw [IntWalk.i64_in _ (by omega)]; first | done | omega
          have hj0 : (((j + 1 : Nat) : Int)) > 0 := by omega
          have hjn : (j : Int) < n := by omega
          have hLess := less64_any x y
          by_cases hxy : x < y
          · have hLt : ∀ w, Calls Try.prog 178 #[.int .i64 x, .int .i64 y] w fun e w' => e = .returned (.bool true) ∧ w' = w := fun w => by have := hLess w; rwa [decide_eq_true hxy] at this
            have HR1 := hid hR1
            have HXY := hid hxy
            have HA' := hid hA'
            clear hLess hR1 hR hxy hA'
            go_wp2
            go_quiet ((go_at_call 178; exact Calls.quiet_of_same (hLt _)))
            obtain ⟨wd, hwd⟩ : ∃ q, wr.drewN nq = q := ⟨_, rfl⟩
            have hR : Hid (RowL wd g (A' ++ y :: x :: (B ++ R'))) := by rw [← hwd]; exact hid (HR1.out.block rfl)
            replace hG : Hid (w.grownBy wd (some g)) := by rw [← hwd]; exact hid ⟨hG.out.os, hG.out.tape, hG.out.output, hG.out.size, hG.out.block⟩
            rw [hwd]
            clear hwd cm cy
            go_wp2
            have HF1 := hid hj0
            refine wp_region_frame (X := Unit) (fun d _ => [(33, bif d 0 then .slice (some ⟨g, 0, none⟩) n c else u33), (34, bif d 1 then .int .i64 (j + 1 : Nat) else u34), (35, bif d 2 then .slice (some ⟨g, 0, none⟩) n c else u35), (36, bif d 3 then .int .i64 (j + 1 : Nat) else u36), (37, bif d 4 then .int .i64 (j : Nat) else u37), (38, bif d 5 then .slice (some ⟨g, 0, none⟩) n c else u38), (39, bif d 6 then .int .i64 (j + 1 : Nat) else u39), (40, bif d 7 then .int .i64 (j : Nat) else u40), (41, bif d 8 then .pointer (some ⟨g, j, none⟩) else u41), (42, bif d 9 then .int .i64 y else u42), (43, bif d 10 then .slice (some ⟨g, 0, none⟩) n c else u43), (44, bif d 11 then .int .i64 (j + 1 : Nat) else u44), (45, bif d 12 then .pointer (some ⟨g, j + 1, none⟩) else u45), (46, bif d 13 then .int .i64 x else u46), (47, bif d 14 then .pointer (some ⟨g, j + 1, none⟩) else u47), (48, bif d 16 then .pointer (some ⟨g, j, none⟩) else u48)])
              (fun d _ w' => Hid (w.grownBy w' (some g)) ∧ Hid (RowL w' g (bif d 17 then A' ++ x :: y :: (B ++ R') else bif d 15 then A' ++ y :: y :: (B ++ R') else A' ++ y :: x :: (B ++ R'))) ∧ (d 15 = true → d 9 = true) ∧ (d 15 = true → d 13 = true) ∧ (d 17 = true → d 15 = true)) (by kernel_rfl) (by kernel_rfl) ?h0_sw ?hs_sw ?hq_sw
            case h0_sw => exact ⟨(), (by simp [lput]), hid ⟨hG.out.os, hG.out.tape, hG.out.output, hG.out.size, hG.out.block⟩, hid (hR.out.block rfl), (fun h => by cases h), (fun h => by cases h), (fun h => by cases h)⟩
            case hs_sw =>
              refine ⟨?_, ?_, ?_, ?_, ?_, ?_, ?_, ?_, ?_, ?_, ?_, ?_, ?_, ?_, ?_, ?_, ?_, ?_, trivial⟩
              all_goals
                clear hG hR
                intro d _ w1 hd hn hJ
                simp only [needs, Region.binds, reduceCtorEq, Bool.false_eq_true, false_implies, true_and, and_true, true_implies, forall_const] at hn
                simp only [lput, List.set, hn, cond_true]
                try simp only [hd, cond_false] at hJ
                obtain ⟨hG, hR, I15_9, I15_13, I17_15⟩ := hJ
                (try have z15 := imp_not I15_9 rfl)
                (try have z15 := imp_not I15_13 rfl)
                (try have z17 := imp_not I17_15 z15)
                (try have z17 := imp_not I17_15 rfl)
                have fz := fun i => hR.out.frozen i
                (try have hR0 : RowL w1 g (A' ++ y :: x :: (B ++ R')) := pick_ff z17 z15 hR.out)
                (try have hR0 : RowL w1 g (A' ++ y :: x :: (B ++ R')) := pick_f z17 hR.out)
                (try have hR1 : RowL w1 g (A' ++ y :: y :: (B ++ R')) := pick_t (by simp only [hn]) hR.out)
                (try have cy : w1.cell? ⟨g, j, none⟩ = some (.int .i64 y) := (by rw [← HA'.out]; exact hR0.mid))
                (try have cx : w1.cell? ⟨g, j + 1, none⟩ = some (.int .i64 x) := (by have h9 := hR0.two; rwa [HA'.out] at h9))
                (try have cy : w1.cell? ⟨g, j, none⟩ = some (.int .i64 y) := (by rw [← HA'.out]; exact hR1.mid))
                go_wp2_with (first | fail)
                first
                  | (refine ⟨(), ?_, hid (grown_set hG.out _ _), hid (by have h3 := hR0.put2 (z := y); rw [HA'.out] at h3; simpa [done, z17] using h3), (by intro e; first | (simp [done]; done) | (simp [done, hn]; done) | (have e2 := I15_9 (done_ne e (by decide)); simp [done, e2]; done)), (by intro e; first | (simp [done]; done) | (simp [done, hn]; done) | (have e2 := I15_13 (done_ne e (by decide)); simp [done, e2]; done)), (by intro e; first | (simp [done]; done) | (simp [done, hn]; done) | (have e2 := I17_15 (done_ne e (by decide)); simp [done, e2]; done))⟩; (simp [lput, done, hn]; done))
                  | (refine ⟨(), ?_, hid (grown_set hG.out _ _), hid (by have h3 := hR1.put (z := x); rw [HA'.out] at h3; simpa [done] using h3), (by intro e; first | (simp [done]; done) | (simp [done, hn]; done) | (have e2 := I15_9 (done_ne e (by decide)); simp [done, e2]; done)), (by intro e; first | (simp [done]; done) | (simp [done, hn]; done) | (have e2 := I15_13 (done_ne e (by decide)); simp [done, e2]; done)), (by intro e; first | (simp [done]; done) | (simp [done, hn]; done) | (have e2 := I17_15 (done_ne e (by decide)); simp [done, e2]; done))⟩; (simp [lput, done, hn]; done))
                  | (refine ⟨(), ?_, hG, hR, (by intro e; first | (simp [done]; done) | (have e2 := I15_9 (done_ne e (by decide)); simp [done, e2]; done) | (simp [done, hn]; done)), (by intro e; first | (simp [done]; done) | (have e2 := I15_13 (done_ne e (by decide)); simp [done, e2]; done) | (simp [done, hn]; done)), (by intro e; first | (simp [done]; done) | (have e2 := I17_15 (done_ne e (by decide)); simp [done, e2]; done) | (simp [done, hn]; done))⟩; (simp [lput, done, hn]; done))
                  | (refine ⟨?_, hG, hR, (by intro e; first | (simp [done]; done) | (have e2 := I15_9 (done_ne e (by decide)); simp [done, e2]; done) | (simp [done, hn]; done)), (by intro e; first | (simp [done]; done) | (have e2 := I15_13 (done_ne e (by decide)); simp [done, e2]; done) | (simp [done, hn]; done)), (by intro e; first | (simp [done]; done) | (have e2 := I17_15 (done_ne e (by decide)); simp [done, e2]; done) | (simp [done, hn]; done))⟩; (simp [lput, done, hn]; done))
                  | (refine ⟨(), ?_, hG, hR, (by intro e; first | (simp [done]; done) | (have e2 := I15_9 (done_ne e (by decide)); simp [done, e2]; done) | (simp [done, hn]; done)), (by intro e; first | (simp [done]; done) | (have e2 := I15_13 (done_ne e (by decide)); simp [done, e2]; done) | (simp [done, hn]; done)), (by intro e; first | (simp [done]; done) | (have e2 := I17_15 (done_ne e (by decide)); simp [done, e2]; done) | (simp [done, hn]; done))⟩; (simp [lput, done, hn]; rfl))
                  | (refine ⟨?_, hG, hR, (by intro e; first | (simp [done]; done) | (have e2 := I15_9 (done_ne e (by decide)); simp [done, e2]; done) | (simp [done, hn]; done)), (by intro e; first | (simp [done]; done) | (have e2 := I15_13 (done_ne e (by decide)); simp [done, e2]; done) | (simp [done, hn]; done)), (by intro e; first | (simp [done]; done) | (have e2 := I17_15 (done_ne e (by decide)); simp [done, e2]; done) | (simp [done, hn]; done))⟩; (simp [lput, done, hn]; rfl))
                  | (refine ⟨(), ?_, hG, hR, (by intro e; first | (simp [done]; done) | (have e2 := I15_9 (done_ne e (by decide)); simp [done, e2]; done) | (simp [done, hn]; done)), (by intro e; first | (simp [done]; done) | (have e2 := I15_13 (done_ne e (by decide)); simp [done, e2]; done) | (simp [done, hn]; done)), (by intro e; first | (simp [done]; done) | (have e2 := I17_15 (done_ne e (by decide)); simp [done, e2]; done) | (simp [done, hn]; done))⟩; (simp [lput, done]; done))
                  | (refine ⟨?_, hG, hR, (by intro e; first | (simp [done]; done) | (have e2 := I15_9 (done_ne e (by decide)); simp [done, e2]; done) | (simp [done, hn]; done)), (by intro e; first | (simp [done]; done) | (have e2 := I15_13 (done_ne e (by decide)); simp [done, e2]; done) | (simp [done, hn]; done)), (by intro e; first | (simp [done]; done) | (have e2 := I17_15 (done_ne e (by decide)); simp [done, e2]; done) | (simp [done, hn]; done))⟩; (simp [lput, done]; done))
                  | (refine ⟨(), ?_, hG, hR, (by intro e; first | (simp [done]; done) | (have e2 := I15_9 (done_ne e (by decide)); simp [done, e2]; done) | (simp [done, hn]; done)), (by intro e; first | (simp [done]; done) | (have e2 := I15_13 (done_ne e (by decide)); simp [done, e2]; done) | (simp [done, hn]; done)), (by intro e; first | (simp [done]; done) | (have e2 := I17_15 (done_ne e (by decide)); simp [done, e2]; done) | (simp [done, hn]; done))⟩; (simp [lput, done]; rfl))
                  | (refine ⟨?_, hG, hR, (by intro e; first | (simp [done]; done) | (have e2 := I15_9 (done_ne e (by decide)); simp [done, e2]; done) | (simp [done, hn]; done)), (by intro e; first | (simp [done]; done) | (have e2 := I15_13 (done_ne e (by decide)); simp [done, e2]; done) | (simp [done, hn]; done)), (by intro e; first | (simp [done]; done) | (have e2 := I17_15 (done_ne e (by decide)); simp [done, e2]; done) | (simp [done, hn]; done))⟩; (simp [lput, done]; rfl))
            case hq_sw =>
              clear hG hR
              intro d _ w1 hd hJ
              simp only [allDone, List.length_cons, List.length_nil, Nat.reduceAdd, and_true] at hd
              obtain ⟨hG, hR, I15_9, I15_13, I17_15⟩ := hJ
              clear I15_9
              clear I15_13
              clear I17_15
              simp only [hd, cond_true] at hR
              simp only [lput, List.set, hd, cond_true]
              clear hd
              go_wp2
              go_roundw
              case rel => exact ⟨A', y :: B, j, by go_num, HA'.out, by omega, hid (by have := hAB.out; simp at this ⊢; omega), hG, hR, hid (by have := hS.out; rwa [List.append_assoc, List.singleton_append] at this), hid (fun z hz => by
                rcases List.mem_cons.1 hz with e | hz
                · rw [e]; exact HXY.out
                · exact hB.out z hz), hid (by have := hP.out; rw [List.append_assoc, List.singleton_append] at this; exact swap_perm.trans this)⟩
              case measure => simp [intOf]
          · have hLt : ∀ w, Calls Try.prog 178 #[.int .i64 x, .int .i64 y] w fun e w' => e = .returned (.bool false) ∧ w' = w := fun w => by have := hLess w; rwa [decide_eq_false hxy] at this
            have HD2 := hid (ins_asc hS.out (fun z hz => by simp at hz; omega) hB.out)
            clear hLess hR1
            go_wp2
            go_quiet ((go_at_call 178; exact Calls.quiet_of_same (hLt _)))
            go_wp2
            go_roundw
            case rel => exact ⟨k + 1, (A' ++ [y]) ++ x :: B, R', by go_num, by omega, hid ⟨hG.out.os, hG.out.tape, hG.out.output, hG.out.size, hG.out.block⟩, hid (by rw [List.append_assoc, List.cons_append]; exact hR.out.block rfl), HD2, hid (by rw [List.append_assoc, List.cons_append]; exact hP.out), .inl (by have := hAB.out; simp at this ⊢; omega)⟩
            case measure => simp [intOf]; omega
    · have hkn : (n : Int) ≤ k := by omega
      have HR0 : R = [] := by
        rcases hkk with h | ⟨h, _⟩
        · exact List.length_eq_zero_iff.1 (by omega)
        · exact h
      subst HR0
      rw [List.append_nil] at hR hP
      have HF := hid (show ∃ l', List.Perm l' l ∧ l'.Pairwise (· ≤ ·) ∧ RowL wr g l' from ⟨S, hP.out, hS.out, hR.out⟩)
      go_wp2
      go_end0
      exact ⟨rfl, hG.out, HF.out⟩
set_option maxRecDepth 20000 in
set_option maxHeartbeats 4000000 in
theorem pdqsort64_any (g n c : Nat) (z : Int) (l : List Int) (w : World) (hl : l.length = n) (hn : n ≤ 12) (h : RowL w g l) :
    Calls Try.prog 160 #[.slice (some ⟨g, 0, none⟩) n c, .int .i64 0, .int .i64 n, .int .i64 z] w fun e w' => e = .returned (.tuple #[]) ∧ w.grownBy w' (some g) ∧ ∃ l', l'.Perm l ∧ l'.Pairwise (· ≤ ·) ∧ RowL w' g l' := by
  have hn12 : (n : Int) ≤ 12 := by omega
  go_enter Try.func160, Try.ntmps160
  go_wp2
  go_loopw [1, 2] (fun i k wr => i = .int .i64 0 ∧ k = .int .i64 n ∧ Hid (wr = w)) (fun _ _ _ => 0)
  case atStart => exact ⟨rfl, rfl, hid rfl⟩
  case round =>
    obtain ⟨rfl, rfl, hw⟩ := hrel
    have hR : Hid (RowL wr g l) := by rw [hw.out]; exact hid h
    go_wp2_with (first | fail | (go_at_call 172; refine (insertionSort64_any g n c l _ hl (by omega) hR.out).mono ?_; rintro e w2 ⟨rfl, hg, hx⟩))
    (try simp only [Exit.inBlock, Exit.then])
    refine bodyPost_ret (results_none rfl _ _ _) rfl ?_
    rw [hw.out] at hg
    exact ⟨rfl, hg, hx⟩
set_option maxRecDepth 20000 in
set_option maxHeartbeats 4000000 in
theorem sort64_any (g n c : Nat) (l : List Int) (w : World) (hl : l.length = n) (hn : n ≤ 12) (h : RowL w g l) :
    Calls Try.prog 124 #[.slice (some ⟨g, 0, none⟩) n c] w fun e w' => e = .returned (.tuple #[]) ∧ w.grownBy w' (some g) ∧ ∃ l', l'.Perm l ∧ l'.Pairwise (· ≤ ·) ∧ RowL w' g l' := by
  have hn12 : (n : Int) ≤ 12 := by omega
  go_enter Try.func124, Try.ntmps124
  go_wp2_with (first | fail | (go_at_call 161; refine (Try.bits_Len n _ (by omega) (by omega)).mono ?_; rintro e w2 ⟨rfl, rfl⟩) | (go_at_call 160; refine (pdqsort64_any g n c _ l _ hl hn h).mono ?_; rintro e w2 ⟨rfl, hg, hx⟩))
  go_end0
  exact ⟨rfl, hg, hx⟩
end Go.Proofs.Ytbhjbllgmenbaab
namespace Go.Proofs.Ytbhjbllgmenbaab
set_option linter.unusedVariables false
set_option linter.unusedSimpArgs false
open Go.RowKit
/-- The i-th of the maps: for each x its turn, then L(x, y) and R(x, y) for each y. -/
def imM (g : Nat → UInt8) (N i : Nat) : Nat → UInt8 :=
  if i % (2 * N + 1) = 0 then tuF g N (i / (2 * N + 1))
  else if i % (2 * N + 1) % 2 = 1 then liF g N (i / (2 * N + 1)) (i % (2 * N + 1) / 2)
  else riF g N (i / (2 * N + 1)) (i % (2 * N + 1) / 2 - 1)
/-- The cells of all of them. -/
def inF (g : Nat → UInt8) (N : Nat) : Nat → UInt8 := fun p => imM g N (p / 10) (p % 10)
theorem inF_at (g : Nat → UInt8) (N i : Nat) {j : Nat} (hj : j < 10) : inF g N (i * 10 + j) = imM g N i j := by
  unfold inF
  rw [show (i * 10 + j) / 10 = i by omega, show (i * 10 + j) % 10 = j by omega]
section
variable {g : Nat → UInt8} {N x y : Nat}
theorem row_mod (r : Nat) (hr : r < 2 * N + 1) : (x * (2 * N + 1) + r) % (2 * N + 1) = r := by
  rw [Nat.add_comm, Nat.add_mul_mod_self_right, Nat.mod_eq_of_lt hr]
theorem row_div (r : Nat) (hr : r < 2 * N + 1) : (x * (2 * N + 1) + r) / (2 * N + 1) = x := by
  rw [Nat.add_comm, Nat.add_mul_div_right _ _ (by omega), Nat.div_eq_of_lt hr, Nat.zero_add]
theorem imM_tu : imM g N (x * (2 * N + 1)) = tuF g N x := by
  have h1 := row_mod (N := N) (x := x) 0 (by omega)
  have h2 := row_div (N := N) (x := x) 0 (by omega)
  rw [Nat.add_zero] at h1 h2
  unfold imM
  rw [h1, h2, if_pos rfl]
theorem imM_li (hy : y < N) : imM g N (x * (2 * N + 1) + (1 + 2 * y)) = liF g N x y := by
  unfold imM
  rw [row_mod _ (by omega), row_div _ (by omega), if_neg (by omega), if_pos (by omega), show (1 + 2 * y) / 2 = y by omega]
theorem imM_ri (hy : y < N) : imM g N (x * (2 * N + 1) + (2 + 2 * y)) = riF g N x y := by
  unfold imM
  rw [row_mod _ (by omega), row_div _ (by omega), if_neg (by omega), if_neg (by omega), show (2 + 2 * y) / 2 - 1 = y by omega]
theorem backF_zero {p : Nat → UInt8} {z : Nat} (h : IsPerm p N) (hz : N ≤ z) : ∀ k, k ≤ N → backF p k z = 0
  | 0, _ => rfl
  | k + 1, hk => by
    show (if z = (p k).toNat then UInt8.ofNat k else backF p k z) = 0
    rw [if_neg (by have := h.lt k (by omega); omega), backF_zero h hz k (by omega)]
theorem backF_perm {p : Nat → UInt8} (h : IsPerm p N) : IsPerm (backF p N) N :=
  ⟨h.lo, h.hi, fun i hi => by
    obtain ⟨y, hy, _, e⟩ := backF_of h i hi
    omega, fun i j hij hj e => by
    obtain ⟨y, hy, e1, e2⟩ := backF_of h i (by omega)
    obtain ⟨z, hz, e3, e4⟩ := backF_of h j hj
    have : y = z := by omega
    subst this
    omega, fun i hi h10 => (by rw [backF_zero h hi N (Nat.le_refl _)]; rfl)⟩
theorem imM_perm (h : IsSq N g) (i : Nat) (hi : i < N * (2 * N + 1)) : IsPerm (imM g N i) N := by
  have hx : i / (2 * N + 1) < N := (Nat.div_lt_iff_lt_mul (by omega)).2 hi
  have hr := Nat.mod_lt i (show 0 < 2 * N + 1 by omega)
  generalize i / (2 * N + 1) = x at hx
  unfold imM
  split
  · exact thenF_perm (h.rows _ (by rename_i e; exact (Nat.div_lt_iff_lt_mul (by omega)).2 hi)) (backF_perm (h.cols _ ((Nat.div_lt_iff_lt_mul (by omega)).2 hi)))
  · have hx := (Nat.div_lt_iff_lt_mul (show 0 < 2 * N + 1 by omega)).2 hi
    split
    · have hy : i % (2 * N + 1) / 2 < N := by omega
      exact thenF_perm (thenF_perm (h.rows _ hx) (h.rows _ hy)) (backF_perm (h.rows _ (h.lt' hy hx)))
    · have hy : i % (2 * N + 1) / 2 - 1 < N := by omega
      exact thenF_perm (thenF_perm (h.cols _ hx) (h.cols _ hy)) (backF_perm (h.cols _ (h.lt' hx hy)))
end
/-- Two maps, one behind the other. -/
def twoF (p q : Nat → UInt8) : Nat → UInt8 := fun i => if i < 10 then p i else q (i - 10)
theorem builtP2 (p q : Nat → UInt8) : (Try.prog).builtSlice 97 2 [(0, Value.agg (u8s 10 p)), (1, Value.agg (u8s 10 q))] = some (u8s 20 (twoF p q)) := by kernel_rfl
section
variable {ops : Array Oper} {rest : List Oper} {o : Oper} {a : Act} {w : World} {Q : Exit → Act → World → Prop}
theorem wpL_sliceP2 {x y : Operand} {p q : Nat → UInt8} (hgd : o.guard = none) (ho : o.op = .buildSlice 48 2 #[(0, x), (1, y)]) (hx : a.eval x = .agg (u8s 10 p)) (hy : a.eval y = .agg (u8s 10 q))
    (h : ∀ g w', PRow w' g 2 (twoF p q) → w.heap.size = g → Below w.heap.size w w' → wpList Try.prog ops Q rest (a.put o.dst (.slice (some ⟨g, 0, none⟩) 2 2)) w') : wpList Try.prog ops Q (o :: rest) a w := by
  refine Great.wpList_buildSliceTo hgd 48 97 2 _ ho _ rfl o.dst rfl Try.underlying48 (u8s 20 (twoF p q)) ?_ (h _ _ ⟨_, holds_new _ _ _, by simp, fun i hi => u8s_get 20 _ i (by omega)⟩ rfl ((Below.refl _ _).alloc (Nat.le_refl _) _))
  have hp : ((#[(0, x), (1, y)] : Array (Nat × Operand)).map fun (i, x) => (i, a.eval x)).toList = [(0, Value.agg (u8s 10 p)), (1, Value.agg (u8s 10 q))] := by simp [hx, hy]
  rw [hp]
  exact builtP2 p q
end
theorem imp_nq {p q : Bool} (h : p = true → q = true) (hq : q = false) : p = false := by
  cases p with
  | false => rfl
  | true => rw [h rfl] at hq; cases hq
/-- What is not known ahead of the appending of two maps: the block of both, and the list's. -/
structure IQ where
  b : Nat
  r : Nat
  cap : Nat
end Go.Proofs.Ytbhjbllgmenbaab
namespace Go.Proofs.Ytbhjbllgmenbaab
set_option linter.unusedVariables false
set_option linter.unusedSimpArgs false
open Go.RowKit
set_option maxRecDepth 20000 in
set_option maxHeartbeats 4000000 in
theorem innerMaps_any (N : Nat) (g : Nat → UInt8) (w : World) (hq : IsSq N g) :
    Calls Try.prog 71 #[.agg (sqc N g)] w (GotP (N * (2 * N + 1)) (inF g N) w) := by
  have h10 := hq.hi
  have HQ := hid hq
  clear hq
  have hN10 : (N : Int) ≤ 10 := by omega
  obtain ⟨M, hM⟩ : ∃ M, 2 * N + 1 = M := ⟨_, rfl⟩
  have hM21 : M ≤ 21 := by omega
  have HTU := hid (fun x j (hj : j < 10) => (show inF g N (x * M * 10 + j) = tuF g N x j by rw [inF_at _ _ _ hj, ← hM, imM_tu]))
  have HTW := hid (fun x y (hy : y < N) j (hj : j < 2 * 10) => (show inF g N ((x * M + (1 + 2 * y)) * 10 + j) = twoF (liF g N x y) (riF g N x y) j by
    unfold twoF
    by_cases h : j < 10
    · rw [if_pos h, inF_at _ _ _ h, ← hM, imM_li hy]
    · obtain ⟨i, rfl⟩ : ∃ i, j = i + 10 := ⟨j - 10, by omega⟩
      rw [if_neg h, show (x * M + (1 + 2 * y)) * 10 + (i + 10) = (x * M + (2 + 2 * y)) * 10 + i by omega, inF_at _ _ _ (by omega), ← hM, imM_ri hy, Nat.add_sub_cancel]))
  have hXM := hid (fun x (hx : x ≤ N) => (show x * M ≤ 210 from Nat.le_trans (Nat.mul_le_mul (Nat.le_trans hx h10) hM21) (Nat.le_refl _)))
  have HSUC := hid (fun x => Nat.succ_mul x M)
  have hMN := hid hM
  clear hM
  have hH := Has.start1 w (sqc N g) 32
  have c0 := hH.c0 0
  rw [sqc_get0] at c0
  go_enter Try.func71, Try.ntmps71
  go_wp2
  clear c0
  go_loopw [3, 9] (fun v i wr => ∃ k : Nat, k ≤ N ∧ i = .int .u8 k ∧ Has w wr [(sqc N g, 32)] ∧ Hid (OP wr (w.heap.size + 1) v (k * M) (inF g N))) (fun _ i _ => 20 - (intOf i).toNat)
  case atStart => exact ⟨0, by omega, rfl, hH, hid (by rw [Nat.zero_mul]; exact OP.nil _ _ _)⟩
  case round =>
    clear hH
    obtain ⟨k, hk, rfl, hH, hO⟩ := hrel
    have hsz := hH.size
    simp only [List.length_cons, List.length_nil] at hsz
    obtain ⟨B, hB⟩ : ∃ B, k * M = B := ⟨_, rfl⟩
    have hBb := hXM.out k hk
    rw [hB] at hO hBb
    by_cases hlt : k < N
    · have hk1 : (k : Int) < N := by omega
      have hk256 : (k : Int) < 256 := by omega
      have ht := HTU.out k
      have htw := HTW.out k
      have hsu := HSUC.out k
      rw [hB] at ht htw hsu
      have HT := hid ht
      have HW := hid htw
      have HS := hid hsu
      have cz : wr.cell? ⟨w.heap.size, 0, none⟩ = some (.int .i64 N) := by rw [hH.c0, sqc_get0]
      obtain ⟨ku, hku⟩ : ∃ ku : UInt8, ku.toNat = k := ⟨UInt8.ofNat k, u8_of k (by omega)⟩
      subst hku
      clear ht htw hsu hB
      go_wp2_with (first | fail | (refine wpL_loadFull rfl rfl rfl rowSq hH.h0 (sqc_size _ _) ?_) | (go_at_call 120; refine (turnMap_any N g ku _ HQ.out hlt).mono ?_; rintro e w3 ⟨rfl, hb⟩; replace hH := hH.call' hb; replace hO := hid (hO.out.below hb); have hs3 := hb.size; clear hb cz) | (refine wpL_sliceP (f := tuF g N ku.toNat) rfl (by rfl) (by rfl) ?_) | (refine wpL_appP (v := u3) (n := B) (base := w.heap.size + 1) (f := tuF g N ku.toNat) rfl (by rfl) (inF g N) (by rfl) (by rfl) (hO.out.alloc _) (holds_new _ _ _) (by omega) (by simp; omega) (fun i _ => rfl) (fun j hj => HT.out j hj) ?_; intro r cap w2 how hg hor hlt3; have hO2 := hid how; replace hH := (hH.alloc _).grown hg (fun x hx => by have := (World.ownsRow.lt hO.out x hx).1; simp; omega); clear how hg hor hlt3 hO; have cz : w2.cell? ⟨w.heap.size, 0, none⟩ = some (.int .i64 N) := (by rw [hH.c0, sqc_get0])))
      clear cz
      go_loopw [3, 21] (fun v i wr => ∃ j : Nat, j ≤ N ∧ i = .int .u8 j ∧ Has w wr [(sqc N g, 32)] ∧ Hid (OP wr (w.heap.size + 1) v (B + (1 + 2 * j)) (inF g N))) (fun _ i _ => 20 - (intOf i).toNat)
      case atStart => exact ⟨0, by omega, rfl, hH, hO2⟩
      case round =>
        clear hH hO2 hsz
        obtain ⟨j, hj, rfl, hH, hO⟩ := hrel
        have hsz := hH.size
        simp only [List.length_cons, List.length_nil] at hsz
        obtain ⟨n, hn⟩ : ∃ n, B + (1 + 2 * j) = n := ⟨_, rfl⟩
        rw [hn] at hO
        have HNN := hid hn
        have hn300 : n ≤ 300 := by omega
        by_cases hjl : j < N
        · have hj1 : (j : Int) < N := by omega
          have hW := HW.out j hjl
          rw [hn] at hW
          have HWJ := hid hW
          obtain ⟨ju, hju⟩ : ∃ ju : UInt8, ju.toNat = j := ⟨UInt8.ofNat j, u8_of j (by omega)⟩
          subst hju
          obtain ⟨li, hli⟩ : ∃ f, liF g N ku.toNat ju.toNat = f := ⟨_, rfl⟩
          obtain ⟨ri, hri⟩ : ∃ f, riF g N ku.toNat ju.toNat = f := ⟨_, rfl⟩
          rw [hli, hri] at HWJ
          have HLI := hid hli
          have HRI := hid hri
          clear hn hW hli hri
          go_wp2
          refine wp_region_frame (X := IQ) (fun d x => [(24, bif d 0 then u3 else u24), (25, bif d 1 then .agg (sqc N g) else u25), (26, bif d 2 then .int .u8 ku.toNat else u26), (27, bif d 3 then .int .u8 ju.toNat else u27), (28, bif d 4 then .agg (u8s 10 li) else u28), (29, bif d 5 then .agg (sqc N g) else u29), (30, bif d 6 then .int .u8 ku.toNat else u30), (31, bif d 7 then .int .u8 ju.toNat else u31), (32, bif d 8 then .agg (u8s 10 ri) else u32), (33, bif d 9 then .slice (some ⟨x.b, 0, none⟩) 2 2 else u33), (34, bif d 10 then .slice (some ⟨x.r, 0, none⟩) (n + 2) x.cap else u34), (3, bif d 11 then .slice (some ⟨x.r, 0, none⟩) (n + 2) x.cap else u3)])
            (fun d x w' => Has w w' [(sqc N g, 32)] ∧ (d 10 = false → Hid (OP w' (w.heap.size + 1) u3 n (inF g N))) ∧ (d 10 = true → Hid (OP w' (w.heap.size + 1) (.slice (some ⟨x.r, 0, none⟩) (n + 2) x.cap) (n + 2) (inF g N))) ∧ (d 9 = true → PRow w' x.b 2 (twoF li ri) ∧ u3.ownBlock ≠ some x.b) ∧ (d 10 = true → d 9 = true) ∧ (d 11 = true → d 10 = true) ∧ (d 10 = true → d 0 = true)) (by kernel_rfl) (by kernel_rfl) ?h0_im ?hs_im ?hq_im
          case h0_im => exact ⟨⟨0, 0, 0⟩, (by simp [lput]), hH.drew, (fun _ => hid (hO.out.kept fun _ _ => rfl)), (fun h => by cases h), (fun h => by cases h), (fun h => by cases h), (fun h => by cases h), (fun h => by cases h)⟩
          case hs_im =>
            refine ⟨?_, ?_, ?_, ?_, ?_, ?_, ?_, ?_, ?_, ?_, ?_, ?_, trivial⟩
            all_goals
              clear hH hO
              intro d x w1 hd hn hJ
              simp only [needs, Region.binds, reduceCtorEq, Bool.false_eq_true, false_implies, true_and, and_true, true_implies, forall_const] at hn
              simp only [lput, List.set, hn, cond_true]
              obtain ⟨hH, hO, hP, hS, I10_9, I11_10, I10_0⟩ := hJ
              (try have hP_ := hP (by simp only [hn]))
              (try have hS_ := hS (by simp only [hn]))
              (try have hO_ := hO hd)
              have zz := hH.size
              simp only [List.length_cons, List.length_nil] at zz
              go_wp2_with (first | fail | (refine wpL_loadFull rfl rfl rfl rowSq hH.h0 (sqc_size _ _) ?_) | (go_at_call 121; refine (leftInner_any N g ku ju _ HQ.out hlt hjl).mono ?_; rintro e w3 ⟨rfl, hb⟩; rw [HLI.out]; replace hH := hH.call' hb; replace hO := fun e => hid ((hO e).out.below hb); replace hP := fun e => hid ((hP e).out.below hb); replace hS := fun e => And.intro ((hS e).1.below hb) (hS e).2; clear hb) | (go_at_call 122; refine (rightInner_any N g ku ju _ HQ.out hlt hjl).mono ?_; rintro e w3 ⟨rfl, hb⟩; rw [HRI.out]; replace hH := hH.call' hb; replace hO := fun e => hid ((hO e).out.below hb); replace hP := fun e => hid ((hP e).out.below hb); replace hS := fun e => And.intro ((hS e).1.below hb) (hS e).2; clear hb) | (refine wpL_sliceP2 (p := li) (q := ri) rfl (by rfl) (by rfl) (by rfl) ?_; intro g2 w2 hPn hgn hb; have z10 : d 10 = false := (by first | exact imp_nq I10_9 hd | exact imp_nq I10_9 rfl); have hne : u3.ownBlock ≠ some g2 := (fun e => by have := (World.ownsRow.lt (hO z10).out g2 e).2; omega); replace hH := hH.call' hb; replace hO := fun e => hid ((hO e).out.below hb); clear hb) | (refine wpL_appPs (v := u3) (n := n) (m := 2) (base := w.heap.size + 1) (F := inF g N) (f := twoF li ri) rfl (by rfl) (inF g N) (by rfl) (by rfl) hO_.out hS_.1 (by omega) (by omega) (by omega) (by omega) (fun i _ => rfl) (fun j hj => HWJ.out j hj) ?_; intro r cap w2 how hg hor hlt3; have hS2 := hS_.1.grown hg hS_.2; replace hH := hH.grown hg (fun x hx => by have := (World.ownsRow.lt hO_.out x hx).1; simp; omega); clear hg hor hlt3))
              first
                | (refine ⟨{ x with b := g2 }, ?_, hH, (fun e => hO (done_no e)), (fun e => by simp [done, z10] at e), (fun _ => ⟨hPn, hne⟩), (by intro e; first | (simp [done]; done) | (simp [done, hn]; done) | (have e2 := I10_9 (done_ne e (by decide)); simp [done, e2]; done)), (by intro e; first | (simp [done]; done) | (simp [done, hn]; done) | (have e2 := I11_10 (done_ne e (by decide)); simp [done, e2]; done)), (by intro e; first | (simp [done]; done) | (simp [done, hn]; done) | (have e2 := I10_0 (done_ne e (by decide)); simp [done, e2]; done))⟩; (simp [lput, done, hn, z10, imp_nq I11_10 z10]; done))
                | (have z11 : d 11 = false := (by first | exact imp_nq I11_10 hd | exact imp_nq I11_10 rfl); refine ⟨{ x with r := r, cap := cap }, ?_, hH, (fun e => by simp [done] at e), (fun _ => hid how), (fun _ => ⟨hS2, hS_.2⟩), (by intro e; first | (simp [done]; done) | (simp [done, hn]; done) | (have e2 := I10_9 (done_ne e (by decide)); simp [done, e2]; done)), (by intro e; first | (simp [done]; done) | (simp [done, hn]; done) | (have e2 := I11_10 (done_ne e (by decide)); simp [done, e2]; done)), (by intro e; first | (simp [done]; done) | (simp [done, hn]; done) | (have e2 := I10_0 (done_ne e (by decide)); simp [done, e2]; done))⟩; (simp [lput, done, hn, z11]; done))
                | (have z11 : d 11 = false := (by first | exact imp_nq I11_10 (imp_nq I10_0 hd) | exact imp_nq I11_10 (imp_nq I10_0 rfl)); refine ⟨x, ?_, hH, (fun e => hO (done_no e)), (fun e => hP (done_ne e (by decide))), (fun e => hS (done_ne e (by decide))), (by intro e; first | (simp [done]; done) | (simp [done, hn]; done) | (have e2 := I10_9 (done_ne e (by decide)); simp [done, e2]; done)), (by intro e; first | (simp [done]; done) | (simp [done, hn]; done) | (have e2 := I11_10 (done_ne e (by decide)); simp [done, e2]; done)), (by intro e; first | (simp [done]; done) | (simp [done, hn]; done) | (have e2 := I10_0 (done_ne e (by decide)); simp [done, e2]; done))⟩; (simp [lput, done, hn, z11]; done))
                | (refine ⟨x, ?_, hH, (fun e => hO (done_no e)), (fun e => hP (done_ne e (by decide))), (fun e => hS (done_ne e (by decide))), (by intro e; first | (simp [done]; done) | (have e2 := I10_9 (done_ne e (by decide)); simp [done, e2]; done) | (simp [done, hn]; done)), (by intro e; first | (simp [done]; done) | (have e2 := I11_10 (done_ne e (by decide)); simp [done, e2]; done) | (simp [done, hn]; done)), (by intro e; first | (simp [done]; done) | (have e2 := I10_0 (done_ne e (by decide)); simp [done, e2]; done) | (simp [done, hn]; done))⟩; (simp [lput, done, hn]; done))
                | (refine ⟨?_, hH, (fun e => hO (done_no e)), (fun e => hP (done_ne e (by decide))), (fun e => hS (done_ne e (by decide))), (by intro e; first | (simp [done]; done) | (have e2 := I10_9 (done_ne e (by decide)); simp [done, e2]; done) | (simp [done, hn]; done)), (by intro e; first | (simp [done]; done) | (have e2 := I11_10 (done_ne e (by decide)); simp [done, e2]; done) | (simp [done, hn]; done)), (by intro e; first | (simp [done]; done) | (have e2 := I10_0 (done_ne e (by decide)); simp [done, e2]; done) | (simp [done, hn]; done))⟩; (simp [lput, done, hn]; done))
                | (refine ⟨x, ?_, hH, (fun e => hO (done_no e)), (fun e => hP (done_ne e (by decide))), (fun e => hS (done_ne e (by decide))), (by intro e; first | (simp [done]; done) | (have e2 := I10_9 (done_ne e (by decide)); simp [done, e2]; done) | (simp [done, hn]; done)), (by intro e; first | (simp [done]; done) | (have e2 := I11_10 (done_ne e (by decide)); simp [done, e2]; done) | (simp [done, hn]; done)), (by intro e; first | (simp [done]; done) | (have e2 := I10_0 (done_ne e (by decide)); simp [done, e2]; done) | (simp [done, hn]; done))⟩; (simp [lput, done, hn]; rfl))
                | (refine ⟨?_, hH, (fun e => hO (done_no e)), (fun e => hP (done_ne e (by decide))), (fun e => hS (done_ne e (by decide))), (by intro e; first | (simp [done]; done) | (have e2 := I10_9 (done_ne e (by decide)); simp [done, e2]; done) | (simp [done, hn]; done)), (by intro e; first | (simp [done]; done) | (have e2 := I11_10 (done_ne e (by decide)); simp [done, e2]; done) | (simp [done, hn]; done)), (by intro e; first | (simp [done]; done) | (have e2 := I10_0 (done_ne e (by decide)); simp [done, e2]; done) | (simp [done, hn]; done))⟩; (simp [lput, done, hn]; rfl))
                | (refine ⟨x, ?_, hH, (fun e => hO (done_no e)), (fun e => hP (done_ne e (by decide))), (fun e => hS (done_ne e (by decide))), (by intro e; first | (simp [done]; done) | (have e2 := I10_9 (done_ne e (by decide)); simp [done, e2]; done) | (simp [done, hn]; done)), (by intro e; first | (simp [done]; done) | (have e2 := I11_10 (done_ne e (by decide)); simp [done, e2]; done) | (simp [done, hn]; done)), (by intro e; first | (simp [done]; done) | (have e2 := I10_0 (done_ne e (by decide)); simp [done, e2]; done) | (simp [done, hn]; done))⟩; (simp [lput, done]; done))
                | (refine ⟨?_, hH, (fun e => hO (done_no e)), (fun e => hP (done_ne e (by decide))), (fun e => hS (done_ne e (by decide))), (by intro e; first | (simp [done]; done) | (have e2 := I10_9 (done_ne e (by decide)); simp [done, e2]; done) | (simp [done, hn]; done)), (by intro e; first | (simp [done]; done) | (have e2 := I11_10 (done_ne e (by decide)); simp [done, e2]; done) | (simp [done, hn]; done)), (by intro e; first | (simp [done]; done) | (have e2 := I10_0 (done_ne e (by decide)); simp [done, e2]; done) | (simp [done, hn]; done))⟩; (simp [lput, done]; done))
                | (refine ⟨x, ?_, hH, (fun e => hO (done_no e)), (fun e => hP (done_ne e (by decide))), (fun e => hS (done_ne e (by decide))), (by intro e; first | (simp [done]; done) | (have e2 := I10_9 (done_ne e (by decide)); simp [done, e2]; done) | (simp [done, hn]; done)), (by intro e; first | (simp [done]; done) | (have e2 := I11_10 (done_ne e (by decide)); simp [done, e2]; done) | (simp [done, hn]; done)), (by intro e; first | (simp [done]; done) | (have e2 := I10_0 (done_ne e (by decide)); simp [done, e2]; done) | (simp [done, hn]; done))⟩; (simp [lput, done]; rfl))
                | (refine ⟨?_, hH, (fun e => hO (done_no e)), (fun e => hP (done_ne e (by decide))), (fun e => hS (done_ne e (by decide))), (by intro e; first | (simp [done]; done) | (have e2 := I10_9 (done_ne e (by decide)); simp [done, e2]; done) | (simp [done, hn]; done)), (by intro e; first | (simp [done]; done) | (have e2 := I11_10 (done_ne e (by decide)); simp [done, e2]; done) | (simp [done, hn]; done)), (by intro e; first | (simp [done]; done) | (have e2 := I10_0 (done_ne e (by decide)); simp [done, e2]; done) | (simp [done, hn]; done))⟩; (simp [lput, done]; rfl))
          case hq_im =>
            clear hH hO
            intro d x w1 hd hJ
            simp only [allDone, List.length_cons, List.length_nil, Nat.reduceAdd, and_true] at hd
            obtain ⟨hH, hO, hP, hS, I10_9, I11_10, I10_0⟩ := hJ
            replace hP := hP (by simp only [hd])
            replace hS := hS (by simp only [hd])
            clear hO
            clear I10_9
            clear I11_10
            clear I10_0
            simp only [lput, List.set, hd, cond_true]
            clear hd
            go_wp2
            go_roundw
            case rel => exact ⟨ju.toNat + 1, by omega, by go_num, hH, by rw [show B + (1 + 2 * (ju.toNat + 1)) = n + 2 by have := HNN.out; omega]; exact hP⟩
            case measure => simp [intOf]; omega
        · obtain rfl : j = N := by omega
          have e := HS.out
          go_wp2
          go_roundw
          case rel => exact ⟨ku.toNat + 1, by omega, by go_num, hH, by rw [show (ku.toNat + 1) * M = n by rw [Nat.succ_eq_add_one] at e; have := HNN.out; have := hMN.out; omega]; exact hO⟩
          case measure => simp [intOf]; omega
    · obtain rfl : k = N := by omega
      have hBN : k * (2 * k + 1) = B := by rw [hMN.out, hB]
      go_wp2
      go_ret
      rw [hBN]
      exact ⟨_, rfl, hH.below, hO.out.lower (by omega)⟩
end Go.Proofs.Ytbhjbllgmenbaab
namespace Go.Proofs.Ytbhjbllgmenbaab
set_option linter.unusedVariables false
set_option linter.unusedSimpArgs false
open Go.RowKit
/-- The m maps G are those among the first t of the maps F. -/
structure Among (m : Nat) (G : Nat → UInt8) (t : Nat) (F : Nat → UInt8) : Prop where
  of : ∀ k, k < m → ∃ i, i < t ∧ ∀ j, j < 10 → G (k * 10 + j) = F (i * 10 + j)
  all : ∀ i, i < t → ∃ k, k < m ∧ ∀ j, j < 10 → G (k * 10 + j) = F (i * 10 + j)
theorem Among.start (G F : Nat → UInt8) : Among 0 G 0 F := ⟨fun k hk => by omega, fun i hi => by omega⟩
theorem Among.skip {m t k : Nat} {G F : Nat → UInt8} (h : Among m G t F) (hk : k < m) (e : ∀ j, j < 10 → G (k * 10 + j) = F (t * 10 + j)) : Among m G (t + 1) F :=
  ⟨fun k hk => by obtain ⟨i, hi, e⟩ := h.of k hk; exact ⟨i, by omega, e⟩, fun i hi => by
    by_cases c : i = t
    · subst c; exact ⟨k, hk, e⟩
    · exact h.all i (by omega)⟩
/-- The maps G with the t-th of F behind them. -/
def addM (m : Nat) (G : Nat → UInt8) (f : Nat → UInt8) : Nat → UInt8 := fun p => if p < m * 10 then G p else f (p - m * 10)
theorem addM_lo {m p : Nat} {G f : Nat → UInt8} (h : p < m * 10) : addM m G f p = G p := by unfold addM; rw [if_pos h]
theorem addM_hi {m j : Nat} {G f : Nat → UInt8} : addM m G f (m * 10 + j) = f j := by unfold addM; rw [if_neg (by omega), Nat.add_sub_cancel_left]
theorem Among.add {m t : Nat} {G F f : Nat → UInt8} (h : Among m G t F) (e : ∀ j, j < 10 → F (t * 10 + j) = f j) : Among (m + 1) (addM m G f) (t + 1) F :=
  ⟨fun k hk => by
    by_cases c : k = m
    · subst c; exact ⟨t, by omega, fun j hj => by rw [addM_hi, e j hj]⟩
    · obtain ⟨i, hi, e⟩ := h.of k (by omega)
      exact ⟨i, by omega, fun j hj => by rw [addM_lo (by omega), e j hj]⟩,
   fun i hi => by
    by_cases c : i = t
    · subst c; exact ⟨m, by omega, fun j hj => by rw [addM_hi, e j hj]⟩
    · obtain ⟨k, hk, e⟩ := h.all i (by omega)
      exact ⟨k, by omega, fun j hj => by rw [addM_lo (by omega), e j hj]⟩⟩
/-- Is f none of the first k maps? -/
def noneB (G f : Nat → UInt8) (k : Nat) : Bool := (List.range k).all fun i => !eqU 10 (fun j => G (i * 10 + j)) f
theorem noneB_succ (G f : Nat → UInt8) (k : Nat) : noneB G f (k + 1) = (noneB G f k && !eqU 10 (fun j => G (k * 10 + j)) f) := by
  simp [noneB, List.range_succ]
theorem noneB_false {G f : Nat → UInt8} {k : Nat} (h : noneB G f k = false) : ∃ i, i < k ∧ ∀ j, j < 10 → G (i * 10 + j) = f j := by
  simp only [noneB, List.all_eq_false, List.mem_range] at h
  obtain ⟨i, hi, e⟩ := h
  exact ⟨i, hi, eqU_iff.1 (by simpa using e)⟩
theorem eqU_congr {a a' b : Nat → UInt8} (h : ∀ i, i < 10 → a i = a' i) : eqU 10 a b = eqU 10 a' b := by
  rw [Bool.eq_iff_iff, eqU_iff, eqU_iff]
  exact ⟨fun q i hi => by rw [← h i hi]; exact q i hi, fun q i hi => by rw [h i hi]; exact q i hi⟩
theorem szU8 : (Try.prog.info? 5).map (·.size) = some 1 := by kernel_rfl
theorem gdPl : Try.prog.eqGuardType Try.prog.depth 97 = false := by kernel_rfl
theorem eqPl (a b : Nat → UInt8) (w : World) : (Op.equalIn Op.maxDepth 97 (.agg (u8s 10 a)) (.agg (u8s 10 b))).run Try.prog w = .ok (eqU 10 a b) w :=
  run_eq_bytes w _ 97 5 _ _ _ _ _ Try.underlying97 Try.underlying5 szU8 rfl rfl
theorem OP.any {w : World} {B m : Nat} {v : Value} {G : Nat → UInt8} (h : OP w B v m G) : ∃ a cap, v = .slice a m cap := by
  rcases h.2 with ⟨e, h0⟩ | ⟨g, cap, cur, e, _⟩
  · subst h0; exact ⟨none, 0, e⟩
  · exact ⟨_, cap, e⟩
theorem OP.at' {w : World} {B m cap : Nat} {a : Option Addr} {G : Nat → UInt8} (h : OP w B (.slice a m cap) m G) (hm : 0 < m) : ∃ g, a = some ⟨g, 0, none⟩ ∧ B ≤ g ∧ PRow w g m G := by
  obtain ⟨g, c, e, h1, h2⟩ := h.form hm
  injection e with e1
  exact ⟨g, e1, h1, h2⟩
/-- What the model's function hands back. -/
def GotA (t : Nat) (F : Nat → UInt8) (w : World) (e : Ending) (w' : World) : Prop :=
  ∃ v m G, e = .returned v ∧ Below w.heap.size w w' ∧ OP w' w.heap.size v m G ∧ m ≤ t ∧ Among m G t F
set_option maxRecDepth 20000 in
set_option maxHeartbeats 8000000 in
theorem l04Inner_any (N : Nat) (g : Nat → UInt8) (w : World) (hq : IsSq N g) :
    Calls Try.prog 69 #[.agg (sqc N g)] w (GotA (N * (2 * N + 1)) (inF g N) w) := by
  have h10 := hq.hi
  have h1 := hq.lo
  have HQ := hid hq
  clear hq
  have hN10 : (N : Int) ≤ 10 := by omega
  obtain ⟨M, hM⟩ : ∃ M, 2 * N + 1 = M := ⟨_, rfl⟩
  have hM21 : M ≤ 21 := by omega
  have HTU := hid (fun x j (hj : j < 10) => (show inF g N (x * M * 10 + j) = tuF g N x j by rw [inF_at _ _ _ hj, ← hM, imM_tu]))
  have HTW := hid (fun x y (hy : y < N) j (hj : j < 2 * 10) => (show inF g N ((x * M + (1 + 2 * y)) * 10 + j) = twoF (liF g N x y) (riF g N x y) j by
    unfold twoF
    by_cases h : j < 10
    · rw [if_pos h, inF_at _ _ _ h, ← hM, imM_li hy]
    · obtain ⟨i, rfl⟩ : ∃ i, j = i + 10 := ⟨j - 10, by omega⟩
      rw [if_neg h, show (x * M + (1 + 2 * y)) * 10 + (i + 10) = (x * M + (2 + 2 * y)) * 10 + i by omega, inF_at _ _ _ (by omega), ← hM, imM_ri hy, Nat.add_sub_cancel]))
  have hXM := hid (fun x (hx : x ≤ N) => (show x * M ≤ 210 from Nat.le_trans (Nat.mul_le_mul (Nat.le_trans hx h10) hM21) (Nat.le_refl _)))
  have HPOS := hid (show 0 < N * M from Nat.mul_pos (by omega) (by omega))
  have HSUC := hid (fun x => Nat.succ_mul x M)
  have hMN := hid hM
  clear hM
  have hH := Has.start1 w (sqc N g) 32
  go_enter Try.func69, Try.ntmps69
  go_wp2
  go_loopw [3, 4] (fun v i wr => ∃ k : Nat, k ≤ N ∧ i = .int .i64 k ∧ Has w wr [(sqc N g, 32)] ∧ Hid (OP wr (w.heap.size + 1) v (k * M) (inF g N))) (fun _ i _ => 20 - (intOf i).toNat)
  case atStart => exact ⟨0, by omega, rfl, hH.alloc _, hid (by rw [Nat.zero_mul]; exact OP.fresh _ _ (by simp) (by simp))⟩
  case round =>
    clear hH
    obtain ⟨k, hk, rfl, hH, hO⟩ := hrel
    have hsz := hH.size
    simp only [List.length_cons, List.length_nil] at hsz
    have cz : wr.cell? ⟨w.heap.size, 0, none⟩ = some (.int .i64 N) := by rw [hH.c0, sqc_get0]
    obtain ⟨B, hB⟩ : ∃ B, k * M = B := ⟨_, rfl⟩
    have hBb := hXM.out k hk
    rw [hB] at hO hBb
    by_cases hlt : k < N
    · have hk1 : (k : Int) < N := by omega
      have hk256 : (k : Int) < 256 := by omega
      have ht := HTU.out k
      have htw := HTW.out k
      have hsu := HSUC.out k
      rw [hB] at ht htw hsu
      have HT := hid ht
      have HW := hid htw
      have HS := hid hsu
      obtain ⟨ku, hku⟩ : ∃ ku : UInt8, ku.toNat = k := ⟨UInt8.ofNat k, u8_of k (by omega)⟩
      subst hku
      clear ht htw hsu hB
      go_wp2_with (first | fail | (refine wpL_loadFull rfl rfl rfl rowSq hH.h0 (sqc_size _ _) ?_) | (go_at_call 117; refine (l04Turn_any N g ku _ HQ.out hlt).mono ?_; rintro e w3 ⟨rfl, hb⟩; replace hH := hH.call' hb; replace hO := hid (hO.out.below hb); have hs3 := hb.size; clear hb cz) | (refine wpL_sliceP (f := tuF g N ku.toNat) rfl (by rfl) (by rfl) ?_) | (refine wpL_appP (v := u3) (n := B) (base := w.heap.size + 1) (f := tuF g N ku.toNat) rfl (by rfl) (inF g N) (by rfl) (by rfl) (hO.out.alloc _) (holds_new _ _ _) (by omega) (by simp; omega) (fun i _ => rfl) (fun j hj => HT.out j hj) ?_; intro r cap w2 how hg hor hlt3; have hO2 := hid how; replace hH := (hH.alloc _).grown hg (fun x hx => by have := (World.ownsRow.lt hO.out x hx).1; simp; omega); clear how hg hor hlt3 hO))
      go_loopw [3, 5] (fun v i wr => ∃ j : Nat, j ≤ N ∧ i = .int .i64 j ∧ Has w wr [(sqc N g, 32)] ∧ Hid (OP wr (w.heap.size + 1) v (B + (1 + 2 * j)) (inF g N))) (fun _ i _ => 20 - (intOf i).toNat)
      case atStart => exact ⟨0, by omega, rfl, hH, hO2⟩
      case round =>
        clear hH hO2 hsz
        obtain ⟨j, hj, rfl, hH, hO⟩ := hrel
        have hsz := hH.size
        simp only [List.length_cons, List.length_nil] at hsz
        have cz : wr.cell? ⟨w.heap.size, 0, none⟩ = some (.int .i64 N) := by rw [hH.c0, sqc_get0]
        obtain ⟨n, hn⟩ : ∃ n, B + (1 + 2 * j) = n := ⟨_, rfl⟩
        rw [hn] at hO
        have HNN := hid hn
        have hn300 : n ≤ 300 := by omega
        by_cases hjl : j < N
        · have hj1 : (j : Int) < N := by omega
          have hj256 : (j : Int) < 256 := by omega
          have hW := HW.out j hjl
          rw [hn] at hW
          have HWJ := hid hW
          obtain ⟨ju, hju⟩ : ∃ ju : UInt8, ju.toNat = j := ⟨UInt8.ofNat j, u8_of j (by omega)⟩
          subst hju
          obtain ⟨li, hli⟩ : ∃ f, liF g N ku.toNat ju.toNat = f := ⟨_, rfl⟩
          obtain ⟨ri, hri⟩ : ∃ f, riF g N ku.toNat ju.toNat = f := ⟨_, rfl⟩
          rw [hli, hri] at HWJ
          have HLI := hid hli
          have HRI := hid hri
          clear hn hW hli hri
          go_wp2
          clear cz
          refine wp_region_frame (X := IQ) (fun d x => [(30, bif d 0 then u3 else u30), (31, bif d 1 then .agg (sqc N g) else u31), (32, bif d 2 then .int .i64 ku.toNat else u32), (33, bif d 3 then .int .u8 ku.toNat else u33), (34, bif d 4 then .int .i64 ju.toNat else u34), (35, bif d 5 then .int .u8 ju.toNat else u35), (36, bif d 6 then .agg (u8s 10 li) else u36), (37, bif d 7 then .agg (sqc N g) else u37), (38, bif d 8 then .int .i64 ku.toNat else u38), (39, bif d 9 then .int .u8 ku.toNat else u39), (40, bif d 10 then .int .i64 ju.toNat else u40), (41, bif d 11 then .int .u8 ju.toNat else u41), (42, bif d 12 then .agg (u8s 10 ri) else u42), (43, bif d 13 then .slice (some ⟨x.b, 0, none⟩) 2 2 else u43), (44, bif d 14 then .slice (some ⟨x.r, 0, none⟩) (n + 2) x.cap else u44), (3, bif d 15 then .slice (some ⟨x.r, 0, none⟩) (n + 2) x.cap else u3)])
            (fun d x w' => Has w w' [(sqc N g, 32)] ∧ (d 14 = false → Hid (OP w' (w.heap.size + 1) u3 n (inF g N))) ∧ (d 14 = true → Hid (OP w' (w.heap.size + 1) (.slice (some ⟨x.r, 0, none⟩) (n + 2) x.cap) (n + 2) (inF g N))) ∧ (d 13 = true → PRow w' x.b 2 (twoF li ri) ∧ u3.ownBlock ≠ some x.b) ∧ (d 14 = true → d 13 = true) ∧ (d 15 = true → d 14 = true) ∧ (d 14 = true → d 0 = true)) (by kernel_rfl) (by kernel_rfl) ?h0_im ?hs_im ?hq_im
          case h0_im => exact ⟨⟨0, 0, 0⟩, (by simp [lput]), hH.drew, (fun _ => hid (hO.out.kept fun _ _ => rfl)), (fun h => by cases h), (fun h => by cases h), (fun h => by cases h), (fun h => by cases h), (fun h => by cases h)⟩
          case hs_im =>
            refine ⟨?_, ?_, ?_, ?_, ?_, ?_, ?_, ?_, ?_, ?_, ?_, ?_, ?_, ?_, ?_, ?_, trivial⟩
            all_goals
              clear hH hO
              intro d x w1 hd hn hJ
              simp only [needs, Region.binds, reduceCtorEq, Bool.false_eq_true, false_implies, true_and, and_true, true_implies, forall_const] at hn
              simp only [lput, List.set, hn, cond_true]
              obtain ⟨hH, hO, hP, hS, I14_13, I15_14, I14_0⟩ := hJ
              (try have hP_ := hP (by simp only [hn]))
              (try have hS_ := hS (by simp only [hn]))
              (try have hO_ := hO hd)
              have zz := hH.size
              simp only [List.length_cons, List.length_nil] at zz
              go_wp2_with (first | fail | (refine wpL_loadFull rfl rfl rfl rowSq hH.h0 (sqc_size _ _) ?_) | (go_at_call 118; refine (l04Left_any N g ku ju _ HQ.out hlt hjl).mono ?_; rintro e w3 ⟨rfl, hb⟩; rw [HLI.out]; replace hH := hH.call' hb; replace hO := fun e => hid ((hO e).out.below hb); replace hP := fun e => hid ((hP e).out.below hb); replace hS := fun e => And.intro ((hS e).1.below hb) (hS e).2; clear hb) | (go_at_call 119; refine (l04Right_any N g ku ju _ HQ.out hlt hjl).mono ?_; rintro e w3 ⟨rfl, hb⟩; rw [HRI.out]; replace hH := hH.call' hb; replace hO := fun e => hid ((hO e).out.below hb); replace hP := fun e => hid ((hP e).out.below hb); replace hS := fun e => And.intro ((hS e).1.below hb) (hS e).2; clear hb) | (refine wpL_sliceP2 (p := li) (q := ri) rfl (by rfl) (by rfl) (by rfl) ?_; intro g2 w2 hPn hgn hb; have z14 : d 14 = false := (by first | exact imp_nq I14_13 hd | exact imp_nq I14_13 rfl); have hne : u3.ownBlock ≠ some g2 := (fun e => by have := (World.ownsRow.lt (hO z14).out g2 e).2; omega); replace hH := hH.call' hb; replace hO := fun e => hid ((hO e).out.below hb); clear hb) | (refine wpL_appPs (v := u3) (n := n) (m := 2) (base := w.heap.size + 1) (F := inF g N) (f := twoF li ri) rfl (by rfl) (inF g N) (by rfl) (by rfl) hO_.out hS_.1 (by omega) (by omega) (by omega) (by omega) (fun i _ => rfl) (fun j hj => HWJ.out j hj) ?_; intro r cap w2 how hg hor hlt3; have hS2 := hS_.1.grown hg hS_.2; replace hH := hH.grown hg (fun x hx => by have := (World.ownsRow.lt hO_.out x hx).1; simp; omega); clear hg hor hlt3))
              first
                | (refine ⟨{ x with b := g2 }, ?_, hH, (fun e => hO (done_no e)), (fun e => by simp [done, z14] at e), (fun _ => ⟨hPn, hne⟩), (by intro e; first | (simp [done]; done) | (simp [done, hn]; done) | (have e2 := I14_13 (done_ne e (by decide)); simp [done, e2]; done)), (by intro e; first | (simp [done]; done) | (simp [done, hn]; done) | (have e2 := I15_14 (done_ne e (by decide)); simp [done, e2]; done)), (by intro e; first | (simp [done]; done) | (simp [done, hn]; done) | (have e2 := I14_0 (done_ne e (by decide)); simp [done, e2]; done))⟩; (simp [lput, done, hn, z14, imp_nq I15_14 z14]; done))
                | (have z15 : d 15 = false := (by first | exact imp_nq I15_14 hd | exact imp_nq I15_14 rfl); refine ⟨{ x with r := r, cap := cap }, ?_, hH, (fun e => by simp [done] at e), (fun _ => hid how), (fun _ => ⟨hS2, hS_.2⟩), (by intro e; first | (simp [done]; done) | (simp [done, hn]; done) | (have e2 := I14_13 (done_ne e (by decide)); simp [done, e2]; done)), (by intro e; first | (simp [done]; done) | (simp [done, hn]; done) | (have e2 := I15_14 (done_ne e (by decide)); simp [done, e2]; done)), (by intro e; first | (simp [done]; done) | (simp [done, hn]; done) | (have e2 := I14_0 (done_ne e (by decide)); simp [done, e2]; done))⟩; (simp [lput, done, hn, z15]; done))
                | (have z15 : d 15 = false := (by first | exact imp_nq I15_14 (imp_nq I14_0 hd) | exact imp_nq I15_14 (imp_nq I14_0 rfl)); refine ⟨x, ?_, hH, (fun e => hO (done_no e)), (fun e => hP (done_ne e (by decide))), (fun e => hS (done_ne e (by decide))), (by intro e; first | (simp [done]; done) | (simp [done, hn]; done) | (have e2 := I14_13 (done_ne e (by decide)); simp [done, e2]; done)), (by intro e; first | (simp [done]; done) | (simp [done, hn]; done) | (have e2 := I15_14 (done_ne e (by decide)); simp [done, e2]; done)), (by intro e; first | (simp [done]; done) | (simp [done, hn]; done) | (have e2 := I14_0 (done_ne e (by decide)); simp [done, e2]; done))⟩; (simp [lput, done, hn, z15]; done))
                | (refine ⟨x, ?_, hH, (fun e => hO (done_no e)), (fun e => hP (done_ne e (by decide))), (fun e => hS (done_ne e (by decide))), (by intro e; first | (simp [done]; done) | (have e2 := I14_13 (done_ne e (by decide)); simp [done, e2]; done) | (simp [done, hn]; done)), (by intro e; first | (simp [done]; done) | (have e2 := I15_14 (done_ne e (by decide)); simp [done, e2]; done) | (simp [done, hn]; done)), (by intro e; first | (simp [done]; done) | (have e2 := I14_0 (done_ne e (by decide)); simp [done, e2]; done) | (simp [done, hn]; done))⟩; (simp [lput, done, hn]; done))
                | (refine ⟨?_, hH, (fun e => hO (done_no e)), (fun e => hP (done_ne e (by decide))), (fun e => hS (done_ne e (by decide))), (by intro e; first | (simp [done]; done) | (have e2 := I14_13 (done_ne e (by decide)); simp [done, e2]; done) | (simp [done, hn]; done)), (by intro e; first | (simp [done]; done) | (have e2 := I15_14 (done_ne e (by decide)); simp [done, e2]; done) | (simp [done, hn]; done)), (by intro e; first | (simp [done]; done) | (have e2 := I14_0 (done_ne e (by decide)); simp [done, e2]; done) | (simp [done, hn]; done))⟩; (simp [lput, done, hn]; done))
                | (refine ⟨x, ?_, hH, (fun e => hO (done_no e)), (fun e => hP (done_ne e (by decide))), (fun e => hS (done_ne e (by decide))), (by intro e; first | (simp [done]; done) | (have e2 := I14_13 (done_ne e (by decide)); simp [done, e2]; done) | (simp [done, hn]; done)), (by intro e; first | (simp [done]; done) | (have e2 := I15_14 (done_ne e (by decide)); simp [done, e2]; done) | (simp [done, hn]; done)), (by intro e; first | (simp [done]; done) | (have e2 := I14_0 (done_ne e (by decide)); simp [done, e2]; done) | (simp [done, hn]; done))⟩; (simp [lput, done, hn]; rfl))
                | (refine ⟨?_, hH, (fun e => hO (done_no e)), (fun e => hP (done_ne e (by decide))), (fun e => hS (done_ne e (by decide))), (by intro e; first | (simp [done]; done) | (have e2 := I14_13 (done_ne e (by decide)); simp [done, e2]; done) | (simp [done, hn]; done)), (by intro e; first | (simp [done]; done) | (have e2 := I15_14 (done_ne e (by decide)); simp [done, e2]; done) | (simp [done, hn]; done)), (by intro e; first | (simp [done]; done) | (have e2 := I14_0 (done_ne e (by decide)); simp [done, e2]; done) | (simp [done, hn]; done))⟩; (simp [lput, done, hn]; rfl))
                | (refine ⟨x, ?_, hH, (fun e => hO (done_no e)), (fun e => hP (done_ne e (by decide))), (fun e => hS (done_ne e (by decide))), (by intro e; first | (simp [done]; done) | (have e2 := I14_13 (done_ne e (by decide)); simp [done, e2]; done) | (simp [done, hn]; done)), (by intro e; first | (simp [done]; done) | (have e2 := I15_14 (done_ne e (by decide)); simp [done, e2]; done) | (simp [done, hn]; done)), (by intro e; first | (simp [done]; done) | (have e2 := I14_0 (done_ne e (by decide)); simp [done, e2]; done) | (simp [done, hn]; done))⟩; (simp [lput, done]; done))
                | (refine ⟨?_, hH, (fun e => hO (done_no e)), (fun e => hP (done_ne e (by decide))), (fun e => hS (done_ne e (by decide))), (by intro e; first | (simp [done]; done) | (have e2 := I14_13 (done_ne e (by decide)); simp [done, e2]; done) | (simp [done, hn]; done)), (by intro e; first | (simp [done]; done) | (have e2 := I15_14 (done_ne e (by decide)); simp [done, e2]; done) | (simp [done, hn]; done)), (by intro e; first | (simp [done]; done) | (have e2 := I14_0 (done_ne e (by decide)); simp [done, e2]; done) | (simp [done, hn]; done))⟩; (simp [lput, done]; done))
                | (refine ⟨x, ?_, hH, (fun e => hO (done_no e)), (fun e => hP (done_ne e (by decide))), (fun e => hS (done_ne e (by decide))), (by intro e; first | (simp [done]; done) | (have e2 := I14_13 (done_ne e (by decide)); simp [done, e2]; done) | (simp [done, hn]; done)), (by intro e; first | (simp [done]; done) | (have e2 := I15_14 (done_ne e (by decide)); simp [done, e2]; done) | (simp [done, hn]; done)), (by intro e; first | (simp [done]; done) | (have e2 := I14_0 (done_ne e (by decide)); simp [done, e2]; done) | (simp [done, hn]; done))⟩; (simp [lput, done]; rfl))
                | (refine ⟨?_, hH, (fun e => hO (done_no e)), (fun e => hP (done_ne e (by decide))), (fun e => hS (done_ne e (by decide))), (by intro e; first | (simp [done]; done) | (have e2 := I14_13 (done_ne e (by decide)); simp [done, e2]; done) | (simp [done, hn]; done)), (by intro e; first | (simp [done]; done) | (have e2 := I15_14 (done_ne e (by decide)); simp [done, e2]; done) | (simp [done, hn]; done)), (by intro e; first | (simp [done]; done) | (have e2 := I14_0 (done_ne e (by decide)); simp [done, e2]; done) | (simp [done, hn]; done))⟩; (simp [lput, done]; rfl))
          case hq_im =>
            clear hH hO
            intro d x w1 hd hJ
            simp only [allDone, List.length_cons, List.length_nil, Nat.reduceAdd, and_true] at hd
            obtain ⟨hH, hO, hP, hS, I14_13, I15_14, I14_0⟩ := hJ
            replace hP := hP (by simp only [hd])
            replace hS := hS (by simp only [hd])
            clear hO
            clear I14_13
            clear I15_14
            clear I14_0
            simp only [lput, List.set, hd, cond_true]
            clear hd
            go_wp2
            go_roundw
            case rel => exact ⟨ju.toNat + 1, by omega, by go_num, hH, by rw [show B + (1 + 2 * (ju.toNat + 1)) = n + 2 by have := HNN.out; omega]; exact hP⟩
            case measure => simp [intOf]; omega
        · obtain rfl : j = N := by omega
          have e := HS.out
          go_wp2
          go_roundw
          case rel => exact ⟨ku.toNat + 1, by omega, by go_num, hH, by rw [show (ku.toNat + 1) * M = n by rw [Nat.succ_eq_add_one] at e; have := HNN.out; have := hMN.out; omega]; exact hO⟩
          case measure => simp [intOf]; omega
    · obtain rfl : k = N := by omega
      have hBN := hid (show k * (2 * k + 1) = B by rw [hMN.out, hB])
      have hB0 := HPOS.out
      rw [hB] at hB0
      clear hB
      obtain ⟨ga, capa, rfl, hga, hpa⟩ := hO.out.form hB0
      have HPA := hid hpa
      have hgal := hpa.lt
      have hB1 : (B : Int) ≤ 210 := by omega
      clear hpa hO
      go_wp2
      obtain ⟨B2, hB2⟩ : ∃ B2, wr.heap.size = B2 := ⟨_, rfl⟩
      have hO2 : OP (wr.alloc (.cells #[] 97)) B2 (.slice (some ⟨B2, 0, none⟩) 0 0) 0 (fun _ => 0) := OP.fresh _ _ (by omega) hB2
      have hA2 : PRow (wr.alloc (.cells #[] 97)) ga B (inF g k) := HPA.out.alloc _
      replace hH := hH.alloc (.cells #[] 97)
      have hs2 : B2 ≤ (wr.alloc (.cells #[] 97)).heap.size := by simp; omega
      rw [hB2] at hgal ⊢
      obtain ⟨w9, hw9⟩ : ∃ w9, wr.alloc (.cells #[] 97) = w9 := ⟨_, rfl⟩
      have hwB : w.heap.size + 1 ≤ B2 := by omega
      rw [hw9] at hO2 hA2 hH hs2 ⊢
      clear hw9 hB2 HPA cz hsz
      obtain ⟨F, hF⟩ : ∃ F, inF g k = F := ⟨_, rfl⟩
      have HFF := hid hF
      rw [hF] at hA2
      clear hF
      go_loopw [6, 7] (fun v i wq => ∃ (t m : Nat) (G : Nat → UInt8), i = .int .i64 t ∧ t ≤ B ∧ m ≤ t ∧ B2 ≤ wq.heap.size ∧ Has w wq [(sqc k g, 32)] ∧ Hid (PRow wq ga B F) ∧ Hid (OP wq B2 v m G) ∧ Hid (Among m G t F)) (fun _ i _ => 300 - (intOf i).toNat)
      case atStart => exact ⟨0, 0, _, rfl, by omega, by omega, hs2, hH, hid hA2, hid hO2, hid (Among.start _ _)⟩
      case round =>
        clear hH hA2 hO2 hs2
        obtain ⟨t, m, G, rfl, htB, hmt, hs2, hH, hA, hO, hM⟩ := hrel
        by_cases htl : t < B
        · have ht1 : (t : Int) < B := by omega
          obtain ⟨a, cap, rfl⟩ := hO.out.any
          obtain ⟨f, hf⟩ : ∃ f : Nat → UInt8, ∀ j, j < 10 → F (t * 10 + j) = f j := ⟨fun j => F (t * 10 + j), fun j _ => rfl⟩
          have HF := hid hf
          have hm1 : (m : Int) ≤ 210 := by omega
          clear hf
          go_wp2
          go_loopw [8, 9] (fun fr i wq => ∃ j : Nat, j ≤ m ∧ i = .int .i64 j ∧ fr = .bool (noneB G f j) ∧ B2 ≤ wq.heap.size ∧ Has w wq [(sqc k g, 32)] ∧ Hid (PRow wq ga B F) ∧ Hid (OP wq B2 (.slice a m cap) m G)) (fun _ i _ => 300 - (intOf i).toNat)
          case atStart => exact ⟨0, by omega, rfl, rfl, hs2, hH, hA, hO⟩
          case round =>
            clear hs2 hH hA hO
            obtain ⟨j, hj, rfl, rfl, hs2, hH, hA, hO⟩ := hrel
            obtain ⟨b, hb⟩ : ∃ b, noneB G f j = b := ⟨_, rfl⟩
            have HB := hid hb
            rw [hb]
            clear hb
            by_cases hjm : j < m
            · have hj1 : (j : Int) < m := by omega
              obtain ⟨go, rfl, hgo, hp⟩ := hO.out.at' (by omega)
              have HP := hid hp
              clear hp
              cases b with
              | false =>
                have HN := hid (show noneB G f (j + 1) = false by rw [noneB_succ, HB.out]; rfl)
                go_wp2
                go_quiet (fail)
                go_wp2
                go_roundw
                case rel => exact ⟨j + 1, by omega, by go_num, by rw [HN.out], hs2, hH.drewN _, hid (hA.out.block rfl), hid (hO.out.kept fun _ _ => rfl)⟩
                case measure => simp [intOf]; omega
              | true =>
                obtain ⟨q, hq⟩ : ∃ q : Nat → UInt8, ∀ i, i < 10 → G (j * 10 + i) = q i := ⟨fun i => G (j * 10 + i), fun i _ => rfl⟩
                obtain ⟨r, hr⟩ : ∃ r, eqU 10 q f = r := ⟨_, rfl⟩
                have HN := hid (show noneB G f (j + 1) = !r by
                  rw [noneB_succ, HB.out, ← hr, Bool.true_and, eqU_congr hq])
                have HQR := hid hr
                have HQ2 := hid hq
                clear hr hq
                go_wp2
                refine wp_region_frame (X := Unit) (fun d _ => [(58, bif d 0 then .bool true else u58), (59, bif d 1 then .bool true else u59), (60, bif d 2 then .slice (some ⟨go, 0, none⟩) m cap else u60), (61, bif d 3 then .int .i64 j else u61), (62, bif d 4 then .pointer (some ⟨go, j * 10, none⟩) else u62), (63, bif d 5 then .agg (u8s 10 q) else u63), (64, bif d 6 then .slice (some ⟨ga, 0, none⟩) B capa else u64), (65, bif d 7 then .int .i64 t else u65), (66, bif d 8 then .pointer (some ⟨ga, t * 10, none⟩) else u66), (67, bif d 9 then .agg (u8s 10 f) else u67), (68, bif d 10 then .bool (!r) else u68), (69, bif d 11 then .bool (!r) else u69), (8, bif d 12 then .bool (!r) else .bool true)])
                  (fun d _ w' => Has w w' [(sqc k g, 32)] ∧ B2 ≤ w'.heap.size ∧ Hid (PRow w' ga B F) ∧ Hid (OP w' B2 (.slice (some ⟨go, 0, none⟩) m cap) m G) ∧ Hid (PRow w' go m G) ∧ (d 12 = true → d 0 = true)) (by kernel_rfl) (by kernel_rfl) ?h0_dd ?hs_dd ?hq_dd
                case h0_dd => exact ⟨(), (by simp [lput]), hH.drew, (show _ from hs2), hid (hA.out.block rfl), hid (hO.out.kept fun _ _ => rfl), hid (HP.out.block rfl), (fun h => by cases h)⟩
                case hs_dd =>
                  refine ⟨?_, ?_, ?_, ?_, ?_, ?_, ?_, ?_, ?_, ?_, ?_, ?_, ?_, trivial⟩
                  all_goals
                    clear hH hs2 hA hO HP
                    intro d _ w1 hd hn hJ
                    simp only [needs, Region.binds, reduceCtorEq, Bool.false_eq_true, false_implies, true_and, and_true, true_implies, forall_const] at hn
                    simp only [lput, List.set, hn, cond_true]
                    obtain ⟨hH, hs2, hA, hO, HP, I12_0⟩ := hJ
                    go_wp2_with (first | fail | (refine wpL_guard rfl rfl ?_) | (refine wpL_loadPr (g := go) (k := j) (f := q) rfl rfl rfl HP.out hjm HQ2.out ?_) | (refine wpL_loadPr (g := ga) (k := t) (f := f) rfl rfl rfl hA.out htl HF.out ?_) | (refine wpL_neqAgg rfl rfl rfl rfl gdPl (eqPl _ _ _) ?_; rw [HQR.out]))
                    first
                      | (have z12 : d 12 = false := (by first | exact imp_nq I12_0 hd | exact imp_nq I12_0 rfl); refine ⟨(), ?_, hH, hs2, hA, hO, HP, (by intro e; first | (simp [done]; done) | (simp [done, hn]; done) | (have e2 := I12_0 (done_ne e (by decide)); simp [done, e2]; done))⟩; (simp [lput, done, hn, z12]; done))
                      | (refine ⟨(), ?_, hH, hs2, hA, hO, HP, (by intro e; first | (simp [done]; done) | (have e2 := I12_0 (done_ne e (by decide)); simp [done, e2]; done) | (simp [done, hn]; done))⟩; (simp [lput, done, hn]; done))
                      | (refine ⟨?_, hH, hs2, hA, hO, HP, (by intro e; first | (simp [done]; done) | (have e2 := I12_0 (done_ne e (by decide)); simp [done, e2]; done) | (simp [done, hn]; done))⟩; (simp [lput, done, hn]; done))
                      | (refine ⟨(), ?_, hH, hs2, hA, hO, HP, (by intro e; first | (simp [done]; done) | (have e2 := I12_0 (done_ne e (by decide)); simp [done, e2]; done) | (simp [done, hn]; done))⟩; (simp [lput, done, hn]; rfl))
                      | (refine ⟨?_, hH, hs2, hA, hO, HP, (by intro e; first | (simp [done]; done) | (have e2 := I12_0 (done_ne e (by decide)); simp [done, e2]; done) | (simp [done, hn]; done))⟩; (simp [lput, done, hn]; rfl))
                      | (refine ⟨(), ?_, hH, hs2, hA, hO, HP, (by intro e; first | (simp [done]; done) | (have e2 := I12_0 (done_ne e (by decide)); simp [done, e2]; done) | (simp [done, hn]; done))⟩; (simp [lput, done]; done))
                      | (refine ⟨?_, hH, hs2, hA, hO, HP, (by intro e; first | (simp [done]; done) | (have e2 := I12_0 (done_ne e (by decide)); simp [done, e2]; done) | (simp [done, hn]; done))⟩; (simp [lput, done]; done))
                      | (refine ⟨(), ?_, hH, hs2, hA, hO, HP, (by intro e; first | (simp [done]; done) | (have e2 := I12_0 (done_ne e (by decide)); simp [done, e2]; done) | (simp [done, hn]; done))⟩; (simp [lput, done]; rfl))
                      | (refine ⟨?_, hH, hs2, hA, hO, HP, (by intro e; first | (simp [done]; done) | (have e2 := I12_0 (done_ne e (by decide)); simp [done, e2]; done) | (simp [done, hn]; done))⟩; (simp [lput, done]; rfl))
                case hq_dd =>
                  clear hH hs2 hA hO HP
                  intro d _ w1 hd hJ
                  simp only [allDone, List.length_cons, List.length_nil, Nat.reduceAdd, and_true] at hd
                  obtain ⟨hH, hs2, hA, hO, HP, I12_0⟩ := hJ
                  clear I12_0
                  simp only [lput, List.set, hd, cond_true]
                  clear hd
                  go_wp2
                  go_roundw
                  case rel => exact ⟨j + 1, by omega, by go_num, by rw [HN.out], hs2, hH, hA, hO⟩
                  case measure => simp [intOf]; omega
            · obtain rfl : j = m := by omega
              cases b with
              | false =>
                obtain ⟨k0, hk0, e0⟩ := noneB_false HB.out
                have HM2 := hid (hM.out.skip hk0 (fun i hi => by rw [e0 i hi, HF.out i hi]))
                clear e0
                go_wp2
                go_roundw
                case rel => exact ⟨t + 1, j, G, by go_num, by omega, by omega, hs2, hH, hA, hO, HM2⟩
                case measure => simp [intOf]; omega
              | true =>
                have HM2 := hid (hM.out.add HF.out)
                go_wp2_with (first | fail | (refine wpL_loadPr (g := ga) (k := t) (f := f) rfl rfl rfl hA.out htl HF.out ?_) | (refine wpL_sliceP (f := f) rfl (by rfl) (by rfl) ?_) | (refine wpL_appP (v := .slice a j cap) (n := j) (base := B2) (f := f) rfl (by rfl) (addM j G f) (by rfl) (by rfl) (hO.out.alloc _) (holds_new _ _ _) (by omega) (by simp; omega) (fun i hi => addM_lo hi) (fun i _ => addM_hi) ?_; intro r2 cap2 w2 how hg hor hlt3; have hO2 := hid how; have hA2 := hid ((hA.out.alloc _).grown hg (fun e => by have := (World.ownsRow.lt hO.out ga e).1; omega)); have hs3 : B2 ≤ w2.heap.size := (by have := hg.size; simp at this; omega); replace hH := (hH.alloc _).grown hg (fun x hx => by have := (World.ownsRow.lt hO.out x hx).1; simp; omega); clear how hg hor hlt3))
                go_roundw
                case rel => exact ⟨t + 1, j + 1, _, by go_num, by omega, by omega, hs3, hH, hA2, hO2, HM2⟩
                case measure => simp [intOf]; omega
        · obtain rfl : t = B := by omega
          go_wp2
          go_ret
          rw [hBN.out, HFF.out]
          exact ⟨_, m, G, rfl, hH.below, hO.out.lower (by omega), hmt, hM.out⟩
end Go.Proofs.Ytbhjbllgmenbaab
namespace Go.Proofs.Ytbhjbllgmenbaab
set_option linter.unusedVariables false
set_option linter.unusedSimpArgs false
open Go.RowKit
/-- The code for a loop and no elements. -/
noncomputable def lpC (o : Int) (g : Nat → UInt8) : Int := bif sqB o g then bif loopB o g then 0 else 5 else 1
set_option maxRecDepth 20000 in
set_option maxHeartbeats 1000000 in
theorem elementCode_nil (o : Int) (g : Nat → UInt8) (w : World) :
    Calls Try.prog 95 #[.agg (sqc o g), .slice none 0 0] w fun e w' => e = .returned (.int .i64 (bif sqB o g then 0 else 1)) ∧ Below w.heap.size w w' := by
  have hH := Has.start1 w (sqc o g) 32
  cases hs : sqB o g with
  | false =>
    go_enter Try.func95, Try.ntmps95
    go_wp2_with (first | (refine wpL_loadFull rfl rfl rfl rowSq hH.h0 (sqc_size _ _) ?_) | (go_at_call 147; refine (IsSquare_any o g _).mono ?_; rintro e w2 ⟨rfl, hb⟩; replace hH := hH.call' hb; rw [hs]))
    go_ret
    exact ⟨rfl, hH.below⟩
  | true =>
    go_enter Try.func95, Try.ntmps95
    go_wp2_with (first | (refine wpL_loadFull rfl rfl rfl rowSq hH.h0 (sqc_size _ _) ?_) | (go_at_call 147; refine (IsSquare_any o g _).mono ?_; rintro e w2 ⟨rfl, hb⟩; replace hH := hH.call' hb; clear hb; rw [hs]))
    go_loopw [12] (fun i wr => i = .int .i64 0 ∧ Has w wr [(sqc o g, 32)]) (fun _ _ => 0)
    case atStart => exact ⟨rfl, hH⟩
    case round =>
      clear hH
      obtain ⟨rfl, hH⟩ := hrel
      go_wp2
      go_ret
      exact ⟨rfl, hH.below⟩
set_option maxRecDepth 20000 in
set_option maxHeartbeats 1000000 in
theorem loopCode_nil (o : Int) (g : Nat → UInt8) (w : World) :
    Calls Try.prog 70 #[.agg (sqc o g), .slice none 0 0] w fun e w' => e = .returned (.int .i64 (lpC o g)) ∧ Below w.heap.size w w' := by
  have hH := Has.start1 w (sqc o g) 32
  unfold lpC
  cases hs : sqB o g with
  | false =>
    go_enter Try.func70, Try.ntmps70
    go_wp2_with (first | (refine wpL_loadFull rfl rfl rfl rowSq hH.h0 (sqc_size _ _) ?_) | (go_at_call 95; refine (elementCode_nil o g _).mono ?_; rintro e w2 ⟨rfl, hb⟩; replace hH := hH.call' hb; clear hb; rw [hs]))
    go_ret
    exact ⟨rfl, hH.below⟩
  | true =>
    cases hl : loopB o g with
    | false =>
      go_enter Try.func70, Try.ntmps70
      go_wp2_with (first | (refine wpL_loadFull rfl rfl rfl rowSq hH.h0 (sqc_size _ _) ?_) | (go_at_call 95; refine (elementCode_nil o g _).mono ?_; rintro e w2 ⟨rfl, hb⟩; replace hH := hH.call' hb; clear hb; rw [hs]) | (go_at_call 115; refine (IsLoop_any o g _).mono ?_; rintro e w3 ⟨rfl, hb⟩; replace hH := hH.call' hb; clear hb; rw [hl]))
      go_ret
      exact ⟨rfl, hH.below⟩
    | true =>
      go_enter Try.func70, Try.ntmps70
      go_wp2_with (first | (refine wpL_loadFull rfl rfl rfl rowSq hH.h0 (sqc_size _ _) ?_) | (go_at_call 95; refine (elementCode_nil o g _).mono ?_; rintro e w2 ⟨rfl, hb⟩; replace hH := hH.call' hb; clear hb; rw [hs]) | (go_at_call 115; refine (IsLoop_any o g _).mono ?_; rintro e w3 ⟨rfl, hb⟩; replace hH := hH.call' hb; clear hb; rw [hl]))
      go_ret
      exact ⟨rfl, hH.below⟩
set_option maxRecDepth 20000 in
set_option maxHeartbeats 1000000 in
theorem l04Loop_nil (o : Int) (g : Nat → UInt8) (w : World) :
    Calls Try.prog 68 #[.agg (sqc o g), .slice none 0 0] w fun e w' => e = .returned (.int .i64 (lpC o g)) ∧ Below w.heap.size w w' := by
  have hH := Has.start1 w (sqc o g) 32
  unfold lpC
  cases hs : sqB o g with
  | false =>
    go_enter Try.func68, Try.ntmps68
    go_wp2_with (first | (refine wpL_loadFull rfl rfl rfl rowSq hH.h0 (sqc_size _ _) ?_) | (go_at_call 91; refine (l01Is_any o g _).mono ?_; rintro e w2 ⟨rfl, hb⟩; replace hH := hH.call' hb; clear hb; rw [hs]))
    go_ret
    exact ⟨rfl, hH.below⟩
  | true =>
    go_enter Try.func68, Try.ntmps68
    go_wp2_with (first | (refine wpL_loadFull rfl rfl rfl rowSq hH.h0 (sqc_size _ _) ?_) | (go_at_call 91; refine (l01Is_any o g _).mono ?_; rintro e w2 ⟨rfl, hb⟩; replace hH := hH.call' hb; clear hb; rw [hs]))
    go_loopw [5] (fun i wr => i = .int .i64 0 ∧ Has w wr [(sqc o g, 32)]) (fun _ _ => 0)
    case atStart => exact ⟨rfl, hH⟩
    case round =>
      clear hH
      obtain ⟨rfl, hH⟩ := hrel
      cases hl : loopB o g with
      | false =>
        go_wp2_with (first | (refine wpL_loadFull rfl rfl rfl rowSq hH.h0 (sqc_size _ _) ?_) | (go_at_call 108; refine (l01Loop_any o g _).mono ?_; rintro e w2 ⟨rfl, hb⟩; replace hH := hH.call' hb; clear hb; rw [hl]))
        go_ret
        exact ⟨by rw [hl]; rfl, hH.below⟩
      | true =>
        go_wp2_with (first | (refine wpL_loadFull rfl rfl rfl rowSq hH.h0 (sqc_size _ _) ?_) | (go_at_call 108; refine (l01Loop_any o g _).mono ?_; rintro e w2 ⟨rfl, hb⟩; replace hH := hH.call' hb; clear hb; rw [hl]))
        go_ret
        exact ⟨by rw [hl]; rfl, hH.below⟩
/-- Is the isotope by f, f and f the loop itself? -/
def autE (g : Nat → UInt8) (N : Nat) (f : Nat → UInt8) : Bool := eqS N N (isoP g (mkTri f f f) N N 0) g
theorem imM_zero (g : Nat → UInt8) (N i : Nat) {j : Nat} (hj : N ≤ j) : imM g N i j = 0 := by
  unfold imM
  split
  · unfold tuF thenF; rw [if_neg (by omega)]
  · split
    · unfold liF thenF; rw [if_neg (by omega)]
    · unfold riF thenF; rw [if_neg (by omega)]
theorem imM_ext {g : Nat → UInt8} {N i i' : Nat} (h10 : N ≤ 10) (h : ∀ j, j < 10 → imM g N i j = imM g N i' j) : imM g N i = imM g N i' := by
  funext j
  by_cases hj : j < 10
  · exact h j hj
  · rw [imM_zero g N i (by omega), imM_zero g N i' (by omega)]
theorem PRow.hold {w w' : World} {g gr n : Nat} {F : Nat → UInt8} (h : PRow w g n F) (hne : g ≠ gr) (hO : ∀ b c u, b ≠ gr → holds w b c u → holds w' b c u) : PRow w' g n F := by
  obtain ⟨cur, h1, h2⟩ := h
  exact ⟨cur, hO _ _ _ hne h1, h2⟩
/-- Are all inner maps automorphisms? -/
noncomputable def amB (g : Nat → UInt8) (N : Nat) : Bool := @decide (∀ i, i < N * (2 * N + 1) → autE g N (imM g N i) = true) (Classical.propDecidable _)
theorem amB_iff {g : Nat → UInt8} {N : Nat} : amB g N = true ↔ ∀ i, i < N * (2 * N + 1) → autE g N (imM g N i) = true := by
  unfold amB; exact @decide_eq_true_iff _ (Classical.propDecidable _)
theorem amB_no {g : Nat → UInt8} {N i : Nat} (hi : i < N * (2 * N + 1)) (h : autE g N (imM g N i) = false) : amB g N = false := by
  cases e : amB g N with
  | false => rfl
  | true => rw [amB_iff.1 e i hi] at h; cases h
theorem imM_tri {g : Nat → UInt8} {N : Nat} (h : IsSq N g) {i : Nat} (hi : i < N * (2 * N + 1)) : IsTri (mkTri (imM g N i) (imM g N i) (imM g N i)) N :=
  mkTri_is (imM_perm h i hi) (imM_perm h i hi) (imM_perm h i hi)
theorem im_bound {N : Nat} (h1 : 1 ≤ N) (h10 : N ≤ 10) : 0 < N * (2 * N + 1) ∧ N * (2 * N + 1) ≤ 210 :=
  ⟨Nat.mul_pos (by omega) (by omega), Nat.le_trans (Nat.mul_le_mul h10 (show 2 * N + 1 ≤ 21 by omega)) (Nat.le_refl _)⟩
set_option maxRecDepth 20000 in
set_option maxHeartbeats 1000000 in
theorem implIsAutomorphicLoop_err (o : Int) (g : Nat → UInt8) (z : Int) (w : World) (hz : (z == 0) = false) (hC : Hid (lpC o g = z)) :
    Calls Try.prog 28 #[.agg (sqc o g)] w fun e w' => e = .returned (.tuple #[.bool false, .int .i64 z]) ∧ Below w.heap.size w w' := by
  have hz2 : ¬ z = 0 := by simpa using hz
  have hH := Has.start1 w (sqc o g) 32
  go_enter Try.func28, Try.ntmps28
  go_wp2_with (first | fail | (refine wpL_loadFull rfl rfl rfl rowSq hH.h0 (sqc_size _ _) ?_) | (go_at_call 70; refine (loopCode_nil o g _).mono ?_; rintro e w2 ⟨rfl, hb⟩; rw [hC.out]; replace hH := hH.call' hb; clear hb))
  go_ret2
  exact ⟨rfl, hH.below⟩
set_option maxRecDepth 20000 in
set_option maxHeartbeats 4000000 in
theorem implIsAutomorphicLoop_in (N : Nat) (g : Nat → UInt8) (w : World) (hq : IsSq N g) (hC : Hid (lpC N g = 0)) :
    Calls Try.prog 28 #[.agg (sqc N g)] w fun e w' => e = .returned (.tuple #[.bool (amB g N), .int .i64 0]) ∧ Below w.heap.size w w' := by
  have hTb := im_bound hq.lo hq.hi
  have HQ := hid hq
  have HTR := hid (fun i hi => imM_tri hq (i := i) hi)
  obtain ⟨T, hT⟩ : ∃ T, N * (2 * N + 1) = T := ⟨_, rfl⟩
  have HTT := hid hT
  rw [hT] at hTb HTR
  have HNO := hid (fun i (hi : i < T) (h : autE g N (imM g N i) = false) => amB_no (by rw [hT]; exact hi) h)
  have HYES := hid (fun (h : ∀ i, i < T → autE g N (imM g N i) = true) => amB_iff.2 (by rw [hT]; exact h))
  obtain ⟨ht0, ht210⟩ := hTb
  have ht1 : (T : Int) ≤ 210 := by omega
  clear hq hT
  have hH := Has.start1 w (sqc N g) 32
  go_enter Try.func28, Try.ntmps28
  go_wp2_with (first | fail | (refine wpL_loadFull rfl rfl rfl rowSq hH.h0 (sqc_size _ _) ?_) | (go_at_call 70; refine (loopCode_nil N g _).mono ?_; rintro e w2 ⟨rfl, hb⟩; rw [hC.out]; replace hH := hH.call' hb; clear hb) | (go_at_call 71; refine (innerMaps_any N g _ HQ.out).mono ?_; rintro e w3 ⟨v3, rfl, hb, hO⟩; rw [HTT.out] at hO; obtain ⟨gl, cl, rfl, hgl, hp⟩ := hO.form ht0; have hsz0 := hH.size; simp only [List.length_cons, List.length_nil] at hsz0; replace hH := hH.call' hb; clear hb hO; have hgl2 : w.heap.size + 1 ≤ gl := (by omega); clear hgl hsz0))
  go_loopw [15] (fun i wr => ∃ k : Nat, k ≤ T ∧ i = .int .i64 k ∧ Has w wr [(sqc N g, 32)] ∧ Hid (PRow wr gl T (inF g N)) ∧ Hid (∀ i, i < k → autE g N (imM g N i) = true)) (fun i _ => 300 - (intOf i).toNat)
  case atStart => exact ⟨0, by omega, rfl, hH, hid hp, hid (fun i hi => by omega)⟩
  case round =>
    clear hH hp
    obtain ⟨k, hk, rfl, hH, hp, hA⟩ := hrel
    by_cases hlt : k < T
    · have hk1 : (k : Int) < T := by omega
      obtain ⟨f, hf⟩ : ∃ f, imM g N k = f := ⟨_, rfl⟩
      have HF := hid (show ∀ j, j < 10 → inF g N (k * 10 + j) = f j from fun j hj => by rw [inF_at _ _ _ hj, hf])
      have HTR2 := hid (HTR.out k hlt)
      have HNO2 := hid (HNO.out k hlt)
      have HFE := hid hf
      rw [hf] at HTR2 HNO2
      clear hf
      have hsz := hH.size
      simp only [List.length_cons, List.length_nil] at hsz
      obtain ⟨r, hr⟩ : ∃ r, autE g N f = r := ⟨_, rfl⟩
      have HR := hid hr
      rw [hr] at HNO2
      clear hr
      go_wp2_with (first | fail | (refine wpL_loadPr (g := gl) (k := k) (f := f) rfl rfl rfl hp.out hlt HF.out ?_) | (refine wpL_storeN (x := .tmp 6) rfl rfl rfl rfl rowPl hgq (u8s_size _ _) (u8s_ok _ _) ?_; intro w5 hz hO hT; replace hH := hT _ _ hH (by simp; omega); replace hp := hid (hp.out.hold (by omega) hO); replace hgq := hz; clear hz hO hT) | (refine wpL_allocN (o := ⟨some 6, _, _, _, _, _⟩) rfl rfl zeroPl ?_; intro gq w4 hgq hlq hb; replace hH := hH.call' hb; have hlq2 : gl < gq := (by have := hp.out.lt; omega); have hlq3 : w.heap.size + 1 ≤ gq := (by omega); replace hp := hid (hp.out.below hb); clear hb hlq))
      simp only [Act.put, List.setIfInBounds_toArray, List.set_cons_zero, List.set_cons_succ]
      refine wp_region_frame (X := Unit) (fun d _ => [(19, bif d 0 then .agg (sqc N g) else u19), (20, bif d 1 then .agg (u8s 10 f) else u20), (21, bif d 2 then .agg (u8s 10 f) else u21), (22, bif d 3 then .agg (u8s 10 f) else u22), (23, bif d 4 then .agg (u8s 30 (mkTri f f f)) else u23), (24, bif d 5 then .agg (sqc N (isoP g (mkTri f f f) N N 0)) else u24), (25, bif d 6 then .agg (sqc N g) else u25), (26, bif d 7 then .bool (!r) else u26)])
        (fun d _ w' => Has w w' [(sqc N g, 32)] ∧ Hid (PRow w' gl T (inF g N)) ∧ holds w' gq (u8s 10 f) 97) (by kernel_rfl) (by kernel_rfl) ?h0_am ?hs_am ?hq_am
      case h0_am => exact ⟨(), (by simp [lput]), hH.drew, hid (hp.out.block rfl), (show _ from hgq)⟩
      case hs_am =>
        refine ⟨?_, ?_, ?_, ?_, ?_, ?_, ?_, ?_, trivial⟩
        all_goals
          clear hH hp hgq
          intro d _ w1 hd hn hJ
          simp only [needs, Region.binds, reduceCtorEq, Bool.false_eq_true, false_implies, true_and, and_true, true_implies, forall_const] at hn
          simp only [lput, List.set, hn, cond_true]
          obtain ⟨hH, hp, hgq⟩ := hJ
          go_wp2_with (first | fail | (refine wpL_loadFull rfl rfl rfl rowSq hH.h0 (sqc_size _ _) ?_) | (refine wpL_loadFull (x := .tmp 6) rfl rfl rfl rowPl hgq (u8s_size _ _) ?_) | (refine wpL_build3 (T := 101) rfl (by rfl) (by rfl) (by rfl) (by rfl) (builtTr3 f f f) ?_) | (go_at_call 74; refine (isotopeBy_any N g (mkTri f f f) _ HQ.out HTR2.out).mono ?_; rintro e w3 ⟨rfl, hb⟩; replace hH := hH.call' hb; replace hp := hid (hp.out.below hb); replace hgq := holds_below hgq hb (holds_lt hgq); clear hb) | (refine wpL_neqAgg (b := r) rfl rfl rfl rfl gdSq (by rw [eqSq]; exact congrArg (fun z => Result.ok z _) HR.out) ?_))
          first
            | (refine ⟨(), ?_, hH, hp, hgq⟩; (simp [lput, done, hn]; done))
            | (refine ⟨?_, hH, hp, hgq⟩; (simp [lput, done, hn]; done))
            | (refine ⟨(), ?_, hH, hp, hgq⟩; (simp [lput, done, hn]; rfl))
            | (refine ⟨?_, hH, hp, hgq⟩; (simp [lput, done, hn]; rfl))
            | (refine ⟨(), ?_, hH, hp, hgq⟩; (simp [lput, done]; done))
            | (refine ⟨?_, hH, hp, hgq⟩; (simp [lput, done]; done))
            | (refine ⟨(), ?_, hH, hp, hgq⟩; (simp [lput, done]; rfl))
            | (refine ⟨?_, hH, hp, hgq⟩; (simp [lput, done]; rfl))
      case hq_am =>
        clear hH hp hgq
        intro d _ w1 hd hJ
        simp only [allDone, List.length_cons, List.length_nil, Nat.reduceAdd, and_true] at hd
        obtain ⟨hH, hp, hgq⟩ := hJ
        simp only [lput, List.set, hd, cond_true]
        clear hd
        cases r with
        | true =>
          go_wp2
          go_roundw
          case rel => exact ⟨k + 1, by omega, by go_num, hH, hp, hid (fun i hi => by
            by_cases e : i = k
            · subst e; rw [HFE.out]; exact HR.out
            · exact hA.out i (by omega))⟩
          case measure => simp [intOf]; omega
        | false =>
          have HV := hid (HNO2.out rfl)
          go_wp2
          go_ret2
          rw [HV.out]
          exact ⟨rfl, hH.below⟩
    · obtain rfl : k = T := by omega
      have HV := hid (HYES.out hA.out)
      go_wp2
      go_ret2
      rw [HV.out]
      exact ⟨rfl, hH.below⟩
set_option maxRecDepth 20000 in
set_option maxHeartbeats 1000000 in
theorem specIsAutomorphicLoop_err (o : Int) (g : Nat → UInt8) (z : Int) (w : World) (hz : (z == 0) = false) (hC : Hid (lpC o g = z)) :
    Calls Try.prog 27 #[.agg (sqc o g)] w fun e w' => e = .returned (.tuple #[.bool false, .int .i64 z]) ∧ Below w.heap.size w w' := by
  have hz2 : ¬ z = 0 := by simpa using hz
  have hH := Has.start1 w (sqc o g) 32
  go_enter Try.func27, Try.ntmps27
  go_wp2_with (first | fail | (refine wpL_loadFull rfl rfl rfl rowSq hH.h0 (sqc_size _ _) ?_) | (go_at_call 68; refine (l04Loop_nil o g _).mono ?_; rintro e w2 ⟨rfl, hb⟩; rw [hC.out]; replace hH := hH.call' hb; clear hb))
  go_ret2
  exact ⟨rfl, hH.below⟩
set_option maxRecDepth 20000 in
set_option maxHeartbeats 4000000 in
theorem specIsAutomorphicLoop_in (N : Nat) (g : Nat → UInt8) (w : World) (hq : IsSq N g) (hC : Hid (lpC N g = 0)) :
    Calls Try.prog 27 #[.agg (sqc N g)] w fun e w' => e = .returned (.tuple #[.bool (amB g N), .int .i64 0]) ∧ Below w.heap.size w w' := by
  have hTb := im_bound hq.lo hq.hi
  have HQ := hid hq
  have HTR := hid (fun i hi => imM_tri hq (i := i) hi)
  obtain ⟨T, hT⟩ : ∃ T, N * (2 * N + 1) = T := ⟨_, rfl⟩
  have HTT := hid hT
  rw [hT] at hTb HTR
  have HNO := hid (fun i (hi : i < T) (h : autE g N (imM g N i) = false) => amB_no (by rw [hT]; exact hi) h)
  have HYES := hid (fun (h : ∀ i, i < T → autE g N (imM g N i) = true) => amB_iff.2 (by rw [hT]; exact h))
  obtain ⟨ht0, ht210⟩ := hTb
  clear hq hT
  have hH := Has.start1 w (sqc N g) 32
  go_enter Try.func27, Try.ntmps27
  go_wp2_with (first | fail | (refine wpL_loadFull rfl rfl rfl rowSq hH.h0 (sqc_size _ _) ?_) | (go_at_call 68; refine (l04Loop_nil N g _).mono ?_; rintro e w2 ⟨rfl, hb⟩; rw [hC.out]; replace hH := hH.call' hb; clear hb) | (go_at_call 69; refine (l04Inner_any N g _ HQ.out).mono ?_; rintro e w3 ⟨v3, m, G, rfl, hb, hO, hmt, hA⟩; rw [HTT.out] at hmt hA; have hm0 : 0 < m := (by obtain ⟨k, hk, _⟩ := hA.all 0 ht0; omega); obtain ⟨gl, cl, rfl, hgl, hp⟩ := hO.form hm0; have hsz0 := hH.size; simp only [List.length_cons, List.length_nil] at hsz0; replace hH := hH.call' hb; clear hb hO; have hgl2 : w.heap.size + 1 ≤ gl := (by omega); have HA := hid hA; clear hgl hsz0 hA))
  have hm1 : (m : Int) ≤ 210 := by omega
  go_loopw [6] (fun i wr => ∃ k : Nat, k ≤ m ∧ i = .int .i64 k ∧ Has w wr [(sqc N g, 32)] ∧ Hid (PRow wr gl m G) ∧ Hid (∀ i, i < T → (∃ k', k' < k ∧ ∀ j, j < 10 → G (k' * 10 + j) = inF g N (i * 10 + j)) → autE g N (imM g N i) = true)) (fun i _ => 300 - (intOf i).toNat)
  case atStart => exact ⟨0, by omega, rfl, hH, hid hp, hid (fun i _ hi => by obtain ⟨k', hk', _⟩ := hi; omega)⟩
  case round =>
    clear hH hp
    obtain ⟨k, hk, rfl, hH, hp, hB⟩ := hrel
    by_cases hlt : k < m
    · have hk1 : (k : Int) < m := by omega
      obtain ⟨i0, hi0, e0⟩ := HA.out.of k hlt
      obtain ⟨f, hf⟩ : ∃ f, imM g N i0 = f := ⟨_, rfl⟩
      have HF := hid (show ∀ j, j < 10 → G (k * 10 + j) = f j from fun j hj => by rw [e0 j hj, inF_at _ _ _ hj, hf])
      have HTR2 := hid (HTR.out i0 hi0)
      have HNO2 := hid (HNO.out i0 hi0)
      rw [hf] at HTR2 HNO2
      have HE0 := hid (show ∀ i, (∀ j, j < 10 → G (k * 10 + j) = inF g N (i * 10 + j)) → autE g N (imM g N i) = autE g N f from fun i hi => by
        rw [← hf]
        exact congrArg (autE g N) (imM_ext HQ.out.hi fun j hj => by rw [← inF_at g N i hj, ← hi j hj, e0 j hj, inF_at _ _ _ hj]))
      clear hf e0
      have hsz := hH.size
      simp only [List.length_cons, List.length_nil] at hsz
      obtain ⟨r, hr⟩ : ∃ r, autE g N f = r := ⟨_, rfl⟩
      have HR := hid hr
      rw [hr] at HNO2 HE0
      clear hr
      go_wp2
      refine wp_region_frame (X := Unit) (fun d _ => [(20, bif d 0 then .agg (sqc N g) else u20), (21, bif d 1 then .slice (some ⟨gl, 0, none⟩) m cl else u21), (22, bif d 2 then .int .i64 k else u22), (23, bif d 3 then .pointer (some ⟨gl, k * 10, none⟩) else u23), (24, bif d 4 then .agg (u8s 10 f) else u24), (25, bif d 5 then .slice (some ⟨gl, 0, none⟩) m cl else u25), (26, bif d 6 then .int .i64 k else u26), (27, bif d 7 then .pointer (some ⟨gl, k * 10, none⟩) else u27), (28, bif d 8 then .agg (u8s 10 f) else u28), (29, bif d 9 then .slice (some ⟨gl, 0, none⟩) m cl else u29), (30, bif d 10 then .int .i64 k else u30), (31, bif d 11 then .pointer (some ⟨gl, k * 10, none⟩) else u31), (32, bif d 12 then .agg (u8s 10 f) else u32), (33, bif d 13 then .agg (u8s 30 (mkTri f f f)) else u33), (34, bif d 14 then .agg (sqc N (isoP g (mkTri f f f) N N 0)) else u34), (35, bif d 15 then .agg (sqc N g) else u35), (36, bif d 16 then .bool (!r) else u36)])
        (fun d _ w' => Has w w' [(sqc N g, 32)] ∧ Hid (PRow w' gl m G)) (by kernel_rfl) (by kernel_rfl) ?h0_am ?hs_am ?hq_am
      case h0_am => exact ⟨(), (by simp [lput]), hH.drew, hid (hp.out.block rfl)⟩
      case hs_am =>
        refine ⟨?_, ?_, ?_, ?_, ?_, ?_, ?_, ?_, ?_, ?_, ?_, ?_, ?_, ?_, ?_, ?_, ?_, trivial⟩
        all_goals
          clear hH hp
          intro d _ w1 hd hn hJ
          simp only [needs, Region.binds, reduceCtorEq, Bool.false_eq_true, false_implies, true_and, and_true, true_implies, forall_const] at hn
          simp only [lput, List.set, hn, cond_true]
          obtain ⟨hH, hp⟩ := hJ
          go_wp2_with (first | fail | (refine wpL_loadFull rfl rfl rfl rowSq hH.h0 (sqc_size _ _) ?_) | (refine wpL_loadPr (g := gl) (k := k) (f := f) rfl rfl rfl hp.out hlt HF.out ?_) | (refine wpL_build3 (T := 101) rfl (by rfl) (by rfl) (by rfl) (by rfl) (builtTr3 f f f) ?_) | (go_at_call 73; refine (l02Isotope_any N g (mkTri f f f) _ HQ.out HTR2.out).mono ?_; rintro e w3 ⟨rfl, hb⟩; replace hH := hH.call' hb; replace hp := hid (hp.out.below hb); clear hb) | (refine wpL_neqAgg (b := r) rfl rfl rfl rfl gdSq (by rw [eqSq]; exact congrArg (fun z => Result.ok z _) HR.out) ?_))
          first
            | (refine ⟨(), ?_, hH, hp⟩; (simp [lput, done, hn]; done))
            | (refine ⟨?_, hH, hp⟩; (simp [lput, done, hn]; done))
            | (refine ⟨(), ?_, hH, hp⟩; (simp [lput, done, hn]; rfl))
            | (refine ⟨?_, hH, hp⟩; (simp [lput, done, hn]; rfl))
            | (refine ⟨(), ?_, hH, hp⟩; (simp [lput, done]; done))
            | (refine ⟨?_, hH, hp⟩; (simp [lput, done]; done))
            | (refine ⟨(), ?_, hH, hp⟩; (simp [lput, done]; rfl))
            | (refine ⟨?_, hH, hp⟩; (simp [lput, done]; rfl))
      case hq_am =>
        clear hH hp
        intro d _ w1 hd hJ
        simp only [allDone, List.length_cons, List.length_nil, Nat.reduceAdd, and_true] at hd
        obtain ⟨hH, hp⟩ := hJ
        simp only [lput, List.set, hd, cond_true]
        clear hd
        cases r with
        | true =>
          go_wp2
          go_roundw
          case rel => exact ⟨k + 1, by omega, by go_num, hH, hp, hid (fun i hi hx => by
            obtain ⟨k', hk', e⟩ := hx
            by_cases c : k' = k
            · subst c; exact HE0.out i e
            · exact hB.out i hi ⟨k', by omega, e⟩)⟩
          case measure => simp [intOf]; omega
        | false =>
          have HV := hid (HNO2.out rfl)
          go_wp2
          go_ret2
          rw [HV.out]
          exact ⟨rfl, hH.below⟩
    · obtain rfl : k = m := by omega
      have HV := hid (HYES.out (fun i hi => hB.out i hi (HA.out.all i hi)))
      go_wp2
      go_ret2
      rw [HV.out]
      exact ⟨rfl, hH.below⟩
end Go.Proofs.Ytbhjbllgmenbaab
namespace Go.Proofs.Ytbhjbllgmenbaab
set_option linter.unusedVariables false
set_option linter.unusedSimpArgs false
open Go.RowKit
/-- y is reached from x by the first m of the maps M. -/
inductive Rch (m : Nat) (M : Nat → Nat → Nat) (x : Nat) : Nat → Prop
  | here : Rch m M x x
  | step (y j : Nat) (h : Rch m M x y) (hj : j < m) : Rch m M x (M j y)
noncomputable def orbB (m : Nat) (M : Nat → Nat → Nat) (x y : Nat) : Bool := @decide (Rch m M x y) (Classical.propDecidable _)
section
variable {m N x y : Nat} {M : Nat → Nat → Nat}
theorem orbB_iff : orbB m M x y = true ↔ Rch m M x y := by unfold orbB; exact @decide_eq_true_iff _ (Classical.propDecidable _)
theorem Rch.lt (hM : ∀ j, j < m → ∀ y, y < N → M j y < N) (hx : x < N) (h : Rch m M x y) : y < N := by
  induction h with
  | here => exact hx
  | step y j _ hj ih => exact hM j hj y ih
theorem Rch.least (S : Nat → Prop) (hx : S x) (hS : ∀ y j, S y → j < m → S (M j y)) (h : Rch m M x y) : S y := by
  induction h with
  | here => exact hx
  | step y j _ hj ih => exact hS y j ih hj
theorem Rch.trans {z : Nat} (h : Rch m M x y) (h2 : Rch m M y z) : Rch m M x z := by
  induction h2 with
  | here => exact h
  | step y j _ hj ih => exact .step _ _ ih hj
/-- The orbit as far as it has been found: i of its elements have been led by all maps, and the next one by j of them. -/
structure OrbTo (N m : Nat) (M : Nat → Nat → Nat) (x : Nat) (l : List Int) (i j : Nat) : Prop where
  nd : l.Nodup
  hx : (x : Int) ∈ l
  ok : ∀ z, z ∈ l → ∃ y : Nat, z = y ∧ y < N ∧ Rch m M x y
  cl : ∀ i', i' < i → ∀ j', j' < m → ((M j' (l.getD i' 0).toNat : Nat) : Int) ∈ l
  nx : ∀ j', j' < j → ((M j' (l.getD i 0).toNat : Nat) : Int) ∈ l
theorem OrbTo.start (hx : x < N) : OrbTo N m M x [(x : Int)] 0 0 :=
  ⟨by simp, by simp, fun z hz => ⟨x, List.mem_singleton.1 hz, hx, .here⟩, fun i' hi => by omega, fun j' hj => by omega⟩
theorem OrbTo.len {l : List Int} {i j : Nat} (h : OrbTo N m M x l i j) : l.length ≤ N := by
  have h1 : l.Perm (selL (fun y => decide ((y : Int) ∈ l)) N) := by
    refine (List.perm_ext_iff_of_nodup h.nd (List.Pairwise.imp (fun h => by omega) (selL_asc _ _))).2 fun z => ?_
    rw [selL_mem]
    constructor
    · intro hz
      obtain ⟨y, e, hy, _⟩ := h.ok z hz
      exact ⟨y, e, hy, decide_eq_true (by rw [← e]; exact hz)⟩
    · rintro ⟨y, e, _, h2⟩
      rw [e]; exact of_decide_eq_true h2
  rw [h1.length_eq]; exact selL_len _ _
theorem getD_app {l : List Int} {z : Int} {i : Nat} (h : i < l.length) : (l ++ [z]).getD i 0 = l.getD i 0 := by
  simp [List.getD, List.getElem?_append_left h]
theorem OrbTo.at' {l : List Int} {i j : Nat} (h : OrbTo N m M x l i j) (hi : i < l.length) : ∃ y : Nat, l.getD i 0 = y ∧ y < N ∧ Rch m M x y := by
  have : l.getD i 0 ∈ l := by simp [List.getD, hi]
  exact h.ok _ this
theorem OrbTo.skip {l : List Int} {i j y : Nat} (h : OrbTo N m M x l i j) (hy : l.getD i 0 = y) (hm : ((M j y : Nat) : Int) ∈ l) : OrbTo N m M x l i (j + 1) :=
  ⟨h.nd, h.hx, h.ok, h.cl, fun j' hj => by
    by_cases e : j' = j
    · subst e; rw [hy]; exact hm
    · exact h.nx j' (by omega)⟩
theorem OrbTo.add {l : List Int} {i j y : Nat} (h : OrbTo N m M x l i j) (hi : i < l.length) (hj : j < m) (hy : l.getD i 0 = y) (hr : Rch m M x y) (hl : M j y < N) (hm : ¬ ((M j y : Nat) : Int) ∈ l) : OrbTo N m M x (l ++ [((M j y : Nat) : Int)]) i (j + 1) :=
  ⟨by
    unfold List.Nodup
    rw [List.pairwise_append]
    exact ⟨h.nd, List.pairwise_singleton _ _, fun a ha b hb e => by
      rw [List.mem_singleton.1 hb] at e
      subst e; exact hm ha⟩,
   List.mem_append_left _ h.hx,
   fun z hz => by
    rcases List.mem_append.1 hz with hz | hz
    · exact h.ok z hz
    · exact ⟨M j y, List.mem_singleton.1 hz, hl, .step y j hr hj⟩,
   fun i' hi' j' hj' => by
    rw [getD_app (by omega)]
    exact List.mem_append_left _ (h.cl i' hi' j' hj'),
   fun j' hj' => by
    rw [getD_app hi]
    by_cases e : j' = j
    · subst e; rw [hy]; exact List.mem_append_right _ (by simp)
    · exact List.mem_append_left _ (h.nx j' (by omega))⟩
theorem OrbTo.next {l : List Int} {i : Nat} (h : OrbTo N m M x l i m) : OrbTo N m M x l (i + 1) 0 :=
  ⟨h.nd, h.hx, h.ok, fun i' hi' j' hj' => by
    by_cases e : i' = i
    · subst e; exact h.nx j' hj'
    · exact h.cl i' (by omega) j' hj', fun j' hj => by omega⟩
/-- In the end the list has all that is reached. -/
theorem OrbTo.done {l : List Int} (h : OrbTo N m M x l l.length 0) (z : Int) : z ∈ l ↔ ∃ y : Nat, z = y ∧ y < N ∧ orbB m M x y = true := by
  constructor
  · intro hz
    obtain ⟨y, e, hy, hr⟩ := h.ok z hz
    exact ⟨y, e, hy, orbB_iff.2 hr⟩
  · rintro ⟨y, rfl, _, hr⟩
    refine Rch.least (fun y => (y : Int) ∈ l) h.hx (fun y j hy hj => ?_) (orbB_iff.1 hr)
    obtain ⟨i, hi, e⟩ := List.getElem_of_mem hy
    have e2 : l.getD i 0 = (y : Int) := by simp [List.getD, hi, e]
    have := h.cl i hi j hj
    rw [e2] at this
    simpa using this
/-- The orbit has one element exactly if all maps keep x. -/
theorem orb_one (hx : x < N) (hM : ∀ j, j < m → ∀ y, y < N → M j y < N) : (selL (orbB m M x) N).length = 1 ↔ ∀ j, j < m → M j x = x := by
  have hxm : (x : Int) ∈ selL (orbB m M x) N := selL_mem.2 ⟨x, rfl, hx, orbB_iff.2 .here⟩
  constructor
  · intro h j hj
    have hym : ((M j x : Nat) : Int) ∈ selL (orbB m M x) N := selL_mem.2 ⟨M j x, rfl, hM j hj x hx, orbB_iff.2 (.step x j .here hj)⟩
    obtain ⟨a, ha⟩ := List.length_eq_one_iff.1 h
    rw [ha] at hxm hym
    have h1 := List.mem_singleton.1 hxm
    have h2 := List.mem_singleton.1 hym
    omega
  · intro h
    have hk : ∀ y, Rch m M x y → y = x := fun y hy => Rch.least (fun y => y = x) rfl (fun y j hy hj => by rw [hy]; exact h j hj) hy
    have hp : (selL (orbB m M x) N).Perm [(x : Int)] := by
      refine (List.perm_ext_iff_of_nodup (List.Pairwise.imp (fun h => by omega) (selL_asc _ _)) (by simp)).2 fun z => ?_
      rw [selL_mem, List.mem_singleton]
      constructor
      · rintro ⟨y, e, _, hy⟩
        rw [e, hk y (orbB_iff.1 hy)]
      · rintro rfl
        exact ⟨x, rfl, hx, orbB_iff.2 .here⟩
    rw [hp.length_eq]; rfl
end
end Go.Proofs.Ytbhjbllgmenbaab
namespace Go.Proofs.Ytbhjbllgmenbaab
set_option linter.unusedVariables false
set_option linter.unusedSimpArgs false
open Go.RowKit
/-- What a function hands back that makes a list alone and may have sorted it. -/
def GotI (l : List Int) (w : World) (e : Ending) (w' : World) : Prop :=
  ∃ v, e = .returned v ∧ Below w.heap.size w w' ∧ IL w' w.heap.size w'.heap.size v l
theorem OL.form {w : World} {B : Nat} {v : Value} {l : List Int} (h : OL w B v l) (hn : 0 < l.length) : ∃ g cap, v = .slice (some ⟨g, 0, none⟩) l.length cap ∧ B ≤ g ∧ g < w.heap.size ∧ RowL w g l := by
  rcases IL.of_own h with ⟨_, e⟩ | ⟨g, cap, e, h1, h2, h3⟩
  · subst e; simp at hn
  · exact ⟨g, cap, e, h1, h2, h3⟩
theorem IL.of_row {w : World} {lo hi n g cap : Nat} {l : List Int} (hn : l.length = n) (h1 : lo ≤ g) (h2 : g < hi) (h : RowL w g l) : IL w lo hi (.slice (some ⟨g, 0, none⟩) n cap) l := by
  subst hn
  exact .inr ⟨g, cap, rfl, h1, h2, h⟩
theorem OL.one (w : World) {B n : Nat} (z : Int) (h : B ≤ w.heap.size) (hn : w.heap.size = n) : OL (w.alloc (.cells #[.int .i64 z] 2)) B (.slice (some ⟨n, 0, none⟩) 1 1) [z] := by
  subst hn
  exact ⟨rfl, .inr ⟨_, 1, #[.int .i64 z], rfl, h, heap_alloc_new w _, Nat.le_refl _, by unfold maxLen; omega, rfl, rfl⟩⟩
/-- The list a of m maps lies below B. -/
def PAt (w : World) (B : Nat) (a : Option Addr) (m : Nat) (F : Nat → UInt8) : Prop := 0 < m → ∃ g, a = some ⟨g, 0, none⟩ ∧ g < B ∧ PRow w g m F
theorem PAt.below {w w' : World} {B m : Nat} {a : Option Addr} {F : Nat → UInt8} (h : PAt w B a m F) (hb : Below w.heap.size w w') : PAt w' B a m F := fun hm => by
  obtain ⟨g, e, h1, h2⟩ := h hm
  exact ⟨g, e, h1, h2.below hb⟩
theorem PAt.alloc {w : World} {B m : Nat} {a : Option Addr} {F : Nat → UInt8} (h : PAt w B a m F) (o : Obj) : PAt (w.alloc o) B a m F := fun hm => by
  obtain ⟨g, e, h1, h2⟩ := h hm
  exact ⟨g, e, h1, h2.alloc o⟩
theorem PAt.grown {w w' : World} {B m : Nat} {r : Option Nat} {a : Option Addr} {F : Nat → UInt8} (h : PAt w B a m F) (hg : w.grownBy w' r) (hr : ∀ x, r = some x → B ≤ x) : PAt w' B a m F := fun hm => by
  obtain ⟨g, e, h1, h2⟩ := h hm
  exact ⟨g, e, h1, h2.grown hg (fun c => by have := hr g c; omega)⟩
theorem PAt.hold {w w' : World} {B m gr : Nat} {a : Option Addr} {F : Nat → UInt8} (h : PAt w B a m F) (hO : ∀ b c u, b ≠ gr → holds w b c u → holds w' b c u) (hgr : B ≤ gr) : PAt w' B a m F := fun hm => by
  obtain ⟨g, e, h1, cur, h2, h3⟩ := h hm
  exact ⟨g, e, h1, cur, hO _ _ _ (by omega) h2, h3⟩
theorem OL.hold {w w' : World} {B gr : Nat} {v : Value} {l : List Int} (h : OL w B v l) (hO : ∀ b c u, b ≠ gr → holds w b c u → holds w' b c u) (hgr : v.ownBlock ≠ some gr) : OL w' B v l := by
  refine ⟨h.1, ?_⟩
  rcases h.2 with h2 | ⟨g, cap, cur, e, hb, hr, hx⟩
  · exact .inl h2
  · exact .inr ⟨g, cap, cur, e, hb, hO g _ _ (fun c => hgr (by rw [e, ← c]; rfl)) hr, hx⟩
theorem rowl_hold {w w' : World} {g gr : Nat} {l : List Int} (h : RowL w g l) (hO : ∀ b c u, b ≠ gr → holds w b c u → holds w' b c u) (hne : g ≠ gr) : RowL w' g l := by
  obtain ⟨cs, h1, h2⟩ := h.at'
  exact ⟨cs, hO _ _ _ hne h1, h2⟩
set_option maxRecDepth 20000 in
set_option maxHeartbeats 2000000 in
theorem index64_any (g n c : Nat) (z : Int) (l : List Int) (w : World) (hl : l.length = n) (hn : n ≤ 100) (h : RowL w g l) :
    Calls Try.prog 159 #[.slice (some ⟨g, 0, none⟩) n c, .int .i64 z] w fun e w' => (∃ r : Int, e = .returned (.int .i64 r) ∧ (0 ≤ r ↔ z ∈ l)) ∧ w' = w := by
  have hn100 : (n : Int) ≤ 100 := by omega
  go_enter Try.func159, Try.ntmps159
  go_wp2
  go_loopw [8] (fun i wr => ∃ k : Nat, k ≤ n ∧ i = .int .i64 k ∧ Hid (wr = w) ∧ Hid (∀ i, i < k → l.getD i 0 ≠ z)) (fun i _ => 200 - (intOf i).toNat)
  case atStart => exact ⟨0, by omega, rfl, hid rfl, hid (fun i hi => by omega)⟩
  case round =>
    obtain ⟨k, hk, rfl, hw, hA⟩ := hrel
    have hR : RowL wr g l := by rw [hw.out]; exact h
    by_cases hlt : k < n
    · have hk1 : (k : Int) < n := by omega
      have ck := hR.cell (i := k) (by omega)
      obtain ⟨y, hy⟩ : ∃ y, l.getD k 0 = y := ⟨_, rfl⟩
      rw [hy] at ck
      have HY := hid hy
      have HM := hid (show y ∈ l by rw [← hy]; simp [List.getD, show k < l.length by omega])
      clear hy
      by_cases e : z = y
      · subst e
        have hk0 : (0 : Int) ≤ k := by omega
        go_wp2
        go_ret
        exact ⟨⟨k, rfl, fun _ => HM.out, fun _ => hk0⟩, hw.out⟩
      · go_wp2
        go_roundw
        case rel => exact ⟨k + 1, by omega, by go_num, hw, hid (fun i hi => by
          by_cases c : i = k
          · subst c; rw [HY.out]; exact fun q => e q.symm
          · exact hA.out i (by omega))⟩
        case measure => simp [intOf]; omega
    · obtain rfl : k = n := by omega
      go_wp2
      go_ret
      refine ⟨⟨-1, rfl, fun q => by omega, fun q => ?_⟩, hw.out⟩
      obtain ⟨i, hi, e⟩ := List.getElem_of_mem q
      exact absurd (show l.getD i 0 = z by simp [List.getD, hi, e]) (hA.out i (by omega))
set_option maxRecDepth 20000 in
set_option maxHeartbeats 2000000 in
theorem contains64_any (g n c : Nat) (z : Int) (l : List Int) (w : World) (hl : l.length = n) (hn : n ≤ 100) (h : RowL w g l) :
    Calls Try.prog 123 #[.slice (some ⟨g, 0, none⟩) n c, .int .i64 z] w fun e w' => e = .returned (.bool (decide (z ∈ l))) ∧ w' = w := by
  go_enter Try.func123, Try.ntmps123
  go_wp2_with (first | fail | (go_at_call 159; refine (index64_any g n c z l _ hl hn h).mono ?_; rintro e w2 ⟨⟨r, rfl, hr⟩, rfl⟩))
  go_ret
  refine ⟨?_, rfl⟩
  congr 2
/-- The map number j of the list. -/
def mpF (F : Nat → UInt8) (j y : Nat) : Nat := (F (j * 10 + y)).toNat
set_option maxRecDepth 20000 in
set_option maxHeartbeats 4000000 in
theorem orbitOf_any (N m c x : Nat) (a : Option Addr) (F : Nat → UInt8) (w : World) (h10 : N ≤ 10) (hx : x < N) (hm : m ≤ 1000) (hp : PAt w w.heap.size a m F) (hM : ∀ j, j < m → ∀ y, y < N → mpF F j y < N) :
    Calls Try.prog 72 #[.slice a m c, .int .i64 x] w (GotI (selL (orbB m (mpF F) x) N) w) := by
  have HM := hid hM
  clear hM
  have hm1 : (m : Int) ≤ 1000 := by omega
  have hH := Has.nil w
  go_enter Try.func72, Try.ntmps72
  go_wp2
  go_loopw [5, 6] (fun v i wr => ∃ (k : Nat) (l : List Int), i = .int .i64 k ∧ k ≤ 11 ∧ Has w wr [] ∧ Hid (PAt wr w.heap.size a m F) ∧ Hid (OL wr w.heap.size v l) ∧ Hid (OrbTo N m (mpF F) x l k 0) ∧ k ≤ l.length) (fun _ i _ => 20 - (intOf i).toNat)
  case atStart => exact ⟨0, _, rfl, by omega, hH.alloc _, hid (hp.alloc _), hid (OL.one w _ (Nat.le_refl _) rfl), hid (OrbTo.start hx), by omega⟩
  case round =>
    clear hH hp
    obtain ⟨k, l, rfl, hk, hH, hp, hO, hT, hkl⟩ := hrel
    have hl0 : 0 < l.length := List.length_pos_of_mem hT.out.hx
    have hlN := hT.out.len
    obtain ⟨g, cap, rfl, hgB, hgl, hR⟩ := hO.out.form hl0
    have hl10 : (l.length : Int) ≤ 10 := by omega
    by_cases hlt : k < l.length
    · have hk1 : (k : Int) < l.length := by omega
      clear hgl hR
      go_wp2
      go_loopw [5, 20] (fun v j wr => ∃ (q : Nat) (l : List Int), q ≤ m ∧ j = .int .i64 q ∧ Has w wr [] ∧ Hid (PAt wr w.heap.size a m F) ∧ Hid (OL wr w.heap.size v l) ∧ Hid (OrbTo N m (mpF F) x l k q) ∧ k < l.length) (fun _ j _ => 1001 - (intOf j).toNat)
      case atStart => exact ⟨0, l, by omega, rfl, hH, hp, hO, hT, hlt⟩
      case round =>
        clear hH hp hO hT hl0 hlN hgB hl10 hk1 hkl
        obtain ⟨q, l, hq, rfl, hH, hp, hO, hT, hkl⟩ := hrel
        have hlN := hT.out.len
        obtain ⟨g, cap, rfl, hgB, hgl, hR⟩ := hO.out.form (by omega)
        by_cases hqm : q < m
        · have hq1 : (q : Int) < m := by omega
          obtain ⟨gl, rfl, hgl2, hpr⟩ := hp.out (by omega)
          obtain ⟨y, hy, hyN, hyR⟩ := hT.out.at' hkl
          obtain ⟨f, hf⟩ : ∃ f : Nat → UInt8, ∀ j, j < 10 → F (q * 10 + j) = f j := ⟨fun j => F (q * 10 + j), fun j _ => rfl⟩
          obtain ⟨u, hu⟩ : ∃ u, mpF F q y = u := ⟨_, rfl⟩
          have hul : u < N := by rw [← hu]; exact HM.out q hqm y hyN
          have huf : (f y).toNat = u := by rw [← hu, ← hf y (by omega)]; rfl
          obtain ⟨n, hn⟩ : ∃ n, l.length = n := ⟨_, rfl⟩
          rw [hn] at hlN hkl
          have HN := hid hn
          have HF := hid hf
          have HUF := hid huf
          have HY := hid hy
          have hk1 : (k : Int) < n := by omega
          have hn10 : (n : Int) ≤ 10 := by omega
          have hy10 : (y : Int) < 10 := by omega
          have hu256 : (u : Int) < 256 := by omega
          have HSK := hid (fun h => hT.out.skip hy (by rw [hu]; exact h))
          have HAD := hid (fun h => hT.out.add (by rw [hn]; exact hkl) hqm hy hyR (by rw [hu]; exact hul) (by rw [hu]; exact h))
          rw [hu] at HAD
          have HR := hid hR
          have HPR := hid hpr
          clear hT hn hf huf hy hu hR hpr hgl
          rw [HN.out]
          by_cases hmem : (u : Int) ∈ l
          · have HSK2 := hid (HSK.out hmem)
            go_wp2_with (first | fail | (refine wpL_loadPr (g := gl) (k := q) (f := f) rfl rfl rfl HPR.out hqm HF.out ?_) | (refine wpL_storeN (x := .tmp 8) rfl rfl rfl rfl rowPl hgq (u8s_size _ _) (u8s_ok _ _) ?_; intro w5 hz hOo hT; replace hH := hT _ _ hH (by simp; omega); replace hp := hid (hp.out.hold hOo (by omega)); replace hO := hid (hO.out.hold hOo (by intro e; have e2 : g = gq := Option.some.inj e; omega)); replace HR := hid (rowl_hold HR.out hOo (by omega)); replace hgq := hz; clear hz hOo hT; have ck := HR.out.cell (i := k) (by rw [HN.out]; exact hkl); rw [HY.out] at ck; have cy : w5.cell? ⟨gq, y, none⟩ = some (.int .u8 u) := (by rw [holds_cell hgq, u8s_get _ _ _ (by omega), HUF.out])) | (refine wpL_allocN (o := ⟨some 8, _, _, _, _, _⟩) rfl rfl zeroPl ?_; intro gq w4 hgq hlq hb; have hlq2 : w.heap.size ≤ gq := (by have := hH.size; simp at this; omega); have hlq3 : g < gq := (by have := HR.out.lt; omega); replace hH := hH.call' hb; replace hp := hid (hp.out.below hb); replace hO := hid (hO.out.below hb); replace HR := hid (HR.out.below hb); clear hb hlq HPR) | (go_at_call 123; refine (contains64_any g n cap u l _ HN.out (by omega) HR.out).mono ?_; rintro e w6 ⟨rfl, rfl⟩; rw [decide_eq_true hmem]))
            go_roundw
            case rel => exact ⟨q + 1, l, by omega, by go_num, hH, hp, by rw [HN.out] at hO; exact hO, HSK2, by rw [HN.out]; exact hkl⟩
            case measure => simp [intOf]; omega
          · have HAD2 := hid (HAD.out hmem)
            rw [HN.out] at hO
            go_wp2_with (first | fail | (refine wpL_loadPr (g := gl) (k := q) (f := f) rfl rfl rfl HPR.out hqm HF.out ?_) | (refine wpL_storeN (x := .tmp 8) rfl rfl rfl rfl rowPl hgq (u8s_size _ _) (u8s_ok _ _) ?_; intro w5 hz hOo hT; replace hH := hT _ _ hH (by simp; omega); replace hp := hid (hp.out.hold hOo (by omega)); replace hO := hid (hO.out.hold hOo (by intro e; have e2 : g = gq := Option.some.inj e; omega)); replace HR := hid (rowl_hold HR.out hOo (by omega)); replace hgq := hz; clear hz hOo hT; have ck := HR.out.cell (i := k) (by rw [HN.out]; exact hkl); rw [HY.out] at ck; have cy : w5.cell? ⟨gq, y, none⟩ = some (.int .u8 u) := (by rw [holds_cell hgq, u8s_get _ _ _ (by omega), HUF.out])) | (refine wpL_allocN (o := ⟨some 8, _, _, _, _, _⟩) rfl rfl zeroPl ?_; intro gq w4 hgq hlq hb; have hlq2 : w.heap.size ≤ gq := (by have := hH.size; simp at this; omega); have hlq3 : g < gq := (by have := HR.out.lt; omega); replace hH := hH.call' hb; replace hp := hid (hp.out.below hb); replace hO := hid (hO.out.below hb); replace HR := hid (HR.out.below hb); clear hb hlq HPR) | (go_at_call 123; refine (contains64_any g n cap u l _ HN.out (by omega) HR.out).mono ?_; rintro e w6 ⟨rfl, rfl⟩; rw [decide_eq_false hmem]) | (have zz := hH.size; simp only [List.length_nil] at zz; refine wpL_appI (v := .slice (some ⟨g, 0, none⟩) n cap) (n := n) (base := w.heap.size) (z := (u : Int)) rfl (by rfl) (by rfl) (by rfl) (World.ownsRow.alloc (by have := hO.out; unfold OL at this; rwa [HN.out] at this) _) (by simp) (by omega) (by simp; omega) ?_; intro r3 cap3 w7 how hg hor hlt3; have hO2 := hid (OL.add (by rw [HN.out]; exact how)); replace hH := (hH.alloc _).grown hg (fun x hx => by have e9 : g = x := Option.some.inj hx; simp; omega); replace hp := hid ((hp.out.alloc _).grown hg (fun x hx => by have e9 : g = x := Option.some.inj hx; omega)); clear how hg hor hlt3))
            go_roundw
            case rel => exact ⟨q + 1, _, by omega, by go_num, hH, hp, by rw [HN.out] at hO2; exact hO2, HAD2, by rw [List.length_append, HN.out]; simp; omega⟩
            case measure => simp [intOf]; omega
        · obtain rfl : q = m := by omega
          have HNX := hid hT.out.next
          go_wp2
          go_roundw
          case rel => exact ⟨k + 1, l, by go_num, by omega, hH, hp, hO, HNX, by omega⟩
          case measure => simp [intOf]; omega
    · obtain rfl : k = l.length := by omega
      have HD := hid hT.out.done
      have HND := hid hT.out.nd
      obtain ⟨n, hn⟩ : ∃ n, l.length = n := ⟨_, rfl⟩
      rw [hn] at hlN hl10
      have HN := hid hn
      rw [hn]
      clear hn hO hT
      go_wp2_with (first | fail | (go_at_call 124; refine (sort64_any g n cap l _ HN.out (by omega) hR).mono ?_; rintro e w2 ⟨rfl, hg, l', h1, h2, h3⟩; have HB := hid (Go.Proofs.Ytbhjbllgmenbaab.Below.grown hH.below hg (fun x hx => by simp at hx; omega) (by omega)); have HSZ := hid hg.size; clear hg hH))
      go_ret
      have e := asc_sel h2 h1 HND.out HD.out
      have hlen' : l'.length = n := by rw [h1.length_eq]; exact HN.out
      rw [e] at h3 hlen'
      have := HSZ.out
      exact ⟨_, rfl, HB.out, IL.of_row hlen' hgB (by omega) h3⟩
end Go.Proofs.Ytbhjbllgmenbaab
namespace Go.Proofs.Ytbhjbllgmenbaab
set_option linter.unusedVariables false
set_option linter.unusedSimpArgs false
open Go.RowKit
/-- Do all inner maps keep x? -/
noncomputable def kpB (g : Nat → UInt8) (N x : Nat) : Bool := @decide (∀ i, i < N * (2 * N + 1) → mpF (inF g N) i x = x) (Classical.propDecidable _)
theorem kpB_iff {g : Nat → UInt8} {N x : Nat} : kpB g N x = true ↔ ∀ i, i < N * (2 * N + 1) → mpF (inF g N) i x = x := by
  unfold kpB; exact @decide_eq_true_iff _ (Classical.propDecidable _)
theorem kpB_no {g : Nat → UInt8} {N x : Nat} (h : ¬ ∀ i, i < N * (2 * N + 1) → mpF (inF g N) i x = x) : kpB g N x = false := by
  cases e : kpB g N x with
  | false => rfl
  | true => exact absurd (kpB_iff.1 e) h
theorem inF_map {g : Nat → UInt8} {N i y : Nat} (h : IsSq N g) (hi : i < N * (2 * N + 1)) (hy : y < N) : mpF (inF g N) i y < N := by
  unfold mpF
  rw [inF_at _ _ _ (by have := h.hi; omega)]
  exact (imM_perm h i hi).lt y hy
theorem IL.form {l : List Int} {w : World} {lo hi : Nat} {v : Value} (h : IL w lo hi v l) : ∃ a cap, v = .slice a l.length cap := by
  rcases h with ⟨h, e⟩ | ⟨g, cap, e, _⟩
  · subst e; exact ⟨none, 0, h⟩
  · exact ⟨_, cap, e⟩
set_option maxRecDepth 20000 in
set_option maxHeartbeats 1000000 in
theorem implKeptByInner_err (o : Int) (g : Nat → UInt8) (z : Int) (w : World) (hz : (z == 0) = false) (hC : Hid (lpC o g = z)) :
    Calls Try.prog 25 #[.agg (sqc o g)] w fun e w' => e = .returned (.tuple #[.slice none 0 0, .int .i64 z]) ∧ Below w.heap.size w w' := by
  have hz2 : ¬ z = 0 := by simpa using hz
  have hH := Has.start1 w (sqc o g) 32
  go_enter Try.func25, Try.ntmps25
  go_wp2_with (first | fail | (refine wpL_loadFull rfl rfl rfl rowSq hH.h0 (sqc_size _ _) ?_) | (go_at_call 70; refine (loopCode_nil o g _).mono ?_; rintro e w2 ⟨rfl, hb⟩; rw [hC.out]; replace hH := hH.call' hb; clear hb))
  go_ret2
  exact ⟨rfl, hH.below⟩
set_option maxRecDepth 20000 in
set_option maxHeartbeats 4000000 in
theorem implKeptByInner_in (N : Nat) (g : Nat → UInt8) (w : World) (hq : IsSq N g) (hC : Hid (lpC N g = 0)) :
    Calls Try.prog 25 #[.agg (sqc N g)] w (GotL (selL (kpB g N) N) 0 w) := by
  have h10 := hq.hi
  have hTb := im_bound hq.lo hq.hi
  have HQ := hid hq
  have HMP := hid (fun i hi y hy => inF_map hq (i := i) (y := y) hi hy)
  obtain ⟨T, hT⟩ : ∃ T, N * (2 * N + 1) = T := ⟨_, rfl⟩
  have HTT := hid hT
  rw [hT] at hTb HMP
  have HONE := hid (fun x (hx : x < N) => (show (selL (orbB T (mpF (inF g N)) x) N).length = 1 ↔ kpB g N x = true by rw [orb_one hx HMP.out, kpB_iff, hT]))
  obtain ⟨ht0, ht210⟩ := hTb
  clear hq hT
  have hN10 : (N : Int) ≤ 10 := by omega
  have hH := Has.start1 w (sqc N g) 32
  go_enter Try.func25, Try.ntmps25
  go_wp2_with (first | fail | (refine wpL_loadFull rfl rfl rfl rowSq hH.h0 (sqc_size _ _) ?_) | (go_at_call 70; refine (loopCode_nil N g _).mono ?_; rintro e w2 ⟨rfl, hb⟩; rw [hC.out]; replace hH := hH.call' hb; clear hb) | (go_at_call 71; refine (innerMaps_any N g _ HQ.out).mono ?_; rintro e w3 ⟨v3, rfl, hb, hO⟩; rw [HTT.out] at hO; obtain ⟨gl, cl, rfl, hgl, hp⟩ := hO.form ht0; have hsz0 := hH.size; simp only [List.length_cons, List.length_nil] at hsz0; replace hH := hH.call' hb; clear hb hO; have hgl2 : w.heap.size + 1 ≤ gl := (by omega); clear hgl hsz0; have c0 := hH.c0 0; rw [sqc_get0] at c0))
  have hgB := hp.lt
  obtain ⟨B2, hB2⟩ : ∃ B2, w3.heap.size = B2 := ⟨_, rfl⟩
  rw [hB2] at hgB
  have hsB : w.heap.size + 1 ≤ B2 := by have := hH.size; simp only [List.length_cons, List.length_nil] at this; omega
  have hBw : B2 ≤ w3.heap.size := by omega
  clear c0 hB2
  go_loopw [5, 17] (fun v i wr => ∃ k : Nat, k ≤ N ∧ i = .int .i64 k ∧ B2 ≤ wr.heap.size ∧ Has w wr [(sqc N g, 32)] ∧ Hid (PRow wr gl T (inF g N)) ∧ Hid (OL wr B2 v (selL (kpB g N) k))) (fun _ i _ => 20 - (intOf i).toNat)
  case atStart => exact ⟨0, by omega, rfl, hBw, hH, hid hp, hid (by rw [show selL (kpB g N) 0 = [] from rfl]; exact OL.nil _ _)⟩
  case round =>
    clear hH hp hBw
    obtain ⟨k, hk, rfl, hBw, hH, hp, hO⟩ := hrel
    have hlen := selL_len (kpB g N) k
    by_cases hlt : k < N
    · have hk1 : (k : Int) < N := by omega
      obtain ⟨n, hn⟩ : ∃ n, (selL (orbB T (mpF (inF g N)) k) N).length = n := ⟨_, rfl⟩
      have hone := HONE.out k hlt
      rw [hn] at hone
      have HN := hid hn
      clear hn
      cases hb : kpB g N k with
      | true =>
        have hn1 := hone.2 hb
        subst hn1
        have HE := hid hb
        clear hb hone
        go_wp2_with (first | fail | (go_at_call 72; refine (orbitOf_any N T cl k (some ⟨gl, 0, none⟩) (inF g N) _ h10 hlt (by omega) (fun _ => ⟨gl, rfl, hp.out.lt, hp.out⟩) HMP.out).mono ?_; rintro e w4 ⟨v4, rfl, hb4, hI⟩; obtain ⟨a4, c4, rfl⟩ := IL.form hI; rw [HN.out]; have hs4 := hb4.size; replace hH := hH.call' hb4; replace hp := hid (hp.out.below hb4); replace hO := hid (hO.out.below hb4); clear hb4 hI) | (refine wpL_appI (v := u5) (n := (selL (kpB g N) k).length) (base := B2) (z := (k : Int)) rfl (by rfl) (by rfl) (by rfl) (World.ownsRow.alloc hO.out _) (by simp) (by omega) (by simp; omega) ?_; intro r cap w2 how hg hor hlt3; have hO2 := hid (OL.add how); have hs2 := hg.size; simp at hs2; replace hH := (hH.alloc _).grown hg (fun x hx => by have := (World.ownsRow.lt hO.out x hx).1; simp; omega); replace hp := hid ((hp.out.alloc _).grown hg (fun e => by have := (World.ownsRow.lt hO.out gl e).1; omega)); rw [← selL_yes HE.out] at hO2; clear how hg hor hlt3))
        go_roundw
        case rel => exact ⟨k + 1, by omega, by go_num, by omega, hH, hp, hO2⟩
        case measure => simp [intOf]; omega
      | false =>
        have hn1 : ¬ n = 1 := fun e => by rw [hone.1 e] at hb; cases hb
        have hn2 : ¬ (n : Int) = 1 := by omega
        have hn3 : ((n : Int) == 1) = false := by simpa using hn2
        have HE := hid hb
        clear hb hone
        go_wp2_with (first | fail | (go_at_call 72; refine (orbitOf_any N T cl k (some ⟨gl, 0, none⟩) (inF g N) _ h10 hlt (by omega) (fun _ => ⟨gl, rfl, hp.out.lt, hp.out⟩) HMP.out).mono ?_; rintro e w4 ⟨v4, rfl, hb4, hI⟩; obtain ⟨a4, c4, rfl⟩ := IL.form hI; rw [HN.out]; have hs4 := hb4.size; replace hH := hH.call' hb4; replace hp := hid (hp.out.below hb4); replace hO := hid (hO.out.below hb4); clear hb4 hI))
        go_roundw
        case rel => exact ⟨k + 1, by omega, by go_num, by omega, hH, hp, by rw [selL_no HE.out]; exact hO⟩
        case measure => simp [intOf]; omega
    · obtain rfl : k = N := by omega
      go_wp2
      go_ret2
      exact hO.out.got hH.below (by omega)
/-- Is x kept by the first j of the maps? -/
def keB (G : Nat → UInt8) (x j : Nat) : Bool := (List.range j).all fun k => decide (mpF G k x = x)
theorem keB_succ (G : Nat → UInt8) (x j : Nat) : keB G x (j + 1) = (keB G x j && decide (mpF G j x = x)) := by simp [keB, List.range_succ]
theorem keB_iff {G : Nat → UInt8} {x j : Nat} : keB G x j = true ↔ ∀ k, k < j → mpF G k x = x := by simp [keB]
theorem keB_all {G F : Nat → UInt8} {m t x : Nat} (h : Among m G t F) (hx : x < 10) : keB G x m = true ↔ ∀ i, i < t → mpF F i x = x := by
  rw [keB_iff]
  constructor
  · intro q i hi
    obtain ⟨k, hk, e⟩ := h.all i hi
    have := q k hk
    unfold mpF at *
    rw [← e x hx]; exact this
  · intro q k hk
    obtain ⟨i, hi, e⟩ := h.of k hk
    have := q i hi
    unfold mpF at *
    rw [e x hx]; exact this
set_option maxRecDepth 20000 in
set_option maxHeartbeats 1000000 in
theorem specKeptByInner_err (o : Int) (g : Nat → UInt8) (z : Int) (w : World) (hz : (z == 0) = false) (hC : Hid (lpC o g = z)) :
    Calls Try.prog 24 #[.agg (sqc o g)] w fun e w' => e = .returned (.tuple #[.slice none 0 0, .int .i64 z]) ∧ Below w.heap.size w w' := by
  have hz2 : ¬ z = 0 := by simpa using hz
  have hH := Has.start1 w (sqc o g) 32
  go_enter Try.func24, Try.ntmps24
  go_wp2_with (first | fail | (refine wpL_loadFull rfl rfl rfl rowSq hH.h0 (sqc_size _ _) ?_) | (go_at_call 68; refine (l04Loop_nil o g _).mono ?_; rintro e w2 ⟨rfl, hb⟩; rw [hC.out]; replace hH := hH.call' hb; clear hb))
  go_ret2
  exact ⟨rfl, hH.below⟩
set_option maxRecDepth 20000 in
set_option maxHeartbeats 4000000 in
theorem specKeptByInner_in (N : Nat) (g : Nat → UInt8) (w : World) (hq : IsSq N g) (hC : Hid (lpC N g = 0)) :
    Calls Try.prog 24 #[.agg (sqc N g)] w (GotL (selL (kpB g N) N) 0 w) := by
  have h10 := hq.hi
  have hTb := im_bound hq.lo hq.hi
  have HQ := hid hq
  have HMP := hid (fun i hi y hy => inF_map hq (i := i) (y := y) hi hy)
  obtain ⟨T, hT⟩ : ∃ T, N * (2 * N + 1) = T := ⟨_, rfl⟩
  have HTT := hid hT
  rw [hT] at hTb HMP
  obtain ⟨ht0, ht210⟩ := hTb
  have hN10 : (N : Int) ≤ 10 := by omega
  have hH := Has.start1 w (sqc N g) 32
  clear hq hT
  go_enter Try.func24, Try.ntmps24
  go_wp2_with (first | fail | (refine wpL_loadFull rfl rfl rfl rowSq hH.h0 (sqc_size _ _) ?_) | (go_at_call 68; refine (l04Loop_nil N g _).mono ?_; rintro e w2 ⟨rfl, hb⟩; rw [hC.out]; replace hH := hH.call' hb; clear hb) | (go_at_call 69; refine (l04Inner_any N g _ HQ.out).mono ?_; rintro e w3 ⟨v3, m, G, rfl, hb, hO, hmt, hA⟩; rw [HTT.out] at hmt hA; have hm0 : 0 < m := (by obtain ⟨k, hk, _⟩ := hA.all 0 ht0; omega); obtain ⟨gl, cl, rfl, hgl, hp⟩ := hO.form hm0; have hsz0 := hH.size; simp only [List.length_cons, List.length_nil] at hsz0; replace hH := hH.call' hb; clear hb hO; have hgl2 : w.heap.size + 1 ≤ gl := (by omega); have HA := hid hA; clear hgl hsz0 hA))
  have hm1 : (m : Int) ≤ 210 := by omega
  have HKE := hid (fun x (hx : x < N) => (show keB G x m = kpB g N x from by
    rw [Bool.eq_iff_iff, keB_all HA.out (by omega), kpB_iff, HTT.out]))
  have HGL := hid (fun k (hk : k < m) x (hx : x < N) => (show mpF G k x < N from by
    obtain ⟨i, hi, e⟩ := HA.out.of k hk
    have := HMP.out i hi x hx
    unfold mpF at *
    rw [e x (by omega)]; exact this))
  have hgB := hp.lt
  obtain ⟨B2, hB2⟩ : ∃ B2, w3.heap.size = B2 := ⟨_, rfl⟩
  have hsB : w.heap.size + 1 ≤ B2 := by have := hH.size; simp only [List.length_cons, List.length_nil] at this; omega
  have hO0 : OL (w3.alloc (.cells #[] 2)) B2 (.slice (some ⟨B2, 0, none⟩) 0 0) [] := OL.fresh _ (by omega) hB2
  replace hH := hH.alloc (.cells #[] 2)
  replace hp := hp.alloc (.cells #[] 2)
  have hBw : B2 ≤ (w3.alloc (.cells #[] 2)).heap.size := by simp; omega
  rw [hB2] at hgB ⊢
  obtain ⟨w9, hw9⟩ : ∃ w9, w3.alloc (.cells #[] 2) = w9 := ⟨_, rfl⟩
  rw [hw9] at hO0 hH hp hBw ⊢
  clear hw9 hB2
  go_loopw [6, 7] (fun v i wr => ∃ k : Nat, k ≤ N ∧ i = .int .i64 k ∧ B2 ≤ wr.heap.size ∧ Has w wr [(sqc N g, 32)] ∧ Hid (PRow wr gl m G) ∧ Hid (OL wr B2 v (selL (kpB g N) k))) (fun _ i _ => 20 - (intOf i).toNat)
  case atStart => exact ⟨0, by omega, rfl, hBw, hH, hid hp, hid (by rw [show selL (kpB g N) 0 = [] from rfl]; exact hO0)⟩
  case round =>
    clear hH hp hBw hO0
    obtain ⟨k, hk, rfl, hBw, hH, hp, hO⟩ := hrel
    have cz : wr.cell? ⟨w.heap.size, 0, none⟩ = some (.int .i64 N) := by rw [hH.c0, sqc_get0]
    have hlen := selL_len (kpB g N) k
    by_cases hlt : k < N
    · have hk1 : (k : Int) < N := by omega
      have hk10 : (k : Int) < 10 := by omega
      go_wp2
      clear cz
      go_loopw [8, 9] (fun b i wq => ∃ j : Nat, j ≤ m ∧ i = .int .i64 j ∧ b = .bool (keB G k j) ∧ Hid (wq = wr)) (fun _ i _ => 300 - (intOf i).toNat)
      case atStart => exact ⟨0, by omega, rfl, rfl, hid rfl⟩
      case round =>
        obtain ⟨j, hj, rfl, rfl, hw⟩ := hrel
        have hw' := hw.out
        subst hw'
        obtain ⟨b, hb⟩ : ∃ b, keB G k j = b := ⟨_, rfl⟩
        have HB := hid hb
        rw [hb]
        clear hb
        by_cases hjm : j < m
        · have hj1 : (j : Int) < m := by omega
          obtain ⟨u, hu⟩ : ∃ u, mpF G j k = u := ⟨_, rfl⟩
          have hul := HGL.out j hjm k hlt
          rw [hu] at hul
          have cu := hp.out.cell (i := j * 10 + k) (by omega)
          rw [show (G (j * 10 + k)).toNat = u from hu] at cu
          have HN := hid (show keB G k (j + 1) = (b && decide (u = k)) by rw [keB_succ, HB.out, hu])
          have hu256 : (u : Int) < 256 := by omega
          clear hu
          cases b with
          | false =>
            go_wp2_with (first | fail | (refine wpL_guard rfl rfl ?_))
            go_roundw
            case rel => exact ⟨j + 1, by omega, by go_num, by rw [HN.out]; rfl, hid trivial⟩
            case measure => simp [intOf]; omega
          | true =>
            by_cases e : u = k
            · subst e
              go_wp2_with (first | fail | (refine wpL_guard rfl rfl ?_))
              go_roundw
              case rel => exact ⟨j + 1, by omega, by go_num, by rw [HN.out]; simp, hid trivial⟩
              case measure => simp [intOf]; omega
            · have e2 : ¬ (u : Int) = (k : Int) := by omega
              go_wp2_with (first | fail | (refine wpL_guard rfl rfl ?_))
              go_roundw
              case rel => exact ⟨j + 1, by omega, by go_num, by rw [HN.out, decide_eq_false e, show ((u : Int) == (k : Int)) = false by simpa using e2]; rfl, hid trivial⟩
              case measure => simp [intOf]; omega
        · obtain rfl : j = m := by omega
          have hkk := HKE.out k hlt
          rw [HB.out] at hkk
          cases b with
          | true =>
            have HE := hid hkk.symm
            clear hkk
            go_wp2_with (first | fail | (refine wpL_appI (v := u6) (n := (selL (kpB g N) k).length) (base := B2) (z := (k : Int)) rfl (by rfl) (by rfl) (by rfl) (World.ownsRow.alloc hO.out _) (by simp) (by omega) (by simp; omega) ?_; intro r cap w2 how hg hor hlt3; have hO2 := hid (OL.add how); have hs2 := hg.size; simp at hs2; replace hH := (hH.alloc _).grown hg (fun x hx => by have := (World.ownsRow.lt hO.out x hx).1; simp; omega); replace hp := hid ((hp.out.alloc _).grown hg (fun e => by have := (World.ownsRow.lt hO.out gl e).1; omega)); rw [← selL_yes HE.out] at hO2; clear how hg hor hlt3))
            go_roundw
            case rel => exact ⟨k + 1, by omega, by go_num, by omega, hH, hp, hO2⟩
            case measure => simp [intOf]; omega
          | false =>
            have HE := hid hkk.symm
            clear hkk
            go_wp2
            go_roundw
            case rel => exact ⟨k + 1, by omega, by go_num, hBw, hH, hp, by rw [selL_no HE.out]; exact hO⟩
            case measure => simp [intOf]; omega
    · obtain rfl : k = N := by omega
      go_wp2
      go_ret2
      exact hO.out.got hH.below (by omega)
end Go.Proofs.Ytbhjbllgmenbaab
