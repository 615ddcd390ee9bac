/- Proved: what the laws' helpers on lists of permutations return. Conditions: those that each theorem names. -/
import Derived.Test.YtbhjbllgmenbaabPs
import Derived.Test.YtbhjbllgmenbaabPl2
namespace Go.Proofs.Ytbhjbllgmenbaab
set_option linter.unusedVariables false
set_option linter.unusedSimpArgs false
open Go.RowKit
theorem PRow.cell {w : World} {g n i : Nat} {F : Nat → UInt8} (h : PRow w g n F) (hi : i < n * 10) : w.cell? ⟨g, i, none⟩ = some (.int .u8 (F i).toNat) := by
  obtain ⟨cur, h1, h2, h3⟩ := h; rw [holds_cell h1]; exact h3 i hi
theorem PRow.frozen {w : World} {g n : Nat} {F : Nat → UInt8} (h : PRow w g n F) (i : Nat) : w.frozen? ⟨g, i, none⟩ = false := by
  obtain ⟨cur, h1, _⟩ := h; exact holds_frozen h1 i
theorem PRow.set {w : World} {g n : Nat} {F F' : Nat → UInt8} (h : PRow w g n F) (k t : Nat) (ht : t < 256) (e : ∀ i, i < n * 10 → F' i = if i = k then UInt8.ofNat t else F i) : PRow (w.setCell ⟨g, k, none⟩ (.int .u8 t)) g n F' := by
  obtain ⟨cur, h1, h2, h3⟩ := h
  refine ⟨cur.setIfInBounds k (.int .u8 t), holds_set h1 k _, by simpa using h2, fun i hi => ?_⟩
  rw [Array.getElem?_setIfInBounds, e i hi]
  by_cases ek : k = i
  · subst ek; rw [if_pos rfl, if_pos (by omega), if_pos rfl, u8_of t ht]
  · rw [if_neg ek, if_neg (Ne.symm ek)]; exact h3 i hi
theorem PRow.congr {w : World} {g n : Nat} {F F' : Nat → UInt8} (h : PRow w g n F) (e : ∀ i, i < n * 10 → F i = F' i) : PRow w g n F' := by
  obtain ⟨cur, h1, h2, h3⟩ := h; exact ⟨cur, h1, h2, fun i hi => by rw [← e i hi]; exact h3 i hi⟩
/-- The first t bytes are 1, 2, .. -/
def mixF (F : Nat → UInt8) (t : Nat) : Nat → UInt8 := fun i => if i < t then UInt8.ofNat (1 + i) else F i
def mrkF : Nat → UInt8 := fun i => UInt8.ofNat (1 + i)
set_option maxRecDepth 20000 in
set_option maxHeartbeats 2000000 in
theorem eqPlacesS_same (b1 b2 n c1 c2 : Nat) (F : Nat → UInt8) (w : World) (hn : n ≤ 1000) (h1 : PRow w b1 n F) (h2 : PRow w b2 n F) :
    Calls Try.prog 33 #[.slice (some ⟨b1, 0, none⟩) n c1, .slice (some ⟨b2, 0, none⟩) n c2] w fun e w' => e = .returned (.bool true) ∧ Below w.heap.size w w' := by
  have hH := Has.nil w
  go_enter Try.func33, Try.ntmps33
  go_wp2
  go_loopw [5] (fun i wr => ∃ k : Nat, k ≤ n ∧ i = .int .i64 k ∧ Has w wr [] ∧ Hid (PRow wr b1 n F) ∧ Hid (PRow wr b2 n F)) (fun i _ => n - (intOf i).toNat)
  case atStart => exact ⟨0, by omega, rfl, hH, hid h1, hid h2⟩
  case round =>
    clear hH h1 h2
    obtain ⟨k, hk, rfl, hH, h1, h2⟩ := hrel
    by_cases hlt : k < n
    · have hlt' : (k : Int) < (n : Int) := by omega
      obtain ⟨f, hf⟩ : ∃ f : Nat → UInt8, ∀ j, j < 10 → F (k * 10 + j) = f j := ⟨fun j => F (k * 10 + j), fun j _ => rfl⟩
      have HF := hid hf
      clear hf
      go_wp2
      refine wp_region_frame (X := Unit) (fun d _ => [(17, bif d 0 then .slice (some ⟨b1, 0, none⟩) n c1 else u17), (18, bif d 1 then .int .i64 k else u18), (19, bif d 2 then .pointer (some ⟨b1, k * 10, none⟩) else u19), (20, bif d 3 then .agg (u8s 10 f) else u20), (21, bif d 4 then .slice (some ⟨b2, 0, none⟩) n c2 else u21), (22, bif d 5 then .int .i64 k else u22), (23, bif d 6 then .pointer (some ⟨b2, k * 10, none⟩) else u23), (24, bif d 7 then .agg (u8s 10 f) else u24), (25, bif d 8 then .bool true else u25), (26, bif d 9 then .bool false else u26)])
        (fun d _ w' => Has w w' [] ∧ Hid (PRow w' b1 n F) ∧ Hid (PRow w' b2 n F)) (by kernel_rfl) (by kernel_rfl) ?h0_ep ?hs_ep ?hq_ep
      case h0_ep => exact ⟨(), (by simp [lput]), hH.drew, (show _ from h1), (show _ from h2)⟩
      case hs_ep =>
        refine ⟨?_, ?_, ?_, ?_, ?_, ?_, ?_, ?_, ?_, ?_, trivial⟩
        all_goals
          clear hH h1 h2
          intro d _ w1 hd hn hJ
          simp only [needs, Region.binds, reduceCtorEq, Bool.false_eq_true, false_implies, true_and, and_true, true_implies, forall_const] at hn
          simp only [lput, List.set, hn, cond_true]
          obtain ⟨hH, h1, h2⟩ := hJ
          go_wp2_with (first | fail | (refine wpL_loadPr (g := b1) (k := k) (f := f) rfl rfl rfl h1.out hlt HF.out ?_) | (refine wpL_loadPr (g := b2) (k := k) (f := f) rfl rfl rfl h2.out hlt HF.out ?_) | (go_at_call 79; refine (eqPlaces_self f _).mono ?_; rintro e w3 ⟨rfl, hb⟩; replace hH := hH.call' hb; replace h1 := hid (h1.out.below hb); replace h2 := hid (h2.out.below hb); clear hb))
          first
            | (refine ⟨(), ?_, hH, h1, h2⟩; (simp [lput, done, hn]; done))
            | (refine ⟨?_, hH, h1, h2⟩; (simp [lput, done, hn]; done))
            | (refine ⟨(), ?_, hH, h1, h2⟩; (simp [lput, done, hn]; rfl))
            | (refine ⟨?_, hH, h1, h2⟩; (simp [lput, done, hn]; rfl))
            | (refine ⟨(), ?_, hH, h1, h2⟩; (simp [lput, done]; done))
            | (refine ⟨?_, hH, h1, h2⟩; (simp [lput, done]; done))
            | (refine ⟨(), ?_, hH, h1, h2⟩; (simp [lput, done]; rfl))
            | (refine ⟨?_, hH, h1, h2⟩; (simp [lput, done]; rfl))
      case hq_ep =>
        clear hH h1 h2
        intro d _ w1 hd hJ
        simp only [allDone, List.length_cons, List.length_nil, Nat.reduceAdd, and_true] at hd
        obtain ⟨hH, h1, h2⟩ := hJ
        simp only [lput, List.set, hd, cond_true]
        clear hd
        go_wp2
        go_roundw
        case rel => exact ⟨k + 1, by omega, by go_num, hH, h1, h2⟩
        case measure => simp [intOf]; omega
    · go_wp2
      go_ret
      exact ⟨rfl, hH.below⟩
set_option maxHeartbeats 1000000 in
theorem eqPlacesS_zero (p q : Option Addr) (c d : Nat) (w : World) : Calls Try.prog 33 #[.slice p 0 c, .slice q 0 d] w fun e w' => e = .returned (.bool true) ∧ Below w.heap.size w w' := by
  go_enter Try.func33, Try.ntmps33
  go_wp2
  go_loopw [5] (fun i wr => i = .int .i64 0 ∧ Below w.heap.size w wr) (fun _ _ => 0)
  case atStart => exact ⟨rfl, Below.refl _ _⟩
  case round =>
    obtain ⟨rfl, hB⟩ := hrel
    go_wp2
    go_ret
    exact ⟨rfl, hB⟩
set_option maxRecDepth 20000 in
set_option maxHeartbeats 2000000 in
theorem markPlacesS_any (b n c M : Nat) (F : Nat → UInt8) (w : World) (hn : n ≤ 10) (hM : 1 + n * 10 = M) (h : PRow w b n F) :
    Calls Try.prog 34 #[.slice (some ⟨b, 0, none⟩) n c, .int .i64 1] w fun e w' => e = .returned (.int .i64 M) ∧ w.grownBy w' (some b) ∧ PRow w' b n mrkF := by
  have HM := hid hM
  clear hM
  go_enter Try.func34, Try.ntmps34
  go_wp2
  go_loopw [1, 5] (fun m i wr => ∃ k t : Nat, k ≤ n ∧ Hid (1 + k * 10 = t) ∧ m = .int .i64 t ∧ i = .int .i64 k ∧ Hid (w.grownBy wr (some b)) ∧ Hid (PRow wr b n (mixF F (k * 10)))) (fun _ i _ => 20 - (intOf i).toNat)
  case atStart => exact ⟨0, 1, by omega, rfl, rfl, rfl, hid (grown_refl _ _), hid (h.congr fun i _ => by unfold mixF; rw [if_neg (by omega)])⟩
  case round =>
    clear h
    obtain ⟨k, t, hk, HT, rfl, rfl, hg, hP⟩ := hrel
    by_cases hlt : k < n
    · have hk1 : (k : Int) < n := by omega
      go_wp2
      go_loopw [1, 6] (fun m i wx => ∃ j t : Nat, j ≤ 10 ∧ Hid (1 + k * 10 + j = t) ∧ m = .int .i64 t ∧ i = .int .i64 j ∧ Hid (w.grownBy wx (some b)) ∧ Hid (PRow wx b n (mixF F (k * 10 + j)))) (fun _ i _ => 20 - (intOf i).toNat)
      case atStart => exact ⟨0, t, by omega, HT, rfl, rfl, hg, hP⟩
      case round =>
        clear hg hP HT
        obtain ⟨j, t, hj, HT, rfl, rfl, hg, hP⟩ := hrel
        by_cases hlt2 : j < 10
        · have hj1 : (j : Int) < 10 := by omega
          have ht : t ≤ 200 := by have := HT.out; omega
          have ht1 : (t : Int) ≤ 200 := by omega
          have cc := hP.out.cell (i := k * 10 + j) (by omega)
          have fr := hP.out.frozen (k * 10 + j)
          go_wp2
          go_roundw
          case rel => exact ⟨j + 1, t + 1, by omega, hid (by have := HT.out; omega), by go_num, by go_num, hid (grown_set hg.out _ _), hid (hP.out.set (k * 10 + j) t (by omega) (fun i _ => by
            have hT := HT.out
            unfold mixF
            by_cases e : i = k * 10 + j
            · rw [if_pos (by omega), if_pos e]; congr 1; omega
            · rw [if_neg e]
              by_cases e2 : i < k * 10 + j
              · rw [if_pos e2, if_pos (by omega)]
              · rw [if_neg e2, if_neg (by omega)]))⟩
          case measure => simp [intOf]; omega
        · obtain rfl : j = 10 := by omega
          go_wp2
          go_roundw
          case rel => exact ⟨k + 1, t, by omega, hid (by have := HT.out; omega), rfl, by go_num, hg, by rw [show (k + 1) * 10 = k * 10 + 10 by omega]; exact hP⟩
          case measure => simp [intOf]; omega
    · obtain rfl : k = n := by omega
      obtain rfl : t = M := by have := HT.out; have := HM.out; omega
      go_wp2
      go_ret
      exact ⟨rfl, hg.out, hP.out.congr fun i hi => by unfold mixF mrkF; rw [if_pos hi]⟩
set_option maxHeartbeats 1000000 in
theorem markPlacesS_zero (p : Option Addr) (c : Nat) (w : World) : Calls Try.prog 34 #[.slice p 0 c, .int .i64 1] w fun e w' => e = .returned (.int .i64 1) ∧ w = w' := by
  go_enter Try.func34, Try.ntmps34
  go_wp2
  go_loop [1, 5] (fun m i => m = .int .i64 1 ∧ i = .int .i64 0) (fun _ _ => 0)
  case atStart => exact ⟨rfl, rfl⟩
  case round =>
    obtain ⟨rfl, rfl⟩ := hrel
    go_wp2
    go_ret
    exact ⟨rfl, rfl⟩
/-- v is the list of n permutations with the bytes F: no block, or a block between lo and hi. -/
def IP (w : World) (lo hi : Nat) (v : Value) (n : Nat) (F : Nat → UInt8) : Prop :=
  (v = .slice none 0 0 ∧ n = 0) ∨ ∃ g cap, v = .slice (some ⟨g, 0, none⟩) n cap ∧ lo ≤ g ∧ g < hi ∧ PRow w g n F
def GotPP (n : Nat) (F : Nat → UInt8) (z : Int) (w : World) (e : Ending) (w' : World) : Prop :=
  ∃ v, e = .returned (.tuple #[v, .int .i64 z]) ∧ Below w.heap.size w w' ∧ IP w' w.heap.size w'.heap.size v n F
theorem IP.below {w w' : World} {lo hi B n : Nat} {v : Value} {F : Nat → UInt8} (h : IP w lo hi v n F) (hb : Below B w w') (hB : hi ≤ B) : IP w' lo hi v n F := by
  rcases h with h | ⟨g, cap, e, h1, h2, h3⟩
  · exact .inl h
  · exact .inr ⟨g, cap, e, h1, h2, h3.block (hb.block g (by omega))⟩
theorem OP.got {w w' : World} {B n : Nat} {v : Value} {F : Nat → UInt8} (h : OP w' B v n F) (hn : 0 < n) (hb : Below w.heap.size w w') (hB : w.heap.size ≤ B) : GotPP n F 0 w (.returned (.tuple #[v, .int .i64 0])) w' := by
  obtain ⟨g, cap, e, h1, h2⟩ := h.form hn
  exact ⟨v, rfl, hb, .inr ⟨g, cap, e, by omega, h2.lt, h2⟩⟩
theorem GotPP.err {z : Int} {w w' : World} {e : Ending} (F : Nat → UInt8) (h : e = .returned (.tuple #[.slice none 0 0, .int .i64 z]) ∧ Below w.heap.size w w') : GotPP 0 F z w e w' := ⟨_, h.1, h.2, .inl ⟨rfl, rfl⟩⟩
theorem eqIP {w : World} {lo hi lo' hi' n : Nat} {v v' : Value} {F : Nat → UInt8} (h : IP w lo hi v n F) (h' : IP w lo' hi' v' n F) (hn : n ≤ 1000) :
    Calls Try.prog 33 #[v, v'] w fun e w' => e = .returned (.bool true) ∧ Below w.heap.size w w' := by
  rcases h with ⟨rfl, rfl⟩ | ⟨g, cap, rfl, h1, h2, h3⟩
  · rcases h' with ⟨rfl, _⟩ | ⟨g', cap', rfl, h1', h2', h3'⟩
    · exact eqPlacesS_zero _ _ _ _ _
    · exact eqPlacesS_zero _ _ _ _ _
  · rcases h' with ⟨rfl, rfl⟩ | ⟨g', cap', rfl, h1', h2', h3'⟩
    · exact eqPlacesS_zero _ _ _ _ _
    · exact eqPlacesS_same g g' _ cap cap' F w hn h3 h3'
theorem markIP {w : World} {lo hi n M : Nat} {v : Value} {F : Nat → UInt8} (h : IP w lo hi v n F) (hn : n ≤ 10) (hM : 1 + n * 10 = M) (hlo : lo ≤ w.heap.size) :
    Calls Try.prog 34 #[v, .int .i64 1] w fun e w' => e = .returned (.int .i64 M) ∧ Below lo w w' ∧ IP w' lo hi v n mrkF := by
  rcases h with ⟨rfl, rfl⟩ | ⟨g, cap, rfl, h1, h2, h3⟩
  · refine (markPlacesS_zero none 0 w).mono ?_
    rintro e w' ⟨rfl, rfl⟩
    exact ⟨by rw [← hM]; rfl, Below.refl _ _, .inl ⟨rfl, rfl⟩⟩
  · refine (markPlacesS_any g _ cap M F w hn hM h3).mono ?_
    rintro e w' ⟨rfl, hg, hr⟩
    exact ⟨rfl, ⟨hg.os, hg.tape, hg.output, hg.size, fun x hx => hg.block x (by omega) (by simp; omega)⟩, .inr ⟨g, cap, rfl, h1, h2, hr⟩⟩
end Go.Proofs.Ytbhjbllgmenbaab
