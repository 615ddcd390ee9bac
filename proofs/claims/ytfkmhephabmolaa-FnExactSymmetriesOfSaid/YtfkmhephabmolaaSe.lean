/- Proved: what SymmetriesOf returns, of program and model alike. Conditions: those that each theorem names. -/
import Derived.Test.YtfkmhephabmolaaLi
import Derived.Test.YtfkmhephabmolaaIl5
import Derived.Test.YtfkmhephabmolaaPb
import Derived.Test.YtfkmhephabmolaaPc
import Derived.Test.YtfkmhephabmolaaIt3
namespace Go.Proofs.Ytfkmhephabmolaa
set_option linter.unusedVariables false
set_option linter.unusedSimpArgs false
open Go.RowKit
/-- Is the parastrophe with the number k equal to the square? -/
def paB (g : Nat → UInt8) (N k : Nat) : Bool := eqS N N (paF g N k) g
/-- The symmetries before k. -/
def symL (g : Nat → UInt8) (N k : Nat) : List Int := ((List.range k).filter (fun (j : Nat) => paB g N j)).map (fun (j : Nat) => (j : Int))
theorem symL_yes {g : Nat → UInt8} {N k : Nat} (h : paB g N k = true) : symL g N (k + 1) = symL g N k ++ [(k : Int)] := by simp [symL, List.range_succ, h]
theorem symL_no {g : Nat → UInt8} {N k : Nat} (h : paB g N k = false) : symL g N (k + 1) = symL g N k := by simp [symL, List.range_succ, h]
theorem symL_len (g : Nat → UInt8) (N k : Nat) : (symL g N k).length ≤ k := by
  unfold symL
  rw [List.length_map]
  exact Nat.le_trans (List.length_filter_le _ _) (by simp)
/-- The numbers l as cells. -/
def icells (l : List Int) : List Value := l.map fun z => .int .i64 z
theorem IL.lower {w : World} {lo lo' hi : Nat} {v : Value} {l : List Int} (h : IL w lo hi v l) (hl : lo' ≤ lo) : IL w lo' hi v l := by
  rcases h with h | ⟨g, cap, e, h1, h2, h3⟩
  · exact .inl h
  · exact .inr ⟨g, cap, e, by omega, h2, h3⟩
/-- v is a list of its own, made behind B, of the numbers l. -/
def OL (w : World) (B : Nat) (v : Value) (l : List Int) : Prop := w.ownsRow B 2 1 v l.length (icells l)
theorem OL.below {w w' : World} {B : Nat} {v : Value} {l : List Int} (h : OL w B v l) (hb : Below w.heap.size w w') : OL w' B v l := own_kept h hb.block
theorem OL.drew {w : World} {B : Nat} {v : Value} {l : List Int} (h : OL w B v l) : OL w.drew B v l := World.ownsRow.drew h
theorem OL.add {w' : World} {B g cap : Nat} {l : List Int} {z : Int} (h : w'.ownsRow B 2 1 (.slice (some ⟨g, 0, none⟩) (l.length + 1) cap) (l.length + 1) (icells l ++ [.int .i64 z])) : OL w' B (.slice (some ⟨g, 0, none⟩) (l.length + 1) cap) (l ++ [z]) := by
  unfold OL icells at *
  simpa using h
theorem OL.made {w : World} {B c : Nat} (h : B ≤ w.heap.size) (hc : c ≤ 1000) (cur : Array Value) (hs : cur.size = c) : OL (w.alloc (.cells cur 2)) B (.slice (some ⟨w.heap.size, 0, none⟩) 0 c) [] :=
  World.ownsRow_made w cur c h (by unfold maxLen; omega) (by omega)
theorem OL.nil (w : World) (B : Nat) : OL w B (.slice none 0 0) [] := World.ownsRow_nil _ _ _ _
theorem OL.got {w w' : World} {B : Nat} {v : Value} {l : List Int} (h : OL w' B v l) (hb : Below w.heap.size w w') (hB : w.heap.size ≤ B) : GotL l 0 w (.returned (.tuple #[v, .int .i64 0])) w' :=
  ⟨v, rfl, hb, (IL.of_own h).lower hB⟩
set_option maxRecDepth 20000 in
theorem specSymmetriesOf_no (o : Int) (g : Nat → UInt8) (w : World) (hs : sqB o g = false) :
    Calls Try.prog 20 #[.agg (sqc o g)] w fun e w' => e = .returned (.tuple #[.slice none 0 0, .int .i64 1]) ∧ Below w.heap.size w w' := by
  have hH := Has.start1 w (sqc o g) 30
  go_enter Try.func20, Try.ntmps20
  go_wp2_with (first | (refine wpL_loadFull rfl rfl rfl rowSq hH.h0 (sqc_size _ _) ?_) | (go_at_call 45; refine (l01Is_any o g _).mono ?_; rintro e w2 ⟨rfl, hb⟩; replace hH := hH.call' hb; rw [hs]))
  go_ret2
  exact ⟨rfl, hH.below⟩
set_option maxRecDepth 20000 in
theorem implSymmetriesOf_no (o : Int) (g : Nat → UInt8) (w : World) (hs : sqB o g = false) :
    Calls Try.prog 21 #[.agg (sqc o g)] w fun e w' => e = .returned (.tuple #[.slice none 0 0, .int .i64 1]) ∧ Below w.heap.size w w' := by
  have hH := Has.start1 w (sqc o g) 30
  go_enter Try.func21, Try.ntmps21
  go_wp2_with (first | (refine wpL_loadFull rfl rfl rfl rowSq hH.h0 (sqc_size _ _) ?_) | (go_at_call 47; refine (IsSquare_any o g _).mono ?_; rintro e w2 ⟨rfl, hb⟩; replace hH := hH.call' hb; rw [hs]))
  go_ret2
  exact ⟨rfl, hH.below⟩
set_option maxRecDepth 20000 in
set_option maxHeartbeats 4000000 in
theorem specSymmetriesOf_yes (N : Nat) (g : Nat → UInt8) (w : World) (hs : sqB (N : Int) g = true) (hq : IsSq N g) :
    Calls Try.prog 20 #[.agg (sqc N g)] w (GotL (symL g N 6) 0 w) := by
  have HQ := hid hq
  clear hq
  have hH := Has.start1 w (sqc N g) 30
  go_enter Try.func20, Try.ntmps20
  go_wp2_with (first | (refine wpL_loadFull rfl rfl rfl rowSq hH.h0 (sqc_size _ _) ?_) | (go_at_call 45; refine (l01Is_any N g _).mono ?_; rintro e w2 ⟨rfl, hb⟩; replace hH := hH.call' hb; clear hb; rw [hs]))
  go_loopw [4, 5] (fun v i wr => ∃ k : Nat, k ≤ 6 ∧ i = .int .i64 k ∧ Has w wr [(sqc N g, 30)] ∧ Hid (OL wr (w.heap.size + 1) v (symL g N k))) (fun _ i _ => 10 - (intOf i).toNat)
  case atStart => exact ⟨0, by omega, rfl, hH.alloc _, hid (OL.made (by have := hH.size; simpa using this) (by omega) #[] rfl)⟩
  case round =>
    clear hH
    obtain ⟨k, hk, rfl, hH, hO⟩ := hrel
    have hsz := hH.size
    simp only [List.length_cons, List.length_nil] at hsz
    have hlen := symL_len g N k
    by_cases hlt : k < 6
    · have hk6 : (k : Int) < 6 := by omega
      cases he : eqS N N (paF g N k) g with
      | true =>
        have HE := hid he
        clear he
        go_wp2
        refine wp_region_frame (X := Unit) (fun d _ => [(14, bif d 0 then .agg (sqc N g) else u14), (15, bif d 1 then .int .i64 k else u15), (16, bif d 2 then .agg (sqc N (paF g N k)) else u16), (17, bif d 3 then .agg (sqc N g) else u17), (18, bif d 4 then .bool true else u18)])
          (fun d _ w' => Has w w' [(sqc N g, 30)] ∧ Hid (OL w' (w.heap.size + 1) u4 (symL g N k))) (by kernel_rfl) (by kernel_rfl) ?h0_sy ?hs_sy ?hq_sy
        case h0_sy => exact ⟨(), (by simp [lput]), hH.drew, hid hO.out.drew⟩
        case hs_sy =>
          refine ⟨?_, ?_, ?_, ?_, ?_, trivial⟩
          all_goals
            clear hH hO
            intro d _ w1 hd hn hJ
            simp only [needs, Region.binds, reduceCtorEq, Bool.false_eq_true, false_implies, true_and, and_true, true_implies, forall_const] at hn
            simp only [lput, List.set, hn, cond_true]
            obtain ⟨hH, hO⟩ := hJ
            go_wp2_with (first | fail | (refine wpL_loadFull rfl rfl rfl rowSq hH.h0 (sqc_size _ _) ?_) | (go_at_call 49; refine (l03Parastrophe_any N k g _ HQ.out hlt).mono ?_; rintro e w3 ⟨rfl, hb⟩; replace hH := hH.call' hb; replace hO := hid (hO.out.below hb); clear hb) | (refine wpL_eqlAgg (b := true) rfl rfl rfl rfl gdSq (by rw [eqSq, HE.out]) ?_))
            first
              | (refine ⟨(), ?_, hH, hO⟩; (simp [lput, done, hn]; done))
              | (refine ⟨?_, hH, hO⟩; (simp [lput, done, hn]; done))
              | (refine ⟨(), ?_, hH, hO⟩; (simp [lput, done, hn]; rfl))
              | (refine ⟨?_, hH, hO⟩; (simp [lput, done, hn]; rfl))
              | (refine ⟨(), ?_, hH, hO⟩; (simp [lput, done]; done))
              | (refine ⟨?_, hH, hO⟩; (simp [lput, done]; done))
              | (refine ⟨(), ?_, hH, hO⟩; (simp [lput, done]; rfl))
              | (refine ⟨?_, hH, hO⟩; (simp [lput, done]; rfl))
        case hq_sy =>
          clear hH hO
          intro d _ w1 hd hJ
          simp only [allDone, List.length_cons, List.length_nil, Nat.reduceAdd, and_true] at hd
          obtain ⟨hH, hO⟩ := hJ
          simp only [lput, List.set, hd, cond_true]
          clear hd
          have hs1 := hH.size
          simp only [List.length_cons, List.length_nil] at hs1
          go_wp2_with (refine wpL_appI (v := u4) (n := (symL g N k).length) (base := w.heap.size + 1) (z := (k : Int)) rfl (by rfl) (by rfl) (by rfl) (World.ownsRow.alloc hO.out _) ?_ (by omega) ?_ ?_)
          · simp
          · simp; omega
          · intro r cap w2 how hg hor hlt3
            have hO2 := hid (OL.add how)
            replace hH := (hH.alloc _).grown hg (fun x hx => by have := (World.ownsRow.lt hO.out x hx).1; simp; omega)
            rw [← symL_yes (show paB g N k = true from HE.out)] at hO2
            clear how hg hor hlt3 hs1
            go_wp2
            go_roundw
            case rel => exact ⟨k + 1, by omega, by go_num, hH, hO2⟩
            case measure => simp [intOf]; omega
      | false =>
        have HE := hid he
        clear he
        go_wp2
        refine wp_region_frame (X := Unit) (fun d _ => [(14, bif d 0 then .agg (sqc N g) else u14), (15, bif d 1 then .int .i64 k else u15), (16, bif d 2 then .agg (sqc N (paF g N k)) else u16), (17, bif d 3 then .agg (sqc N g) else u17), (18, bif d 4 then .bool false else u18)])
          (fun d _ w' => Has w w' [(sqc N g, 30)] ∧ Hid (OL w' (w.heap.size + 1) u4 (symL g N k))) (by kernel_rfl) (by kernel_rfl) ?h0_sn ?hs_sn ?hq_sn
        case h0_sn => exact ⟨(), (by simp [lput]), hH.drew, hid hO.out.drew⟩
        case hs_sn =>
          refine ⟨?_, ?_, ?_, ?_, ?_, trivial⟩
          all_goals
            clear hH hO
            intro d _ w1 hd hn hJ
            simp only [needs, Region.binds, reduceCtorEq, Bool.false_eq_true, false_implies, true_and, and_true, true_implies, forall_const] at hn
            simp only [lput, List.set, hn, cond_true]
            obtain ⟨hH, hO⟩ := hJ
            go_wp2_with (first | fail | (refine wpL_loadFull rfl rfl rfl rowSq hH.h0 (sqc_size _ _) ?_) | (go_at_call 49; refine (l03Parastrophe_any N k g _ HQ.out hlt).mono ?_; rintro e w3 ⟨rfl, hb⟩; replace hH := hH.call' hb; replace hO := hid (hO.out.below hb); clear hb) | (refine wpL_eqlAgg (b := false) rfl rfl rfl rfl gdSq (by rw [eqSq, HE.out]) ?_))
            first
              | (refine ⟨(), ?_, hH, hO⟩; (simp [lput, done, hn]; done))
              | (refine ⟨?_, hH, hO⟩; (simp [lput, done, hn]; done))
              | (refine ⟨(), ?_, hH, hO⟩; (simp [lput, done, hn]; rfl))
              | (refine ⟨?_, hH, hO⟩; (simp [lput, done, hn]; rfl))
              | (refine ⟨(), ?_, hH, hO⟩; (simp [lput, done]; done))
              | (refine ⟨?_, hH, hO⟩; (simp [lput, done]; done))
              | (refine ⟨(), ?_, hH, hO⟩; (simp [lput, done]; rfl))
              | (refine ⟨?_, hH, hO⟩; (simp [lput, done]; rfl))
        case hq_sn =>
          clear hH hO
          intro d _ w1 hd hJ
          simp only [allDone, List.length_cons, List.length_nil, Nat.reduceAdd, and_true] at hd
          obtain ⟨hH, hO⟩ := hJ
          simp only [lput, List.set, hd, cond_true]
          clear hd
          have hO2 := hid hO.out
          rw [← symL_no (show paB g N k = false from HE.out)] at hO2
          go_wp2
          go_roundw
          case rel => exact ⟨k + 1, by omega, by go_num, hH, hO2⟩
          case measure => simp [intOf]; omega
    · obtain rfl : k = 6 := by omega
      have hG := hid (hO.out.got hH.below (by omega))
      go_wp2
      go_ret2
      exact hG.out
set_option maxRecDepth 20000 in
set_option maxHeartbeats 4000000 in
theorem implSymmetriesOf_yes (N : Nat) (g : Nat → UInt8) (w : World) (hs : sqB (N : Int) g = true) (hq : IsSq N g) :
    Calls Try.prog 21 #[.agg (sqc N g)] w (GotL (symL g N 6) 0 w) := by
  have HQ := hid hq
  clear hq
  have hH := Has.start1 w (sqc N g) 30
  go_enter Try.func21, Try.ntmps21
  go_wp2_with (first | (refine wpL_loadFull rfl rfl rfl rowSq hH.h0 (sqc_size _ _) ?_) | (go_at_call 47; refine (IsSquare_any N g _).mono ?_; rintro e w2 ⟨rfl, hb⟩; replace hH := hH.call' hb; clear hb; rw [hs]) | (go_at_call 50; refine (divide_any N g _ HQ.out).mono ?_; rintro e w3 ⟨gb, rfl, hb, hgb, hlo⟩; replace hH := hH.call' hb; clear hb))
  have hglt := holds_lt hgb
  obtain ⟨B, hB⟩ : ∃ B, w3.heap.size = B := ⟨_, rfl⟩
  have hB1 : w.heap.size + 1 ≤ B := by have := hH.size; simp only [List.length_cons, List.length_nil] at this; omega
  have hB2 : B ≤ w3.heap.size := by omega
  rw [hB] at hglt
  clear hB hlo
  go_loopw [4, 12] (fun v i wr => ∃ k : Nat, k ≤ 6 ∧ i = .int .i64 k ∧ Has w wr [(sqc N g, 30)] ∧ Hid (OL wr B v (symL g N k)) ∧ B ≤ wr.heap.size ∧ holds wr gb (dvc N g (unF g N) (ovF g N)) 97) (fun _ i _ => 10 - (intOf i).toNat)
  case atStart => exact ⟨0, by omega, rfl, hH, hid (OL.nil _ _), hB2, hgb⟩
  case round =>
    clear hH hgb hB2
    obtain ⟨k, hk, rfl, hH, hO, hB2, hgb⟩ := hrel
    have hsz := hH.size
    simp only [List.length_cons, List.length_nil] at hsz
    have hlen := symL_len g N k
    by_cases hlt : k < 6
    · have hk6 : (k : Int) < 6 := by omega
      cases he : eqS N N (paF g N k) g with
      | true =>
        have HE := hid he
        clear he
        go_wp2
        refine wp_region_frame (X := Unit) (fun d _ => [(15, bif d 0 then .pointer (some ⟨gb, 0, none⟩) else u15), (16, bif d 1 then .int .i64 k else u16), (17, bif d 2 then .agg (sqc N (paF g N k)) else u17), (18, bif d 3 then .agg (sqc N g) else u18), (19, bif d 4 then .bool true else u19)])
          (fun d _ w' => Has w w' [(sqc N g, 30)] ∧ holds w' gb (dvc N g (unF g N) (ovF g N)) 97 ∧ B ≤ w'.heap.size ∧ Hid (OL w' B u4 (symL g N k))) (by kernel_rfl) (by kernel_rfl) ?h0_sy ?hs_sy ?hq_sy
        case h0_sy => exact ⟨(), (by simp [lput]), hH.drew, (show _ from hgb), (show _ from hB2), hid hO.out.drew⟩
        case hs_sy =>
          refine ⟨?_, ?_, ?_, ?_, ?_, trivial⟩
          all_goals
            clear hH hgb hB2 hO
            intro d _ w1 hd hn hJ
            simp only [needs, Region.binds, reduceCtorEq, Bool.false_eq_true, false_implies, true_and, and_true, true_implies, forall_const] at hn
            simp only [lput, List.set, hn, cond_true]
            obtain ⟨hH, hgb, hB2, hO⟩ := hJ
            go_wp2_with (first | fail | (refine wpL_loadFull rfl rfl rfl rowSq hH.h0 (sqc_size _ _) ?_) | (go_at_call 51; refine (parastrophe_any N k gb g _ HQ.out hlt hgb).mono ?_; rintro e w4 ⟨rfl, hb⟩; replace hH := hH.call' hb; replace hO := hid (hO.out.below hb); replace hgb := holds_below hgb hb (holds_lt hgb); replace hB2 := Nat.le_trans hB2 hb.size; clear hb) | (refine wpL_eqlAgg (b := true) rfl rfl rfl rfl gdSq (by rw [eqSq, HE.out]) ?_))
            first
              | (refine ⟨(), ?_, hH, hgb, hB2, hO⟩; (simp [lput, done, hn]; done))
              | (refine ⟨?_, hH, hgb, hB2, hO⟩; (simp [lput, done, hn]; done))
              | (refine ⟨(), ?_, hH, hgb, hB2, hO⟩; (simp [lput, done, hn]; rfl))
              | (refine ⟨?_, hH, hgb, hB2, hO⟩; (simp [lput, done, hn]; rfl))
              | (refine ⟨(), ?_, hH, hgb, hB2, hO⟩; (simp [lput, done]; done))
              | (refine ⟨?_, hH, hgb, hB2, hO⟩; (simp [lput, done]; done))
              | (refine ⟨(), ?_, hH, hgb, hB2, hO⟩; (simp [lput, done]; rfl))
              | (refine ⟨?_, hH, hgb, hB2, hO⟩; (simp [lput, done]; rfl))
        case hq_sy =>
          clear hH hgb hB2 hO
          intro d _ w1 hd hJ
          simp only [allDone, List.length_cons, List.length_nil, Nat.reduceAdd, and_true] at hd
          obtain ⟨hH, hgb, hB2, hO⟩ := hJ
          simp only [lput, List.set, hd, cond_true]
          clear hd
          have hs1 := hH.size
          simp only [List.length_cons, List.length_nil] at hs1
          go_wp2_with (refine wpL_appI (v := u4) (n := (symL g N k).length) (base := B) (z := (k : Int)) rfl (by rfl) (by rfl) (by rfl) (World.ownsRow.alloc hO.out _) ?_ (by omega) ?_ ?_)
          · simp
          · simp; omega
          · intro r cap w2 how hg hor hlt3
            have hO2 := hid (OL.add how)
            replace hgb := holds_grown (holds_alloc hgb _) hg (fun e => by have := (World.ownsRow.lt hO.out gb (by simpa using e)).1; omega)
            replace hB2 : B ≤ w2.heap.size := by have := hg.size; simp at this; omega
            replace hH := (hH.alloc _).grown hg (fun x hx => by have := (World.ownsRow.lt hO.out x hx).1; simp; omega)
            rw [← symL_yes (show paB g N k = true from HE.out)] at hO2
            clear how hg hor hlt3 hs1
            go_wp2
            go_roundw
            case rel => exact ⟨k + 1, by omega, by go_num, hH, hO2, hB2, hgb⟩
            case measure => simp [intOf]; omega
      | false =>
        have HE := hid he
        clear he
        go_wp2
        refine wp_region_frame (X := Unit) (fun d _ => [(15, bif d 0 then .pointer (some ⟨gb, 0, none⟩) else u15), (16, bif d 1 then .int .i64 k else u16), (17, bif d 2 then .agg (sqc N (paF g N k)) else u17), (18, bif d 3 then .agg (sqc N g) else u18), (19, bif d 4 then .bool false else u19)])
          (fun d _ w' => Has w w' [(sqc N g, 30)] ∧ holds w' gb (dvc N g (unF g N) (ovF g N)) 97 ∧ B ≤ w'.heap.size ∧ Hid (OL w' B u4 (symL g N k))) (by kernel_rfl) (by kernel_rfl) ?h0_sn ?hs_sn ?hq_sn
        case h0_sn => exact ⟨(), (by simp [lput]), hH.drew, (show _ from hgb), (show _ from hB2), hid hO.out.drew⟩
        case hs_sn =>
          refine ⟨?_, ?_, ?_, ?_, ?_, trivial⟩
          all_goals
            clear hH hgb hB2 hO
            intro d _ w1 hd hn hJ
            simp only [needs, Region.binds, reduceCtorEq, Bool.false_eq_true, false_implies, true_and, and_true, true_implies, forall_const] at hn
            simp only [lput, List.set, hn, cond_true]
            obtain ⟨hH, hgb, hB2, hO⟩ := hJ
            go_wp2_with (first | fail | (refine wpL_loadFull rfl rfl rfl rowSq hH.h0 (sqc_size _ _) ?_) | (go_at_call 51; refine (parastrophe_any N k gb g _ HQ.out hlt hgb).mono ?_; rintro e w4 ⟨rfl, hb⟩; replace hH := hH.call' hb; replace hO := hid (hO.out.below hb); replace hgb := holds_below hgb hb (holds_lt hgb); replace hB2 := Nat.le_trans hB2 hb.size; clear hb) | (refine wpL_eqlAgg (b := false) rfl rfl rfl rfl gdSq (by rw [eqSq, HE.out]) ?_))
            first
              | (refine ⟨(), ?_, hH, hgb, hB2, hO⟩; (simp [lput, done, hn]; done))
              | (refine ⟨?_, hH, hgb, hB2, hO⟩; (simp [lput, done, hn]; done))
              | (refine ⟨(), ?_, hH, hgb, hB2, hO⟩; (simp [lput, done, hn]; rfl))
              | (refine ⟨?_, hH, hgb, hB2, hO⟩; (simp [lput, done, hn]; rfl))
              | (refine ⟨(), ?_, hH, hgb, hB2, hO⟩; (simp [lput, done]; done))
              | (refine ⟨?_, hH, hgb, hB2, hO⟩; (simp [lput, done]; done))
              | (refine ⟨(), ?_, hH, hgb, hB2, hO⟩; (simp [lput, done]; rfl))
              | (refine ⟨?_, hH, hgb, hB2, hO⟩; (simp [lput, done]; rfl))
        case hq_sn =>
          clear hH hgb hB2 hO
          intro d _ w1 hd hJ
          simp only [allDone, List.length_cons, List.length_nil, Nat.reduceAdd, and_true] at hd
          obtain ⟨hH, hgb, hB2, hO⟩ := hJ
          simp only [lput, List.set, hd, cond_true]
          clear hd
          have hO2 := hid hO.out
          rw [← symL_no (show paB g N k = false from HE.out)] at hO2
          go_wp2
          go_roundw
          case rel => exact ⟨k + 1, by omega, by go_num, hH, hO2, hB2, hgb⟩
          case measure => simp [intOf]; omega
    · obtain rfl : k = 6 := by omega
      have hG := hid (hO.out.got hH.below (by omega))
      go_wp2
      go_ret2
      exact hG.out
end Go.Proofs.Ytfkmhephabmolaa
