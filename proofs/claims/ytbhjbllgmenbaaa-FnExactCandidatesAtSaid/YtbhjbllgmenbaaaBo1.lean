/- Proved: what the program's put does to a board. Conditions: those that each theorem names. -/
import Derived.Test.YtbhjbllgmenbaaaBo0
import Derived.Test.YtbhjbllgmenbaaaSq5
namespace Go.Proofs.Ytbhjbllgmenbaaa
set_option linter.unusedVariables false
set_option linter.unusedSimpArgs false
open Go.RowKit
theorem grown_drew {w w1 : World} {r : Option Nat} (h : w.grownBy w1 r) : w.grownBy w1.drew r := ⟨h.os, h.tape, h.output, h.size, h.block⟩
/-- What a number put in a cell makes of table and marks. -/
def putT (T : Nat → UInt8) (k : Nat) (z : UInt8) : Nat → UInt8 := fun j => if j = k then z else T j
def putB (F : Nat → Bool) (k : Nat) : Nat → Bool := fun j => if j = k then true else F j
theorem imp_nb {p q : Bool} (h : p = true → q = true) (hq : q = false) : p = false := by
  cases p with
  | false => rfl
  | true => rw [h rfl] at hq; cases hq
theorem pickb_f {q : Bool} {w : World} {g : Nat} {t : TypeId} {a c : Array Value} (hq : q = false) (h : holds w g (bif q then a else c) t) : holds w g c t := by subst hq; exact h
theorem pickb_t {p : Bool} {w : World} {g : Nat} {t : TypeId} {b c : Array Value} (hp : p = true) (h : holds w g (bif p then b else c) t) : holds w g b t := by subst hp; exact h
theorem mkb_f {q : Bool} {w : World} {g : Nat} {t : TypeId} {a c : Array Value} (hq : q = false) (h : holds w g c t) : holds w g (bif q then a else c) t := by subst hq; exact h
theorem mkb_t {p : Bool} {w : World} {g : Nat} {t : TypeId} {b c : Array Value} (hp : p = true) (h : holds w g b t) : holds w g (bif p then b else c) t := by subst hp; exact h
set_option maxRecDepth 100000 in
set_option maxHeartbeats 4000000 in
theorem put_any (N : Int) (gB x y : Nat) (T : Nat → UInt8) (F R C : Nat → Bool) (z : UInt8) (w : World) (hx : x < 10) (hy : y < 10) (hz : z.toNat < 10) (hg : holds w gB (bdc N T F R C) 81) :
    Calls Try.prog 109 #[.pointer (some ⟨gB, 0, none⟩), .agg #[.int .i64 x, .int .i64 y], .int .u8 z.toNat] w fun e w' => e = .returned (.tuple #[]) ∧ w.grownBy w' (some gB) ∧ holds w' gB (bdc N (putT T (x * 10 + y) z) (putB F (x * 10 + y)) (putB R (x * 10 + z.toNat)) (putB C (y * 10 + z.toNat))) 81 := by
  have hx10 : (x : Int) < 10 := by omega
  have hy10 : (y : Int) < 10 := by omega
  have hz10 : (z.toNat : Int) < 10 := by omega
  have hG := hid (show w.grownBy (w.alloc (.cells #[.int .i64 (x : Nat), .int .i64 (y : Nat)] 87)) (some gB) from ⟨rfl, rfl, rfl, by simp, fun k hk _ => heap_alloc_old w _ hk⟩)
  have hK : holds (w.alloc (.cells #[.int .i64 (x : Nat), .int .i64 (y : Nat)] 87)) w.heap.size #[.int .i64 (x : Nat), .int .i64 (y : Nat)] 87 := holds_new _ _ _
  have hne : w.heap.size ≠ gB := by have := holds_lt hg; omega
  replace hg := holds_alloc hg (.cells #[.int .i64 (x : Nat), .int .i64 (y : Nat)] 87)
  have HT := hid (bdc_setT (N := N) (T := T) (T' := putT T (x * 10 + y) z) (F := F) (R := R) (C := C) (k := x * 10 + y) (z := z) (by omega) (fun _ => rfl))
  have HF := hid (bdc_setF (N := N) (T := putT T (x * 10 + y) z) (F := F) (F' := putB F (x * 10 + y)) (R := R) (C := C) (k := x * 10 + y) (by omega) (fun _ => rfl))
  have HR := hid (fun C => bdc_setR (N := N) (T := putT T (x * 10 + y) z) (F := putB F (x * 10 + y)) (R := R) (R' := putB R (x * 10 + z.toNat)) (C := C) (k := x * 10 + z.toNat) (by omega) (fun _ => rfl))
  have HC := hid (fun R => bdc_setC (N := N) (T := putT T (x * 10 + y) z) (F := putB F (x * 10 + y)) (R := R) (C := C) (C' := putB C (y * 10 + z.toNat)) (k := y * 10 + z.toNat) (by omega) (fun _ => rfl))
  obtain ⟨T1, hT1⟩ : ∃ f, putT T (x * 10 + y) z = f := ⟨_, rfl⟩
  obtain ⟨F1, hF1⟩ : ∃ f, putB F (x * 10 + y) = f := ⟨_, rfl⟩
  obtain ⟨R1, hR1⟩ : ∃ f, putB R (x * 10 + z.toNat) = f := ⟨_, rfl⟩
  obtain ⟨C1, hC1⟩ : ∃ f, putB C (y * 10 + z.toNat) = f := ⟨_, rfl⟩
  rw [hT1] at HT HF HR HC
  rw [hF1] at HF HR HC
  rw [hR1] at HR
  rw [hC1] at HC
  rw [hT1, hF1, hR1, hC1]
  clear hT1 hF1 hR1 hC1
  go_enter Try.func109, Try.ntmps109
  go_wp2
  refine wp_region_frame (X := Unit) (fun d _ => [(6, bif d 0 then .pointer (some ⟨gB, 0, none⟩) else undef), (7, bif d 1 then .pointer (some ⟨w.heap.size, 0, none⟩) else undef), (8, bif d 2 then .int .i64 x else undef), (9, bif d 3 then .pointer (some ⟨w.heap.size, 1, none⟩) else undef), (10, bif d 4 then .int .i64 y else undef), (11, bif d 5 then .int .u8 z.toNat else undef), (12, bif d 6 then .pointer (some ⟨gB, 0, none⟩) else undef), (13, bif d 7 then .pointer (some ⟨gB, 0, none⟩) else undef), (14, bif d 8 then .pointer (some ⟨gB, 1, none⟩) else undef), (15, bif d 9 then .pointer (some ⟨gB, 1 + x * 10, none⟩) else undef), (16, bif d 10 then .pointer (some ⟨gB, 1 + x * 10 + y, none⟩) else undef)])
    (fun d _ w' => Hid (w.grownBy w' (some gB)) ∧ holds w' w.heap.size #[.int .i64 (x : Nat), .int .i64 (y : Nat)] 87 ∧ holds w' gB (bif d 11 then bdc N T1 F R C else bdc N T F R C) 81) (by kernel_rfl) (by kernel_rfl) ?h0_pa ?hs_pa ?hq_pa
  case h0_pa => exact ⟨(), (by simp [lput]), hid (grown_drew hG.out), (show _ from hK), (show _ from hg)⟩
  case hs_pa =>
    refine ⟨?_, ?_, ?_, ?_, ?_, ?_, ?_, ?_, ?_, ?_, ?_, ?_, trivial⟩
    all_goals
      clear hG hK hg
      intro d _ w1 hd hn hJ
      simp only [needs, Region.binds, reduceCtorEq, Bool.false_eq_true, false_implies, true_and, and_true, true_implies, forall_const] at hn
      simp only [lput, List.set, hn, cond_true]
      try simp only [hd, cond_false] at hJ
      obtain ⟨hG, hK, hg⟩ := hJ
      have c0 : w1.cell? ⟨w.heap.size, 0, none⟩ = some (.int .i64 (x : Nat)) := by rw [holds_cell hK]; rfl
      have c1 : w1.cell? ⟨w.heap.size, 1, none⟩ = some (.int .i64 (y : Nat)) := by rw [holds_cell hK]; rfl
      go_wp2_with (first | fail | (refine wpL_cellB (x := .tmp 16) (g := gB) (v := .int .u8 z.toNat) (cs' := bdc N T1 F R C) (off := 1 + x * 10 + y) rfl rfl rfl rfl (by kernel_rfl) (by rfl) hg (by rw [bdc_size]; omega) (by rw [Nat.add_assoc]; exact HT.out) ?_; replace hG := hid (grown_row hG.out (bdc N T1 F R C)); replace hK := holds_row_other (cs' := bdc N T1 F R C) hK hne; replace hg := holds_row (cs' := bdc N T1 F R C) hg))
      first
        | (refine ⟨(), ?_, hG, hK, hg⟩; (simp [lput, done, hn]; done))
        | (refine ⟨?_, hG, hK, hg⟩; (simp [lput, done, hn]; done))
        | (refine ⟨(), ?_, hG, hK, hg⟩; (simp [lput, done, hn]; rfl))
        | (refine ⟨?_, hG, hK, hg⟩; (simp [lput, done, hn]; rfl))
        | (refine ⟨(), ?_, hG, hK, hg⟩; (simp [lput, done]; done))
        | (refine ⟨?_, hG, hK, hg⟩; (simp [lput, done]; done))
        | (refine ⟨(), ?_, hG, hK, hg⟩; (simp [lput, done]; rfl))
        | (refine ⟨?_, hG, hK, hg⟩; (simp [lput, done]; rfl))
  case hq_pa =>
    clear hG hK hg
    intro d _ w1 hd hJ
    simp only [allDone, List.length_cons, List.length_nil, Nat.reduceAdd, and_true] at hd
    obtain ⟨hG, hK, hg⟩ := hJ
    simp only [hd, cond_true] at hg
    simp only [lput, List.set, hd, cond_true]
    clear hd
    clear HT
    go_wp2
    refine wp_region_frame (X := Unit) (fun d _ => [(17, bif d 0 then .pointer (some ⟨gB, 0, none⟩) else undef), (18, bif d 1 then .pointer (some ⟨w.heap.size, 0, none⟩) else undef), (19, bif d 2 then .int .i64 x else undef), (20, bif d 3 then .pointer (some ⟨w.heap.size, 1, none⟩) else undef), (21, bif d 4 then .int .i64 y else undef), (22, bif d 5 then .pointer (some ⟨gB, 0, none⟩) else undef), (23, bif d 6 then .pointer (some ⟨gB, 101, none⟩) else undef), (24, bif d 7 then .pointer (some ⟨gB, 101 + x * 10, none⟩) else undef), (25, bif d 8 then .pointer (some ⟨gB, 101 + x * 10 + y, none⟩) else undef)])
      (fun d _ w' => Hid (w.grownBy w' (some gB)) ∧ holds w' w.heap.size #[.int .i64 (x : Nat), .int .i64 (y : Nat)] 87 ∧ holds w' gB (bif d 9 then bdc N T1 F1 R C else bdc N T1 F R C) 81) (by kernel_rfl) (by kernel_rfl) ?h0_pb ?hs_pb ?hq_pb
    case h0_pb => exact ⟨(), (by simp [lput]), hid (grown_drew hG.out), (show _ from hK), (show _ from hg)⟩
    case hs_pb =>
      refine ⟨?_, ?_, ?_, ?_, ?_, ?_, ?_, ?_, ?_, ?_, trivial⟩
      all_goals
        clear hG hK hg
        intro d _ w1 hd hn hJ
        simp only [needs, Region.binds, reduceCtorEq, Bool.false_eq_true, false_implies, true_and, and_true, true_implies, forall_const] at hn
        simp only [lput, List.set, hn, cond_true]
        try simp only [hd, cond_false] at hJ
        obtain ⟨hG, hK, hg⟩ := hJ
        have c0 : w1.cell? ⟨w.heap.size, 0, none⟩ = some (.int .i64 (x : Nat)) := by rw [holds_cell hK]; rfl
        have c1 : w1.cell? ⟨w.heap.size, 1, none⟩ = some (.int .i64 (y : Nat)) := by rw [holds_cell hK]; rfl
        go_wp2_with (first | fail | (refine wpL_cellB (x := .tmp 25) (g := gB) (v := .bool true) (cs' := bdc N T1 F1 R C) (off := 101 + x * 10 + y) rfl rfl rfl rfl (by kernel_rfl) (by rfl) hg (by rw [bdc_size]; omega) (by rw [Nat.add_assoc]; exact HF.out) ?_; replace hG := hid (grown_row hG.out (bdc N T1 F1 R C)); replace hK := holds_row_other (cs' := bdc N T1 F1 R C) hK hne; replace hg := holds_row (cs' := bdc N T1 F1 R C) hg))
        first
          | (refine ⟨(), ?_, hG, hK, hg⟩; (simp [lput, done, hn]; done))
          | (refine ⟨?_, hG, hK, hg⟩; (simp [lput, done, hn]; done))
          | (refine ⟨(), ?_, hG, hK, hg⟩; (simp [lput, done, hn]; rfl))
          | (refine ⟨?_, hG, hK, hg⟩; (simp [lput, done, hn]; rfl))
          | (refine ⟨(), ?_, hG, hK, hg⟩; (simp [lput, done]; done))
          | (refine ⟨?_, hG, hK, hg⟩; (simp [lput, done]; done))
          | (refine ⟨(), ?_, hG, hK, hg⟩; (simp [lput, done]; rfl))
          | (refine ⟨?_, hG, hK, hg⟩; (simp [lput, done]; rfl))
    case hq_pb =>
      clear hG hK hg
      intro d _ w1 hd hJ
      simp only [allDone, List.length_cons, List.length_nil, Nat.reduceAdd, and_true] at hd
      obtain ⟨hG, hK, hg⟩ := hJ
      simp only [hd, cond_true] at hg
      simp only [lput, List.set, hd, cond_true]
      clear hd
      clear HF
      obtain ⟨X0, hX0⟩ : ∃ X, bdc N T1 F1 R C = X := ⟨_, rfl⟩
      obtain ⟨X1, hX1⟩ : ∃ X, bdc N T1 F1 R1 C = X := ⟨_, rfl⟩
      obtain ⟨X2, hX2⟩ : ∃ X, bdc N T1 F1 R1 C1 = X := ⟨_, rfl⟩
      have HX1 := hid (show X0.setIfInBounds (201 + x * 10 + z.toNat) (.bool true) = X1 by rw [← hX0, ← hX1, Nat.add_assoc]; exact HR.out _)
      have HX2 := hid (show X1.setIfInBounds (301 + y * 10 + z.toNat) (.bool true) = X2 by rw [← hX1, ← hX2, Nat.add_assoc]; exact HC.out _)
      have HS0 : X0.size = 401 := by rw [← hX0, bdc_size]
      have HS1 : X1.size = 401 := by rw [← hX1, bdc_size]
      rw [hX0] at hg
      have HB2 := hid hX2
      clear hX0 hX1 hX2 HR HC
      go_wp2
      refine wp_region_frame (X := Unit) (fun d _ => [(26, bif d 0 then .pointer (some ⟨gB, 0, none⟩) else undef), (27, bif d 1 then .pointer (some ⟨w.heap.size, 0, none⟩) else undef), (28, bif d 2 then .int .i64 x else undef), (29, bif d 3 then .int .u8 z.toNat else undef), (30, bif d 4 then .pointer (some ⟨gB, 0, none⟩) else undef), (31, bif d 5 then .pointer (some ⟨w.heap.size, 1, none⟩) else undef), (32, bif d 6 then .int .i64 y else undef), (33, bif d 7 then .int .u8 z.toNat else undef), (34, bif d 8 then .pointer (some ⟨gB, 0, none⟩) else undef), (35, bif d 9 then .pointer (some ⟨gB, 201, none⟩) else undef), (36, bif d 10 then .pointer (some ⟨gB, 201 + x * 10, none⟩) else undef), (37, bif d 11 then .pointer (some ⟨gB, 201 + x * 10 + z.toNat, none⟩) else undef), (38, bif d 13 then .pointer (some ⟨gB, 0, none⟩) else undef), (39, bif d 14 then .pointer (some ⟨gB, 301, none⟩) else undef), (40, bif d 15 then .pointer (some ⟨gB, 301 + y * 10, none⟩) else undef), (41, bif d 16 then .pointer (some ⟨gB, 301 + y * 10 + z.toNat, none⟩) else undef)])
        (fun d _ w' => Hid (w.grownBy w' (some gB)) ∧ holds w' w.heap.size #[.int .i64 (x : Nat), .int .i64 (y : Nat)] 87 ∧ holds w' gB (bif d 17 then X2 else bif d 12 then X1 else X0) 81 ∧ (d 17 = true → d 12 = true)) (by kernel_rfl) (by kernel_rfl) ?h0_pc ?hs_pc ?hq_pc
      case h0_pc => exact ⟨(), (by simp [lput]), hid (grown_drew hG.out), (show _ from hK), (show _ from hg), (fun h => by cases h)⟩
      case hs_pc =>
        refine ⟨?_, ?_, ?_, ?_, ?_, ?_, ?_, ?_, ?_, ?_, ?_, ?_, ?_, ?_, ?_, ?_, ?_, ?_, trivial⟩
        all_goals
          clear hG hK hg
          intro d _ w1 hd hn hJ
          simp only [needs, Region.binds, reduceCtorEq, Bool.false_eq_true, false_implies, true_and, and_true, true_implies, forall_const] at hn
          simp only [lput, List.set, hn, cond_true]
          try simp only [hd, cond_false] at hJ
          obtain ⟨hG, hK, hg, I17_12⟩ := hJ
          have c0 : w1.cell? ⟨w.heap.size, 0, none⟩ = some (.int .i64 (x : Nat)) := by rw [holds_cell hK]; rfl
          have c1 : w1.cell? ⟨w.heap.size, 1, none⟩ = some (.int .i64 (y : Nat)) := by rw [holds_cell hK]; rfl
          (try have z17 : d 17 = false := imp_nb I17_12 rfl)
          (try have hg0 : holds w1 gB X0 81 := pickb_f z17 hg)
          (try have hg1 : holds w1 gB X1 81 := pickb_t (by simp only [hn]) hg)
          go_wp2_with (first | fail | (refine wpL_cellB (x := .tmp 37) (g := gB) (v := .bool true) (cs := X0) (cs' := X1) (off := 201 + x * 10 + z.toNat) rfl rfl rfl rfl (by kernel_rfl) (by rfl) hg0 (by rw [HS0]; omega) HX1.out ?_; replace hG := hid (grown_row hG.out X1); replace hK := holds_row_other (cs' := X1) hK hne; have hgn := holds_row (cs' := X1) hg0) | (refine wpL_cellB (x := .tmp 41) (g := gB) (v := .bool true) (cs := X1) (cs' := X2) (off := 301 + y * 10 + z.toNat) rfl rfl rfl rfl (by kernel_rfl) (by rfl) hg1 (by rw [HS1]; omega) HX2.out ?_; replace hG := hid (grown_row hG.out X2); replace hK := holds_row_other (cs' := X2) hK hne; have hgm := holds_row (cs' := X2) hg1))
          first
            | (refine ⟨?_, hG, hK, mkb_f (by simp [done, z17]) (mkb_t (by simp [done]) hgn), (by intro e; first | (simp [done]; done) | (simp [done, hn]; done) | (have e2 := I17_12 (done_ne e (by decide)); simp [done, e2]; done))⟩; (simp [lput, done, hn]; done))
            | (refine ⟨?_, hG, hK, mkb_t (by simp [done]) hgm, (by intro e; first | (simp [done]; done) | (simp [done, hn]; done) | (have e2 := I17_12 (done_ne e (by decide)); simp [done, e2]; done))⟩; (simp [lput, done, hn]; done))
            | (refine ⟨(), ?_, hG, hK, hg, (by intro e; first | (simp [done]; done) | (have e2 := I17_12 (done_ne e (by decide)); simp [done, e2]; done) | (simp [done, hn]; done))⟩; (simp [lput, done, hn]; done))
            | (refine ⟨?_, hG, hK, hg, (by intro e; first | (simp [done]; done) | (have e2 := I17_12 (done_ne e (by decide)); simp [done, e2]; done) | (simp [done, hn]; done))⟩; (simp [lput, done, hn]; done))
            | (refine ⟨(), ?_, hG, hK, hg, (by intro e; first | (simp [done]; done) | (have e2 := I17_12 (done_ne e (by decide)); simp [done, e2]; done) | (simp [done, hn]; done))⟩; (simp [lput, done, hn]; rfl))
            | (refine ⟨?_, hG, hK, hg, (by intro e; first | (simp [done]; done) | (have e2 := I17_12 (done_ne e (by decide)); simp [done, e2]; done) | (simp [done, hn]; done))⟩; (simp [lput, done, hn]; rfl))
            | (refine ⟨(), ?_, hG, hK, hg, (by intro e; first | (simp [done]; done) | (have e2 := I17_12 (done_ne e (by decide)); simp [done, e2]; done) | (simp [done, hn]; done))⟩; (simp [lput, done]; done))
            | (refine ⟨?_, hG, hK, hg, (by intro e; first | (simp [done]; done) | (have e2 := I17_12 (done_ne e (by decide)); simp [done, e2]; done) | (simp [done, hn]; done))⟩; (simp [lput, done]; done))
            | (refine ⟨(), ?_, hG, hK, hg, (by intro e; first | (simp [done]; done) | (have e2 := I17_12 (done_ne e (by decide)); simp [done, e2]; done) | (simp [done, hn]; done))⟩; (simp [lput, done]; rfl))
            | (refine ⟨?_, hG, hK, hg, (by intro e; first | (simp [done]; done) | (have e2 := I17_12 (done_ne e (by decide)); simp [done, e2]; done) | (simp [done, hn]; done))⟩; (simp [lput, done]; rfl))
      case hq_pc =>
        clear hG hK hg
        intro d _ w1 hd hJ
        simp only [allDone, List.length_cons, List.length_nil, Nat.reduceAdd, and_true] at hd
        obtain ⟨hG, hK, hg, I17_12⟩ := hJ
        clear I17_12
        simp only [hd, cond_true] at hg
        simp only [lput, List.set, hd, cond_true]
        clear hd
        go_wp2
        go_end0
        exact ⟨rfl, hG.out, by rw [HB2.out]; exact hg⟩
end Go.Proofs.Ytbhjbllgmenbaaa
