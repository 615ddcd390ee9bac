/- Proved: what the candidates of the program's board are. Conditions: those that each theorem names. -/
import Derived.Test.YtbhjbllgmenbaaaBo1
import Derived.Test.YtbhjbllgmenbaaaMl
namespace Go.Proofs.Ytbhjbllgmenbaaa
set_option linter.unusedVariables false
set_option linter.unusedSimpArgs false
open Go.RowKit
/-- The candidates below k. -/
def setC (R C : Nat → Bool) (i j k z : Nat) : Bool := decide (z < k) && (!R (i * 10 + z) && !C (j * 10 + z))
theorem setC_zero (R C : Nat → Bool) (i j : Nat) : setC R C i j 0 = fun _ => false := by funext z; simp [setC]
theorem setC_set {R C : Nat → Bool} {i j k : Nat} {v : Bool} (h : (!R (i * 10 + k) && !C (j * 10 + k)) = v) : (bls 10 (setC R C i j k)).setIfInBounds k (.bool v) = bls 10 (setC R C i j (k + 1)) :=
  bls_step 10 _ _ k v fun q _ => by
    by_cases e : q = k
    · subst e; rw [if_pos rfl, ← h]; simp [setC]
    · rw [if_neg e]; simp [setC, show q < k + 1 ↔ q < k by omega]
theorem setC_sel {R C : Nat → Bool} {i j n : Nat} (h : n ≤ 10) : selL (setC R C i j n) 10 = selL (fun z => !R (i * 10 + z) && !C (j * 10 + z)) n := by
  rw [selL_up (n := n) (fun z hz => by simp [setC]; omega) h]
  exact selL_congr fun z hz => by simp [setC, hz]
set_option maxRecDepth 100000 in
set_option maxHeartbeats 4000000 in
theorem boardCandidates_any (n gB i j : Nat) (T : Nat → UInt8) (F R C : Nat → Bool) (w : World) (h10 : n ≤ 10) (hi : i < 10) (hj : j < 10) (hg : holds w gB (bdc n T F R C) 81) :
    Calls Try.prog 75 #[.pointer (some ⟨gB, 0, none⟩), .agg #[.int .i64 i, .int .i64 j]] w (GotV (selL (fun z => !R (i * 10 + z) && !C (j * 10 + z)) n) w) := by
  have hi10 : (i : Int) < 10 := by omega
  have hj10 : (j : Int) < 10 := by omega
  have hn10 : (n : Int) ≤ 10 := by omega
  have HSEL := hid (setC_sel (R := R) (C := C) (i := i) (j := j) h10)
  rw [← HSEL.out]
  clear HSEL
  have hne : gB ≠ w.heap.size + 1 := by have := holds_lt hg; omega
  have hH := Has.start2 w #[.int .i64 (i : Nat), .int .i64 (j : Nat)] (bls 10 fun _ => false) 87 78
  rw [← setC_zero R C i j] at hH
  have hg2 := holds_alloc (holds_alloc hg (.cells #[.int .i64 (i : Nat), .int .i64 (j : Nat)] 87)) (.cells (bls 10 (setC R C i j 0)) 78)
  have hzm : ZeroIs Try.prog 78 (bls 10 (setC R C i j 0)) := by rw [setC_zero]; exact zeroMe
  obtain ⟨Y, hY⟩ : ∃ Y, bdc n T F R C = Y := ⟨_, rfl⟩
  have HRBa := hid (fun (k : Nat) (hk : k < 10) (w : World) (h : holds w gB Y 81) => show w.cell? ⟨gB, 201 + i * 10 + k, none⟩ = some (.bool (R (i * 10 + k))) by rw [holds_cell h, ← hY, Nat.add_assoc, bdc_R (by omega)])
  have HCBa := hid (fun (k : Nat) (hk : k < 10) (w : World) (h : holds w gB Y 81) => show w.cell? ⟨gB, 301 + j * 10 + k, none⟩ = some (.bool (C (j * 10 + k))) by rw [holds_cell h, ← hY, Nat.add_assoc, bdc_C (by omega)])
  have HN := hid (fun (w : World) (h : holds w gB Y 81) => show w.cell? ⟨gB, 0, none⟩ = some (.int .i64 n) by rw [holds_cell h, ← hY, bdc_N])
  rw [hY] at hg2
  clear hY hg
  go_enter Try.func75, Try.ntmps75
  go_wp2_with (first | fail | (refine wpL_alloc rfl rfl hzm ?_; intro g0 hg0; (try simp at hg0); subst hg0; have cN := HN.out _ hg2))
  go_loopw [12] (fun c wr => ∃ k : Nat, k ≤ n ∧ c = .int .i64 k ∧ Has w wr [(#[.int .i64 (i : Nat), .int .i64 (j : Nat)], 87), (bls 10 (setC R C i j k), 78)] ∧ Hid (holds wr gB Y 81)) (fun c _ => 20 - (intOf c).toNat)
  case atStart => exact ⟨0, by omega, rfl, hH, hid hg2⟩
  case round =>
    clear hH hg2
    obtain ⟨k, hk, rfl, hH, hg⟩ := hrel
    by_cases hlt : k < n
    · have hk1 : (k : Int) < n := by omega
      have hk10 : (k : Int) < 10 := by omega
      have HRB := hid (HRBa.out k (by omega))
      have HCB := hid (HCBa.out k (by omega))
      have HSET := hid (fun v h => setC_set (R := R) (C := C) (i := i) (j := j) (k := k) (v := v) h)
      obtain ⟨X0, hX0⟩ : ∃ X, bls 10 (setC R C i j k) = X := ⟨_, rfl⟩
      obtain ⟨X1, hX1⟩ : ∃ X, bls 10 (setC R C i j (k + 1)) = X := ⟨_, rfl⟩
      have HXs := hid (show X0.size = 10 by rw [← hX0]; exact bls_size _ _)
      have HX1 := hid hX1
      rw [hX0] at hH
      rw [hX0, hX1] at HSET
      clear hX0 hX1
      obtain ⟨rb, hrb⟩ : ∃ r, R (i * 10 + k) = r := ⟨_, rfl⟩
      obtain ⟨cb, hcb⟩ : ∃ r, C (j * 10 + k) = r := ⟨_, rfl⟩
      rw [hrb] at HRB HSET
      rw [hcb] at HCB HSET
      clear hrb hcb
      cases rb with
      | true =>
        have HX := hid (HSET.out false rfl)
        clear HSET
        go_wp2
        refine wp_region_frame (X := Unit) (fun d _ => [(15, bif d 0 then .int .i64 k else u15), (16, bif d 1 then .pointer (some ⟨gB, 0, none⟩) else u16), (17, bif d 2 then .pointer (some ⟨w.heap.size, 0, none⟩) else u17), (18, bif d 3 then .int .i64 i else u18), (19, bif d 4 then .int .i64 k else u19), (20, bif d 5 then .pointer (some ⟨gB, 0, none⟩) else u20), (21, bif d 6 then .pointer (some ⟨gB, 201, none⟩) else u21), (22, bif d 7 then .pointer (some ⟨gB, 201 + i * 10, none⟩) else u22), (23, bif d 8 then .pointer (some ⟨gB, 201 + i * 10 + k, none⟩) else u23), (24, bif d 9 then .bool true else u24), (25, bif d 10 then .bool false else u25), (26, bif d 11 then .bool false else u26), (27, bif d 12 then undef else u27), (28, bif d 13 then undef else u28), (29, bif d 14 then undef else u29), (30, bif d 15 then undef else u30), (31, bif d 16 then undef else u31), (32, bif d 17 then undef else u32), (33, bif d 18 then undef else u33), (34, bif d 19 then undef else u34), (35, bif d 20 then undef else u35), (36, bif d 21 then undef else u36), (37, bif d 22 then .bool false else u37), (38, bif d 23 then .pointer (some ⟨w.heap.size + 1, k, none⟩) else u38)])
          (fun d _ w' => Has w w' [(#[.int .i64 (i : Nat), .int .i64 (j : Nat)], 87), (bif d 24 then X1 else X0, 78)] ∧ Hid (holds w' gB Y 81)) (by kernel_rfl) (by kernel_rfl) ?h0_ca ?hs_ca ?hq_ca
        case h0_ca => exact ⟨(), (by simp [lput]), hH.drew, hid (show holds _ gB Y 81 from hg.out)⟩
        case hs_ca =>
          refine ⟨?_, ?_, ?_, ?_, ?_, ?_, ?_, ?_, ?_, ?_, ?_, ?_, ?_, ?_, ?_, ?_, ?_, ?_, ?_, ?_, ?_, ?_, ?_, ?_, ?_, trivial⟩
          all_goals
            clear hH hg
            intro d _ w1 hd hn hJ
            simp only [needs, Region.binds, reduceCtorEq, Bool.false_eq_true, false_implies, true_and, and_true, true_implies, forall_const] at hn
            simp only [lput, List.set, hn, cond_true]
            try simp only [hd, cond_false] at hJ
            obtain ⟨hH, hg⟩ := hJ
            have c0 : w1.cell? ⟨w.heap.size, 0, none⟩ = some (.int .i64 (i : Nat)) := by rw [hH.c0]; rfl
            have c1 : w1.cell? ⟨w.heap.size, 1, none⟩ = some (.int .i64 (j : Nat)) := by rw [hH.c0]; rfl
            have cr := HRB.out _ hg.out
            have cc := HCB.out _ hg.out
            go_wp2_with (first | fail | (refine wpL_guard rfl rfl ?_) | (refine wpL_cellB (x := .tmp 38) (g := w.heap.size + 1) (v := .bool false) (cs := X0) (cs' := X1) (off := k) rfl rfl rfl rfl (by kernel_rfl) (by rfl) hH.h1 (by rw [HXs.out]; omega) HX.out ?_; replace hH := hH.r1 (cs' := X1); replace hg := hid (holds_row_other (cs' := X1) hg.out hne)))
            first
              | (refine ⟨(), ?_, hH, hg⟩; (simp [lput, done, hn]; done))
              | (refine ⟨?_, hH, hg⟩; (simp [lput, done, hn]; done))
              | (refine ⟨(), ?_, hH, hg⟩; (simp [lput, done, hn]; rfl))
              | (refine ⟨?_, hH, hg⟩; (simp [lput, done, hn]; rfl))
              | (refine ⟨(), ?_, hH, hg⟩; (simp [lput, done]; done))
              | (refine ⟨?_, hH, hg⟩; (simp [lput, done]; done))
              | (refine ⟨(), ?_, hH, hg⟩; (simp [lput, done]; rfl))
              | (refine ⟨?_, hH, hg⟩; (simp [lput, done]; rfl))
        case hq_ca =>
          clear hH hg
          intro d _ w1 hd hJ
          simp only [allDone, List.length_cons, List.length_nil, Nat.reduceAdd, and_true] at hd
          obtain ⟨hH, hg⟩ := hJ
          simp only [hd, cond_true] at hH
          simp only [lput, List.set, hd, cond_true]
          clear hd
          go_wp2
          go_roundw
          case rel => exact ⟨k + 1, by omega, by go_num, by rw [HX1.out]; exact hH, hg⟩
          case measure => simp [intOf]; omega
      | false =>
        cases cb with
        | true =>
          have HX := hid (HSET.out false rfl)
          clear HSET
          go_wp2
          refine wp_region_frame (X := Unit) (fun d _ => [(15, bif d 0 then .int .i64 k else u15), (16, bif d 1 then .pointer (some ⟨gB, 0, none⟩) else u16), (17, bif d 2 then .pointer (some ⟨w.heap.size, 0, none⟩) else u17), (18, bif d 3 then .int .i64 i else u18), (19, bif d 4 then .int .i64 k else u19), (20, bif d 5 then .pointer (some ⟨gB, 0, none⟩) else u20), (21, bif d 6 then .pointer (some ⟨gB, 201, none⟩) else u21), (22, bif d 7 then .pointer (some ⟨gB, 201 + i * 10, none⟩) else u22), (23, bif d 8 then .pointer (some ⟨gB, 201 + i * 10 + k, none⟩) else u23), (24, bif d 9 then .bool false else u24), (25, bif d 10 then .bool true else u25), (26, bif d 11 then .bool true else u26), (27, bif d 12 then .pointer (some ⟨gB, 0, none⟩) else u27), (28, bif d 13 then .pointer (some ⟨w.heap.size, 1, none⟩) else u28), (29, bif d 14 then .int .i64 j else u29), (30, bif d 15 then .int .i64 k else u30), (31, bif d 16 then .pointer (some ⟨gB, 0, none⟩) else u31), (32, bif d 17 then .pointer (some ⟨gB, 301, none⟩) else u32), (33, bif d 18 then .pointer (some ⟨gB, 301 + j * 10, none⟩) else u33), (34, bif d 19 then .pointer (some ⟨gB, 301 + j * 10 + k, none⟩) else u34), (35, bif d 20 then .bool true else u35), (36, bif d 21 then .bool false else u36), (37, bif d 22 then .bool false else u37), (38, bif d 23 then .pointer (some ⟨w.heap.size + 1, k, none⟩) else u38)])
            (fun d _ w' => Has w w' [(#[.int .i64 (i : Nat), .int .i64 (j : Nat)], 87), (bif d 24 then X1 else X0, 78)] ∧ Hid (holds w' gB Y 81)) (by kernel_rfl) (by kernel_rfl) ?h0_cb ?hs_cb ?hq_cb
          case h0_cb => exact ⟨(), (by simp [lput]), hH.drew, hid (show holds _ gB Y 81 from hg.out)⟩
          case hs_cb =>
            refine ⟨?_, ?_, ?_, ?_, ?_, ?_, ?_, ?_, ?_, ?_, ?_, ?_, ?_, ?_, ?_, ?_, ?_, ?_, ?_, ?_, ?_, ?_, ?_, ?_, ?_, trivial⟩
            all_goals
              clear hH hg
              intro d _ w1 hd hn hJ
              simp only [needs, Region.binds, reduceCtorEq, Bool.false_eq_true, false_implies, true_and, and_true, true_implies, forall_const] at hn
              simp only [lput, List.set, hn, cond_true]
              try simp only [hd, cond_false] at hJ
              obtain ⟨hH, hg⟩ := hJ
              have c0 : w1.cell? ⟨w.heap.size, 0, none⟩ = some (.int .i64 (i : Nat)) := by rw [hH.c0]; rfl
              have c1 : w1.cell? ⟨w.heap.size, 1, none⟩ = some (.int .i64 (j : Nat)) := by rw [hH.c0]; rfl
              have cr := HRB.out _ hg.out
              have cc := HCB.out _ hg.out
              go_wp2_with (first | fail | (refine wpL_guard rfl rfl ?_) | (refine wpL_cellB (x := .tmp 38) (g := w.heap.size + 1) (v := .bool false) (cs := X0) (cs' := X1) (off := k) rfl rfl rfl rfl (by kernel_rfl) (by rfl) hH.h1 (by rw [HXs.out]; omega) HX.out ?_; replace hH := hH.r1 (cs' := X1); replace hg := hid (holds_row_other (cs' := X1) hg.out hne)))
              first
                | (refine ⟨(), ?_, hH, hg⟩; (simp [lput, done, hn]; done))
                | (refine ⟨?_, hH, hg⟩; (simp [lput, done, hn]; done))
                | (refine ⟨(), ?_, hH, hg⟩; (simp [lput, done, hn]; rfl))
                | (refine ⟨?_, hH, hg⟩; (simp [lput, done, hn]; rfl))
                | (refine ⟨(), ?_, hH, hg⟩; (simp [lput, done]; done))
                | (refine ⟨?_, hH, hg⟩; (simp [lput, done]; done))
                | (refine ⟨(), ?_, hH, hg⟩; (simp [lput, done]; rfl))
                | (refine ⟨?_, hH, hg⟩; (simp [lput, done]; rfl))
          case hq_cb =>
            clear hH hg
            intro d _ w1 hd hJ
            simp only [allDone, List.length_cons, List.length_nil, Nat.reduceAdd, and_true] at hd
            obtain ⟨hH, hg⟩ := hJ
            simp only [hd, cond_true] at hH
            simp only [lput, List.set, hd, cond_true]
            clear hd
            go_wp2
            go_roundw
            case rel => exact ⟨k + 1, by omega, by go_num, by rw [HX1.out]; exact hH, hg⟩
            case measure => simp [intOf]; omega
        | false =>
          have HX := hid (HSET.out true rfl)
          clear HSET
          go_wp2
          refine wp_region_frame (X := Unit) (fun d _ => [(15, bif d 0 then .int .i64 k else u15), (16, bif d 1 then .pointer (some ⟨gB, 0, none⟩) else u16), (17, bif d 2 then .pointer (some ⟨w.heap.size, 0, none⟩) else u17), (18, bif d 3 then .int .i64 i else u18), (19, bif d 4 then .int .i64 k else u19), (20, bif d 5 then .pointer (some ⟨gB, 0, none⟩) else u20), (21, bif d 6 then .pointer (some ⟨gB, 201, none⟩) else u21), (22, bif d 7 then .pointer (some ⟨gB, 201 + i * 10, none⟩) else u22), (23, bif d 8 then .pointer (some ⟨gB, 201 + i * 10 + k, none⟩) else u23), (24, bif d 9 then .bool false else u24), (25, bif d 10 then .bool true else u25), (26, bif d 11 then .bool true else u26), (27, bif d 12 then .pointer (some ⟨gB, 0, none⟩) else u27), (28, bif d 13 then .pointer (some ⟨w.heap.size, 1, none⟩) else u28), (29, bif d 14 then .int .i64 j else u29), (30, bif d 15 then .int .i64 k else u30), (31, bif d 16 then .pointer (some ⟨gB, 0, none⟩) else u31), (32, bif d 17 then .pointer (some ⟨gB, 301, none⟩) else u32), (33, bif d 18 then .pointer (some ⟨gB, 301 + j * 10, none⟩) else u33), (34, bif d 19 then .pointer (some ⟨gB, 301 + j * 10 + k, none⟩) else u34), (35, bif d 20 then .bool false else u35), (36, bif d 21 then .bool true else u36), (37, bif d 22 then .bool true else u37), (38, bif d 23 then .pointer (some ⟨w.heap.size + 1, k, none⟩) else u38)])
            (fun d _ w' => Has w w' [(#[.int .i64 (i : Nat), .int .i64 (j : Nat)], 87), (bif d 24 then X1 else X0, 78)] ∧ Hid (holds w' gB Y 81)) (by kernel_rfl) (by kernel_rfl) ?h0_cc ?hs_cc ?hq_cc
          case h0_cc => exact ⟨(), (by simp [lput]), hH.drew, hid (show holds _ gB Y 81 from hg.out)⟩
          case hs_cc =>
            refine ⟨?_, ?_, ?_, ?_, ?_, ?_, ?_, ?_, ?_, ?_, ?_, ?_, ?_, ?_, ?_, ?_, ?_, ?_, ?_, ?_, ?_, ?_, ?_, ?_, ?_, trivial⟩
            all_goals
              clear hH hg
              intro d _ w1 hd hn hJ
              simp only [needs, Region.binds, reduceCtorEq, Bool.false_eq_true, false_implies, true_and, and_true, true_implies, forall_const] at hn
              simp only [lput, List.set, hn, cond_true]
              try simp only [hd, cond_false] at hJ
              obtain ⟨hH, hg⟩ := hJ
              have c0 : w1.cell? ⟨w.heap.size, 0, none⟩ = some (.int .i64 (i : Nat)) := by rw [hH.c0]; rfl
              have c1 : w1.cell? ⟨w.heap.size, 1, none⟩ = some (.int .i64 (j : Nat)) := by rw [hH.c0]; rfl
              have cr := HRB.out _ hg.out
              have cc := HCB.out _ hg.out
              go_wp2_with (first | fail | (refine wpL_guard rfl rfl ?_) | (refine wpL_cellB (x := .tmp 38) (g := w.heap.size + 1) (v := .bool true) (cs := X0) (cs' := X1) (off := k) rfl rfl rfl rfl (by kernel_rfl) (by rfl) hH.h1 (by rw [HXs.out]; omega) HX.out ?_; replace hH := hH.r1 (cs' := X1); replace hg := hid (holds_row_other (cs' := X1) hg.out hne)))
              first
                | (refine ⟨(), ?_, hH, hg⟩; (simp [lput, done, hn]; done))
                | (refine ⟨?_, hH, hg⟩; (simp [lput, done, hn]; done))
                | (refine ⟨(), ?_, hH, hg⟩; (simp [lput, done, hn]; rfl))
                | (refine ⟨?_, hH, hg⟩; (simp [lput, done, hn]; rfl))
                | (refine ⟨(), ?_, hH, hg⟩; (simp [lput, done]; done))
                | (refine ⟨?_, hH, hg⟩; (simp [lput, done]; done))
                | (refine ⟨(), ?_, hH, hg⟩; (simp [lput, done]; rfl))
                | (refine ⟨?_, hH, hg⟩; (simp [lput, done]; rfl))
          case hq_cc =>
            clear hH hg
            intro d _ w1 hd hJ
            simp only [allDone, List.length_cons, List.length_nil, Nat.reduceAdd, and_true] at hd
            obtain ⟨hH, hg⟩ := hJ
            simp only [hd, cond_true] at hH
            simp only [lput, List.set, hd, cond_true]
            clear hd
            go_wp2
            go_roundw
            case rel => exact ⟨k + 1, by omega, by go_num, by rw [HX1.out]; exact hH, hg⟩
            case measure => simp [intOf]; omega
    · obtain rfl : k = n := by omega
      go_wp2_with (first | fail | (refine wpL_loadFull rfl rfl rfl rowMe hH.h1 (bls_size _ _) ?_) | (go_at_call 111; refine (membersList_any _ _).mono ?_; rintro e w5 ⟨v, rfl, hb, hO⟩; have hsz := hH.size; simp only [List.length_cons, List.length_nil] at hsz; replace hH := hH.call' hb; clear hb))
      go_ret
      exact ⟨_, rfl, hH.below, hO.lower (by omega)⟩
end Go.Proofs.Ytbhjbllgmenbaaa
