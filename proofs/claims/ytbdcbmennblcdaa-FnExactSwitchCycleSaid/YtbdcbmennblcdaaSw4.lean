/- Proved: what the model's SwitchCycle returns. Conditions: those that each theorem names. -/
import Derived.Test.YtbdcbmennblcdaaSw3
namespace Go.Proofs.Ytbdcbmennblcdaa
set_option linter.unusedVariables false
set_option linter.unusedSimpArgs false
open Go.RowKit
theorem holds_neW {w : World} {b b' : Nat} {cs cs' : Array Value} {t t' : TypeId} (h : holds w b cs t) (h' : holds w b' cs' t') (ht : t ≠ t') : b ≠ b' := fun e => by
  subst e
  have h2 : some (Obj.cells cs t (0, 0)) = some (Obj.cells cs' t' (0, 0)) := h.symm.trans h'
  injection h2 with h3
  injection h3 with _ h4
  exact ht h4
structure SV2 where
  p : Nat
  q : Nat
set_option maxRecDepth 100000 in
set_option maxHeartbeats 8000000 in
theorem specSwitchCycle_in (N a b c t : Nat) (g : Nat → UInt8) (w : World) (hq : IsSq N g) (ha : a < N) (hb : b < N) (hc : c < N) (hne : a ≠ b) (hC : Cyc N (swC g N a b) c t)
    (hD : Hid (∀ w, Calls Try.prog 74 #[.agg (sqc N g), .int .u8 a, .int .u8 b, .int .u8 c] w fun e w' => e = .returned (.int .i64 0) ∧ Below w.heap.size w w')) :
    Calls Try.prog 42 #[.agg (sqc N g), .int .u8 a, .int .u8 b, .int .u8 c] w fun e w' => e = .returned (.tuple #[.agg (sqc N (swF g a b (inO (swC g N a b) c t))), .int .i64 0]) ∧ Below w.heap.size w w' := by
  have h10 := hq.hi
  have HQ := hid hq
  have HCV := hid (sw_cyc hq ha hb hc hC)
  have HPV := hid (swV_pmt hq ha hb)
  have HRW := hid (fun i (hi : i < N) => rwF_at (b := b) hq ha hi)
  have HIN := hid (fun y (hy : y < N) => sw_in (t := t) hq ha hb hc hy)
  have HAL := hid (fun y (hy : y < N) => (show (g (a * 10 + y)).toNat < N from sq_lt hq ha hy))
  have HCY := hid hne
  have hv0 := sq_lt hq ha hc
  clear hq
  obtain ⟨v0, hv⟩ : ∃ v, (g (a * 10 + c)).toNat = v := ⟨_, rfl⟩
  rw [hv] at HCV HIN hv0
  have HV := hid hv
  obtain ⟨RW, hRW⟩ : ∃ R, rwF g N a b N = R := ⟨_, rfl⟩
  rw [hRW] at HRW
  have HR := hid hRW
  obtain ⟨S, hS⟩ : ∃ S, inO (swV g N a b) v0 t = S := ⟨_, rfl⟩
  rw [hS] at HIN
  have HS := hid hS
  obtain ⟨SC, hSC⟩ : ∃ S, inO (swC g N a b) c t = S := ⟨_, rfl⟩
  rw [hSC] at HIN ⊢
  have HLT := hid (fun y (h : SC y = true) => hC.lt (swC_pmt HQ.out ha hb) hc (by rw [hSC]; exact h))
  clear hv hRW hS hSC hC hne
  have hN10 : (N : Int) ≤ 10 := by omega
  have ha10 : (a : Int) < 10 := by omega
  have hb10 : (b : Int) < 10 := by omega
  have hc10 : (c : Int) < 10 := by omega
  have hH := Has.start2 w (sqc N g) (sqc 0 fun _ => 0) 31 31
  go_enter Try.func42, Try.ntmps42
  go_wp2_with (first | fail | (refine wpL_alloc rfl rfl zeroSq ?_; intro g0 hg0; (try simp at hg0); subst hg0) | (refine wpL_loadFull rfl rfl rfl rowSq hH.h0 (sqc_size _ _) ?_) | (go_at_call 74; refine (hD.out _).mono ?_; rintro e w2 ⟨rfl, hb⟩; replace hH := hH.call' hb; clear hb))
  refine wp_region_frame (X := SV2) (fun d x => [(23, bif d 0 then .agg (sqc N g) else undef), (24, bif d 1 then .int .u8 a else undef), (25, bif d 2 then .int .u8 b else undef), (26, bif d 3 then .agg (u8s 10 RW) else undef), (27, bif d 4 then .int .u8 a else undef), (28, bif d 5 then .int .u8 c else undef), (29, bif d 6 then .pointer (some ⟨w.heap.size, 1, none⟩) else undef), (30, bif d 7 then .pointer (some ⟨w.heap.size, 1 + a * 10, none⟩) else undef), (31, bif d 8 then .pointer (some ⟨w.heap.size, 1 + a * 10 + c, none⟩) else undef), (32, bif d 9 then .int .u8 v0 else undef), (33, bif d 10 then .agg (bls 10 S) else undef), (34, bif d 11 then .agg (sqc N g) else undef), (11, bif d 12 then .pointer (some ⟨x.p, 0, none⟩) else undef), (12, bif d 13 then .pointer (some ⟨x.q, 0, none⟩) else undef)])
    (fun d x w' => Has w w' [(sqc N g, 31), (sqc 0 (fun _ => 0), 31)] ∧ (d 12 = true → w.heap.size + 2 ≤ x.p ∧ holds w' x.p (bif d 14 then bls 10 S else bls 10 fun _ => false) 69) ∧ (d 13 = true → w.heap.size + 2 ≤ x.q ∧ holds w' x.q (bif d 15 then sqc N g else sqc 0 fun _ => 0) 31) ∧ (d 14 = true → d 12 = true) ∧ (d 14 = true → d 10 = true) ∧ (d 15 = true → d 13 = true) ∧ (d 15 = true → d 11 = true)) (by kernel_rfl) (by kernel_rfl) ?h0_sr ?hs_sr ?hq_sr
  case h0_sr => exact ⟨⟨0, 0⟩, (by simp [lput]), hH.drew, (fun h => by cases h), (fun h => by cases h), (fun h => by cases h), (fun h => by cases h), (fun h => by cases h), (fun h => by cases h)⟩
  case hs_sr =>
    refine ⟨?_, ?_, ?_, ?_, ?_, ?_, ?_, ?_, ?_, ?_, ?_, ?_, ?_, ?_, ?_, ?_, trivial⟩
    all_goals
      clear hH
      intro d x w1 hd hn hJ
      simp only [needs, Region.binds, reduceCtorEq, Bool.false_eq_true, false_implies, true_and, and_true, true_implies, forall_const] at hn
      simp only [lput, List.set, hn, cond_true]
      try simp only [hd, cond_false] at hJ
      obtain ⟨hH, hP, hQ, I14_12, I14_10, I15_13, I15_11⟩ := hJ
      (try have hP_ := hP (by simp only [hn]))
      (try have hQ_ := hQ (by simp only [hn]))
      have zz := hH.size
      simp only [List.length_cons, List.length_nil] at zz
      have c1 : w1.cell? ⟨w.heap.size, 1 + a * 10 + c, none⟩ = some (.int .u8 v0) := by rw [hH.c0, Nat.add_assoc, sqc_get _ _ _ (by omega), HV.out]
      go_wp2_with (first | fail | (refine wpL_loadFull (x := .tmp 4) rfl rfl rfl rowSq hH.h0 (sqc_size _ _) ?_) | (go_at_call 79; refine (l09Rows_any N a b g _ HQ.out ha hb).mono ?_; rintro e w3 ⟨rfl, hb⟩; rw [HR.out]; replace hH := hH.call' hb; replace hP := fun e => And.intro (hP e).1 (holds_below (hP e).2 hb (holds_lt (hP e).2)); replace hQ := fun e => And.intro (hQ e).1 (holds_below (hQ e).2 hb (holds_lt (hQ e).2)); clear hb) | (go_at_call 78; refine (l09Cycle_any N v0 t RW (swV g N a b) _ h10 hv0 HPV.out HRW.out HCV.out).mono ?_; rintro e w3 ⟨rfl, hb⟩; rw [HS.out]; replace hH := hH.call' hb; replace hP := fun e => And.intro (hP e).1 (holds_below (hP e).2 hb (holds_lt (hP e).2)); replace hQ := fun e => And.intro (hQ e).1 (holds_below (hQ e).2 hb (holds_lt (hQ e).2)); clear hb) | (refine wpL_storeN (x := .tmp 11) rfl rfl rfl rfl rowBo hP_.2 (bls_size _ _) (bls_ok _ _) ?_; intro w5 hzP hOo hT; replace hH := hT _ _ hH hP_.1; replace hQ := fun e => And.intro (hQ e).1 (hOo _ _ _ (Ne.symm (holds_neW hP_.2 (hQ e).2 (by decide))) (hQ e).2); clear hOo hT) | (refine wpL_storeN (x := .tmp 12) rfl rfl rfl rfl rowSq hQ_.2 (sqc_size _ _) (sqc_ok _ _) ?_; intro w5 hzQ hOo hT; replace hH := hT _ _ hH hQ_.1; replace hP := fun e => And.intro (hP e).1 (hOo _ _ _ (holds_neW (hP e).2 hQ_.2 (by decide)) (hP e).2); clear hOo hT) | (refine wpL_allocN (o := ⟨some 11, _, _, _, _, _⟩) rfl rfl zeroBo ?_; intro mP w4 hz4 hl4 hb; have z14 : d 14 = false := (by first | exact imp_nW I14_12 hd | exact imp_nW I14_12 rfl); replace hH := hH.call' hb; replace hQ := fun e => And.intro (hQ e).1 (holds_below (hQ e).2 hb (holds_lt (hQ e).2)); have hmP : w.heap.size + 2 ≤ mP := (by omega); clear hb) | (refine wpL_allocN (o := ⟨some 12, _, _, _, _, _⟩) rfl rfl zeroSq ?_; intro mQ w4 hz4 hl4 hb; have z15 : d 15 = false := (by first | exact imp_nW I15_13 hd | exact imp_nW I15_13 rfl); replace hH := hH.call' hb; replace hP := fun e => And.intro (hP e).1 (holds_below (hP e).2 hb (holds_lt (hP e).2)); have hmQ : w.heap.size + 2 ≤ mQ := (by omega); clear hb))
      first
        | (refine ⟨{ x with p := mP }, ?_, hH, (fun _ => ⟨hmP, by simpa [done, z14] using hz4⟩), (fun e => hQ (done_ne e (by decide))), (by intro e; simp [done]), (by intro e; simp [done, z14] at e), (by intro e; first | (simp [done]; done) | (have e2 := I15_13 (done_ne e (by decide)); simp [done, e2]; done) | (simp [done, hn]; done)), (by intro e; first | (simp [done]; done) | (have e2 := I15_11 (done_ne e (by decide)); simp [done, e2]; done) | (simp [done, hn]; done))⟩; (simp [lput, done, hn, z14]; done))
        | (refine ⟨{ x with q := mQ }, ?_, hH, (fun e => hP (done_ne e (by decide))), (fun _ => ⟨hmQ, by simpa [done, z15] using hz4⟩), (by intro e; first | (simp [done]; done) | (have e2 := I14_12 (done_ne e (by decide)); simp [done, e2]; done) | (simp [done, hn]; done)), (by intro e; first | (simp [done]; done) | (have e2 := I14_10 (done_ne e (by decide)); simp [done, e2]; done) | (simp [done, hn]; done)), (by intro e; simp [done]), (by intro e; simp [done, z15] at e)⟩; (simp [lput, done, hn, z15]; done))
        | (refine ⟨x, ?_, hH, (fun _ => ⟨hP_.1, by simpa [done] using hzP⟩), (fun e => hQ (done_ne e (by decide))), (by intro e; simp [done, hn]), (by intro e; simp [done, hn]), (by intro e; first | (simp [done]; done) | (have e2 := I15_13 (done_ne e (by decide)); simp [done, e2]; done) | (simp [done, hn]; done)), (by intro e; first | (simp [done]; done) | (have e2 := I15_11 (done_ne e (by decide)); simp [done, e2]; done) | (simp [done, hn]; done))⟩; (simp [lput, done, hn]; done))
        | (refine ⟨x, ?_, hH, (fun e => hP (done_ne e (by decide))), (fun _ => ⟨hQ_.1, by simpa [done] using hzQ⟩), (by intro e; first | (simp [done]; done) | (have e2 := I14_12 (done_ne e (by decide)); simp [done, e2]; done) | (simp [done, hn]; done)), (by intro e; first | (simp [done]; done) | (have e2 := I14_10 (done_ne e (by decide)); simp [done, e2]; done) | (simp [done, hn]; done)), (by intro e; simp [done, hn]), (by intro e; simp [done, hn])⟩; (simp [lput, done, hn]; done))
        | (refine ⟨x, ?_, hH, (fun e => hP (done_ne e (by decide))), (fun e => hQ (done_ne e (by decide))), (by intro e; first | (simp [done]; done) | (have e2 := I14_12 (done_ne e (by decide)); simp [done, e2]; done) | (simp [done, hn]; done)), (by intro e; first | (simp [done]; done) | (have e2 := I14_10 (done_ne e (by decide)); simp [done, e2]; done) | (simp [done, hn]; done)), (by intro e; first | (simp [done]; done) | (have e2 := I15_13 (done_ne e (by decide)); simp [done, e2]; done) | (simp [done, hn]; done)), (by intro e; first | (simp [done]; done) | (have e2 := I15_11 (done_ne e (by decide)); simp [done, e2]; done) | (simp [done, hn]; done))⟩; (simp [lput, done, hn]; done))
        | (refine ⟨?_, hH, (fun e => hP (done_ne e (by decide))), (fun e => hQ (done_ne e (by decide))), (by intro e; first | (simp [done]; done) | (have e2 := I14_12 (done_ne e (by decide)); simp [done, e2]; done) | (simp [done, hn]; done)), (by intro e; first | (simp [done]; done) | (have e2 := I14_10 (done_ne e (by decide)); simp [done, e2]; done) | (simp [done, hn]; done)), (by intro e; first | (simp [done]; done) | (have e2 := I15_13 (done_ne e (by decide)); simp [done, e2]; done) | (simp [done, hn]; done)), (by intro e; first | (simp [done]; done) | (have e2 := I15_11 (done_ne e (by decide)); simp [done, e2]; done) | (simp [done, hn]; done))⟩; (simp [lput, done, hn]; done))
        | (refine ⟨x, ?_, hH, (fun e => hP (done_ne e (by decide))), (fun e => hQ (done_ne e (by decide))), (by intro e; first | (simp [done]; done) | (have e2 := I14_12 (done_ne e (by decide)); simp [done, e2]; done) | (simp [done, hn]; done)), (by intro e; first | (simp [done]; done) | (have e2 := I14_10 (done_ne e (by decide)); simp [done, e2]; done) | (simp [done, hn]; done)), (by intro e; first | (simp [done]; done) | (have e2 := I15_13 (done_ne e (by decide)); simp [done, e2]; done) | (simp [done, hn]; done)), (by intro e; first | (simp [done]; done) | (have e2 := I15_11 (done_ne e (by decide)); simp [done, e2]; done) | (simp [done, hn]; done))⟩; (simp [lput, done, hn]; rfl))
        | (refine ⟨?_, hH, (fun e => hP (done_ne e (by decide))), (fun e => hQ (done_ne e (by decide))), (by intro e; first | (simp [done]; done) | (have e2 := I14_12 (done_ne e (by decide)); simp [done, e2]; done) | (simp [done, hn]; done)), (by intro e; first | (simp [done]; done) | (have e2 := I14_10 (done_ne e (by decide)); simp [done, e2]; done) | (simp [done, hn]; done)), (by intro e; first | (simp [done]; done) | (have e2 := I15_13 (done_ne e (by decide)); simp [done, e2]; done) | (simp [done, hn]; done)), (by intro e; first | (simp [done]; done) | (have e2 := I15_11 (done_ne e (by decide)); simp [done, e2]; done) | (simp [done, hn]; done))⟩; (simp [lput, done, hn]; rfl))
        | (refine ⟨x, ?_, hH, (fun e => hP (done_ne e (by decide))), (fun e => hQ (done_ne e (by decide))), (by intro e; first | (simp [done]; done) | (have e2 := I14_12 (done_ne e (by decide)); simp [done, e2]; done) | (simp [done, hn]; done)), (by intro e; first | (simp [done]; done) | (have e2 := I14_10 (done_ne e (by decide)); simp [done, e2]; done) | (simp [done, hn]; done)), (by intro e; first | (simp [done]; done) | (have e2 := I15_13 (done_ne e (by decide)); simp [done, e2]; done) | (simp [done, hn]; done)), (by intro e; first | (simp [done]; done) | (have e2 := I15_11 (done_ne e (by decide)); simp [done, e2]; done) | (simp [done, hn]; done))⟩; (simp [lput, done]; done))
        | (refine ⟨?_, hH, (fun e => hP (done_ne e (by decide))), (fun e => hQ (done_ne e (by decide))), (by intro e; first | (simp [done]; done) | (have e2 := I14_12 (done_ne e (by decide)); simp [done, e2]; done) | (simp [done, hn]; done)), (by intro e; first | (simp [done]; done) | (have e2 := I14_10 (done_ne e (by decide)); simp [done, e2]; done) | (simp [done, hn]; done)), (by intro e; first | (simp [done]; done) | (have e2 := I15_13 (done_ne e (by decide)); simp [done, e2]; done) | (simp [done, hn]; done)), (by intro e; first | (simp [done]; done) | (have e2 := I15_11 (done_ne e (by decide)); simp [done, e2]; done) | (simp [done, hn]; done))⟩; (simp [lput, done]; done))
        | (refine ⟨x, ?_, hH, (fun e => hP (done_ne e (by decide))), (fun e => hQ (done_ne e (by decide))), (by intro e; first | (simp [done]; done) | (have e2 := I14_12 (done_ne e (by decide)); simp [done, e2]; done) | (simp [done, hn]; done)), (by intro e; first | (simp [done]; done) | (have e2 := I14_10 (done_ne e (by decide)); simp [done, e2]; done) | (simp [done, hn]; done)), (by intro e; first | (simp [done]; done) | (have e2 := I15_13 (done_ne e (by decide)); simp [done, e2]; done) | (simp [done, hn]; done)), (by intro e; first | (simp [done]; done) | (have e2 := I15_11 (done_ne e (by decide)); simp [done, e2]; done) | (simp [done, hn]; done))⟩; (simp [lput, done]; rfl))
        | (refine ⟨?_, hH, (fun e => hP (done_ne e (by decide))), (fun e => hQ (done_ne e (by decide))), (by intro e; first | (simp [done]; done) | (have e2 := I14_12 (done_ne e (by decide)); simp [done, e2]; done) | (simp [done, hn]; done)), (by intro e; first | (simp [done]; done) | (have e2 := I14_10 (done_ne e (by decide)); simp [done, e2]; done) | (simp [done, hn]; done)), (by intro e; first | (simp [done]; done) | (have e2 := I15_13 (done_ne e (by decide)); simp [done, e2]; done) | (simp [done, hn]; done)), (by intro e; first | (simp [done]; done) | (have e2 := I15_11 (done_ne e (by decide)); simp [done, e2]; done) | (simp [done, hn]; done))⟩; (simp [lput, done]; rfl))
  case hq_sr =>
    clear hH
    intro d x w1 hd hJ
    simp only [allDone, List.length_cons, List.length_nil, Nat.reduceAdd, and_true] at hd
    obtain ⟨hH, hP, hQ, I14_12, I14_10, I15_13, I15_11⟩ := hJ
    replace hP := hP (by simp only [hd])
    replace hQ := hQ (by simp only [hd])
    clear I14_12
    clear I14_10
    clear I15_13
    clear I15_11
    simp only [hd, cond_true] at hH hP hQ
    simp only [lput, List.set, hd, cond_true]
    clear hd
    rcases x with ⟨gp, gq⟩
    obtain ⟨hlp, hP2⟩ := hP
    obtain ⟨hlq, hQ2⟩ := hQ
    replace hP2 : holds w1 gp (bls 10 S) 69 := hP2
    replace hQ2 : holds w1 gq (sqc N g) 31 := hQ2
    have hpq : gp ≠ gq := holds_neW hP2 hQ2 (by decide)
    go_wp2
    go_loopw [13] (fun i wr => ∃ y : Nat, y ≤ N ∧ i = .int .i64 y ∧ Has w wr [(sqc N g, 31), (sqc 0 (fun _ => 0), 31)] ∧ holds wr gp (bls 10 S) 69 ∧ holds wr gq (sqc N (swF g a b (fun z => decide (z < y) && SC z))) 31) (fun i _ => 20 - (intOf i).toNat)
    case atStart => exact ⟨0, by omega, rfl, hH, hP2, by rw [swF_none _ (fun z => by simp)]; exact hQ2⟩
    case round =>
      clear hH hP2 hQ2
      obtain ⟨y, hy, rfl, hH, hP2, hQ2⟩ := hrel
      have cz : wr.cell? ⟨w.heap.size, 0, none⟩ = some (.int .i64 N) := by rw [hH.c0, sqc_get0]
      by_cases hlt : y < N
      · have hy1 : (y : Int) < N := by omega
        have hy10 : (y : Int) < 10 := by omega
        obtain ⟨p, hp⟩ : ∃ p, g (a * 10 + y) = p := ⟨_, rfl⟩
        obtain ⟨q, hqq⟩ : ∃ q, g (b * 10 + y) = q := ⟨_, rfl⟩
        have HPP := hid hp
        have HQQ := hid hqq
        have hpl := HAL.out y hlt
        rw [hp] at hpl
        have hsi := HIN.out y hlt
        rw [hp] at hsi
        have cp : wr.cell? ⟨w.heap.size, 1 + a * 10 + y, none⟩ = some (.int .u8 p.toNat) := by rw [hH.c0, Nat.add_assoc, sqc_get _ _ _ (by omega), hp]
        have cS : wr.cell? ⟨gp, p.toNat, none⟩ = some (.bool (SC y)) := by rw [holds_cell hP2, bls_get _ _ _ (by omega), hsi]
        have hp10 : (p.toNat : Int) < 10 := by omega
        clear hp hqq hsi
        cases hsc : SC y with
        | false =>
          rw [hsc] at cS
          have HE := hid (show swF g a b (fun z => decide (z < y + 1) && SC z) = swF g a b (fun z => decide (z < y) && SC z) from swF_congr fun z _ => by
            by_cases e : z = y
            · subst e; simp [hsc]
            · have : decide (z < y + 1) = decide (z < y) := decide_eq_decide.2 (by omega)
              rw [this])
          clear hsc
          go_wp2
          go_roundw
          case rel => exact ⟨y + 1, by omega, by go_num, hH, hP2, by rw [HE.out]; exact hQ2⟩
          case measure => simp [intOf]; omega
        | true =>
          rw [hsc] at cS
          have HSS := hid (fun z => (show (decide (z < y + 1) && SC z) = if z = y then true else (decide (z < y) && SC z) by
            by_cases e : z = y
            · subst e; simp [hsc]
            · rw [if_neg e]
              have : decide (z < y + 1) = decide (z < y) := decide_eq_decide.2 (by omega)
              rw [this]))
          obtain ⟨T, hT⟩ : ∃ T : Nat → Bool, (fun z => decide (z < y) && SC z) = T := ⟨_, rfl⟩
          have HTT := hid (fun z => (congrFun hT z : (decide (z < y) && SC z) = T z))
          rw [hT] at hQ2
          obtain ⟨X0, hX0⟩ : ∃ X, sqc N (swF g a b T) = X := ⟨_, rfl⟩
          obtain ⟨X1, hX1⟩ : ∃ X, sqc N (swH g a b T y) = X := ⟨_, rfl⟩
          obtain ⟨X2, hX2⟩ : ∃ X, sqc N (swF g a b (fun z => decide (z < y + 1) && SC z)) = X := ⟨_, rfl⟩
          have HX1 := hid (show X0.setIfInBounds (1 + a * 10 + y) (.int .u8 q.toNat) = X1 by rw [← hX0, ← hX1, Nat.add_assoc, ← HQQ.out]; exact sqc_set _ _ _ _ _ (fun j _ => swH_step j))
          have HX2 := hid (show X1.setIfInBounds (1 + b * 10 + y) (.int .u8 p.toNat) = X2 by rw [← hX1, ← hX2, Nat.add_assoc, ← HPP.out]; exact sqc_set _ _ _ _ _ (fun j _ => swF_step (by omega) HCY.out (fun z => by rw [HSS.out, HTT.out]) j))
          have HZ0 := hid (show X0.size = 101 by rw [← hX0]; exact sqc_size _ _)
          have HZ1 := hid (show X1.size = 101 by rw [← hX1]; exact sqc_size _ _)
          have HXE := hid hX2
          rw [hX0] at hQ2
          clear hsc hT hX0 hX1 hX2
          go_wp2
          clear cz cp cS
          refine wp_region_frame (X := Unit) (fun d _ => [(49, bif d 0 then .int .u8 a else u49), (50, bif d 1 then .int .i64 y else u50), (51, bif d 2 then .int .u8 b else u51), (52, bif d 3 then .int .i64 y else u52), (53, bif d 4 then .pointer (some ⟨w.heap.size, 1, none⟩) else u53), (54, bif d 5 then .pointer (some ⟨w.heap.size, 1 + b * 10, none⟩) else u54), (55, bif d 6 then .pointer (some ⟨w.heap.size, 1 + b * 10 + y, none⟩) else u55), (56, bif d 7 then .int .u8 q.toNat else u56), (57, bif d 8 then .pointer (some ⟨gq, 1, none⟩) else u57), (58, bif d 9 then .pointer (some ⟨gq, 1 + a * 10, none⟩) else u58), (59, bif d 10 then .pointer (some ⟨gq, 1 + a * 10 + y, none⟩) else u59)])
            (fun d _ w' => Has w w' [(sqc N g, 31), (sqc 0 (fun _ => 0), 31)] ∧ holds w' gp (bls 10 S) 69 ∧ holds w' gq (bif d 11 then X1 else X0) 31) (by kernel_rfl) (by kernel_rfl) ?h0_s9 ?hs_s9 ?hq_s9
          case h0_s9 => exact ⟨(), (by simp [lput]), hH.drew, (show _ from hP2), (show _ from hQ2)⟩
          case hs_s9 =>
            refine ⟨?_, ?_, ?_, ?_, ?_, ?_, ?_, ?_, ?_, ?_, ?_, ?_, trivial⟩
            all_goals
              clear hH hP2 hQ2
              intro d _ w1 hd hn hJ
              simp only [needs, Region.binds, reduceCtorEq, Bool.false_eq_true, false_implies, true_and, and_true, true_implies, forall_const] at hn
              simp only [lput, List.set, hn, cond_true]
              try simp only [hd, cond_false] at hJ
              obtain ⟨hH, hP2, hQ2⟩ := hJ
              have c1 : w1.cell? ⟨w.heap.size, 1 + b * 10 + y, none⟩ = some (.int .u8 q.toNat) := by rw [hH.c0, Nat.add_assoc, sqc_get _ _ _ (by omega), HQQ.out]
              go_wp2_with (first | fail | (refine wpL_cellW (g := gq) (v := .int .u8 q.toNat) (cs' := X1) (off := 1 + a * 10 + y) rfl rfl rfl rfl (by kernel_rfl) (by rfl) hQ2 (by rw [HZ0.out]; omega) (HX1.out) ?_; replace hH := hH.setRowAbove (by simpa using hlq) X1; have hQ3 : holds (w1.setRow gq X1) gq X1 31 := holds_row hQ2; replace hP2 : holds (w1.setRow gq X1) gp (bls 10 S) 69 := holds_row_other hP2 hpq))
              first
                | (refine ⟨?_, hH, hP2, (by simpa [done] using hQ3)⟩; (simp [lput, done, hn]; done))
                | (refine ⟨(), ?_, hH, hP2, hQ2⟩; (simp [lput, done, hn]; done))
                | (refine ⟨?_, hH, hP2, hQ2⟩; (simp [lput, done, hn]; done))
                | (refine ⟨(), ?_, hH, hP2, hQ2⟩; (simp [lput, done, hn]; rfl))
                | (refine ⟨?_, hH, hP2, hQ2⟩; (simp [lput, done, hn]; rfl))
                | (refine ⟨(), ?_, hH, hP2, hQ2⟩; (simp [lput, done]; done))
                | (refine ⟨?_, hH, hP2, hQ2⟩; (simp [lput, done]; done))
                | (refine ⟨(), ?_, hH, hP2, hQ2⟩; (simp [lput, done]; rfl))
                | (refine ⟨?_, hH, hP2, hQ2⟩; (simp [lput, done]; rfl))
          case hq_s9 =>
            clear hH hP2 hQ2
            intro d _ w1 hd hJ
            simp only [allDone, List.length_cons, List.length_nil, Nat.reduceAdd, and_true] at hd
            obtain ⟨hH, hP2, hQ2⟩ := hJ
            simp only [hd, cond_true] at hH hQ2
            simp only [lput, List.set, hd, cond_true]
            clear hd
            go_wp2
            refine wp_region_frame (X := Unit) (fun d _ => [(60, bif d 0 then .int .u8 b else u60), (61, bif d 1 then .int .i64 y else u61), (62, bif d 2 then .int .u8 a else u62), (63, bif d 3 then .int .i64 y else u63), (64, bif d 4 then .pointer (some ⟨w.heap.size, 1, none⟩) else u64), (65, bif d 5 then .pointer (some ⟨w.heap.size, 1 + a * 10, none⟩) else u65), (66, bif d 6 then .pointer (some ⟨w.heap.size, 1 + a * 10 + y, none⟩) else u66), (67, bif d 7 then .int .u8 p.toNat else u67), (68, bif d 8 then .pointer (some ⟨gq, 1, none⟩) else u68), (69, bif d 9 then .pointer (some ⟨gq, 1 + b * 10, none⟩) else u69), (70, bif d 10 then .pointer (some ⟨gq, 1 + b * 10 + y, none⟩) else u70)])
              (fun d _ w' => Has w w' [(sqc N g, 31), (sqc 0 (fun _ => 0), 31)] ∧ holds w' gp (bls 10 S) 69 ∧ holds w' gq (bif d 11 then X2 else X1) 31) (by kernel_rfl) (by kernel_rfl) ?h0_s10 ?hs_s10 ?hq_s10
            case h0_s10 => exact ⟨(), (by simp [lput]), hH.drew, (show _ from hP2), (show _ from hQ2)⟩
            case hs_s10 =>
              refine ⟨?_, ?_, ?_, ?_, ?_, ?_, ?_, ?_, ?_, ?_, ?_, ?_, trivial⟩
              all_goals
                clear hH hP2 hQ2
                intro d _ w1 hd hn hJ
                simp only [needs, Region.binds, reduceCtorEq, Bool.false_eq_true, false_implies, true_and, and_true, true_implies, forall_const] at hn
                simp only [lput, List.set, hn, cond_true]
                try simp only [hd, cond_false] at hJ
                obtain ⟨hH, hP2, hQ2⟩ := hJ
                have c1 : w1.cell? ⟨w.heap.size, 1 + a * 10 + y, none⟩ = some (.int .u8 p.toNat) := by rw [hH.c0, Nat.add_assoc, sqc_get _ _ _ (by omega), HPP.out]
                go_wp2_with (first | fail | (refine wpL_cellW (g := gq) (v := .int .u8 p.toNat) (cs' := X2) (off := 1 + b * 10 + y) rfl rfl rfl rfl (by kernel_rfl) (by rfl) hQ2 (by rw [HZ1.out]; omega) (HX2.out) ?_; replace hH := hH.setRowAbove (by simpa using hlq) X2; have hQ3 : holds (w1.setRow gq X2) gq X2 31 := holds_row hQ2; replace hP2 : holds (w1.setRow gq X2) gp (bls 10 S) 69 := holds_row_other hP2 hpq))
                first
                  | (refine ⟨?_, hH, hP2, (by simpa [done] using hQ3)⟩; (simp [lput, done, hn]; done))
                  | (refine ⟨(), ?_, hH, hP2, hQ2⟩; (simp [lput, done, hn]; done))
                  | (refine ⟨?_, hH, hP2, hQ2⟩; (simp [lput, done, hn]; done))
                  | (refine ⟨(), ?_, hH, hP2, hQ2⟩; (simp [lput, done, hn]; rfl))
                  | (refine ⟨?_, hH, hP2, hQ2⟩; (simp [lput, done, hn]; rfl))
                  | (refine ⟨(), ?_, hH, hP2, hQ2⟩; (simp [lput, done]; done))
                  | (refine ⟨?_, hH, hP2, hQ2⟩; (simp [lput, done]; done))
                  | (refine ⟨(), ?_, hH, hP2, hQ2⟩; (simp [lput, done]; rfl))
                  | (refine ⟨?_, hH, hP2, hQ2⟩; (simp [lput, done]; rfl))
            case hq_s10 =>
              clear hH hP2 hQ2
              intro d _ w1 hd hJ
              simp only [allDone, List.length_cons, List.length_nil, Nat.reduceAdd, and_true] at hd
              obtain ⟨hH, hP2, hQ2⟩ := hJ
              simp only [hd, cond_true] at hH hQ2
              simp only [lput, List.set, hd, cond_true]
              clear hd
              go_wp2
              go_roundw
              case rel => exact ⟨y + 1, by omega, by go_num, hH, hP2, by rw [HXE.out]; exact hQ2⟩
              case measure => simp [intOf]; omega
      · obtain rfl : y = N := by omega
        have HE := hid (show swF g a b (fun z => decide (z < y) && SC z) = swF g a b SC from swF_congr fun z _ => by
          cases h : SC z with
          | false => simp
          | true => have := HLT.out z h; simp [this])
        go_wp2_with (first | fail | (refine wpL_loadFull (x := .tmp 12) rfl rfl rfl rowSq hQ2 (sqc_size _ _) ?_) | (refine wpL_storeFull (x := .tmp 8) rfl rfl rfl rfl rowSq hH.h1 (sqc_size _ _) (sqc_ok _ _) ?_))
        exact ret_ct rfl rfl rfl hH.r1.h1 rowSq (sqc_size _ _) ⟨by rw [HE.out]; rfl, hH.r1.below⟩
end Go.Proofs.Ytbdcbmennblcdaa
