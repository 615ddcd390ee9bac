/- Proved: what the model's l05Close returns: the least closed set. Conditions: those that the theorem names. -/
import Derived.Test.YtpfhjbcmlebejaaPc0
import Derived.Test.YtpfhjbcmlebejaaCl
import Derived.Test.YtpfhjbcmlebejaaReg
namespace Go.Proofs.Ytpfhjbcmlebejaa
set_option linter.unusedVariables false
set_option linter.unusedSimpArgs false
open Go.RowKit
def cellC (w : World) (B : Nat) : Nat → Bool := fun i => match w.cell? ⟨B, i, none⟩ with
  | some (.bool b) => b
  | _ => false
theorem cellC_of {w : World} {B : Nat} {R : Nat → Bool} {t : TypeId} (h : holds w B (bls 10 R) t) : cntB (cellC w B) = cntB R := by
  unfold cntB
  refine sm_congr fun i hi => ?_
  have : cellC w B i = R i := by
    unfold cellC
    rw [holds_cell h, bls_get _ _ _ hi]
  rw [this]
def bN : Value → Nat
  | .bool true => 1
  | _ => 0
/-- What has been found in one pass over the pairs before (x, y), from R on. -/
def Pass (g : Nat → UInt8) (N : Nat) (R : Nat → Bool) (c : Bool) (R' : Nat → Bool) (x y : Nat) : Prop := (c = true ∧ cntB R < cntB R') ∨ (c = false ∧ R' = R ∧ MulTo g N x y R)
theorem Pass.le {g : Nat → UInt8} {N : Nat} {R R' : Nat → Bool} {c : Bool} {x y : Nat} (h : Pass g N R c R' x y) : cntB R ≤ cntB R' := by
  rcases h with ⟨_, h⟩ | ⟨_, h, _⟩
  · omega
  · rw [h]; exact Nat.le_refl _
theorem Pass.add {g : Nat → UInt8} {N : Nat} {R R' : Nat → Bool} {c : Bool} {x y z : Nat} (h : Pass g N R c R' x y) (hz : R' z = false) (h10 : z < 10) : Pass g N R true (withB R' z) x y :=
  .inl ⟨rfl, by rw [cntB_with hz h10]; have := h.le; omega⟩
theorem Pass.stepy {g : Nat → UInt8} {N : Nat} {R R' : Nat → Bool} {c : Bool} {x y : Nat} (h : Pass g N R c R' x y) (e : R' x = true → R' y = true → c = true ∨ R' (mu g x y) = true) : Pass g N R c R' x (y + 1) := by
  rcases h with h | ⟨hc, hR, hT⟩
  · exact .inl h
  · refine .inr ⟨hc, hR, hT.stepy fun a b => ?_⟩
    subst hR
    rcases e a b with h1 | h1
    · rw [hc] at h1; cases h1
    · exact h1
theorem Pass.stepx {g : Nat → UInt8} {N : Nat} {R R' : Nat → Bool} {c : Bool} {x : Nat} (h : Pass g N R c R' x N) : Pass g N R c R' (x + 1) 0 := by
  rcases h with h | ⟨hc, hR, hT⟩
  · exact .inl h
  · exact .inr ⟨hc, hR, hT.stepx⟩
theorem Pass.start (g : Nat → UInt8) (N : Nat) (R : Nat → Bool) : Pass g N R false R 0 0 := .inr ⟨rfl, rfl, MulTo.start g N R⟩
theorem Pass.done {g : Nat → UInt8} {N : Nat} {R R' : Nat → Bool} {c : Bool} (h : Pass g N R c R' N 0) : c = false → MulCl g N R' := fun hc => by
  rcases h with ⟨h, _⟩ | ⟨_, hR, hT⟩
  · rw [hc] at h; cases h
  · rw [hR]; exact hT.done
theorem Pass.meas {g : Nat → UInt8} {N : Nat} {R R' : Nat → Bool} {c : Bool} {x y : Nat} (h : Pass g N R c R' x y) : (11 - cntB R') * 2 + bN (.bool c) < (11 - cntB R) * 2 + bN (.bool true) := by
  have := cntB_le R'
  rcases h with ⟨hc, h⟩ | ⟨hc, hR, _⟩
  · subst hc; show _ + 1 < _ + 1; omega
  · subst hc; rw [hR]; show _ + 0 < _ + 1; omega
set_option maxRecDepth 100000 in
set_option maxHeartbeats 8000000 in
theorem l05Close_any (N : Nat) (g : Nat → UInt8) (S : Nat → Bool) (w : World) (hq : IsSq N g) :
    Calls Try.prog 53 #[.agg (sqc N g), .agg (bls 10 S)] w fun e w' => e = .returned (.agg (bls 10 (clB g N S))) ∧ Below w.heap.size w w' := by
  have h1 := hq.lo
  have h10 := hq.hi
  have hN10 : (N : Int) ≤ 10 := by omega
  have e0 := bls_step 10 S (withB S 0) 0 true (fun j _ => rfl)
  have hH2 : Has w (((w.alloc (.cells (sqc N g) 30)).alloc (.cells ((bls 10 S).setIfInBounds 0 (.bool true)) 62)).alloc (.cells (bls 10 fun _ => false) 62)) [(sqc N g, 30), (bls 10 (withB S 0), 62), (bls 10 fun _ => false, 62)] := by
    have h := Has.start3 w (sqc N g) ((bls 10 S).setIfInBounds 0 (.bool true)) (bls 10 fun _ => false) 30 62 62
    rw [← e0]; exact h
  have HQ := hid hq
  clear hq e0
  obtain ⟨v1, c1⟩ : ∃ v, (((w.alloc (.cells (sqc N g) 30)).alloc (.cells (bls 10 S) 62)).alloc (.cells (bls 10 fun _ => false) 62)).cell? ⟨w.heap.size + 1, 0, none⟩ = some v := ⟨_, by rw [(Has.start3 w (sqc N g) (bls 10 S) (bls 10 fun _ => false) 30 62 62).c1, bls_get _ _ _ (by omega)]⟩
  go_enter Try.func53, Try.ntmps53
  go_wp2_with (first | fail | (refine wpL_alloc rfl rfl zeroBo ?_; intro g0 hg0; (try simp at hg0); subst hg0))
  clear c1
  go_loopw [6] (fun ch wr => ∃ (c : Bool) (R : Nat → Bool), ch = .bool c ∧ Has w wr [(sqc N g, 30), (bls 10 R, 62), (bls 10 fun _ => false, 62)] ∧ Hid (Gen g N S R) ∧ Hid (c = false → MulCl g N R)) (fun ch wr => (11 - cntB (cellC wr (w.heap.size + 1))) * 2 + bN ch)
  case atStart => exact ⟨true, withB S 0, rfl, hH2, hid (Gen.start g N S), hid (fun h => by cases h)⟩
  case round =>
    clear hH2
    obtain ⟨c, R, rfl, hH, HG, HC⟩ := hrel
    cases c with
    | false =>
      have HD := hid (HG.out.done (HC.out rfl))
      go_wp2_with (first | fail | (refine wpL_loadFull rfl rfl rfl rowBo hH.h1 (bls_size _ _) ?_) | (refine wpL_storeFull rfl rfl rfl rfl rowBo hH.h2 (bls_size _ _) (bls_ok _ _) ?_))
      exact ret_c rfl rfl hH.r2.h2 rowBo (bls_size _ _) ⟨by rw [← HD.out], hH.r2.below⟩
    | true =>
      clear HC
      have HK0 : Hid (cntB (cellC wr (w.heap.size + 1)) = cntB R) := hid (cellC_of hH.h1)
      go_wp2
      go_loopw [6, 7] (fun ch i wx => ∃ (x : Nat) (c : Bool) (R1 : Nat → Bool), x ≤ N ∧ i = .int .u8 x ∧ ch = .bool c ∧ Has w wx [(sqc N g, 30), (bls 10 R1, 62), (bls 10 fun _ => false, 62)] ∧ Hid (Gen g N S R1) ∧ Hid (Pass g N R c R1 x 0)) (fun _ i _ => 20 - (intOf i).toNat)
      case atStart => exact ⟨0, false, R, by omega, rfl, rfl, hH, HG, hid (Pass.start g N R)⟩
      case round =>
        clear HG hH
        obtain ⟨x, c, R1, hxN, rfl, rfl, hH, HG, HP⟩ := hrel
        by_cases hx : x < N
        · have hx1 : (x : Int) < N := by omega
          have hx10 : (x : Int) < 10 := by omega
          have hx10' : x < 10 := by omega
          go_wp2
          go_loopw [6, 8] (fun ch i wx => ∃ (y : Nat) (c : Bool) (R1 : Nat → Bool), y ≤ N ∧ i = .int .u8 y ∧ ch = .bool c ∧ Has w wx [(sqc N g, 30), (bls 10 R1, 62), (bls 10 fun _ => false, 62)] ∧ Hid (Gen g N S R1) ∧ Hid (Pass g N R c R1 x y)) (fun _ i _ => 20 - (intOf i).toNat)
          case atStart => exact ⟨0, c, R1, by omega, rfl, rfl, hH, HG, HP⟩
          case round =>
            clear HG hH HP
            obtain ⟨y, c, R1, hyN, rfl, rfl, hH, HG, HP⟩ := hrel
            by_cases hy : y < N
            · have hy1 : (y : Int) < N := by omega
              have hy10 : (y : Int) < 10 := by omega
              have hy10' : y < 10 := by omega
              by_cases hboth : R1 x = true ∧ R1 y = true
              · have HXY := hid hboth
                have cx : wr.cell? ⟨w.heap.size + 1, x, none⟩ = some (.bool true) := by rw [hH.c1, bls_get _ _ _ hx10', hboth.1]
                have cy : wr.cell? ⟨w.heap.size + 1, y, none⟩ = some (.bool true) := by rw [hH.c1, bls_get _ _ _ hy10', hboth.2]
                clear hboth
                go_wp2_with (first | fail | (refine wpL_guard rfl rfl ?_))
                clear cx cy
                go_loopw [6, 9] (fun ch i wx => ∃ (k : Nat) (c : Bool) (R2 : Nat → Bool), k ≤ 3 ∧ i = .int .i64 k ∧ ch = .bool c ∧ Has w wx [(sqc N g, 30), (bls 10 R2, 62), (bls 10 fun _ => false, 62)] ∧ Hid (Gen g N S R2) ∧ Hid (Pass g N R c R2 x y) ∧ Hid (R2 x = true ∧ R2 y = true) ∧ Hid (1 ≤ k → c = true ∨ R2 (mu g x y) = true)) (fun _ i _ => 20 - (intOf i).toNat)
                case atStart => exact ⟨0, c, R1, by omega, rfl, rfl, hH, HG, HP, HXY, hid (fun h => by omega)⟩
                case round =>
                  clear HG hH HP HXY
                  obtain ⟨k, c, R2, hk3, rfl, rfl, hH, HG, HP, HXY, HK⟩ := hrel
                  have hk4 : k = 0 ∨ k = 1 ∨ k = 2 ∨ k = 3 := by omega
                  clear hk3
                  rcases hk4 with rfl | rfl | rfl | rfl
                  · obtain ⟨z, hz⟩ : ∃ z, g (x * 10 + y) = z := ⟨_, rfl⟩
                    have hzl : z.toNat < N := by rw [← hz]; exact mu_lt HQ.out hx hy
                    have hz10 : z.toNat < 10 := by omega
                    have hz1 : (z.toNat : Int) < 10 := by omega
                    have HMU := hid (show mu g x y = z.toNat by unfold mu; rw [hz])
                    have HZ := hid hz
                    have HGz : Hid (Gen g N S (withB R2 z.toNat)) := hid (by rw [← hz]; exact HG.out.mul hx hy HXY.out.1 HXY.out.2)
                    obtain ⟨rz, hrz⟩ : ∃ rz, R2 z.toNat = rz := ⟨_, rfl⟩
                    have HRZ0 := hid hrz
                    clear hz hrz
                    go_wp2
                    refine wp_region_frame (X := Unit) (fun d _ => [(40, bif d 0 then .agg (sqc N g) else u40), (41, bif d 1 then .int .i64 0 else u41), (42, bif d 2 then .int .u8 42 else u42), (43, bif d 3 then .int .u8 x else u43), (44, bif d 4 then .int .u8 y else u44), (45, bif d 5 then .int .u8 z.toNat else u45), (10, bif d 6 then .int .u8 z.toNat else u10)])
                      (fun d _ w' => Has w w' [(sqc N g, 30), (bls 10 R2, 62), (bls 10 fun _ => false, 62)]) (by kernel_rfl) (by kernel_rfl) ?h0_k0 ?hs_k0 ?hq_k0
                    case h0_k0 => exact ⟨(), (by simp [lput]), hH.drew⟩
                    case hs_k0 =>
                      refine ⟨?_, ?_, ?_, ?_, ?_, ?_, ?_, trivial⟩
                      all_goals
                        clear hH
                        intro d _ w1 hd hn hJ
                        simp only [needs, Region.binds, reduceCtorEq, Bool.false_eq_true, false_implies, true_and, and_true, true_implies, forall_const] at hn
                        simp only [lput, List.set, hn, cond_true]
                        have hH := hJ; clear hJ
                        go_wp2_with (first | fail | (refine wpL_loadFull rfl rfl rfl rowSq hH.h0 (sqc_size _ _) ?_) | (go_at_call 76; refine (l03Apply_42 N x y g _ HQ.out hx hy).mono ?_; rintro e w3 ⟨rfl, hb⟩; rw [HZ.out]; replace hH := hH.call' hb; clear hb))
                        first
                          | (refine ⟨(), ?_, hH⟩; (simp [lput, done, hn]; done))
                          | (refine ⟨?_, hH⟩; (simp [lput, done, hn]; done))
                          | (refine ⟨(), ?_, hH⟩; (simp [lput, done, hn]; rfl))
                          | (refine ⟨?_, hH⟩; (simp [lput, done, hn]; rfl))
                          | (refine ⟨(), ?_, hH⟩; (simp [lput, done]; done))
                          | (refine ⟨?_, hH⟩; (simp [lput, done]; done))
                          | (refine ⟨(), ?_, hH⟩; (simp [lput, done]; rfl))
                          | (refine ⟨?_, hH⟩; (simp [lput, done]; rfl))
                    case hq_k0 =>
                      clear hH
                      intro d _ w1 hd hJ
                      simp only [allDone, List.length_cons, List.length_nil, Nat.reduceAdd, and_true] at hd
                      have hH := hJ; clear hJ
                      simp only [lput, List.set, hd, cond_true]
                      clear hd
                      have cz : w1.cell? ⟨w.heap.size + 1, z.toNat, none⟩ = some (.bool rz) := by rw [hH.c1, bls_get _ _ _ hz10, HRZ0.out]
                      have f1 := hH.f1
                      cases rz with
                      | true =>
                        have HRZ := hid HRZ0.out
                        clear HRZ0
                        go_wp2
                        go_roundw
                        case rel => exact ⟨0 + 1, c, R2, by omega, by go_num, rfl, hH, HG, HP, HXY, hid (fun _ => .inr (by rw [HMU.out]; exact HRZ.out))⟩
                        case measure => simp [intOf]
                      | false =>
                        have HRZ := hid HRZ0.out
                        clear HRZ0
                        go_wp2
                        go_roundw
                        case rel => exact ⟨0 + 1, true, withB R2 z.toNat, by omega, by go_num, rfl, hH.s1 _ _ (bls_step 10 R2 (withB R2 z.toNat) z.toNat true (fun j _ => rfl)), HGz, hid (HP.out.add HRZ.out hz10), hid ⟨withB_old HXY.out.1, withB_old HXY.out.2⟩, hid (fun _ => .inl rfl)⟩
                        case measure => simp [intOf]
                  · obtain ⟨z, hz⟩ : ∃ z, backF (rowF g x) N y = z := ⟨_, rfl⟩
                    have hzl : z.toNat < N := by rw [← hz]; exact ld_lt HQ.out hx hy
                    have hz10 : z.toNat < 10 := by omega
                    have hz1 : (z.toNat : Int) < 10 := by omega
                    have HZ := hid hz
                    have HGz : Hid (Gen g N S (withB R2 z.toNat)) := hid (by rw [← hz]; exact HG.out.left HQ.out hx hy HXY.out.1 HXY.out.2)
                    obtain ⟨rz, hrz⟩ : ∃ rz, R2 z.toNat = rz := ⟨_, rfl⟩
                    have HRZ0 := hid hrz
                    clear hz hrz
                    go_wp2
                    refine wp_region_frame (X := Unit) (fun d _ => [(40, bif d 0 then .agg (sqc N g) else u40), (41, bif d 1 then .int .i64 1 else u41), (42, bif d 2 then .int .u8 92 else u42), (43, bif d 3 then .int .u8 x else u43), (44, bif d 4 then .int .u8 y else u44), (45, bif d 5 then .int .u8 z.toNat else u45), (10, bif d 6 then .int .u8 z.toNat else u10)])
                      (fun d _ w' => Has w w' [(sqc N g, 30), (bls 10 R2, 62), (bls 10 fun _ => false, 62)]) (by kernel_rfl) (by kernel_rfl) ?h0_k1 ?hs_k1 ?hq_k1
                    case h0_k1 => exact ⟨(), (by simp [lput]), hH.drew⟩
                    case hs_k1 =>
                      refine ⟨?_, ?_, ?_, ?_, ?_, ?_, ?_, trivial⟩
                      all_goals
                        clear hH
                        intro d _ w1 hd hn hJ
                        simp only [needs, Region.binds, reduceCtorEq, Bool.false_eq_true, false_implies, true_and, and_true, true_implies, forall_const] at hn
                        simp only [lput, List.set, hn, cond_true]
                        have hH := hJ; clear hJ
                        go_wp2_with (first | fail | (refine wpL_loadFull rfl rfl rfl rowSq hH.h0 (sqc_size _ _) ?_) | (go_at_call 76; refine (l03Apply_92 N x y g _ HQ.out hx hy).mono ?_; rintro e w3 ⟨rfl, hb⟩; rw [HZ.out]; replace hH := hH.call' hb; clear hb))
                        first
                          | (refine ⟨(), ?_, hH⟩; (simp [lput, done, hn]; done))
                          | (refine ⟨?_, hH⟩; (simp [lput, done, hn]; done))
                          | (refine ⟨(), ?_, hH⟩; (simp [lput, done, hn]; rfl))
                          | (refine ⟨?_, hH⟩; (simp [lput, done, hn]; rfl))
                          | (refine ⟨(), ?_, hH⟩; (simp [lput, done]; done))
                          | (refine ⟨?_, hH⟩; (simp [lput, done]; done))
                          | (refine ⟨(), ?_, hH⟩; (simp [lput, done]; rfl))
                          | (refine ⟨?_, hH⟩; (simp [lput, done]; rfl))
                    case hq_k1 =>
                      clear hH
                      intro d _ w1 hd hJ
                      simp only [allDone, List.length_cons, List.length_nil, Nat.reduceAdd, and_true] at hd
                      have hH := hJ; clear hJ
                      simp only [lput, List.set, hd, cond_true]
                      clear hd
                      have cz : w1.cell? ⟨w.heap.size + 1, z.toNat, none⟩ = some (.bool rz) := by rw [hH.c1, bls_get _ _ _ hz10, HRZ0.out]
                      have f1 := hH.f1
                      cases rz with
                      | true =>
                        have HRZ := hid HRZ0.out
                        clear HRZ0
                        go_wp2
                        go_roundw
                        case rel => exact ⟨1 + 1, c, R2, by omega, by go_num, rfl, hH, HG, HP, HXY, hid (fun _ => HK.out (by omega))⟩
                        case measure => simp [intOf]
                      | false =>
                        have HRZ := hid HRZ0.out
                        clear HRZ0
                        go_wp2
                        go_roundw
                        case rel => exact ⟨1 + 1, true, withB R2 z.toNat, by omega, by go_num, rfl, hH.s1 _ _ (bls_step 10 R2 (withB R2 z.toNat) z.toNat true (fun j _ => rfl)), HGz, hid (HP.out.add HRZ.out hz10), hid ⟨withB_old HXY.out.1, withB_old HXY.out.2⟩, hid (fun _ => .inl rfl)⟩
                        case measure => simp [intOf]
                  · obtain ⟨z, hz⟩ : ∃ z, backF (colF g y) N x = z := ⟨_, rfl⟩
                    have hzl : z.toNat < N := by rw [← hz]; exact rd_lt HQ.out hy hx
                    have hz10 : z.toNat < 10 := by omega
                    have hz1 : (z.toNat : Int) < 10 := by omega
                    have HZ := hid hz
                    have HGz : Hid (Gen g N S (withB R2 z.toNat)) := hid (by rw [← hz]; exact HG.out.right HQ.out hx hy HXY.out.1 HXY.out.2)
                    obtain ⟨rz, hrz⟩ : ∃ rz, R2 z.toNat = rz := ⟨_, rfl⟩
                    have HRZ0 := hid hrz
                    clear hz hrz
                    go_wp2
                    refine wp_region_frame (X := Unit) (fun d _ => [(40, bif d 0 then .agg (sqc N g) else u40), (41, bif d 1 then .int .i64 2 else u41), (42, bif d 2 then .int .u8 47 else u42), (43, bif d 3 then .int .u8 x else u43), (44, bif d 4 then .int .u8 y else u44), (45, bif d 5 then .int .u8 z.toNat else u45), (10, bif d 6 then .int .u8 z.toNat else u10)])
                      (fun d _ w' => Has w w' [(sqc N g, 30), (bls 10 R2, 62), (bls 10 fun _ => false, 62)]) (by kernel_rfl) (by kernel_rfl) ?h0_k2 ?hs_k2 ?hq_k2
                    case h0_k2 => exact ⟨(), (by simp [lput]), hH.drew⟩
                    case hs_k2 =>
                      refine ⟨?_, ?_, ?_, ?_, ?_, ?_, ?_, trivial⟩
                      all_goals
                        clear hH
                        intro d _ w1 hd hn hJ
                        simp only [needs, Region.binds, reduceCtorEq, Bool.false_eq_true, false_implies, true_and, and_true, true_implies, forall_const] at hn
                        simp only [lput, List.set, hn, cond_true]
                        have hH := hJ; clear hJ
                        go_wp2_with (first | fail | (refine wpL_loadFull rfl rfl rfl rowSq hH.h0 (sqc_size _ _) ?_) | (go_at_call 76; refine (l03Apply_47 N x y g _ HQ.out hx hy).mono ?_; rintro e w3 ⟨rfl, hb⟩; rw [HZ.out]; replace hH := hH.call' hb; clear hb))
                        first
                          | (refine ⟨(), ?_, hH⟩; (simp [lput, done, hn]; done))
                          | (refine ⟨?_, hH⟩; (simp [lput, done, hn]; done))
                          | (refine ⟨(), ?_, hH⟩; (simp [lput, done, hn]; rfl))
                          | (refine ⟨?_, hH⟩; (simp [lput, done, hn]; rfl))
                          | (refine ⟨(), ?_, hH⟩; (simp [lput, done]; done))
                          | (refine ⟨?_, hH⟩; (simp [lput, done]; done))
                          | (refine ⟨(), ?_, hH⟩; (simp [lput, done]; rfl))
                          | (refine ⟨?_, hH⟩; (simp [lput, done]; rfl))
                    case hq_k2 =>
                      clear hH
                      intro d _ w1 hd hJ
                      simp only [allDone, List.length_cons, List.length_nil, Nat.reduceAdd, and_true] at hd
                      have hH := hJ; clear hJ
                      simp only [lput, List.set, hd, cond_true]
                      clear hd
                      have cz : w1.cell? ⟨w.heap.size + 1, z.toNat, none⟩ = some (.bool rz) := by rw [hH.c1, bls_get _ _ _ hz10, HRZ0.out]
                      have f1 := hH.f1
                      cases rz with
                      | true =>
                        have HRZ := hid HRZ0.out
                        clear HRZ0
                        go_wp2
                        go_roundw
                        case rel => exact ⟨2 + 1, c, R2, by omega, by go_num, rfl, hH, HG, HP, HXY, hid (fun _ => HK.out (by omega))⟩
                        case measure => simp [intOf]
                      | false =>
                        have HRZ := hid HRZ0.out
                        clear HRZ0
                        go_wp2
                        go_roundw
                        case rel => exact ⟨2 + 1, true, withB R2 z.toNat, by omega, by go_num, rfl, hH.s1 _ _ (bls_step 10 R2 (withB R2 z.toNat) z.toNat true (fun j _ => rfl)), HGz, hid (HP.out.add HRZ.out hz10), hid ⟨withB_old HXY.out.1, withB_old HXY.out.2⟩, hid (fun _ => .inl rfl)⟩
                        case measure => simp [intOf]
                  · have HP2 := hid (HP.out.stepy (fun _ _ => HK.out (by omega)))
                    clear HP
                    go_wp2
                    go_roundw
                    case rel => exact ⟨y + 1, c, R2, by omega, by go_num, rfl, hH, HG, HP2⟩
                    case measure => simp [intOf]; omega
              · have HP2 := hid (HP.out.stepy (fun a b => absurd ⟨a, b⟩ hboth))
                clear HP
                obtain ⟨rx, hrx⟩ : ∃ rx, R1 x = rx := ⟨_, rfl⟩
                obtain ⟨ry, hry⟩ : ∃ ry, R1 y = ry := ⟨_, rfl⟩
                have cx : wr.cell? ⟨w.heap.size + 1, x, none⟩ = some (.bool rx) := by rw [hH.c1, bls_get _ _ _ hx10', hrx]
                have cy : wr.cell? ⟨w.heap.size + 1, y, none⟩ = some (.bool ry) := by rw [hH.c1, bls_get _ _ _ hy10', hry]
                rw [hrx, hry] at hboth
                clear hrx hry
                have hcase : rx = false ∨ (rx = true ∧ ry = false) := by
                  cases rx <;> cases ry <;> simp at hboth ⊢
                clear hboth
                rcases hcase with rfl | ⟨rfl, rfl⟩
                all_goals
                  go_wp2_with (first | fail | (refine wpL_guard rfl rfl ?_))
                  go_roundw
                  case rel => exact ⟨y + 1, c, R1, by omega, by go_num, rfl, hH, HG, HP2⟩
                  case measure => simp [intOf]; omega
            · obtain rfl : y = N := by omega
              have HP2 := hid HP.out.stepx
              clear HP
              go_wp2
              go_roundw
              case rel => exact ⟨x + 1, c, R1, by omega, by go_num, rfl, hH, HG, HP2⟩
              case measure => simp [intOf]; omega
        · obtain rfl : x = N := by omega
          have HD := hid HP.out.done
          go_wp2
          go_roundw
          case rel => exact ⟨c, R1, rfl, hH, HG, HD⟩
          case measure =>
            rw [cellC_of hH.h1, HK0.out]
            exact HP.out.meas
end Go.Proofs.Ytpfhjbcmlebejaa
