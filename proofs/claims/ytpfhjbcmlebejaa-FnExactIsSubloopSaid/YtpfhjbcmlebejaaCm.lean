/- Proved: what the program's closureOf returns: the least closed set. Conditions: those that the theorem names. -/
import Derived.Test.YtpfhjbcmlebejaaSj
import Derived.Test.YtpfhjbcmlebejaaCl
import Derived.Test.YtpfhjbcmlebejaaMl
namespace Go.Proofs.Ytpfhjbcmlebejaa
set_option linter.unusedVariables false
set_option linter.unusedSimpArgs false
open Go.RowKit
/-- What holds at a jump to label l. -/
def clJ (w : World) (N : Nat) (g : Nat → UInt8) (S : Nat → Bool) (l : Nat) (a : Act) (wr : World) : Prop :=
  ∃ (x y : Nat) (R : Nat → Bool) (u7 u8 u9 u10 u11 u12 u13 u14 u15 u16 u17 u18 u19 u20 u21 u22 u23 u24 u25 u26 u27 u28 u29 u30 u31 u32 u33 u34 u35 u36 u37 u38 u39 u40 u41 u42 u43 : Value), a = { tmps := #[.agg (sqc N g), .agg (bls 10 S), .pointer (some ⟨w.heap.size, 0, none⟩), .pointer (some ⟨w.heap.size + 1, 0, none⟩), .pointer (some ⟨w.heap.size + 2, 0, none⟩), .int .i64 (x : Nat), .int .i64 (y : Nat), u7, u8, u9, u10, u11, u12, u13, u14, u15, u16, u17, u18, u19, u20, u21, u22, u23, u24, u25, u26, u27, u28, u29, u30, u31, u32, u33, u34, u35, u36, u37, u38, u39, u40, u41, u42, u43], defers := [] } ∧
    Has w wr [(sqc N g, 30), (bls 10 R, 65), (bls 10 fun _ => false, 65)] ∧ Gen g N S R ∧ x < N ∧ y < N ∧ (l = 0 ∨ (l = 1 ∧ MulTo g N x y R))
def cellB (w : World) (B : Nat) : Nat → Bool := fun i => match w.cell? ⟨B, i, none⟩ with
  | some (.bool b) => b
  | _ => false
theorem cellB_of {w : World} {B : Nat} {R : Nat → Bool} {t : TypeId} (h : holds w B (bls 10 R) t) : cntB (cellB w B) = cntB R := by
  unfold cntB
  refine sm_congr fun i hi => ?_
  have : cellB w B i = R i := by
    unfold cellB
    rw [holds_cell h, bls_get _ _ _ hi]
  rw [this]
def clM (w : World) (l : Nat) (a : Act) (wr : World) : Nat :=
  (11 - cntB (cellB wr (w.heap.size + 1))) * 1000 + (if l = 0 then 500 else 400 - (10 * (intOf (a.tmps.getD 5 undef)).toNat + (intOf (a.tmps.getD 6 undef)).toNat))
theorem meas_add {c x y m : Nat} {R R' : Nat → Bool} (h : cntB R' = cntB R + 1) (hc : cntB R' ≤ 10) (hm : (11 - cntB R) * 1000 + (400 - (10 * x + y)) ≤ m) : (11 - cntB R') * 1000 + 500 < m := by omega
set_option maxRecDepth 100000 in
set_option maxHeartbeats 8000000 in
theorem look_any (w : World) (N : Nat) (g : Nat → UInt8) (S : Nat → Bool) (hq : IsSq N g) (r0 c rest : Code) (hb : Try.f56.body = some (.seq r0 (.scope c))) (hf : findLabel c 1 = some (.seq .skip rest))
    (J' : Nat → Act → World → Prop) (Q : Exit → Act → World → Prop) (m : Nat) (hJ : Hid (∀ l a' w', clJ w N g S l a' w' → clM w l a' w' < m → J' l a' w'))
    (hQ : Hid (∀ a' w' R, a'.tmps[4]? = some (.pointer (some ⟨w.heap.size + 2, 0, none⟩)) → a'.defers = [] → Has w w' [(sqc N g, 30), (bls 10 R, 65), (bls 10 R, 65)] → Gen g N S R → MulCl g N R → Q .ret a' w'))
    (x y : Nat) (R : Nat → Bool) (u7 u8 u9 u10 u11 u12 u13 u14 u15 u16 u17 u18 u19 u20 u21 u22 u23 u24 u25 u26 u27 u28 u29 u30 u31 u32 u33 u34 u35 u36 u37 u38 u39 u40 u41 u42 u43 : Value) (wr : World) (hx : x < N) (hy : y < N) (hH : Has w wr [(sqc N g, 30), (bls 10 R, 65), (bls 10 fun _ => false, 65)]) (hG : Gen g N S R) (hT : MulTo g N x y R) (hm : (11 - cntB R) * 1000 + (400 - (10 * x + y)) ≤ m) :
    rest.wp Try.prog (jumpsQ J' Q) { tmps := #[.agg (sqc N g), .agg (bls 10 S), .pointer (some ⟨w.heap.size, 0, none⟩), .pointer (some ⟨w.heap.size + 1, 0, none⟩), .pointer (some ⟨w.heap.size + 2, 0, none⟩), .int .i64 (x : Nat), .int .i64 (y : Nat), u7, u8, u9, u10, u11, u12, u13, u14, u15, u16, u17, u18, u19, u20, u21, u22, u23, u24, u25, u26, u27, u28, u29, u30, u31, u32, u33, u34, u35, u36, u37, u38, u39, u40, u41, u42, u43], defers := [] } wr := by
  cases hb
  cases hf
  have h10 := hq.hi
  have hx10 : x < 10 := by omega
  have hy10 : y < 10 := by omega
  have hx1 : (x : Int) < 10 := by omega
  have hy1 : (y : Int) < 10 := by omega
  have HQ := hid hq
  clear hq
  obtain ⟨z, hz⟩ : ∃ z, g (x * 10 + y) = z := ⟨_, rfl⟩
  have hzl : z.toNat < N := by rw [← hz]; exact mu_lt HQ.out hx hy
  have hz10 : z.toNat < 10 := by omega
  have hz1 : (z.toNat : Int) < 10 := by omega
  have hmu : mu g x y = z.toNat := by unfold mu; rw [hz]
  have HZ := hid hz
  have HMU := hid hmu
  clear hz hmu
  have HM := hid hm
  have HG := hid hG
  have HT := hid hT
  clear hm hG hT
  have c0 : wr.cell? ⟨w.heap.size, 0, none⟩ = some (.int .i64 N) := by rw [hH.c0, sqc_get0]
  have ca : wr.cell? ⟨w.heap.size, 1 + x * 10 + y, none⟩ = some (.int .u8 z.toNat) := by rw [hH.c0, Nat.add_assoc, sqc_get _ _ _ (by omega), HZ.out]
  obtain ⟨rx, hrx⟩ : ∃ rx, R x = rx := ⟨_, rfl⟩
  obtain ⟨ry, hry⟩ : ∃ ry, R y = ry := ⟨_, rfl⟩
  obtain ⟨rz, hrz⟩ : ∃ rz, R z.toNat = rz := ⟨_, rfl⟩
  have cx : wr.cell? ⟨w.heap.size + 1, x, none⟩ = some (.bool rx) := by rw [hH.c1, bls_get _ _ _ hx10, hrx]
  have cy : wr.cell? ⟨w.heap.size + 1, y, none⟩ = some (.bool ry) := by rw [hH.c1, bls_get _ _ _ hy10, hry]
  have cz : wr.cell? ⟨w.heap.size + 1, z.toNat, none⟩ = some (.bool rz) := by rw [hH.c1, bls_get _ _ _ hz10, hrz]
  have f1 := hH.f1
  have HRX := hid hrx
  have HRY := hid hry
  have HRZ := hid hrz
  clear hrx hry hrz
  by_cases hadd : rx = true ∧ ry = true ∧ rz = false
  · obtain ⟨rfl, rfl, rfl⟩ := hadd
    go_wp2_with (first | fail | (refine wpL_guard rfl rfl ?_))
    go_step3
    refine hJ.out 0 _ _ ⟨x, y, withB R z.toNat, _, _, _, _, _, _, _, _, _, _, _, _, _, _, _, _, _, _, _, _, _, _, _, _, _, _, _, _, _, _, _, _, _, _, _, _, _, rfl, hH.s1 _ _ (bls_step 10 R (withB R z.toNat) z.toNat true (fun j _ => rfl)), by rw [← HMU.out]; exact HG.out.mul hx hy HRX.out HRY.out, hx, hy, .inl rfl⟩ ?_
    unfold clM
    rw [if_pos rfl, cellB_of (hH.s1 _ _ (bls_step 10 R (withB R z.toNat) z.toNat true (fun j _ => rfl))).h1]
    exact meas_add (c := 0) (cntB_with HRZ.out hz10) (cntB_le _) HM.out
  · have hE : R x = true → R y = true → R (mu g x y) = true := fun a b => by
      rw [HMU.out, HRZ.out]
      rw [HRX.out] at a
      rw [HRY.out] at b
      cases rz with
      | true => rfl
      | false => exact absurd ⟨a, b, rfl⟩ hadd
    have HTy := hid (HT.out.stepy hE)
    clear hE HT
    have hcase : rx = false ∨ (rx = true ∧ ry = false) ∨ (rx = true ∧ ry = true ∧ rz = true) := by
      cases rx <;> cases ry <;> cases rz <;> simp at hadd ⊢
    clear hadd HRX HRY HRZ
    by_cases hyN : y + 1 < N
    · have hyN' : (y : Int) + 1 < (N : Int) := by omega
      rcases hcase with rfl | ⟨rfl, rfl⟩ | ⟨rfl, rfl, rfl⟩
      all_goals
        go_wp2_with (first | fail | (refine wpL_guard rfl rfl ?_))
        go_step3
        refine hJ.out 1 _ _ ⟨x, y + 1, R, _, _, _, _, _, _, _, _, _, _, _, _, _, _, _, _, _, _, _, _, _, _, _, _, _, _, _, _, _, _, _, _, _, _, _, _, _, rfl, hH, HG.out, hx, hyN, .inr ⟨rfl, HTy.out⟩⟩ ?_
        unfold clM
        rw [if_neg (by decide), cellB_of hH.h1]
        have := HM.out
        simp [intOf]; omega
    · have hyN' : ¬ (y : Int) + 1 < (N : Int) := by omega
      obtain rfl : N = y + 1 := by omega
      have HTx := hid (HTy.out.stepx)
      clear HTy
      by_cases hxN : x + 1 < y + 1
      · have hxN' : (x : Int) + 1 < ((y + 1 : Nat) : Int) := by omega
        rcases hcase with rfl | ⟨rfl, rfl⟩ | ⟨rfl, rfl, rfl⟩
        all_goals
          go_wp2_with (first | fail | (refine wpL_guard rfl rfl ?_))
          go_step3
          refine hJ.out 1 _ _ ⟨x + 1, 0, R, _, _, _, _, _, _, _, _, _, _, _, _, _, _, _, _, _, _, _, _, _, _, _, _, _, _, _, _, _, _, _, _, _, _, _, _, _, rfl, hH, HG.out, hxN, by omega, .inr ⟨rfl, HTx.out⟩⟩ ?_
          unfold clM
          rw [if_neg (by decide), cellB_of hH.h1]
          have := HM.out
          simp [intOf]; omega
      · have hxN' : ¬ (x : Int) + 1 < ((y + 1 : Nat) : Int) := by omega
        have HC := hid (HTx.out.done' (by omega))
        rcases hcase with rfl | ⟨rfl, rfl⟩ | ⟨rfl, rfl, rfl⟩
        all_goals
          go_wp2_with (first | fail | (refine wpL_guard rfl rfl ?_) | (refine wpL_loadFull rfl rfl rfl rowMe hH.h1 (bls_size _ _) ?_) | (refine wpL_storeFull rfl rfl rfl rfl rowMe hH.h2 (bls_size _ _) (bls_ok _ _) ?_))
          exact hQ.out _ _ R rfl rfl hH.r2 HG.out HC.out
set_option maxRecDepth 100000 in
set_option maxHeartbeats 8000000 in
theorem closureOf_any (N : Nat) (g : Nat → UInt8) (S : Nat → Bool) (w : World) (hq : IsSq N g) :
    Calls Try.prog 56 #[.agg (sqc N g), .agg (bls 10 S)] w fun e w' => e = .returned (.agg (bls 10 (clB g N S))) ∧ Below w.heap.size w w' := by
  have h1 := hq.lo
  have e0 := bls_step 10 S (withB S 0) 0 true (fun j _ => rfl)
  have hH2 : Has w (((w.alloc (.cells (sqc N g) 30)).alloc (.cells ((bls 10 S).setIfInBounds 0 (.bool true)) 65)).alloc (.cells (bls 10 fun _ => false) 65)) [(sqc N g, 30), (bls 10 (withB S 0), 65), (bls 10 fun _ => false, 65)] := by
    have h := Has.start3 w (sqc N g) ((bls 10 S).setIfInBounds 0 (.bool true)) (bls 10 fun _ => false) 30 65 65
    rw [← e0]; exact h
  have HQ := hid hq
  clear hq e0
  obtain ⟨v1, c1⟩ : ∃ v, (((w.alloc (.cells (sqc N g) 30)).alloc (.cells (bls 10 S) 65)).alloc (.cells (bls 10 fun _ => false) 65)).cell? ⟨w.heap.size + 1, 0, none⟩ = some v := ⟨_, by rw [(Has.start3 w (sqc N g) (bls 10 S) (bls 10 fun _ => false) 30 65 65).c1, bls_get _ _ _ (by omega)]⟩
  go_enter Try.func56, Try.ntmps56
  go_wp2_with (first | fail | (refine wpL_alloc rfl rfl zeroMe ?_; intro g0 hg0; (try simp at hg0); subst hg0))
  refine wp_scope_multi (clJ w N g S) (clM w) ?_ ?_
  · go_wp2
    go_step3
    go_wp2
    go_step3
    rename_i hK
    refine hK _ _ (look_any w N g S HQ.out _ _ _ rfl rfl _ _ 20000 (hid fun l a' w' h _ => h) (hid fun a' w' R h4 hd hR hG hC => ?_) 0 0 (withB S 0) _ _ _ _ _ _ _ _ _ _ _ _ _ _ _ _ _ _ _ _ _ _ _ _ _ _ _ _ _ _ _ _ _ _ _ _ _ _ h1 h1 hH2 (Gen.start g N S) (MulTo.start _ _ _) (by omega))
    obtain ⟨tmps, defs⟩ := a'
    obtain rfl : defs = [] := hd
    exact ret_c rfl h4 hR.h2 rowMe (bls_size _ _) ⟨by rw [← hG.done hC], hR.below⟩
  · rintro l a' w' ⟨x, y, R, u7, u8, u9, u10, u11, u12, u13, u14, u15, u16, u17, u18, u19, u20, u21, u22, u23, u24, u25, u26, u27, u28, u29, u30, u31, u32, u33, u34, u35, u36, u37, u38, u39, u40, u41, u42, u43, rfl, hR, hG, hx, hy, hl⟩
    have hM := cellB_of hR.h1
    rcases hl with rfl | ⟨rfl, hT⟩
    · refine ⟨_, rfl, ?_⟩
      go_wp2
      go_step3
      rename_i hK
      refine hK _ _ (look_any w N g S HQ.out _ _ _ rfl rfl _ _ _ (hid fun l a' w' h h2 => ⟨h, h2⟩) (hid fun a' w' R h4 hd hR hG hC => ?_) 0 0 R _ _ _ _ _ _ _ _ _ _ _ _ _ _ _ _ _ _ _ _ _ _ _ _ _ _ _ _ _ _ _ _ _ _ _ _ _ _ h1 h1 hR hG (MulTo.start _ _ _) ?_)
      · obtain ⟨tmps, defs⟩ := a'
        obtain rfl : defs = [] := hd
        exact ret_c rfl h4 hR.h2 rowMe (bls_size _ _) ⟨by rw [← hG.done hC], hR.below⟩
      · unfold clM
        rw [if_pos rfl, hM]; omega
    · refine ⟨_, rfl, ?_⟩
      refine wp_seq (wp_skip (look_any w N g S HQ.out _ _ _ rfl rfl _ _ _ (hid fun l a' w' h h2 => ⟨h, h2⟩) (hid fun a' w' R h4 hd hR hG hC => ?_) x y R _ _ _ _ _ _ _ _ _ _ _ _ _ _ _ _ _ _ _ _ _ _ _ _ _ _ _ _ _ _ _ _ _ _ _ _ _ _ hx hy hR hG hT ?_))
      · obtain ⟨tmps, defs⟩ := a'
        obtain rfl : defs = [] := hd
        exact ret_c rfl h4 hR.h2 rowMe (bls_size _ _) ⟨by rw [← hG.done hC], hR.below⟩
      · unfold clM
        rw [if_neg (by decide), hM]
        simp [intOf]
end Go.Proofs.Ytpfhjbcmlebejaa
