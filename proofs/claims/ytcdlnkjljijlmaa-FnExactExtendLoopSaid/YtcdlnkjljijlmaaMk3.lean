/- Proved: what DoubleOfGroup returns, of program and model alike. Conditions: those that each theorem names. -/
import Derived.Test.YtcdlnkjljijlmaaMk2
import Derived.Test.YtcdlnkjljijlmaaIv
import Derived.Test.YtcdlnkjljijlmaaLx
namespace Go.Proofs.Ytcdlnkjljijlmaa
set_option linter.unusedVariables false
set_option linter.unusedSimpArgs false
open Go.RowKit
/-- A byte for a number. -/
theorem byte_of (n : Nat) (h : n < 256) : ∃ b : UInt8, b.toNat = n := ⟨UInt8.ofNat n, u8_of n h⟩
set_option maxRecDepth 20000 in
set_option maxHeartbeats 2000000 in
theorem doubled_any (N gb x y : Nat) (g pl : Nat → UInt8) (ts co : Value) (fa : UInt8) (w : World) (hq : IsSq N g) (h5 : N ≤ 5) (hx : x < 2 * N) (hy : y < 2 * N) (hg : Dv w gb N g) :
    Calls Try.prog 108 #[.agg (matc (.pointer (some ⟨gb, 0, none⟩)) ts fa co pl), .int .u8 (x : Nat), .int .u8 (y : Nat)] w fun e w' => e = .returned (.int .u8 (dubV g N x y).toNat) ∧ Below w.heap.size w w' := by
  have hlt := holds_lt hg
  have h10 : N ≤ 10 := by omega
  obtain ⟨X, hX⟩ := byte_of x (by omega)
  obtain ⟨Y, hY⟩ := byte_of y (by omega)
  have hH := Has.start1 w (matc (.pointer (some ⟨gb, 0, none⟩)) ts fa co pl) 66
  have c0 := hH.c0 0
  rw [matc_0] at c0
  have hD : Dv (w.alloc (.cells (matc (.pointer (some ⟨gb, 0, none⟩)) ts fa co pl) 66)) gb N g := holds_alloc hg _
  clear hg
  have cN : (w.alloc (.cells (matc (.pointer (some ⟨gb, 0, none⟩)) ts fa co pl) 66)).cell? ⟨gb, 0, none⟩ = some (.int .i64 N) := by rw [holds_cell hD, dvc_get0 _ _ _ _ _ (by omega), sqc_get0]
  have hN : (N : Int) ≤ 5 := by omega
  have hxI : (x : Int) < 10 := by omega
  have hyI : (y : Int) < 10 := by omega
  by_cases h1 : x < N
  · have h1' : (x : Int) < N := by omega
    by_cases h2 : y < N
    · have h2' : (y : Int) < N := by omega
      obtain ⟨v, hv⟩ : ∃ v, dubV g N x y = v := ⟨_, rfl⟩
      have hv2 : g (X.toNat * 10 + Y.toNat) = v := by rw [← hv, hX, hY]; unfold dubV; rw [if_pos h1, if_pos h2]
      rw [hv, ← hX, ← hY]
      have hXl : X.toNat < N := by omega
      have hYl : Y.toNat < N := by omega
      have HV := hid hv2
      have e1 : (X.toNat : Int) < N := by omega
      have e2 : (Y.toNat : Int) < N := by omega
      clear hv hv2 hX hY
      go_enter Try.func108, Try.ntmps108
      go_wp2_with (first | fail | (refine wpL_guard rfl rfl ?_) | (go_at_call 67; refine (product_any N gb g X Y _ h10 hXl hYl hD).mono ?_; rintro e w3 ⟨rfl, hb⟩; rw [HV.out]; replace hH := hH.call' hb; clear hb))
      go_ret
      exact ⟨rfl, hH.below⟩
    · obtain ⟨Z, hZ⟩ := byte_of (y - N) (by omega)
      obtain ⟨p, hp⟩ : ∃ p, g (Z.toNat * 10 + X.toNat) = p := ⟨_, rfl⟩
      have hXl : X.toNat < N := by omega
      have hZl : Z.toNat < N := by omega
      have hpl : p.toNat < N := by rw [← hp]; exact (hq.rows _ hZl).lt _ hXl
      have hv : ((dubV g N x y).toNat : Int) = (N : Int) + (p.toNat : Int) := by
        unfold dubV
        rw [if_pos h1, if_neg h2, ← hZ, ← hX, hp, UInt8.toNat_add, u8_of N (by omega)]
        omega
      rw [hv, ← hX, ← hY]
      have HV := hid hp
      have HZ := hid (show (Y.toNat : Int) - (N : Int) = (Z.toNat : Int) by omega)
      have e1 : (X.toNat : Int) < N := by omega
      have e2 : ¬ (Y.toNat : Int) < N := by omega
      have e3 : (Y.toNat : Int) < 10 := by omega
      have e4 : (p.toNat : Int) < 5 := by omega
      clear hv hp hX hY hZ
      go_enter Try.func108, Try.ntmps108
      go_wp2_with (first | fail | (refine wpL_guard rfl rfl ?_) | (go_at_call 67; rw [HZ.out]; refine (product_any N gb g Z X _ h10 hZl hXl hD).mono ?_; rintro e w3 ⟨rfl, hb⟩; rw [HV.out]; replace hH := hH.call' hb; clear hb))
      go_ret
      exact ⟨rfl, hH.below⟩
  · by_cases h2 : y < N
    · obtain ⟨Z, hZ⟩ := byte_of (x - N) (by omega)
      have hYl : Y.toNat < N := by omega
      have hZl : Z.toNat < N := by omega
      obtain ⟨p, hp⟩ : ∃ p, backF (colF g Y.toNat) N Z.toNat = p := ⟨_, rfl⟩
      have hpl : p.toNat < N := by rw [← hp]; exact (bk_lt (hq.cols _ hYl) hZl).1
      have hv : ((dubV g N x y).toNat : Int) = (N : Int) + (p.toNat : Int) := by
        unfold dubV
        rw [if_neg h1, if_pos h2, ← hZ, ← hY, hp, UInt8.toNat_add, u8_of N (by omega)]
        omega
      rw [hv, ← hX, ← hY]
      have HV := hid hp
      have HZ := hid (show (X.toNat : Int) - (N : Int) = (Z.toNat : Int) by omega)
      have e1 : ¬ (X.toNat : Int) < N := by omega
      have e2 : (Y.toNat : Int) < N := by omega
      have e3 : (X.toNat : Int) < 10 := by omega
      have e4 : (p.toNat : Int) < 5 := by omega
      clear hv hp hX hY hZ
      go_enter Try.func108, Try.ntmps108
      go_wp2_with (first | fail | (refine wpL_guard rfl rfl ?_) | (go_at_call 116; rw [HZ.out]; refine (rightQuotient_any N gb g Z Y _ h10 hZl hYl hD).mono ?_; rintro e w3 ⟨rfl, hb⟩; rw [HV.out]; replace hH := hH.call' hb; clear hb))
      go_ret
      exact ⟨rfl, hH.below⟩
    · obtain ⟨Z, hZ⟩ := byte_of (x - N) (by omega)
      obtain ⟨U, hU⟩ := byte_of (y - N) (by omega)
      have hUl : U.toNat < N := by omega
      have hZl : Z.toNat < N := by omega
      have hv : dubV g N x y = ld g N U.toNat Z.toNat := by
        unfold dubV
        rw [if_neg h1, if_neg h2, hU, hZ]
      rw [hv, ← hX, ← hY]
      have HZ := hid (show (X.toNat : Int) - (N : Int) = (Z.toNat : Int) by omega)
      have HU := hid (show (Y.toNat : Int) - (N : Int) = (U.toNat : Int) by omega)
      have e1 : ¬ (X.toNat : Int) < N := by omega
      have e2 : ¬ (Y.toNat : Int) < N := by omega
      have e3 : (X.toNat : Int) < 10 := by omega
      have e4 : (Y.toNat : Int) < 10 := by omega
      clear hv hX hY hZ hU
      go_enter Try.func108, Try.ntmps108
      go_wp2_with (first | fail | (refine wpL_guard rfl rfl ?_) | (go_at_call 98; rw [HZ.out, HU.out]; refine (leftQuotient_any N gb g U Z _ h10 hUl hZl hD).mono ?_; rintro e w3 ⟨rfl, hb⟩; replace hH := hH.call' hb; clear hb))
      go_ret
      exact ⟨rfl, hH.below⟩
theorem group_out {o : Int} {g : Nat → UInt8} {N : Nat} (h : sqB (N : Int) g = true) (hg : groupB (N : Int) g = false) (hl : loopB (N : Int) g = true) : ascB (N : Int) g = false := by
  unfold groupB at hg
  rw [hl] at hg
  simpa using hg
theorem gcode_no {o : Int} {g : Nat → UInt8} {ok : Bool} (h : (sqB o g && ok) = false) : gcode o g ok = 1 := by unfold gcode; rw [h]; rfl
theorem gcode_5 {o : Int} {g : Nat → UInt8} {ok : Bool} (h : (sqB o g && ok) = true) (hg : groupB o g = false) : gcode o g ok = 5 := by unfold gcode; rw [h, hg]; rfl
theorem gcode_0 {o : Int} {g : Nat → UInt8} {ok : Bool} (h : (sqB o g && ok) = true) (hg : groupB o g = true) : gcode o g ok = 0 := by unfold gcode; rw [h, hg]; rfl
set_option maxRecDepth 20000 in
set_option maxHeartbeats 2000000 in
theorem implDouble_bad (o : Int) (g : Nat → UInt8) (z : Int) (w : World) (hz : gcode o g true = z) (hzz : (z == 0) = false) :
    Calls Try.prog 17 #[.agg (sqc o g)] w fun e w' => e = .returned (.tuple #[.agg (sqc 0 fun _ => 0), .int .i64 z]) ∧ Below w.heap.size w w' := by
  have HZ := hid hz
  clear hz
  have hz2 : ¬ (z = 0) := by simpa using hzz
  have hH := Has.start2 w (sqc o g) (sqc 0 fun _ => 0) 28 28
  go_enter Try.func17, Try.ntmps17
  go_wp2_with (first | fail | (refine wpL_alloc rfl rfl zeroSq ?_; intro g hg; (try simp at hg); subst hg) | (refine wpL_loadFull rfl rfl rfl rowSq hH.h0 (sqc_size _ _) ?_) | (go_at_call 55; refine (onGroupCode_0 o g _).mono ?_; rintro e w3 ⟨rfl, hb⟩; rw [HZ.out]; replace hH := hH.call' hb; clear hb) | (refine wpL_build rfl rfl builtSq ?_) | (refine wpL_storeSame rfl rfl rfl rfl rowSq hH.h1 (sqc_ok _ _) ?_))
  exact ret_ct rfl rfl rfl hH.h1 rowSq (sqc_size _ _) ⟨rfl, hH.below⟩
set_option maxRecDepth 20000 in
set_option maxHeartbeats 2000000 in
theorem implDouble_big (N : Nat) (g : Nat → UInt8) (w : World) (hz : gcode (N : Int) g true = 0) (h5 : 5 < N) (h10 : N ≤ 10) :
    Calls Try.prog 17 #[.agg (sqc N g)] w fun e w' => e = .returned (.tuple #[.agg (sqc 0 fun _ => 0), .int .i64 3]) ∧ Below w.heap.size w w' := by
  have HZ := hid hz
  clear hz
  have e1 : (10 : Int) < 2 * (N : Int) := by omega
  have e2 : (N : Int) ≤ 10 := by omega
  have hH := Has.start2 w (sqc N g) (sqc 0 fun _ => 0) 28 28
  go_enter Try.func17, Try.ntmps17
  go_wp2_with (first | fail | (refine wpL_alloc rfl rfl zeroSq ?_; intro g hg; (try simp at hg); subst hg) | (refine wpL_loadFull rfl rfl rfl rowSq hH.h0 (sqc_size _ _) ?_) | (go_at_call 55; refine (onGroupCode_0 N g _).mono ?_; rintro e w3 ⟨rfl, hb⟩; rw [HZ.out]; replace hH := hH.call' hb; clear hb; have c0 := hH.c0 0; rw [sqc_get0] at c0) | (refine wpL_build rfl rfl builtSq ?_) | (refine wpL_storeSame rfl rfl rfl rfl rowSq hH.h1 (sqc_ok _ _) ?_))
  exact ret_ct rfl rfl rfl hH.h1 rowSq (sqc_size _ _) ⟨rfl, hH.below⟩
theorem Dv.row1 {w : World} {x B N : Nat} {g : Nat → UInt8} (cs' : Array Value) (h : Dv w x N g) (hx : B + 2 ≤ x) : Dv (w.setRow (B + 1) cs') x N g := holds_row_other h (by omega)
theorem doubled_id (N gb x y : Nat) (g pl : Nat → UInt8) (ts co : Value) (fa : UInt8) (w : World) (hq : IsSq N g) (h5 : N ≤ 5) (hx : x < 2 * N) (hy : y < 2 * N) (hg : Dv w gb N g) :
    Calls Try.prog (mkId 0) #[.agg (matc (.pointer (some ⟨gb, 0, none⟩)) ts fa co pl), .int .u8 (x : Nat), .int .u8 (y : Nat)] w fun e w' => e = .returned (.int .u8 (dubV g N x y).toNat) ∧ Below w.heap.size w w' := doubled_any N gb x y g pl ts co fa w hq h5 hx hy hg
set_option maxRecDepth 20000 in
set_option maxHeartbeats 2000000 in
theorem implDouble_good (N : Nat) (g : Nat → UInt8) (w : World) (hz : gcode (N : Int) g true = 0) (hq : IsSq N g) (h5 : N ≤ 5) :
    Calls Try.prog 17 #[.agg (sqc N g)] w fun e w' => e = .returned (.tuple #[.agg (sqc (2 * N : Nat) (dubF g N)), .int .i64 0]) ∧ Below w.heap.size w w' := by
  have HZ := hid hz
  clear hz
  obtain ⟨M, hM⟩ : ∃ M : Nat, 2 * N = M := ⟨_, rfl⟩
  have hM' : (2 : Int) * (N : Int) = (M : Int) := by omega
  have HM := hid hM'
  have hM10 : M ≤ 10 := by omega
  have e1 : ¬ (10 : Int) < (2 : Int) * (N : Int) := by omega
  have e2 : (N : Int) ≤ 5 := by omega
  have HD := hid (show dubF g N = fillT M (dubV g N) M 0 by rw [← hM]; rfl)
  have hDub := hid (fun (gb : Nat) (w0 : World) (hD : Dv w0 gb N g) (w' : World) (x y : Nat) (hb : Below w0.heap.size w0 w') (hx : x < M) (hy : y < M) => doubled_id N gb x y g (fun _ => 0) (.slice none 0 0) (.slice none 0 0) 0 w' hq h5 (by omega) (by omega) (Dv.below hD hb))
  have HQ := hid hq
  rw [hM, HD.out]
  clear hq hM hM'
  have hH := Has.start2 w (sqc N g) (sqc 0 fun _ => 0) 28 28
  go_enter Try.func17, Try.ntmps17
  go_wp2_with (first | fail | (refine wpL_alloc rfl rfl zeroSq ?_; intro g hg; (try simp at hg); subst hg) | (refine wpL_loadFull rfl rfl rfl rowSq hH.h0 (sqc_size _ _) ?_) | (go_at_call 55; refine (onGroupCode_0 N g _).mono ?_; rintro e w3 ⟨rfl, hb⟩; rw [HZ.out]; replace hH := hH.call' hb; clear hb; have c0 := hH.c0 0; rw [sqc_get0] at c0) | (refine wpL_build rfl rfl builtSq ?_) | (refine wpL_storeSame rfl rfl rfl rfl rowSq hH.h1 (sqc_ok _ _) ?_))
  clear e1
  refine wp_region_frame (X := Nat) (fun d x => [(16, bif d 0 then .agg (sqc N g) else undef), (17, bif d 1 then .pointer (some ⟨x, 0, none⟩) else undef), (18, bif d 2 then .agg (matc (.pointer (some ⟨x, 0, none⟩)) (.slice none 0 0) 0 (.slice none 0 0) fun _ => 0) else undef), (19, bif d 3 then .pointer (some ⟨w.heap.size, 0, none⟩) else undef), (20, bif d 4 then .int .i64 N else undef), (21, bif d 5 then .int .i64 (2 * (N : Int)) else undef), (22, bif d 6 then .agg (sqc M (fillT M (dubV g N) M 0)) else undef), (3, bif d 8 then .int .i64 0 else .int .i64 0)])
    (fun d x w' => Has w w' [(sqc N g, 28), (bif d 7 then sqc M (fillT M (dubV g N) M 0) else sqc 0 (fun _ => 0), 28)] ∧ (d 1 = true → Hid (Dv w' x N g ∧ w.heap.size + 2 ≤ x)) ∧ (d 2 = true → d 1 = true)) (by kernel_rfl) (by kernel_rfl) ?h0_ma ?hs_ma ?hq_ma
  case h0_ma => exact ⟨0, (by simp [lput]), hH.drew, (fun h => by cases h), (fun h => by cases h)⟩
  case hs_ma =>
    refine ⟨?_, ?_, ?_, ?_, ?_, ?_, ?_, ?_, ?_, trivial⟩
    all_goals
      clear hH
      intro d x w1 hd hn hJ
      simp only [needs, Region.binds, reduceCtorEq, Bool.false_eq_true, false_implies, true_and, and_true, true_implies, forall_const] at hn
      simp only [lput, List.set, hn, cond_true]
      try simp only [hd, cond_false] at hJ
      obtain ⟨hH, hD, I2_1⟩ := hJ
      (try have hD_ := hD (by simp only [hn]))
      have zz := hH.size
      simp only [List.length_cons, List.length_nil] at zz
      have c0 : w1.cell? ⟨w.heap.size, 0, none⟩ = some (.int .i64 N) := by rw [hH.c0, sqc_get0]
      go_wp2_with (first | fail | (refine wpL_loadFull rfl rfl rfl rowSq hH.h0 (sqc_size _ _) ?_) | (go_at_call 56; refine (divide_any N g _ HQ.out).mono ?_; rintro e w3 ⟨gb, rfl, hb, hD0, hlo⟩; replace hH := hH.call' hb) | (refine wpL_build1 rfl rfl rfl (builtMat1 _) ?_) | (go_at_call 57; refine (squareBy_z 0 M _ HM.out _ (dubV g N) _ (by decide) hM10 (matc_size _ _ _ _ _) (hid (hDub.out _ _ hD_.out.1))).mono ?_; rintro e w4 ⟨rfl, hb⟩; replace hH := hH.call' hb; replace hD := fun e => hid (And.intro (Dv.below (hD e).out.1 hb) (hD e).out.2)) | (refine wpL_storeFull rfl rfl rfl rfl rowSq hH.h1 (sqc_size _ _) (sqc_ok _ _) ?_; replace hH := hH.r1 (cs' := sqc M (fillT M (dubV g N) M 0)); replace hD := fun e => hid (And.intro (Dv.row1 (sqc M (fillT M (dubV g N) M 0)) (hD e).out.1 (hD e).out.2) (hD e).out.2)))
      first
        | (have z2 : d 2 = false := (by first | exact imp_no I2_1 hd | exact imp_no I2_1 rfl); refine ⟨gb, ?_, hH, (fun _ => hid ⟨hD0, by omega⟩), (by intro e; simp [done])⟩; (simp [lput, done, hn, z2]; done))
        | (refine ⟨x, ?_, hH, (fun e => hD (done_ne e (by decide))), (by intro e; first | (simp [done]; done) | (have e2 := I2_1 (done_ne e (by decide)); simp [done, e2]; done) | (simp [done, hn]; done))⟩; (simp [lput, done, hn]; done))
        | (refine ⟨?_, hH, (fun e => hD (done_ne e (by decide))), (by intro e; first | (simp [done]; done) | (have e2 := I2_1 (done_ne e (by decide)); simp [done, e2]; done) | (simp [done, hn]; done))⟩; (simp [lput, done, hn]; done))
        | (refine ⟨x, ?_, hH, (fun e => hD (done_ne e (by decide))), (by intro e; first | (simp [done]; done) | (have e2 := I2_1 (done_ne e (by decide)); simp [done, e2]; done) | (simp [done, hn]; done))⟩; (simp [lput, done, hn]; rfl))
        | (refine ⟨?_, hH, (fun e => hD (done_ne e (by decide))), (by intro e; first | (simp [done]; done) | (have e2 := I2_1 (done_ne e (by decide)); simp [done, e2]; done) | (simp [done, hn]; done))⟩; (simp [lput, done, hn]; rfl))
        | (refine ⟨x, ?_, hH, (fun e => hD (done_ne e (by decide))), (by intro e; first | (simp [done]; done) | (have e2 := I2_1 (done_ne e (by decide)); simp [done, e2]; done) | (simp [done, hn]; done))⟩; (simp [lput, done]; done))
        | (refine ⟨?_, hH, (fun e => hD (done_ne e (by decide))), (by intro e; first | (simp [done]; done) | (have e2 := I2_1 (done_ne e (by decide)); simp [done, e2]; done) | (simp [done, hn]; done))⟩; (simp [lput, done]; done))
        | (refine ⟨x, ?_, hH, (fun e => hD (done_ne e (by decide))), (by intro e; first | (simp [done]; done) | (have e2 := I2_1 (done_ne e (by decide)); simp [done, e2]; done) | (simp [done, hn]; done))⟩; (simp [lput, done]; rfl))
        | (refine ⟨?_, hH, (fun e => hD (done_ne e (by decide))), (by intro e; first | (simp [done]; done) | (have e2 := I2_1 (done_ne e (by decide)); simp [done, e2]; done) | (simp [done, hn]; done))⟩; (simp [lput, done]; rfl))
  case hq_ma =>
    clear hH
    intro d x w1 hd hJ
    simp only [allDone, List.length_cons, List.length_nil, Nat.reduceAdd, and_true] at hd
    obtain ⟨hH, hD, I2_1⟩ := hJ
    replace hD := hD (by simp only [hd])
    clear I2_1
    simp only [hd, cond_true] at hH
    simp only [lput, List.set, hd, cond_true]
    clear hd
    go_wp2
    exact ret_ct rfl rfl rfl hH.h1 rowSq (sqc_size _ _) ⟨rfl, hH.below⟩
set_option maxRecDepth 20000 in
set_option maxHeartbeats 2000000 in
theorem specDouble_1 (o : Int) (g : Nat → UInt8) (w : World) (hs : sqB o g = false) :
    Calls Try.prog 15 #[.agg (sqc o g)] w fun e w' => e = .returned (.tuple #[.agg (sqc 0 fun _ => 0), .int .i64 1]) ∧ Below w.heap.size w w' := by
  have hH := Has.start2 w (sqc o g) (sqc 0 fun _ => 0) 28 28
  go_enter Try.func15, Try.ntmps15
  go_wp2_with (first | fail | (refine wpL_guard rfl rfl ?_) | (refine wpL_alloc rfl rfl zeroSq ?_; intro g hg; (try simp at hg); subst hg) | (refine wpL_loadFull rfl rfl rfl rowSq hH.h0 (sqc_size _ _) ?_) | (refine wpL_build rfl rfl builtSq ?_) | (refine wpL_storeSame rfl rfl rfl rfl rowSq hH.h1 (sqc_ok _ _) ?_) | (go_at_call 50; refine (l01Is_any _ _ _).mono ?_; rintro e w3 ⟨rfl, hb⟩; rw [hs]; replace hH := hH.call' hb; clear hb))
  exact ret_ct rfl rfl rfl hH.h1 rowSq (sqc_size _ _) ⟨rfl, hH.below⟩
set_option maxRecDepth 20000 in
set_option maxHeartbeats 2000000 in
theorem specDouble_5a (o : Int) (g : Nat → UInt8) (w : World) (hs : sqB o g = true) (hl : loopB o g = false) :
    Calls Try.prog 15 #[.agg (sqc o g)] w fun e w' => e = .returned (.tuple #[.agg (sqc 0 fun _ => 0), .int .i64 5]) ∧ Below w.heap.size w w' := by
  have hH := Has.start2 w (sqc o g) (sqc 0 fun _ => 0) 28 28
  go_enter Try.func15, Try.ntmps15
  go_wp2_with (first | fail | (refine wpL_guard rfl rfl ?_) | (refine wpL_alloc rfl rfl zeroSq ?_; intro g hg; (try simp at hg); subst hg) | (refine wpL_loadFull rfl rfl rfl rowSq hH.h0 (sqc_size _ _) ?_) | (refine wpL_build rfl rfl builtSq ?_) | (refine wpL_storeSame rfl rfl rfl rfl rowSq hH.h1 (sqc_ok _ _) ?_) | (go_at_call 50; refine (l01Is_any _ _ _).mono ?_; rintro e w3 ⟨rfl, hb⟩; rw [hs]; replace hH := hH.call' hb; clear hb) | (go_at_call 51; refine (l01Loop_any _ _ _).mono ?_; rintro e w3 ⟨rfl, hb⟩; rw [hl]; replace hH := hH.call' hb; clear hb))
  exact ret_ct rfl rfl rfl hH.h1 rowSq (sqc_size _ _) ⟨rfl, hH.below⟩
set_option maxRecDepth 20000 in
set_option maxHeartbeats 2000000 in
theorem specDouble_5b (N : Nat) (g : Nat → UInt8) (w : World) (h1 : 1 ≤ N) (h10 : N ≤ 10) (hs : sqB (N : Int) g = true) (hl : loopB (N : Int) g = true) (ha : ascB (N : Int) g = false) :
    Calls Try.prog 15 #[.agg (sqc N g)] w fun e w' => e = .returned (.tuple #[.agg (sqc 0 fun _ => 0), .int .i64 5]) ∧ Below w.heap.size w w' := by
  have hH := Has.start2 w (sqc N g) (sqc 0 fun _ => 0) 28 28
  go_enter Try.func15, Try.ntmps15
  go_wp2_with (first | fail | (refine wpL_guard rfl rfl ?_) | (refine wpL_alloc rfl rfl zeroSq ?_; intro g hg; (try simp at hg); subst hg) | (refine wpL_loadFull rfl rfl rfl rowSq hH.h0 (sqc_size _ _) ?_) | (refine wpL_build rfl rfl builtSq ?_) | (refine wpL_storeSame rfl rfl rfl rfl rowSq hH.h1 (sqc_ok _ _) ?_) | (go_at_call 50; refine (l01Is_any _ _ _).mono ?_; rintro e w3 ⟨rfl, hb⟩; rw [hs]; replace hH := hH.call' hb; clear hb) | (go_at_call 51; refine (l01Loop_any _ _ _).mono ?_; rintro e w3 ⟨rfl, hb⟩; rw [hl]; replace hH := hH.call' hb; clear hb) | (go_at_call 52; refine (l01Group_sq N g _ h1 h10 hs).mono ?_; rintro e w3 ⟨rfl, hb⟩; rw [ha]; replace hH := hH.call' hb; clear hb))
  exact ret_ct rfl rfl rfl hH.h1 rowSq (sqc_size _ _) ⟨rfl, hH.below⟩
set_option maxRecDepth 20000 in
set_option maxHeartbeats 2000000 in
theorem specDouble_3 (N : Nat) (g : Nat → UInt8) (w : World) (h1 : 1 ≤ N) (h10 : N ≤ 10) (hs : sqB (N : Int) g = true) (hl : loopB (N : Int) g = true) (ha : ascB (N : Int) g = true) (h5 : 5 < N) :
    Calls Try.prog 15 #[.agg (sqc N g)] w fun e w' => e = .returned (.tuple #[.agg (sqc 0 fun _ => 0), .int .i64 3]) ∧ Below w.heap.size w w' := by
  have hH := Has.start2 w (sqc N g) (sqc 0 fun _ => 0) 28 28
  have e5 : (5 : Int) < N := by omega
  go_enter Try.func15, Try.ntmps15
  go_wp2_with (first | fail | (refine wpL_guard rfl rfl ?_) | (refine wpL_alloc rfl rfl zeroSq ?_; intro g hg; (try simp at hg); subst hg) | (refine wpL_loadFull rfl rfl rfl rowSq hH.h0 (sqc_size _ _) ?_) | (refine wpL_build rfl rfl builtSq ?_) | (refine wpL_storeSame rfl rfl rfl rfl rowSq hH.h1 (sqc_ok _ _) ?_) | (go_at_call 50; refine (l01Is_any _ _ _).mono ?_; rintro e w3 ⟨rfl, hb⟩; rw [hs]; replace hH := hH.call' hb; clear hb) | (go_at_call 51; refine (l01Loop_any _ _ _).mono ?_; rintro e w3 ⟨rfl, hb⟩; rw [hl]; replace hH := hH.call' hb; clear hb) | (go_at_call 52; refine (l01Group_sq N g _ h1 h10 hs).mono ?_; rintro e w3 ⟨rfl, hb⟩; rw [ha]; replace hH := hH.call' hb; clear hb; have c0 := hH.c0 0; rw [sqc_get0] at c0))
  exact ret_ct rfl rfl rfl hH.h1 rowSq (sqc_size _ _) ⟨rfl, hH.below⟩
set_option maxRecDepth 20000 in
set_option maxHeartbeats 1000000 in
theorem l08Inverse_any (N : Nat) (g : Nat → UInt8) (y : UInt8) (w : World) (hq : IsSq N g) (hy : y.toNat < N) :
    Calls Try.prog 53 #[.agg (sqc N g), .int .u8 y.toNat] w fun e w' => e = .returned (.int .u8 (iv g N y.toNat).toNat) ∧ Below w.heap.size w w' := by
  have HQ := hid hq
  clear hq
  have hH := Has.start1 w (sqc N g) 28
  go_enter Try.func53, Try.ntmps53
  go_wp2_with (first | fail | (refine wpL_loadFull rfl rfl rfl rowSq hH.h0 (sqc_size _ _) ?_) | (go_at_call 93; refine (l01Right0_any N g y _ HQ.out hy).mono ?_; rintro e w3 ⟨rfl, hb⟩; replace hH := hH.call' hb; clear hb))
  go_ret
  exact ⟨rfl, hH.below⟩
set_option maxRecDepth 20000 in
set_option maxHeartbeats 8000000 in
theorem specDouble_good (N : Nat) (g : Nat → UInt8) (w : World) (hs : sqB (N : Int) g = true) (hl : loopB (N : Int) g = true) (ha : ascB (N : Int) g = true) (hG : IsGp N g) (h5 : N ≤ 5) :
    Calls Try.prog 15 #[.agg (sqc N g)] w fun e w' => e = .returned (.tuple #[.agg (sqc (2 * N : Nat) (dubF g N)), .int .i64 0]) ∧ Below w.heap.size w w' := by
  have h1 := hG.lp.sq.lo
  have h10 := hG.lp.sq.hi
  have HG := hid hG
  have HQ := hid hG.lp.sq
  clear hG
  obtain ⟨M, hM⟩ : ∃ M : Nat, 2 * N = M := ⟨_, rfl⟩
  have HM := hid (show (2 : Int) * (N : Int) = (M : Int) by omega)
  have hM10 : M ≤ 10 := by omega
  have HE := hid (fun (h : Nat → UInt8) (d : DubTo g h N N 0) => show sqc (M : Int) h = sqc (M : Int) (dubF g N) from d.done HG.out h5 M)
  rw [hM]
  clear hM
  have e5 : (N : Int) ≤ 5 := by omega
  have hH := Has.start2 w (sqc N g) (sqc 0 fun _ => 0) 28 28
  go_enter Try.func15, Try.ntmps15
  go_wp2_with (first | fail | (refine wpL_guard rfl rfl ?_) | (refine wpL_alloc rfl rfl zeroSq ?_; intro g hg; (try simp at hg); subst hg) | (refine wpL_loadFull rfl rfl rfl rowSq hH.h0 (sqc_size _ _) ?_) | (go_at_call 50; refine (l01Is_any _ _ _).mono ?_; rintro e w3 ⟨rfl, hb⟩; rw [hs]; replace hH := hH.call' hb; clear hb) | (go_at_call 51; refine (l01Loop_any _ _ _).mono ?_; rintro e w3 ⟨rfl, hb⟩; rw [hl]; replace hH := hH.call' hb; clear hb) | (go_at_call 52; refine (l01Group_sq N g _ h1 h10 hs).mono ?_; rintro e w3 ⟨rfl, hb⟩; rw [ha]; replace hH := hH.call' hb; clear hb; have c0 := hH.c0 0; rw [sqc_get0] at c0))
  clear c0
  refine wp_region_frame (X := Nat) (fun d x => [(29, bif d 0 then .pointer (some ⟨w.heap.size, 0, none⟩) else undef), (30, bif d 1 then .int .i64 N else undef), (31, bif d 2 then .int .u8 N else undef), (32, bif d 3 then .pointer (some ⟨w.heap.size, 0, none⟩) else undef), (33, bif d 4 then .int .i64 N else undef), (34, bif d 5 then .int .i64 (2 * (N : Int)) else undef), (35, bif d 6 then .agg (sqc M fun _ => 0) else undef), (5, bif d 7 then .pointer (some ⟨x, 0, none⟩) else undef), (4, bif d 8 then .int .u8 N else undef)])
    (fun d x w' => Has w w' [(sqc N g, 28), (sqc 0 (fun _ => 0), 28)] ∧ (d 7 = true → w.heap.size + 2 ≤ x ∧ holds w' x (bif d 9 then sqc M (fun _ => 0) else sqc 0 fun _ => 0) 28) ∧ (d 9 = true → d 7 = true)) (by kernel_rfl) (by kernel_rfl) ?h0_mr ?hs_mr ?hq_mr
  case h0_mr => exact ⟨0, (by simp [lput]), hH.drew, (fun h => by cases h), (fun h => by cases h)⟩
  case hs_mr =>
    refine ⟨?_, ?_, ?_, ?_, ?_, ?_, ?_, ?_, ?_, ?_, trivial⟩
    all_goals
      clear hH
      intro d x w1 hd hn hJ
      simp only [needs, Region.binds, reduceCtorEq, Bool.false_eq_true, false_implies, true_and, and_true, true_implies, forall_const] at hn
      simp only [lput, List.set, hn, cond_true]
      try simp only [hd, cond_false] at hJ
      obtain ⟨hH, hB, I9_7⟩ := hJ
      (try have hB_ := hB (by simp only [hn]))
      have c0 : w1.cell? ⟨w.heap.size, 0, none⟩ = some (.int .i64 N) := by rw [hH.c0, sqc_get0]
      have zz := hH.size
      simp only [List.length_cons, List.length_nil] at zz
      go_wp2_with (first | fail | (refine wpL_build1 rfl rfl rfl (by rw [HM.out]; exact builtSqO _) ?_) | (refine wpL_storeN (x := .tmp 5) rfl rfl rfl rfl rowSq hB_.2 (sqc_size _ _) (sqc_ok _ _) ?_; intro w5 hz hO hT; replace hH := hT _ _ hH hB_.1) | (refine wpL_allocN (o := ⟨some 5, _, _, _, _, _⟩) rfl rfl zeroSq ?_; intro gq w4 hz hl hb; replace hH := hH.call' hb))
      first
        | (have z9 : d 9 = false := (by first | exact imp_no I9_7 hd | exact imp_no I9_7 rfl); refine ⟨gq, ?_, hH, (fun _ => ⟨by omega, by simpa [done, z9] using hz⟩), (by intro e; simp [done])⟩; (simp [lput, done, hn, z9]; done))
        | (refine ⟨x, ?_, hH, (fun _ => ⟨hB_.1, by simpa [done] using hz⟩), (by intro e; simp [done, hn])⟩; (simp [lput, done, hn]; done))
        | (refine ⟨x, ?_, hH, (fun e => hB (done_ne e (by decide))), (by intro e; first | (simp [done]; done) | (have e2 := I9_7 (done_ne e (by decide)); simp [done, e2]; done) | (simp [done, hn]; done))⟩; (simp [lput, done, hn]; done))
        | (refine ⟨?_, hH, (fun e => hB (done_ne e (by decide))), (by intro e; first | (simp [done]; done) | (have e2 := I9_7 (done_ne e (by decide)); simp [done, e2]; done) | (simp [done, hn]; done))⟩; (simp [lput, done, hn]; done))
        | (refine ⟨x, ?_, hH, (fun e => hB (done_ne e (by decide))), (by intro e; first | (simp [done]; done) | (have e2 := I9_7 (done_ne e (by decide)); simp [done, e2]; done) | (simp [done, hn]; done))⟩; (simp [lput, done, hn]; rfl))
        | (refine ⟨?_, hH, (fun e => hB (done_ne e (by decide))), (by intro e; first | (simp [done]; done) | (have e2 := I9_7 (done_ne e (by decide)); simp [done, e2]; done) | (simp [done, hn]; done))⟩; (simp [lput, done, hn]; rfl))
        | (refine ⟨x, ?_, hH, (fun e => hB (done_ne e (by decide))), (by intro e; first | (simp [done]; done) | (have e2 := I9_7 (done_ne e (by decide)); simp [done, e2]; done) | (simp [done, hn]; done))⟩; (simp [lput, done]; done))
        | (refine ⟨?_, hH, (fun e => hB (done_ne e (by decide))), (by intro e; first | (simp [done]; done) | (have e2 := I9_7 (done_ne e (by decide)); simp [done, e2]; done) | (simp [done, hn]; done))⟩; (simp [lput, done]; done))
        | (refine ⟨x, ?_, hH, (fun e => hB (done_ne e (by decide))), (by intro e; first | (simp [done]; done) | (have e2 := I9_7 (done_ne e (by decide)); simp [done, e2]; done) | (simp [done, hn]; done))⟩; (simp [lput, done]; rfl))
        | (refine ⟨?_, hH, (fun e => hB (done_ne e (by decide))), (by intro e; first | (simp [done]; done) | (have e2 := I9_7 (done_ne e (by decide)); simp [done, e2]; done) | (simp [done, hn]; done))⟩; (simp [lput, done]; rfl))
  case hq_mr =>
    clear hH
    intro d x w1 hd hJ
    simp only [allDone, List.length_cons, List.length_nil, Nat.reduceAdd, and_true] at hd
    obtain ⟨hH, hB, I9_7⟩ := hJ
    replace hB := hB (by simp only [hd])
    clear I9_7
    simp only [hd, cond_true] at hH hB
    simp only [lput, List.set, hd, cond_true]
    clear hd
    obtain ⟨hlo, hq⟩ := hB
    have HL := hid hlo
    clear hlo
    go_wp2
    go_loopw [6] (fun i wr => ∃ k : Nat, k ≤ N ∧ i = .int .u8 k ∧ Has w wr [(sqc N g, 28), (sqc 0 (fun _ => 0), 28)] ∧ ∃ h, Hid (DubTo g h N k 0) ∧ holds wr x (sqc M h) 28) (fun i _ => 10 - (intOf i).toNat)
    case atStart => exact ⟨0, by omega, rfl, hH, _, hid (DubTo.start g N), hq⟩
    case round =>
      clear hH hq
      obtain ⟨k, hk, rfl, hH, h, hd, hq⟩ := hrel
      by_cases hlt : k < N
      · have hk5 : (k : Int) < 5 := by omega
        have hlt' : (k : Int) < N := by omega
        go_wp2
        go_loopw [7] (fun i wx => ∃ j : Nat, j ≤ N ∧ i = .int .u8 j ∧ Has w wx [(sqc N g, 28), (sqc 0 (fun _ => 0), 28)] ∧ ∃ h, Hid (DubTo g h N k j) ∧ holds wx x (sqc M h) 28) (fun i _ => 10 - (intOf i).toNat)
        case atStart => exact ⟨0, by omega, rfl, hH, h, hd, hq⟩
        case round =>
          clear hH hq hd
          obtain ⟨j, hj, rfl, hH, h, hd, hq⟩ := hrel
          by_cases hlt2 : j < N
          · have hj5 : (j : Int) < 5 := by omega
            have hlt2' : (j : Int) < N := by omega
            have hd2 := hid (hd.out.step h5 hlt hlt2)
            obtain ⟨J, hJ⟩ := byte_of j (by omega)
            obtain ⟨b, hb⟩ : ∃ b, iv g N j = b := ⟨_, rfl⟩
            have hbl : b.toNat < N := by rw [← hb]; exact iv_lt HQ.out hlt2
            have HB := hid (show iv g N J.toNat = b by rw [hJ]; exact hb)
            rw [hb] at hd2
            obtain ⟨v1, hv1⟩ : ∃ v, g (k * 10 + j) = v := ⟨_, rfl⟩
            obtain ⟨v2, hv2⟩ : ∃ v, g (j * 10 + k) = v := ⟨_, rfl⟩
            obtain ⟨v3, hv3⟩ : ∃ v, g (k * 10 + b.toNat) = v := ⟨_, rfl⟩
            obtain ⟨v4, hv4⟩ : ∃ v, g (b.toNat * 10 + k) = v := ⟨_, rfl⟩
            have l2 : v2.toNat < N := by rw [← hv2]; exact (HQ.out.rows j hlt2).lt k hlt
            have l3 : v3.toNat < N := by rw [← hv3]; exact (HQ.out.rows k hlt).lt _ hbl
            rw [hv1, hv2, hv3, hv4] at hd2
            obtain ⟨t2, ht2⟩ : ∃ t, UInt8.ofNat N + v2 = t := ⟨_, rfl⟩
            obtain ⟨t3, ht3⟩ : ∃ t, UInt8.ofNat N + v3 = t := ⟨_, rfl⟩
            rw [ht2, ht3] at hd2
            have T2 := hid (show (t2.toNat : Int) = (N : Int) + (v2.toNat : Int) by rw [← ht2, UInt8.toNat_add, u8_of N (by omega)]; omega)
            have T3 := hid (show (t3.toNat : Int) = (N : Int) + (v3.toNat : Int) by rw [← ht3, UInt8.toNat_add, u8_of N (by omega)]; omega)
            have V1 := hid hv1
            have V2 := hid hv2
            have V3 := hid hv3
            have V4 := hid hv4
            clear hv1 hv2 hv3 hv4 ht2 ht3 hb
            have hJl : J.toNat < N := by omega
            have HJ := hid hJ
            clear hJ
            have l2' : (v2.toNat : Int) < 5 := by omega
            have l3' : (v3.toNat : Int) < 5 := by omega
            have hbl' : (b.toNat : Int) < 5 := by omega
            go_wp2_with (first | fail | (refine wpL_loadFull rfl rfl rfl rowSq hH.h0 (sqc_size _ _) ?_) | (go_at_call 53; rw [← HJ.out]; refine (l08Inverse_any N g J _ HQ.out hJl).mono ?_; rintro e w3 ⟨rfl, hb⟩; rw [HB.out, HJ.out]; replace hH := hH.call' hb; replace hq := holds_below hq hb (holds_lt hq); clear hb))
            refine wp_region_frame (X := Unit) (fun d _ => [(49, bif d 0 then .int .u8 k else u49), (50, bif d 1 then .int .u8 j else u50), (51, bif d 2 then .int .u8 k else u51), (52, bif d 3 then .int .u8 j else u52), (53, bif d 4 then .pointer (some ⟨w.heap.size, 1, none⟩) else u53), (54, bif d 5 then .pointer (some ⟨w.heap.size, 1 + k * 10, none⟩) else u54), (55, bif d 6 then .pointer (some ⟨w.heap.size, 1 + k * 10 + j, none⟩) else u55), (56, bif d 7 then .int .u8 v1.toNat else u56), (57, bif d 8 then .pointer (some ⟨x, 1, none⟩) else u57), (58, bif d 9 then .pointer (some ⟨x, 1 + k * 10, none⟩) else u58), (59, bif d 10 then .pointer (some ⟨x, 1 + k * 10 + j, none⟩) else u59)])
              (fun d _ w' => Has w w' [(sqc N g, 28), (sqc 0 (fun _ => 0), 28)] ∧ holds w' x (sqc M (bif d 11 then up h (k * 10 + j) v1 else h)) 28) (by kernel_rfl) (by kernel_rfl) ?h0_ra ?hs_ra ?hq_ra
            case h0_ra => exact ⟨(), (by simp [lput]), hH.drew, (show _ from hq)⟩
            case hs_ra =>
              refine ⟨?_, ?_, ?_, ?_, ?_, ?_, ?_, ?_, ?_, ?_, ?_, ?_, trivial⟩
              all_goals
                clear hH hq
                intro d _ w1 hd hn hJ
                simp only [needs, Region.binds, reduceCtorEq, Bool.false_eq_true, false_implies, true_and, and_true, true_implies, forall_const] at hn
                simp only [lput, List.set, hn, cond_true]
                try simp only [hd, cond_false] at hJ
                obtain ⟨hH, hq⟩ := hJ
                have c1 : w1.cell? ⟨w.heap.size, 1 + k * 10 + j, none⟩ = some (.int .u8 v1.toNat) := by rw [hH.c0, Nat.add_assoc, sqc_get _ _ _ (by omega), V1.out]
                go_wp2_with (first | fail | (refine wpL_cellN (v := .int .u8 v1.toNat) (cs' := sqc M (up h (k * 10 + j) v1)) (off := 1 + k * 10 + j) rfl rfl rfl rfl (by kernel_rfl) (by rfl) hq (by rw [sqc_size]; omega) (by rw [Nat.add_assoc]; exact sqc_setv _ _ _ _ _ _ rfl (fun _ _ => rfl)) ?_; intro w4 hz hO hT; replace hH := hT _ _ hH HL.out; replace hq := hz; clear hz hO hT))
                first
                  | (refine ⟨(), ?_, hH, hq⟩; (simp [lput, done, hn]; done))
                  | (refine ⟨?_, hH, hq⟩; (simp [lput, done, hn]; done))
                  | (refine ⟨(), ?_, hH, hq⟩; (simp [lput, done, hn]; rfl))
                  | (refine ⟨?_, hH, hq⟩; (simp [lput, done, hn]; rfl))
                  | (refine ⟨(), ?_, hH, hq⟩; (simp [lput, done]; done))
                  | (refine ⟨?_, hH, hq⟩; (simp [lput, done]; done))
                  | (refine ⟨(), ?_, hH, hq⟩; (simp [lput, done]; rfl))
                  | (refine ⟨?_, hH, hq⟩; (simp [lput, done]; rfl))
            case hq_ra =>
              clear hH hq
              intro d _ w1 hd hJ
              simp only [allDone, List.length_cons, List.length_nil, Nat.reduceAdd, and_true] at hd
              obtain ⟨hH, hq⟩ := hJ
              simp only [hd, cond_true] at hH hq
              simp only [lput, List.set, hd, cond_true]
              clear hd
              go_wp2
              refine wp_region_frame (X := Unit) (fun d _ => [(60, bif d 0 then .int .u8 k else u60), (61, bif d 1 then .int .u8 N else u61), (62, bif d 2 then .int .u8 j else u62), (63, bif d 3 then .int .u8 ((N : Int) + (j : Int)) else u63), (64, bif d 4 then .int .u8 N else u64), (65, bif d 5 then .int .u8 j else u65), (66, bif d 6 then .int .u8 k else u66), (67, bif d 7 then .pointer (some ⟨w.heap.size, 1, none⟩) else u67), (68, bif d 8 then .pointer (some ⟨w.heap.size, 1 + j * 10, none⟩) else u68), (69, bif d 9 then .pointer (some ⟨w.heap.size, 1 + j * 10 + k, none⟩) else u69), (70, bif d 10 then .int .u8 v2.toNat else u70), (71, bif d 11 then .int .u8 ((N : Int) + v2.toNat) else u71), (72, bif d 12 then .pointer (some ⟨x, 1, none⟩) else u72), (73, bif d 13 then .pointer (some ⟨x, 1 + k * 10, none⟩) else u73), (74, bif d 14 then .pointer (some ⟨x, 1 + k * 10 + (N + j), none⟩) else u74)])
                (fun d _ w' => Has w w' [(sqc N g, 28), (sqc 0 (fun _ => 0), 28)] ∧ holds w' x (sqc M (bif d 15 then up (up h (k * 10 + j) v1) (k * 10 + (N + j)) t2 else up h (k * 10 + j) v1)) 28) (by kernel_rfl) (by kernel_rfl) ?h0_rb ?hs_rb ?hq_rb
              case h0_rb => exact ⟨(), (by simp [lput]), hH.drew, (show _ from hq)⟩
              case hs_rb =>
                refine ⟨?_, ?_, ?_, ?_, ?_, ?_, ?_, ?_, ?_, ?_, ?_, ?_, ?_, ?_, ?_, ?_, trivial⟩
                all_goals
                  clear hH hq
                  intro d _ w1 hd hn hJ
                  simp only [needs, Region.binds, reduceCtorEq, Bool.false_eq_true, false_implies, true_and, and_true, true_implies, forall_const] at hn
                  simp only [lput, List.set, hn, cond_true]
                  try simp only [hd, cond_false] at hJ
                  obtain ⟨hH, hq⟩ := hJ
                  have c1 : w1.cell? ⟨w.heap.size, 1 + j * 10 + k, none⟩ = some (.int .u8 v2.toNat) := by rw [hH.c0, Nat.add_assoc, sqc_get _ _ _ (by omega), V2.out]
                  go_wp2_with (first | fail | (refine wpL_cellN (v := .int .u8 ((N : Int) + v2.toNat)) (cs' := sqc M (up (up h (k * 10 + j) v1) (k * 10 + (N + j)) t2)) (off := 1 + k * 10 + (N + j)) rfl rfl rfl rfl (by kernel_rfl) (by rfl) hq (by rw [sqc_size]; omega) (by rw [Nat.add_assoc]; exact sqc_setv _ _ _ _ _ _ (by rw [T2.out]) (fun _ _ => rfl)) ?_; intro w4 hz hO hT; replace hH := hT _ _ hH HL.out; replace hq := hz; clear hz hO hT))
                  first
                    | (refine ⟨(), ?_, hH, hq⟩; (simp [lput, done, hn]; done))
                    | (refine ⟨?_, hH, hq⟩; (simp [lput, done, hn]; done))
                    | (refine ⟨(), ?_, hH, hq⟩; (simp [lput, done, hn]; rfl))
                    | (refine ⟨?_, hH, hq⟩; (simp [lput, done, hn]; rfl))
                    | (refine ⟨(), ?_, hH, hq⟩; (simp [lput, done]; done))
                    | (refine ⟨?_, hH, hq⟩; (simp [lput, done]; done))
                    | (refine ⟨(), ?_, hH, hq⟩; (simp [lput, done]; rfl))
                    | (refine ⟨?_, hH, hq⟩; (simp [lput, done]; rfl))
              case hq_rb =>
                clear hH hq
                intro d _ w1 hd hJ
                simp only [allDone, List.length_cons, List.length_nil, Nat.reduceAdd, and_true] at hd
                obtain ⟨hH, hq⟩ := hJ
                simp only [hd, cond_true] at hH hq
                simp only [lput, List.set, hd, cond_true]
                clear hd
                go_wp2
                refine wp_region_frame (X := Unit) (fun d _ => [(75, bif d 0 then .int .u8 N else u75), (76, bif d 1 then .int .u8 k else u76), (77, bif d 2 then .int .u8 ((N : Int) + (k : Int)) else u77), (78, bif d 3 then .int .u8 j else u78), (79, bif d 4 then .int .u8 N else u79), (80, bif d 5 then .int .u8 k else u80), (81, bif d 6 then .int .u8 b.toNat else u81), (82, bif d 7 then .pointer (some ⟨w.heap.size, 1, none⟩) else u82), (83, bif d 8 then .pointer (some ⟨w.heap.size, 1 + k * 10, none⟩) else u83), (84, bif d 9 then .pointer (some ⟨w.heap.size, 1 + k * 10 + b.toNat, none⟩) else u84), (85, bif d 10 then .int .u8 v3.toNat else u85), (86, bif d 11 then .int .u8 ((N : Int) + v3.toNat) else u86), (87, bif d 12 then .pointer (some ⟨x, 1, none⟩) else u87), (88, bif d 13 then .pointer (some ⟨x, 1 + (N + k) * 10, none⟩) else u88), (89, bif d 14 then .pointer (some ⟨x, 1 + (N + k) * 10 + j, none⟩) else u89)])
                  (fun d _ w' => Has w w' [(sqc N g, 28), (sqc 0 (fun _ => 0), 28)] ∧ holds w' x (sqc M (bif d 15 then up (up (up h (k * 10 + j) v1) (k * 10 + (N + j)) t2) ((N + k) * 10 + j) t3 else up (up h (k * 10 + j) v1) (k * 10 + (N + j)) t2)) 28) (by kernel_rfl) (by kernel_rfl) ?h0_rc ?hs_rc ?hq_rc
                case h0_rc => exact ⟨(), (by simp [lput]), hH.drew, (show _ from hq)⟩
                case hs_rc =>
                  refine ⟨?_, ?_, ?_, ?_, ?_, ?_, ?_, ?_, ?_, ?_, ?_, ?_, ?_, ?_, ?_, ?_, trivial⟩
                  all_goals
                    clear hH hq
                    intro d _ w1 hd hn hJ
                    simp only [needs, Region.binds, reduceCtorEq, Bool.false_eq_true, false_implies, true_and, and_true, true_implies, forall_const] at hn
                    simp only [lput, List.set, hn, cond_true]
                    try simp only [hd, cond_false] at hJ
                    obtain ⟨hH, hq⟩ := hJ
                    have c1 : w1.cell? ⟨w.heap.size, 1 + k * 10 + b.toNat, none⟩ = some (.int .u8 v3.toNat) := by rw [hH.c0, Nat.add_assoc, sqc_get _ _ _ (by omega), V3.out]
                    go_wp2_with (first | fail | (refine wpL_cellN (v := .int .u8 ((N : Int) + v3.toNat)) (cs' := sqc M (up (up (up h (k * 10 + j) v1) (k * 10 + (N + j)) t2) ((N + k) * 10 + j) t3)) (off := 1 + (N + k) * 10 + j) rfl rfl rfl rfl (by kernel_rfl) (by rfl) hq (by rw [sqc_size]; omega) (by rw [Nat.add_assoc]; exact sqc_setv _ _ _ _ _ _ (by rw [T3.out]) (fun _ _ => rfl)) ?_; intro w4 hz hO hT; replace hH := hT _ _ hH HL.out; replace hq := hz; clear hz hO hT))
                    first
                      | (refine ⟨(), ?_, hH, hq⟩; (simp [lput, done, hn]; done))
                      | (refine ⟨?_, hH, hq⟩; (simp [lput, done, hn]; done))
                      | (refine ⟨(), ?_, hH, hq⟩; (simp [lput, done, hn]; rfl))
                      | (refine ⟨?_, hH, hq⟩; (simp [lput, done, hn]; rfl))
                      | (refine ⟨(), ?_, hH, hq⟩; (simp [lput, done]; done))
                      | (refine ⟨?_, hH, hq⟩; (simp [lput, done]; done))
                      | (refine ⟨(), ?_, hH, hq⟩; (simp [lput, done]; rfl))
                      | (refine ⟨?_, hH, hq⟩; (simp [lput, done]; rfl))
                case hq_rc =>
                  clear hH hq
                  intro d _ w1 hd hJ
                  simp only [allDone, List.length_cons, List.length_nil, Nat.reduceAdd, and_true] at hd
                  obtain ⟨hH, hq⟩ := hJ
                  simp only [hd, cond_true] at hH hq
                  simp only [lput, List.set, hd, cond_true]
                  clear hd
                  go_wp2
                  refine wp_region_frame (X := Unit) (fun d _ => [(90, bif d 0 then .int .u8 N else u90), (91, bif d 1 then .int .u8 k else u91), (92, bif d 2 then .int .u8 ((N : Int) + (k : Int)) else u92), (93, bif d 3 then .int .u8 N else u93), (94, bif d 4 then .int .u8 j else u94), (95, bif d 5 then .int .u8 ((N : Int) + (j : Int)) else u95), (96, bif d 6 then .int .u8 b.toNat else u96), (97, bif d 7 then .int .u8 k else u97), (98, bif d 8 then .pointer (some ⟨w.heap.size, 1, none⟩) else u98), (99, bif d 9 then .pointer (some ⟨w.heap.size, 1 + b.toNat * 10, none⟩) else u99), (100, bif d 10 then .pointer (some ⟨w.heap.size, 1 + b.toNat * 10 + k, none⟩) else u100), (101, bif d 11 then .int .u8 v4.toNat else u101), (102, bif d 12 then .pointer (some ⟨x, 1, none⟩) else u102), (103, bif d 13 then .pointer (some ⟨x, 1 + (N + k) * 10, none⟩) else u103), (104, bif d 14 then .pointer (some ⟨x, 1 + (N + k) * 10 + (N + j), none⟩) else u104)])
                    (fun d _ w' => Has w w' [(sqc N g, 28), (sqc 0 (fun _ => 0), 28)] ∧ holds w' x (sqc M (bif d 15 then up (up (up (up h (k * 10 + j) v1) (k * 10 + (N + j)) t2) ((N + k) * 10 + j) t3) ((N + k) * 10 + (N + j)) v4 else up (up (up h (k * 10 + j) v1) (k * 10 + (N + j)) t2) ((N + k) * 10 + j) t3)) 28) (by kernel_rfl) (by kernel_rfl) ?h0_rd ?hs_rd ?hq_rd
                  case h0_rd => exact ⟨(), (by simp [lput]), hH.drew, (show _ from hq)⟩
                  case hs_rd =>
                    refine ⟨?_, ?_, ?_, ?_, ?_, ?_, ?_, ?_, ?_, ?_, ?_, ?_, ?_, ?_, ?_, ?_, trivial⟩
                    all_goals
                      clear hH hq
                      intro d _ w1 hd hn hJ
                      simp only [needs, Region.binds, reduceCtorEq, Bool.false_eq_true, false_implies, true_and, and_true, true_implies, forall_const] at hn
                      simp only [lput, List.set, hn, cond_true]
                      try simp only [hd, cond_false] at hJ
                      obtain ⟨hH, hq⟩ := hJ
                      have c1 : w1.cell? ⟨w.heap.size, 1 + b.toNat * 10 + k, none⟩ = some (.int .u8 v4.toNat) := by rw [hH.c0, Nat.add_assoc, sqc_get _ _ _ (by omega), V4.out]
                      go_wp2_with (first | fail | (refine wpL_cellN (v := .int .u8 v4.toNat) (cs' := sqc M (up (up (up (up h (k * 10 + j) v1) (k * 10 + (N + j)) t2) ((N + k) * 10 + j) t3) ((N + k) * 10 + (N + j)) v4)) (off := 1 + (N + k) * 10 + (N + j)) rfl rfl rfl rfl (by kernel_rfl) (by rfl) hq (by rw [sqc_size]; omega) (by rw [Nat.add_assoc]; exact sqc_setv _ _ _ _ _ _ rfl (fun _ _ => rfl)) ?_; intro w4 hz hO hT; replace hH := hT _ _ hH HL.out; replace hq := hz; clear hz hO hT))
                      first
                        | (refine ⟨(), ?_, hH, hq⟩; (simp [lput, done, hn]; done))
                        | (refine ⟨?_, hH, hq⟩; (simp [lput, done, hn]; done))
                        | (refine ⟨(), ?_, hH, hq⟩; (simp [lput, done, hn]; rfl))
                        | (refine ⟨?_, hH, hq⟩; (simp [lput, done, hn]; rfl))
                        | (refine ⟨(), ?_, hH, hq⟩; (simp [lput, done]; done))
                        | (refine ⟨?_, hH, hq⟩; (simp [lput, done]; done))
                        | (refine ⟨(), ?_, hH, hq⟩; (simp [lput, done]; rfl))
                        | (refine ⟨?_, hH, hq⟩; (simp [lput, done]; rfl))
                  case hq_rd =>
                    clear hH hq
                    intro d _ w1 hd hJ
                    simp only [allDone, List.length_cons, List.length_nil, Nat.reduceAdd, and_true] at hd
                    obtain ⟨hH, hq⟩ := hJ
                    simp only [hd, cond_true] at hH hq
                    simp only [lput, List.set, hd, cond_true]
                    clear hd
                    go_wp2
                    go_roundw
                    case rel => exact ⟨j + 1, by omega, by go_num, hH, _, hd2, hq⟩
                    case measure => simp [intOf]; omega
          · obtain rfl : j = N := by omega
            have hd2 := hid hd.out.row
            clear hd
            go_wp2
            go_roundw
            case rel => exact ⟨k + 1, by omega, by go_num, hH, h, hd2, hq⟩
            case measure => simp [intOf]; omega
      · obtain rfl : k = N := by omega
        have hE := HE.out h hd.out
        rw [hE] at hq
        go_wp2_with (first | fail | (refine wpL_loadFull rfl rfl rfl rowSq hq (sqc_size _ _) ?_) | (refine wpL_storeFull rfl rfl rfl rfl rowSq hH.h1 (sqc_size _ _) (sqc_ok _ _) ?_))
        exact ret_ct rfl rfl rfl hH.r1.h1 rowSq (sqc_size _ _) ⟨rfl, hH.r1.below⟩
end Go.Proofs.Ytcdlnkjljijlmaa
