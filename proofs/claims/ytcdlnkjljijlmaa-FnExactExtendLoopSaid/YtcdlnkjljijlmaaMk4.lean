/- Proved: what IsOrthomorphism and OrthomorphismSquare return, of program and model alike. Conditions: those that each theorem names. -/
import Derived.Test.YtcdlnkjljijlmaaMk3
namespace Go.Proofs.Ytcdlnkjljijlmaa
set_option linter.unusedVariables false
set_option linter.unusedSimpArgs false
open Go.RowKit
set_option maxRecDepth 20000 in
set_option maxHeartbeats 4000000 in
theorem makesAll_any (N gb : Nat) (id : FuncId) (g p D : Nat → UInt8) (w : World) (h10 : N ≤ 10) (hg : Dv w gb N g) (hE : Enters Try.prog id)
    (hF : Hid (∀ w' x, Dv w' gb N g → x < N → Calls Try.prog id #[.pointer (some ⟨gb, 0, none⟩), .int .u8 (x : Nat), .int .u8 (p x).toNat] w' fun e w'' => e = .returned (.int .u8 (D x).toNat) ∧ Below w'.heap.size w' w'')) :
    Calls Try.prog 66 #[.pointer (some ⟨gb, 0, none⟩), .func (.func id) #[] #[], .agg (u8s 10 p)] w fun e w' => e = .returned (.bool (difB D N)) ∧ Below w.heap.size w w' := by
  have hEn : ∀ (args : Array Value) (w : World), (callFunc id args).run Try.prog w = .ok (.enter id args) w := hE
  have hlt := holds_lt hg
  have hH := Has.start2 w (u8s 10 p) (u8s 10 fun _ => 0) 36 36
  have hD := hid (holds_alloc (holds_alloc hg (.cells (u8s 10 p) 36)) (.cells (u8s 10 fun _ => 0) 36))
  clear hg
  have hN : (N : Int) ≤ 10 := by omega
  have cN : ((w.alloc (.cells (u8s 10 p) 36)).alloc (.cells (u8s 10 fun _ => 0) 36)).cell? ⟨gb, 0, none⟩ = some (.int .i64 N) := by rw [holds_cell hD.out, dvc_get0 _ _ _ _ _ (by omega), sqc_get0]
  go_enter Try.func66, Try.ntmps66
  go_wp2_with (first | fail | (refine wpL_alloc rfl rfl zeroPl ?_; intro g hg; (try simp at hg); subst hg))
  clear cN
  go_loopw [15] (fun i wr => ∃ k : Nat, k ≤ N ∧ i = .int .u8 k ∧ Has w wr [(u8s 10 p, 36), (u8s 10 (mdF D k), 36)] ∧ Hid (Dv wr gb N g)) (fun i _ => 10 - (intOf i).toNat)
  case atStart => exact ⟨0, by omega, rfl, by rw [mdF_zero]; exact hH, hD⟩
  case round =>
    clear hH hD
    obtain ⟨k, hk, rfl, hH, hD⟩ := hrel
    by_cases hlt : k < N
    · have hk10 : (k : Int) < 10 := by omega
      have hlt' : (k : Int) < N := by omega
      have c0 : wr.cell? ⟨w.heap.size, k, none⟩ = some (.int .u8 (p k).toNat) := by rw [hH.c0, u8s_get _ _ _ (by omega)]
      go_wp2_with (first | fail | (go_at_fn id; refine (hF.out _ k hD.out hlt).mono ?_; rintro e w3 ⟨rfl, hb⟩; replace hH := hH.call' hb; replace hD := hid (Dv.below hD.out hb); clear hb c0; have c1 : w3.cell? ⟨w.heap.size + 1, k, none⟩ = some (.int .u8 (mdF D k k).toNat) := (by rw [hH.c1, u8s_get _ _ _ (by omega)]); have f1 := hH.f1 k))
      go_roundw
      case rel => exact ⟨k + 1, by omega, by go_num, hH.s1 _ _ (u8s_step 10 _ _ k (D k) (fun j _ => mdF_step D k j)), hid (holds_other hD.out _ _ (by simp; omega))⟩
      case measure => simp [intOf]; omega
    · obtain rfl : k = N := by omega
      go_wp2
      refine wp_region_frame (X := Unit) (fun d _ => [(28, bif d 0 then .agg (u8s 10 (mdF D k)) else undef), (29, bif d 1 then .pointer (some ⟨gb, 0, none⟩) else undef), (30, bif d 2 then .pointer (some ⟨gb, 0, none⟩) else undef), (31, bif d 3 then .pointer (some ⟨gb, 0, none⟩) else undef), (32, bif d 4 then .pointer (some ⟨gb, 0, none⟩) else undef), (33, bif d 5 then .int .i64 k else undef), (34, bif d 6 then .bool (permB (mdF D k) (k : Int)) else undef), (6, bif d 7 then .bool (permB (mdF D k) (k : Int)) else .bool false)])
        (fun d _ w' => Has w w' [(u8s 10 p, 36), (u8s 10 (mdF D k), 36)] ∧ Hid (Dv w' gb k g)) (by kernel_rfl) (by kernel_rfl) ?h0_mk ?hs_mk ?hq_mk
      case h0_mk => exact ⟨(), (by simp [lput]), hH.drew, hid (holds_drew hD.out)⟩
      case hs_mk =>
        refine ⟨?_, ?_, ?_, ?_, ?_, ?_, ?_, ?_, trivial⟩
        all_goals
          clear hH hD
          intro d _ w1 hd hn hJ
          simp only [needs, Region.binds, reduceCtorEq, Bool.false_eq_true, false_implies, true_and, and_true, true_implies, forall_const] at hn
          simp only [lput, List.set, hn, cond_true]
          obtain ⟨hH, hD⟩ := hJ
          have cN : w1.cell? ⟨gb, 0, none⟩ = some (.int .i64 k) := by rw [holds_cell hD.out, dvc_get0 _ _ _ _ _ (by omega), sqc_get0]
          go_wp2_with (first | fail | (refine wpL_loadFull rfl rfl rfl rowPl hH.h1 (u8s_size _ _) ?_) | (go_at_call 100; refine (IsPermutation_any _ _ _).mono ?_; rintro e w3 ⟨rfl, hb⟩; replace hH := hH.call' hb; replace hD := hid (Dv.below hD.out hb); clear hb))
          first
            | (refine ⟨(), ?_, hH, hD⟩; (simp [lput, done, hn]; done))
            | (refine ⟨?_, hH, hD⟩; (simp [lput, done, hn]; done))
            | (refine ⟨(), ?_, hH, hD⟩; (simp [lput, done, hn]; rfl))
            | (refine ⟨?_, hH, hD⟩; (simp [lput, done, hn]; rfl))
            | (refine ⟨(), ?_, hH, hD⟩; (simp [lput, done]; done))
            | (refine ⟨?_, hH, hD⟩; (simp [lput, done]; done))
            | (refine ⟨(), ?_, hH, hD⟩; (simp [lput, done]; rfl))
            | (refine ⟨?_, hH, hD⟩; (simp [lput, done]; rfl))
      case hq_mk =>
        clear hH hD
        intro d _ w1 hd hJ
        simp only [allDone, List.length_cons, List.length_nil, Nat.reduceAdd, and_true] at hd
        obtain ⟨hH, hD⟩ := hJ
        simp only [lput, List.set, hd, cond_true]
        clear hd
        go_wp2
        go_ret
        exact ⟨rfl, hH.below⟩
theorem leftQ_enters : Enters Try.prog 98 := enters_of Try.func98 (by kernel_rfl) rfl
theorem prod_enters : Enters Try.prog 67 := enters_of Try.func67 (by kernel_rfl) rfl
/-- What an orthomorphism has to make different. -/
def orD (g p : Nat → UInt8) (N x : Nat) : UInt8 := ld g N x (p x).toNat
theorem leftQ_at (N gb x : Nat) (g p : Nat → UInt8) (w : World) (h10 : N ≤ 10) (hp : IsPerm p N) (hx : x < N) (hg : Dv w gb N g) :
    Calls Try.prog 98 #[.pointer (some ⟨gb, 0, none⟩), .int .u8 (x : Nat), .int .u8 (p x).toNat] w fun e w' => e = .returned (.int .u8 (orD g p N x).toNat) ∧ Below w.heap.size w w' := by
  obtain ⟨X, hX⟩ := byte_of x (by omega)
  subst hX
  exact leftQuotient_any N gb g X (p X.toNat) w h10 hx (hp.lt _ hx) hg
set_option maxRecDepth 20000 in
set_option maxHeartbeats 1000000 in
theorem isOrthomorphism_any (N gb : Nat) (g p : Nat → UInt8) (w : World) (h10 : N ≤ 10) (hg : Dv w gb N g) (hp : IsPerm p N) :
    Calls Try.prog 61 #[.pointer (some ⟨gb, 0, none⟩), .agg (u8s 10 p)] w fun e w' => e = .returned (.bool (difB (orD g p N) N)) ∧ Below w.heap.size w w' := by
  have hH := Has.start1 w (u8s 10 p) 36
  have hD := hid (holds_alloc hg (.cells (u8s 10 p) 36))
  have HP := hid hp
  clear hg hp
  go_enter Try.func61, Try.ntmps61
  go_wp2_with (first | fail | (refine wpL_loadFull rfl rfl rfl rowPl hH.h0 (u8s_size _ _) ?_) | (go_at_call 66; refine (makesAll_any N gb _ g p (orD g p N) _ h10 hD.out leftQ_enters (hid (fun w' x h hx => leftQ_at N gb x g p w' h10 HP.out hx h))).mono ?_; rintro e w3 ⟨rfl, hb⟩; replace hH := hH.call' hb; clear hb))
  go_ret
  exact ⟨rfl, hH.below⟩
set_option maxRecDepth 20000 in
set_option maxHeartbeats 2000000 in
theorem implIsOrtho_bad (o : Int) (g p : Nat → UInt8) (z : Int) (w : World) (hz : gcode o g (permB p o) = z) (hzz : (z == 0) = false) :
    Calls Try.prog 21 #[.agg (sqc o g), .agg (u8s 10 p)] w fun e w' => e = .returned (.tuple #[.bool false, .int .i64 z]) ∧ Below w.heap.size w w' := by
  have HZ := hid hz
  clear hz
  have hz2 : ¬ (z = 0) := by simpa using hzz
  have h0 := Has.start2 w (sqc o g) (u8s 10 p) 28 36
  have hH := Has.start3 w (sqc o g) (u8s 10 p) (u8s 10 p) 28 36 36
  go_enter Try.func21, Try.ntmps21
  go_wp2_with (first | fail | (refine wpL_loadFull rfl rfl rfl rowSq h0.h0 (sqc_size _ _) ?_) | (refine wpL_loadFull rfl rfl rfl rowPl h0.h1 (u8s_size _ _) ?_) | (refine wpL_sliceP (f := p) rfl (by rfl) (by rfl) ?_) | (go_at_call 55; refine (onGroupCode_1 o g p _ _ hH.h2).mono ?_; rintro e w3 ⟨rfl, hb⟩; rw [HZ.out]; replace hH := hH.call' hb; clear hb h0))
  go_ret2
  exact ⟨rfl, hH.below⟩
set_option maxRecDepth 20000 in
set_option maxHeartbeats 2000000 in
theorem implIsOrtho_good (N : Nat) (g p : Nat → UInt8) (w : World) (hz : gcode (N : Int) g (permB p (N : Int)) = 0) (hq : IsSq N g) (hp : IsPerm p N) :
    Calls Try.prog 21 #[.agg (sqc N g), .agg (u8s 10 p)] w fun e w' => e = .returned (.tuple #[.bool (difB (orD g p N) N), .int .i64 0]) ∧ Below w.heap.size w w' := by
  have HZ := hid hz
  have HQ := hid hq
  have HP := hid hp
  have h10 := hq.hi
  clear hz hq hp
  have h0 := Has.start2 w (sqc N g) (u8s 10 p) 28 36
  have hH := Has.start3 w (sqc N g) (u8s 10 p) (u8s 10 p) 28 36 36
  go_enter Try.func21, Try.ntmps21
  go_wp2_with (first | fail | (refine wpL_loadFull rfl rfl rfl rowSq h0.h0 (sqc_size _ _) ?_) | (refine wpL_loadFull rfl rfl rfl rowPl h0.h1 (u8s_size _ _) ?_) | (refine wpL_sliceP (f := p) rfl (by rfl) (by rfl) ?_) | (go_at_call 55; refine (onGroupCode_1 N g p _ _ hH.h2).mono ?_; rintro e w3 ⟨rfl, hb⟩; rw [HZ.out]; replace hH := hH.call' hb; clear hb h0))
  refine wp_region_frame (X := Nat) (fun d x => [(14, bif d 0 then .agg (sqc N g) else undef), (15, bif d 1 then .pointer (some ⟨x, 0, none⟩) else undef), (16, bif d 2 then .agg (u8s 10 p) else undef), (17, bif d 3 then .bool (difB (orD g p N) N) else undef), (4, bif d 4 then .bool (difB (orD g p N) N) else .bool false), (5, bif d 5 then .int .i64 0 else .int .i64 0)])
    (fun d x w' => Has w w' [(sqc N g, 28), (u8s 10 p, 36), (u8s 10 p, 36)] ∧ (d 1 = true → Hid (Dv w' x N g))) (by kernel_rfl) (by kernel_rfl) ?h0_io ?hs_io ?hq_io
  case h0_io => exact ⟨0, (by simp [lput]), hH.drew, (fun h => by cases h)⟩
  case hs_io =>
    refine ⟨?_, ?_, ?_, ?_, ?_, ?_, trivial⟩
    all_goals
      clear hH
      intro d x w1 hd hn hJ
      simp only [needs, Region.binds, reduceCtorEq, Bool.false_eq_true, false_implies, true_and, and_true, true_implies, forall_const] at hn
      simp only [lput, List.set, hn, cond_true]
      obtain ⟨hH, hD⟩ := hJ
      (try have hD_ := hD (by simp only [hn]))
      go_wp2_with (first | fail | (refine wpL_loadFull rfl rfl rfl rowSq hH.h0 (sqc_size _ _) ?_) | (refine wpL_loadFull rfl rfl rfl rowPl hH.h1 (u8s_size _ _) ?_) | (go_at_call 56; refine (divide_any N g _ HQ.out).mono ?_; rintro e w3 ⟨gb, rfl, hb, hD0, hlo⟩; replace hH := hH.call' hb) | (go_at_call 61; refine (isOrthomorphism_any N x g p _ h10 hD_.out HP.out).mono ?_; rintro e w4 ⟨rfl, hb⟩; replace hH := hH.call' hb; replace hD := fun e => hid (Dv.below (hD e).out hb)))
      first
        | (refine ⟨gb, ?_, hH, (fun _ => hid hD0)⟩; (simp [lput, done, hn]; done))
        | (refine ⟨x, ?_, hH, (fun e => hD (done_ne e (by decide)))⟩; (simp [lput, done, hn]; done))
        | (refine ⟨?_, hH, (fun e => hD (done_ne e (by decide)))⟩; (simp [lput, done, hn]; done))
        | (refine ⟨x, ?_, hH, (fun e => hD (done_ne e (by decide)))⟩; (simp [lput, done, hn]; rfl))
        | (refine ⟨?_, hH, (fun e => hD (done_ne e (by decide)))⟩; (simp [lput, done, hn]; rfl))
        | (refine ⟨x, ?_, hH, (fun e => hD (done_ne e (by decide)))⟩; (simp [lput, done]; done))
        | (refine ⟨?_, hH, (fun e => hD (done_ne e (by decide)))⟩; (simp [lput, done]; done))
        | (refine ⟨x, ?_, hH, (fun e => hD (done_ne e (by decide)))⟩; (simp [lput, done]; rfl))
        | (refine ⟨?_, hH, (fun e => hD (done_ne e (by decide)))⟩; (simp [lput, done]; rfl))
  case hq_io =>
    clear hH
    intro d x w1 hd hJ
    simp only [allDone, List.length_cons, List.length_nil, Nat.reduceAdd, and_true] at hd
    obtain ⟨hH, hD⟩ := hJ
    replace hD := hD (by simp only [hd])
    simp only [lput, List.set, hd, cond_true]
    clear hd
    go_wp2
    go_ret2
    exact ⟨rfl, hH.below⟩
set_option maxRecDepth 20000 in
set_option maxHeartbeats 1000000 in
theorem l08Group_1 (o : Int) (g : Nat → UInt8) (w : World) (hs : sqB o g = false) :
    Calls Try.prog 72 #[.agg (sqc o g)] w fun e w' => e = .returned (.int .i64 1) ∧ Below w.heap.size w w' := by
  have hH := Has.start1 w (sqc o g) 28
  go_enter Try.func72, Try.ntmps72
  go_wp2_with (first | fail | (refine wpL_guard rfl rfl ?_) | (refine wpL_loadFull rfl rfl rfl rowSq hH.h0 (sqc_size _ _) ?_) | (go_at_call 50; refine (l01Is_any _ _ _).mono ?_; rintro e w3 ⟨rfl, hb⟩; rw [hs]; replace hH := hH.call' hb; clear hb))
  go_ret
  exact ⟨rfl, hH.below⟩
set_option maxRecDepth 20000 in
set_option maxHeartbeats 1000000 in
theorem l08Group_5a (o : Int) (g : Nat → UInt8) (w : World) (hs : sqB o g = true) (hl : loopB o g = false) :
    Calls Try.prog 72 #[.agg (sqc o g)] w fun e w' => e = .returned (.int .i64 5) ∧ Below w.heap.size w w' := by
  have hH := Has.start1 w (sqc o g) 28
  go_enter Try.func72, Try.ntmps72
  go_wp2_with (first | fail | (refine wpL_guard rfl rfl ?_) | (refine wpL_loadFull rfl rfl rfl rowSq hH.h0 (sqc_size _ _) ?_) | (go_at_call 50; refine (l01Is_any _ _ _).mono ?_; rintro e w3 ⟨rfl, hb⟩; rw [hs]; replace hH := hH.call' hb; clear hb) | (go_at_call 51; refine (l01Loop_any _ _ _).mono ?_; rintro e w3 ⟨rfl, hb⟩; rw [hl]; replace hH := hH.call' hb; clear hb))
  go_ret
  exact ⟨rfl, hH.below⟩
set_option maxRecDepth 20000 in
set_option maxHeartbeats 1000000 in
theorem l08Group_5b (N : Nat) (g : Nat → UInt8) (w : World) (h1 : 1 ≤ N) (h10 : N ≤ 10) (hs : sqB (N : Int) g = true) (hl : loopB (N : Int) g = true) (ha : ascB (N : Int) g = false) :
    Calls Try.prog 72 #[.agg (sqc N g)] w fun e w' => e = .returned (.int .i64 5) ∧ Below w.heap.size w w' := by
  have hH := Has.start1 w (sqc N g) 28
  go_enter Try.func72, Try.ntmps72
  go_wp2_with (first | fail | (refine wpL_guard rfl rfl ?_) | (refine wpL_loadFull rfl rfl rfl rowSq hH.h0 (sqc_size _ _) ?_) | (go_at_call 50; refine (l01Is_any _ _ _).mono ?_; rintro e w3 ⟨rfl, hb⟩; rw [hs]; replace hH := hH.call' hb; clear hb) | (go_at_call 51; refine (l01Loop_any _ _ _).mono ?_; rintro e w3 ⟨rfl, hb⟩; rw [hl]; replace hH := hH.call' hb; clear hb) | (go_at_call 52; refine (l01Group_sq N g _ h1 h10 hs).mono ?_; rintro e w3 ⟨rfl, hb⟩; rw [ha]; replace hH := hH.call' hb; clear hb))
  go_ret
  exact ⟨rfl, hH.below⟩
set_option maxRecDepth 20000 in
set_option maxHeartbeats 1000000 in
theorem l08Group_0 (N : Nat) (g : Nat → UInt8) (w : World) (h1 : 1 ≤ N) (h10 : N ≤ 10) (hs : sqB (N : Int) g = true) (hl : loopB (N : Int) g = true) (ha : ascB (N : Int) g = true) :
    Calls Try.prog 72 #[.agg (sqc N g)] w fun e w' => e = .returned (.int .i64 0) ∧ Below w.heap.size w w' := by
  have hH := Has.start1 w (sqc N g) 28
  go_enter Try.func72, Try.ntmps72
  go_wp2_with (first | fail | (refine wpL_guard rfl rfl ?_) | (refine wpL_loadFull rfl rfl rfl rowSq hH.h0 (sqc_size _ _) ?_) | (go_at_call 50; refine (l01Is_any _ _ _).mono ?_; rintro e w3 ⟨rfl, hb⟩; rw [hs]; replace hH := hH.call' hb; clear hb) | (go_at_call 51; refine (l01Loop_any _ _ _).mono ?_; rintro e w3 ⟨rfl, hb⟩; rw [hl]; replace hH := hH.call' hb; clear hb) | (go_at_call 52; refine (l01Group_sq N g _ h1 h10 hs).mono ?_; rintro e w3 ⟨rfl, hb⟩; rw [ha]; replace hH := hH.call' hb; clear hb))
  go_ret
  exact ⟨rfl, hH.below⟩
theorem l08Group_any (o : Int) (g : Nat → UInt8) (w : World) :
    Calls Try.prog 72 #[.agg (sqc o g)] w fun e w' => e = .returned (.int .i64 (gcode o g true)) ∧ Below w.heap.size w w' := by
  cases hs : sqB o g with
  | false => rw [gcode_no (by rw [hs]; rfl)]; exact l08Group_1 o g w hs
  | true =>
    have hk : (sqB o g && true) = true := by rw [hs]; rfl
    cases hg : groupB o g with
    | false =>
      rw [gcode_5 hk hg]
      cases hl : loopB o g with
      | false => exact l08Group_5a o g w hs hl
      | true =>
        obtain ⟨N, rfl, hp, _, _⟩ := loop_true hl
        exact l08Group_5b N g w hp.sq.lo hp.sq.hi hs hl (group_out (o := 0) hs hg hl)
    | true =>
      rw [gcode_0 hk hg]
      obtain ⟨N, rfl, hG, _, hl⟩ := group_true hg
      have ha : ascB (N : Int) g = true := by unfold groupB at hg; rw [hl] at hg; simpa using hg
      exact l08Group_0 N g w hG.lp.sq.lo hG.lp.sq.hi hs hl ha
set_option maxRecDepth 20000 in
set_option maxHeartbeats 1000000 in
theorem l08Code_any (o : Int) (g p : Nat → UInt8) (w : World) :
    Calls Try.prog 59 #[.agg (sqc o g), .agg (u8s 10 p)] w fun e w' => e = .returned (.int .i64 (gcode o g (permB p o))) ∧ Below w.heap.size w w' := by
  have hH := Has.start2 w (sqc o g) (u8s 10 p) 28 36
  cases hs : sqB o g with
  | false =>
    rw [gcode_no (by rw [hs]; rfl)]
    go_enter Try.func59, Try.ntmps59
    go_wp2_with (first | fail | (refine wpL_guard rfl rfl ?_) | (refine wpL_loadFull rfl rfl rfl rowSq hH.h0 (sqc_size _ _) ?_) | (refine wpL_loadFull rfl rfl rfl rowPl hH.h1 (u8s_size _ _) ?_) | (go_at_call 50; refine (l01Is_any _ _ _).mono ?_; rintro e w3 ⟨rfl, hb⟩; rw [hs]; replace hH := hH.call' hb; clear hb))
    go_ret
    exact ⟨rfl, hH.below⟩
  | true =>
    cases hpb : permB p o with
    | false =>
      rw [gcode_no (by rw [hs]; rfl)]
      go_enter Try.func59, Try.ntmps59
      go_wp2_with (first | fail | (refine wpL_guard rfl rfl ?_) | (refine wpL_loadFull rfl rfl rfl rowSq hH.h0 (sqc_size _ _) ?_) | (refine wpL_loadFull rfl rfl rfl rowPl hH.h1 (u8s_size _ _) ?_) | (go_at_call 50; refine (l01Is_any _ _ _).mono ?_; rintro e w3 ⟨rfl, hb⟩; rw [hs]; replace hH := hH.call' hb; clear hb; have c0 := hH.c0 0; rw [sqc_get0] at c0) | (go_at_call 63; refine (l01Perm_any _ _ _).mono ?_; rintro e w3 ⟨rfl, hb⟩; rw [hpb]; replace hH := hH.call' hb; clear hb))
      go_ret
      exact ⟨rfl, hH.below⟩
    | true =>
      go_enter Try.func59, Try.ntmps59
      go_wp2_with (first | fail | (refine wpL_guard rfl rfl ?_) | (refine wpL_loadFull rfl rfl rfl rowSq hH.h0 (sqc_size _ _) ?_) | (refine wpL_loadFull rfl rfl rfl rowPl hH.h1 (u8s_size _ _) ?_) | (go_at_call 50; refine (l01Is_any _ _ _).mono ?_; rintro e w3 ⟨rfl, hb⟩; rw [hs]; replace hH := hH.call' hb; clear hb; have c0 := hH.c0 0; rw [sqc_get0] at c0) | (go_at_call 63; refine (l01Perm_any _ _ _).mono ?_; rintro e w3 ⟨rfl, hb⟩; rw [hpb]; replace hH := hH.call' hb; clear hb) | (go_at_call 72; refine (l08Group_any _ _ _).mono ?_; rintro e w3 ⟨rfl, hb⟩; replace hH := hH.call' hb; clear hb))
      go_ret
      exact ⟨rfl, hH.below⟩
/-- The same as the model tells it. -/
def orE (g p : Nat → UInt8) (N x : Nat) : UInt8 := g ((iv g N x).toNat * 10 + (p x).toNat)
theorem orE_eq {g p : Nat → UInt8} {N : Nat} (hG : IsGp N g) (hp : IsPerm p N) : difB (orE g p N) N = difB (orD g p N) N :=
  difB_congr fun i hi => (ld_iv hG (hp.lt i hi) hi).symm
theorem l08Inverse_nat (N y : Nat) (g : Nat → UInt8) (w : World) (hq : IsSq N g) (hy : y < N) :
    Calls Try.prog 53 #[.agg (sqc N g), .int .u8 (y : Nat)] w fun e w' => e = .returned (.int .u8 (iv g N y).toNat) ∧ Below w.heap.size w w' := by
  obtain ⟨Y, hY⟩ := byte_of y (by have := hq.hi; omega)
  subst hY
  exact l08Inverse_any N g Y w hq hy
set_option maxRecDepth 20000 in
set_option maxHeartbeats 4000000 in
theorem l08Ortho_any (N : Nat) (g p : Nat → UInt8) (w : World) (hq : IsSq N g) (hp : IsPerm p N) :
    Calls Try.prog 60 #[.agg (sqc N g), .agg (u8s 10 p)] w fun e w' => e = .returned (.bool (difB (orE g p N) N)) ∧ Below w.heap.size w w' := by
  have h10 := hq.hi
  have h1 := hq.lo
  have HQ := hid hq
  have HP := hid hp
  clear hq hp
  have hH := Has.start3 w (sqc N g) (u8s 10 p) (bls 10 fun _ => false) 28 36 90
  go_enter Try.func60, Try.ntmps60
  go_wp2_with (first | fail | (refine wpL_alloc rfl rfl zeroBo ?_; intro g hg; (try simp at hg); subst hg) | (refine wpL_build rfl rfl builtBo ?_) | (refine wpL_storeSame rfl rfl rfl rfl rowBo hH.h2 ⟨bls_size _ _, bls_one _ _⟩ ?_))
  go_loopw [6] (fun i wr => ∃ k : Nat, k ≤ N ∧ i = .int .i64 k ∧ Has w wr [(sqc N g, 28), (u8s 10 p, 36), (bls 10 (metD (orE g p N) k), 90)] ∧ Hid (DifTo (orE g p N) k)) (fun i _ => 10 - (intOf i).toNat)
  case atStart => exact ⟨0, by omega, rfl, by rw [show metD (orE g p N) 0 = fun _ => false from funext (metD_zero _)]; exact hH, hid (fun i j hi hj => absurd hj (by omega))⟩
  case round =>
    clear hH
    obtain ⟨k, hk, rfl, hH, hd⟩ := hrel
    have c0 : wr.cell? ⟨w.heap.size, 0, none⟩ = some (.int .i64 N) := by rw [hH.c0, sqc_get0]
    by_cases hlt : k < N
    · have hk10 : (k : Int) < 10 := by omega
      have hlt' : (k : Int) < N := by omega
      obtain ⟨b, hb⟩ : ∃ b, iv g N k = b := ⟨_, rfl⟩
      obtain ⟨v, hv⟩ : ∃ v, p k = v := ⟨_, rfl⟩
      have hbl : b.toNat < N := by rw [← hb]; exact iv_lt HQ.out hlt
      have hvl : v.toNat < N := by rw [← hv]; exact HP.out.lt k hlt
      obtain ⟨u, hu⟩ : ∃ u, g (b.toNat * 10 + v.toNat) = u := ⟨_, rfl⟩
      have hul : u.toNat < N := by rw [← hu]; exact (HQ.out.rows _ hbl).lt _ hvl
      have HE := hid (show orE g p N k = u by unfold orE; rw [hb, hv, hu])
      have HB := hid hb
      have HV := hid hv
      have HU := hid hu
      clear hb hv hu
      have hb' : (b.toNat : Int) < 10 := by omega
      have hv' : (v.toNat : Int) < 10 := by omega
      have hu' : (u.toNat : Int) < 10 := by omega
      go_wp2
      clear c0
      refine wp_region_frame (X := Unit) (fun d _ => [(15, bif d 0 then .agg (sqc N g) else u15), (16, bif d 1 then .int .i64 k else u16), (17, bif d 2 then .int .u8 k else u17), (18, bif d 3 then .int .u8 b.toNat else u18), (19, bif d 4 then .int .i64 k else u19), (20, bif d 5 then .pointer (some ⟨w.heap.size + 1, k, none⟩) else u20), (21, bif d 6 then .int .u8 v.toNat else u21), (22, bif d 7 then .pointer (some ⟨w.heap.size, 1, none⟩) else u22), (23, bif d 8 then .pointer (some ⟨w.heap.size, 1 + b.toNat * 10, none⟩) else u23), (24, bif d 9 then .pointer (some ⟨w.heap.size, 1 + b.toNat * 10 + v.toNat, none⟩) else u24), (25, bif d 10 then .int .u8 u.toNat else u25), (7, bif d 11 then .int .u8 u.toNat else u7)])
        (fun d _ w' => Has w w' [(sqc N g, 28), (u8s 10 p, 36), (bls 10 (metD (orE g p N) k), 90)]) (by kernel_rfl) (by kernel_rfl) ?h0_oo ?hs_oo ?hq_oo
      case h0_oo => exact ⟨(), (by simp [lput]), hH.drew⟩
      case hs_oo =>
        refine ⟨?_, ?_, ?_, ?_, ?_, ?_, ?_, ?_, ?_, ?_, ?_, ?_, trivial⟩
        all_goals
          clear hH
          intro d _ w1 hd hn hJ
          simp only [needs, Region.binds, reduceCtorEq, Bool.false_eq_true, false_implies, true_and, and_true, true_implies, forall_const] at hn
          simp only [lput, List.set, hn, cond_true]
          have hH := hJ; clear hJ
          have c1 : w1.cell? ⟨w.heap.size + 1, k, none⟩ = some (.int .u8 v.toNat) := by rw [hH.c1, u8s_get _ _ _ (by omega), HV.out]
          have c2 : w1.cell? ⟨w.heap.size, 1 + b.toNat * 10 + v.toNat, none⟩ = some (.int .u8 u.toNat) := by rw [hH.c0, Nat.add_assoc, sqc_get _ _ _ (by omega), HU.out]
          go_wp2_with (first | fail | (refine wpL_loadFull rfl rfl rfl rowSq hH.h0 (sqc_size _ _) ?_) | (go_at_call 53; refine (l08Inverse_nat N k g _ HQ.out hlt).mono ?_; rintro e w3 ⟨rfl, hb⟩; rw [HB.out]; replace hH := hH.call' hb; clear hb))
          first
            | (refine ⟨(), ?_, hH⟩; (simp [lput, done, hn]; done))
            | (refine ⟨?_, hH⟩; (simp [lput, done, hn]; done))
            | (refine ⟨(), ?_, hH⟩; (simp [lput, done, hn]; rfl))
            | (refine ⟨?_, hH⟩; (simp [lput, done, hn]; rfl))
            | (refine ⟨(), ?_, hH⟩; (simp [lput, done]; done))
            | (refine ⟨?_, hH⟩; (simp [lput, done]; done))
            | (refine ⟨(), ?_, hH⟩; (simp [lput, done]; rfl))
            | (refine ⟨?_, hH⟩; (simp [lput, done]; rfl))
      case hq_oo =>
        clear hH
        intro d _ w1 hd hJ
        simp only [allDone, List.length_cons, List.length_nil, Nat.reduceAdd, and_true] at hd
        have hH := hJ; clear hJ
        simp only [lput, List.set, hd, cond_true]
        clear hd
        have c3 := hH.c2 u.toNat
        rw [bls_get _ _ _ (by omega)] at c3
        have f3 := hH.f2 u.toNat
        cases hm : metD (orE g p N) k u.toNat with
        | true =>
          rw [hm] at c3
          have HM := hid (difB_met (d := orE g p N) hlt (by rw [HE.out]; exact hm))
          clear hm
          go_wp2
          go_ret
          exact ⟨by rw [HM.out]; rfl, hH.below⟩
        | false =>
          rw [hm] at c3
          have hd2 := hid (hd.out.step (by rw [HE.out]; exact hm))
          clear hm
          go_wp2
          go_roundw
          case rel => exact ⟨k + 1, by omega, by go_num, hH.s2 _ _ (bls_step 10 _ _ u.toNat true (fun j _ => by rw [metD_succ, HE.out])), hd2⟩
          case measure => simp [intOf]; omega
    · obtain rfl : k = N := by omega
      have HT := hid (difB_yes h1 h10 (fun i hi => show (orE g p k i).toNat < k from (HQ.out.rows _ (iv_lt HQ.out hi)).lt _ (HP.out.lt i hi)) (fun i j hi hj => hd.out i j hi hj))
      go_wp2
      go_ret
      exact ⟨by rw [HT.out]; rfl, hH.below⟩
set_option maxRecDepth 20000 in
set_option maxHeartbeats 1000000 in
theorem specIsOrtho_bad (o : Int) (g p : Nat → UInt8) (z : Int) (w : World) (hz : gcode o g (permB p o) = z) (hzz : (z == 0) = false) :
    Calls Try.prog 19 #[.agg (sqc o g), .agg (u8s 10 p)] w fun e w' => e = .returned (.tuple #[.bool false, .int .i64 z]) ∧ Below w.heap.size w w' := by
  have HZ := hid hz
  clear hz
  have hz2 : ¬ (z = 0) := by simpa using hzz
  have hH := Has.start2 w (sqc o g) (u8s 10 p) 28 36
  go_enter Try.func19, Try.ntmps19
  go_wp2_with (first | fail | (refine wpL_loadFull rfl rfl rfl rowSq hH.h0 (sqc_size _ _) ?_) | (refine wpL_loadFull rfl rfl rfl rowPl hH.h1 (u8s_size _ _) ?_) | (go_at_call 59; refine (l08Code_any o g p _).mono ?_; rintro e w3 ⟨rfl, hb⟩; rw [HZ.out]; replace hH := hH.call' hb; clear hb))
  go_ret2
  exact ⟨rfl, hH.below⟩
set_option maxRecDepth 20000 in
set_option maxHeartbeats 1000000 in
theorem specIsOrtho_good (N : Nat) (g p : Nat → UInt8) (w : World) (hz : gcode (N : Int) g (permB p (N : Int)) = 0) (hG : IsGp N g) (hp : IsPerm p N) :
    Calls Try.prog 19 #[.agg (sqc N g), .agg (u8s 10 p)] w fun e w' => e = .returned (.tuple #[.bool (difB (orD g p N) N), .int .i64 0]) ∧ Below w.heap.size w w' := by
  have HZ := hid hz
  have HQ := hid hG.lp.sq
  have HP := hid hp
  have HE := hid (orE_eq hG hp)
  clear hz hG hp
  have hH := Has.start2 w (sqc N g) (u8s 10 p) 28 36
  go_enter Try.func19, Try.ntmps19
  go_wp2_with (first | fail | (refine wpL_loadFull rfl rfl rfl rowSq hH.h0 (sqc_size _ _) ?_) | (refine wpL_loadFull rfl rfl rfl rowPl hH.h1 (u8s_size _ _) ?_) | (go_at_call 59; refine (l08Code_any N g p _).mono ?_; rintro e w3 ⟨rfl, hb⟩; rw [HZ.out]; replace hH := hH.call' hb; clear hb) | (go_at_call 60; refine (l08Ortho_any N g p _ HQ.out HP.out).mono ?_; rintro e w3 ⟨rfl, hb⟩; rw [HE.out]; replace hH := hH.call' hb; clear hb))
  go_ret2
  exact ⟨rfl, hH.below⟩
theorem gcode_good {o : Int} {g p : Nat → UInt8} (h : gcode o g (permB p o) = 0) : ∃ N : Nat, o = N ∧ IsGp N g ∧ IsPerm p N := by
  unfold gcode at h
  by_cases hk : (sqB o g && permB p o) = true
  · rw [if_pos hk] at h
    by_cases hg : groupB o g = true
    · obtain ⟨N, rfl, hG, _, _⟩ := group_true hg
      rw [Bool.and_eq_true] at hk
      exact ⟨N, rfl, hG, permB_nat.1 hk.2⟩
    · rw [if_neg hg] at h; omega
  · rw [if_neg hk] at h; omega
end Go.Proofs.Ytcdlnkjljijlmaa
