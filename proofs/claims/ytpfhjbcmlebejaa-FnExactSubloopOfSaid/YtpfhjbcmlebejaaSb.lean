/- Proved: what SubloopOf and IsSubloop return, of program and model alike. Conditions: those that each theorem names. -/
import Derived.Test.YtpfhjbcmlebejaaSb1
import Derived.Test.YtpfhjbcmlebejaaCp
import Derived.Test.YtpfhjbcmlebejaaCm
import Derived.Test.YtpfhjbcmlebejaaLx
namespace Go.Proofs.Ytpfhjbcmlebejaa
set_option linter.unusedVariables false
set_option linter.unusedSimpArgs false
open Go.RowKit
theorem gdMe : Try.prog.eqGuardType Try.prog.depth 65 = false := by kernel_rfl
theorem gdBo : Try.prog.eqGuardType Try.prog.depth 62 = false := by kernel_rfl
theorem szBool : (Try.prog.info? 4).map (·.size) = some 1 := by kernel_rfl
theorem eqMe (a b : Nat → Bool) (w : World) : (Op.equalIn Op.maxDepth 65 (.agg (bls 10 a)) (.agg (bls 10 b))).run Try.prog w = .ok (eqL a b) w :=
  run_eq_bools w _ 65 4 _ _ a b Try.underlying65 Try.underlying4 szBool rfl rfl
theorem eqBo (a b : Nat → Bool) (w : World) : (Op.equalIn Op.maxDepth 62 (.agg (bls 10 a)) (.agg (bls 10 b))).run Try.prog w = .ok (eqL a b) w :=
  run_eq_bools w _ 62 4 _ _ a b Try.underlying62 Try.underlying4 szBool rfl rfl
set_option maxRecDepth 20000 in
set_option maxHeartbeats 1000000 in
theorem specSubloopOf_err (o : Int) (g : Nat → UInt8) (b n c : Nat) (f : Nat → Int) (z : Int) (w : World) (hz : (z == 0) = false) (hR : Row w b n f)
    (hC : Hid (∀ w, Row w b n f → Calls Try.prog 51 #[.agg (sqc o g), .slice (some ⟨b, 0, none⟩) n c] w fun e w' => e = .returned (.int .i64 z) ∧ Below w.heap.size w w')) :
    Calls Try.prog 26 #[.agg (sqc o g), .slice (some ⟨b, 0, none⟩) n c] w fun e w' => e = .returned (.tuple #[.slice none 0 0, .int .i64 z]) ∧ Below w.heap.size w w' := by
  have hz2 : ¬ (z = 0) := by simpa using hz
  have hH := Has.start1 w (sqc o g) 30
  replace hR := hid (hR.alloc (.cells (sqc o g) 30))
  go_enter Try.func26, Try.ntmps26
  go_wp2_with (first | fail | (refine wpL_loadFull rfl rfl rfl rowSq hH.h0 (sqc_size _ _) ?_) | (go_at_call 51; refine (hC.out _ hR.out).mono ?_; rintro e w2 ⟨rfl, hb⟩; replace hH := hH.call' hb; clear hb))
  go_ret2
  exact ⟨rfl, hH.below⟩
set_option maxRecDepth 20000 in
set_option maxHeartbeats 1000000 in
theorem implSubloopOf_err (o : Int) (g : Nat → UInt8) (b n c : Nat) (f : Nat → Int) (z : Int) (w : World) (hz : (z == 0) = false) (hR : Row w b n f)
    (hC : Hid (∀ w, Row w b n f → Calls Try.prog 55 #[.agg (sqc o g), .slice (some ⟨b, 0, none⟩) n c] w fun e w' => e = .returned (.tuple #[.agg (bls 10 fun _ => false), .int .i64 z]) ∧ Below w.heap.size w w')) :
    Calls Try.prog 28 #[.agg (sqc o g), .slice (some ⟨b, 0, none⟩) n c] w fun e w' => e = .returned (.tuple #[.slice none 0 0, .int .i64 z]) ∧ Below w.heap.size w w' := by
  have hz2 : ¬ (z = 0) := by simpa using hz
  have hH := Has.start1 w (sqc o g) 30
  replace hR := hid (hR.alloc (.cells (sqc o g) 30))
  go_enter Try.func28, Try.ntmps28
  go_wp2_with (first | fail | (refine wpL_loadFull rfl rfl rfl rowSq hH.h0 (sqc_size _ _) ?_) | (go_at_call 55; refine (hC.out _ hR.out).mono ?_; rintro e w2 ⟨rfl, hb⟩; replace hH := hH.call' hb; clear hb) | (refine wpL_allocN (o := ⟨some 6, _, _, _, _, _⟩) rfl rfl zeroMe ?_; intro gb w4 hgb hl4 hb; have hlo : w.heap.size + 1 ≤ gb := (by have := hH.size; simp only [List.length_cons, List.length_nil] at this; omega); replace hH := hH.call' hb; clear hb hl4) | (refine wpL_storeN (x := .tmp 6) rfl rfl rfl rfl rowMe hgb (bls_size _ _) (bls_ok _ _) ?_; intro w5 hz hOo hT; replace hgb := hz; replace hH := hT _ _ hH hlo; clear hz hOo hT))
  go_ret2
  exact ⟨rfl, hH.below⟩
set_option maxRecDepth 20000 in
set_option maxHeartbeats 1000000 in
theorem specIsSubloop_err (o : Int) (g : Nat → UInt8) (b n c : Nat) (f : Nat → Int) (z : Int) (w : World) (hz : (z == 0) = false) (hR : Row w b n f)
    (hC : Hid (∀ w, Row w b n f → Calls Try.prog 51 #[.agg (sqc o g), .slice (some ⟨b, 0, none⟩) n c] w fun e w' => e = .returned (.int .i64 z) ∧ Below w.heap.size w w')) :
    Calls Try.prog 32 #[.agg (sqc o g), .slice (some ⟨b, 0, none⟩) n c] w fun e w' => e = .returned (.tuple #[.bool false, .int .i64 z]) ∧ Below w.heap.size w w' := by
  have hz2 : ¬ (z = 0) := by simpa using hz
  have hH := Has.start1 w (sqc o g) 30
  replace hR := hid (hR.alloc (.cells (sqc o g) 30))
  go_enter Try.func32, Try.ntmps32
  go_wp2_with (first | fail | (refine wpL_loadFull rfl rfl rfl rowSq hH.h0 (sqc_size _ _) ?_) | (go_at_call 51; refine (hC.out _ hR.out).mono ?_; rintro e w2 ⟨rfl, hb⟩; replace hH := hH.call' hb; clear hb))
  go_ret2
  exact ⟨rfl, hH.below⟩
set_option maxRecDepth 20000 in
set_option maxHeartbeats 1000000 in
theorem implIsSubloop_err (o : Int) (g : Nat → UInt8) (b n c : Nat) (f : Nat → Int) (z : Int) (w : World) (hz : (z == 0) = false) (hR : Row w b n f)
    (hC : Hid (∀ w, Row w b n f → Calls Try.prog 55 #[.agg (sqc o g), .slice (some ⟨b, 0, none⟩) n c] w fun e w' => e = .returned (.tuple #[.agg (bls 10 fun _ => false), .int .i64 z]) ∧ Below w.heap.size w w')) :
    Calls Try.prog 33 #[.agg (sqc o g), .slice (some ⟨b, 0, none⟩) n c] w fun e w' => e = .returned (.tuple #[.bool false, .int .i64 z]) ∧ Below w.heap.size w w' := by
  have hz2 : ¬ (z = 0) := by simpa using hz
  have hH := Has.start1 w (sqc o g) 30
  replace hR := hid (hR.alloc (.cells (sqc o g) 30))
  go_enter Try.func33, Try.ntmps33
  go_wp2_with (first | fail | (refine wpL_loadFull rfl rfl rfl rowSq hH.h0 (sqc_size _ _) ?_) | (go_at_call 55; refine (hC.out _ hR.out).mono ?_; rintro e w2 ⟨rfl, hb⟩; replace hH := hH.call' hb; clear hb) | (refine wpL_allocN (o := ⟨some 6, _, _, _, _, _⟩) rfl rfl zeroMe ?_; intro gb w4 hgb hl4 hb; have hlo : w.heap.size + 1 ≤ gb := (by have := hH.size; simp only [List.length_cons, List.length_nil] at this; omega); replace hH := hH.call' hb; clear hb hl4) | (refine wpL_storeN (x := .tmp 6) rfl rfl rfl rfl rowMe hgb (bls_size _ _) (bls_ok _ _) ?_; intro w5 hz hOo hT; replace hgb := hz; replace hH := hT _ _ hH hlo; clear hz hOo hT))
  go_ret2
  exact ⟨rfl, hH.below⟩
set_option maxRecDepth 20000 in
set_option maxHeartbeats 4000000 in
theorem specSubloopOf_in (N b n c : Nat) (g : Nat → UInt8) (f : Nat → Int) (w : World) (hq : IsSq N g) (hR : Row w b n f) (hok : ∀ i, i < n → OkAt f N i)
    (hC : Hid (∀ w, Row w b n f → Calls Try.prog 51 #[.agg (sqc N g), .slice (some ⟨b, 0, none⟩) n c] w fun e w' => e = .returned (.int .i64 0) ∧ Below w.heap.size w w')) :
    Calls Try.prog 26 #[.agg (sqc N g), .slice (some ⟨b, 0, none⟩) n c] w (GotL (selL (clB g N (inL f n)) 10) 0 w) := by
  have HQ := hid hq
  have HO := hid hok
  have h10 := hq.hi
  clear hq hok
  have hH := Has.start1 w (sqc N g) 30
  replace hR := hid (hR.alloc (.cells (sqc N g) 30))
  go_enter Try.func26, Try.ntmps26
  go_wp2_with (first | fail | (refine wpL_loadFull rfl rfl rfl rowSq hH.h0 (sqc_size _ _) ?_) | (go_at_call 51; refine (hC.out _ hR.out).mono ?_; rintro e w2 ⟨rfl, hb⟩; replace hH := hH.call' hb; replace hR := hid (hR.out.below hb); clear hb))
  refine wp_region_frame (X := Value) (fun d x => [(13, bif d 0 then .agg (sqc N g) else undef), (14, bif d 1 then .slice (some ⟨b, 0, none⟩) n c else undef), (15, bif d 2 then .agg (bls 10 (inL f n)) else undef), (16, bif d 3 then .agg (bls 10 (clB g N (inL f n))) else undef), (17, bif d 4 then x else undef), (4, bif d 5 then x else .slice none 0 0), (5, bif d 6 then .int .i64 0 else .int .i64 0)])
    (fun d x w' => Has w w' [(sqc N g, 30)] ∧ Hid (Row w' b n f) ∧ (d 4 = true → Hid (OL w' (w.heap.size + 1) x (selL (clB g N (inL f n)) 10))) ∧ (d 5 = true → d 4 = true)) (by kernel_rfl) (by kernel_rfl) ?h0_sb ?hs_sb ?hq_sb
  case h0_sb => exact ⟨.bool false, (by simp [lput]), hH.drew, hid (hR.out.block rfl), (fun h => by cases h), (fun h => by cases h)⟩
  case hs_sb =>
    refine ⟨?_, ?_, ?_, ?_, ?_, ?_, ?_, trivial⟩
    all_goals
      clear hH hR
      intro d x w1 hd hn hJ
      simp only [needs, Region.binds, reduceCtorEq, Bool.false_eq_true, false_implies, true_and, and_true, true_implies, forall_const] at hn
      simp only [lput, List.set, hn, cond_true]
      obtain ⟨hH, hR, hV, I5_4⟩ := hJ
      (try have hV_ := hV (by simp only [hn]))
      have zz := hH.size
      simp only [List.length_cons, List.length_nil] at zz
      go_wp2_with (first | fail | (refine wpL_loadFull rfl rfl rfl rowSq hH.h0 (sqc_size _ _) ?_) | (go_at_call 54; refine (l05Set_any N b n c f _ h10 hR.out HO.out).mono ?_; rintro e w3 ⟨rfl, hb⟩; replace hH := hH.call' hb; replace hR := hid (hR.out.below hb); replace hV := fun e => hid ((hV e).out.below hb); clear hb) | (go_at_call 53; refine (l05Close_any N g (inL f n) _ HQ.out).mono ?_; rintro e w4 ⟨rfl, hb⟩; replace hH := hH.call' hb; replace hR := hid (hR.out.below hb); replace hV := fun e => hid ((hV e).out.below hb); clear hb) | (go_at_call 52; refine (l05Told_any (clB g N (inL f n)) _).mono ?_; rintro e w5 ⟨v0, rfl, hb, hO⟩; replace hH := hH.call' hb; replace hR := hid (hR.out.below hb); have hO2 := hid (hO.lower (by omega : w.heap.size + 1 ≤ _)); clear hb))
      first
        | (have z5 := imp_no I5_4 hd; refine ⟨v0, ?_, hH, hR, (fun _ => hO2), (by intro e; first | (simp [done]; done) | (have e2 := I5_4 (done_ne e (by decide)); simp [done, e2]; done) | (simp [done, hn]; done))⟩; (simp [lput, done, hn, z5]; done))
        | (refine ⟨x, ?_, hH, hR, (fun e => hV (done_ne e (by decide))), (by intro e; first | (simp [done]; done) | (have e2 := I5_4 (done_ne e (by decide)); simp [done, e2]; done) | (simp [done, hn]; done))⟩; (simp [lput, done, hn]; done))
        | (refine ⟨?_, hH, hR, (fun e => hV (done_ne e (by decide))), (by intro e; first | (simp [done]; done) | (have e2 := I5_4 (done_ne e (by decide)); simp [done, e2]; done) | (simp [done, hn]; done))⟩; (simp [lput, done, hn]; done))
        | (refine ⟨x, ?_, hH, hR, (fun e => hV (done_ne e (by decide))), (by intro e; first | (simp [done]; done) | (have e2 := I5_4 (done_ne e (by decide)); simp [done, e2]; done) | (simp [done, hn]; done))⟩; (simp [lput, done, hn]; rfl))
        | (refine ⟨?_, hH, hR, (fun e => hV (done_ne e (by decide))), (by intro e; first | (simp [done]; done) | (have e2 := I5_4 (done_ne e (by decide)); simp [done, e2]; done) | (simp [done, hn]; done))⟩; (simp [lput, done, hn]; rfl))
        | (refine ⟨x, ?_, hH, hR, (fun e => hV (done_ne e (by decide))), (by intro e; first | (simp [done]; done) | (have e2 := I5_4 (done_ne e (by decide)); simp [done, e2]; done) | (simp [done, hn]; done))⟩; (simp [lput, done]; done))
        | (refine ⟨?_, hH, hR, (fun e => hV (done_ne e (by decide))), (by intro e; first | (simp [done]; done) | (have e2 := I5_4 (done_ne e (by decide)); simp [done, e2]; done) | (simp [done, hn]; done))⟩; (simp [lput, done]; done))
        | (refine ⟨x, ?_, hH, hR, (fun e => hV (done_ne e (by decide))), (by intro e; first | (simp [done]; done) | (have e2 := I5_4 (done_ne e (by decide)); simp [done, e2]; done) | (simp [done, hn]; done))⟩; (simp [lput, done]; rfl))
        | (refine ⟨?_, hH, hR, (fun e => hV (done_ne e (by decide))), (by intro e; first | (simp [done]; done) | (have e2 := I5_4 (done_ne e (by decide)); simp [done, e2]; done) | (simp [done, hn]; done))⟩; (simp [lput, done]; rfl))
  case hq_sb =>
    clear hH hR
    intro d x w1 hd hJ
    simp only [allDone, List.length_cons, List.length_nil, Nat.reduceAdd, and_true] at hd
    obtain ⟨hH, hR, hV, I5_4⟩ := hJ
    replace hV := hV (by simp only [hd])
    clear I5_4
    simp only [lput, List.set, hd, cond_true]
    clear hd
    go_wp2
    go_ret2
    exact hV.out.got hH.below (by omega)
set_option maxRecDepth 20000 in
set_option maxHeartbeats 4000000 in
theorem implSubloopOf_in (N b n c : Nat) (g : Nat → UInt8) (f : Nat → Int) (w : World) (hq : IsSq N g) (hR : Row w b n f)
    (hC : Hid (∀ w, Row w b n f → Calls Try.prog 55 #[.agg (sqc N g), .slice (some ⟨b, 0, none⟩) n c] w fun e w' => e = .returned (.tuple #[.agg (bls 10 (inL f n)), .int .i64 0]) ∧ Below w.heap.size w w')) :
    Calls Try.prog 28 #[.agg (sqc N g), .slice (some ⟨b, 0, none⟩) n c] w (GotL (selL (clB g N (inL f n)) 10) 0 w) := by
  have HQ := hid hq
  clear hq
  have hH := Has.start1 w (sqc N g) 30
  replace hR := hid (hR.alloc (.cells (sqc N g) 30))
  go_enter Try.func28, Try.ntmps28
  go_wp2_with (first | fail | (refine wpL_loadFull rfl rfl rfl rowSq hH.h0 (sqc_size _ _) ?_) | (refine wpL_loadFull (x := .tmp 6) rfl rfl rfl rowMe hgb (bls_size _ _) ?_) | (go_at_call 55; refine (hC.out _ hR.out).mono ?_; rintro e w2 ⟨rfl, hb⟩; replace hH := hH.call' hb; clear hb hR) | (refine wpL_allocN (o := ⟨some 6, _, _, _, _, _⟩) rfl rfl zeroMe ?_; intro gb w4 hgb hl4 hb; have hlo : w.heap.size + 1 ≤ gb := (by have := hH.size; simp only [List.length_cons, List.length_nil] at this; omega); replace hH := hH.call' hb; clear hb hl4) | (refine wpL_storeN (x := .tmp 6) rfl rfl rfl rfl rowMe hgb (bls_size _ _) (bls_ok _ _) ?_; intro w5 hz hOo hT; replace hgb := hz; replace hH := hT _ _ hH hlo; clear hz hOo hT) | (go_at_call 56; refine (closureOf_any N g (inL f n) _ HQ.out).mono ?_; rintro e w6 ⟨rfl, hb⟩; replace hH := hH.call' hb; clear hb hgb) | (go_at_call 57; refine (membersList_any (clB g N (inL f n)) _).mono ?_; rintro e w7 ⟨v0, rfl, hb, hO⟩; have hlo2 := hH.size; simp only [List.length_cons, List.length_nil] at hlo2; replace hH := hH.call' hb; clear hb))
  go_ret2
  exact hO.got hH.below (by omega)
set_option maxRecDepth 20000 in
set_option maxHeartbeats 4000000 in
theorem l05Sub_any (N b n c : Nat) (g : Nat → UInt8) (f : Nat → Int) (w : World) (hq : IsSq N g) (hR : Row w b n f) (hok : ∀ i, i < n → OkAt f N i) :
    Calls Try.prog 58 #[.agg (sqc N g), .slice (some ⟨b, 0, none⟩) n c] w fun e w' => e = .returned (.bool (eqL (clB g N (inL f n)) (inL f n))) ∧ Below w.heap.size w w' := by
  have HQ := hid hq
  have HO := hid hok
  have h10 := hq.hi
  clear hq hok
  have hH := Has.start1 w (sqc N g) 30
  replace hR := hid (hR.alloc (.cells (sqc N g) 30))
  go_enter Try.func58, Try.ntmps58
  go_wp2_with (first | fail | (go_at_call 54; refine (l05Set_any N b n c f _ h10 hR.out HO.out).mono ?_; rintro e w2 ⟨rfl, hb⟩; replace hH := hH.call' hb; clear hb hR) | (refine wpL_allocN (o := ⟨some 5, _, _, _, _, _⟩) rfl rfl zeroBo ?_; intro gb w4 hgb hl4 hb; have hlo : w.heap.size + 1 ≤ gb := (by have := hH.size; simp only [List.length_cons, List.length_nil] at this; omega); replace hH := hH.call' hb; clear hb hl4) | (refine wpL_storeN (x := .tmp 5) rfl rfl rfl rfl rowBo hgb (bls_size _ _) (bls_ok _ _) ?_; intro w5 hz hOo hT; replace hgb := hz; replace hH := hT _ _ hH hlo; clear hz hOo hT))
  refine wp_region_frame (X := Unit) (fun d _ => [(8, bif d 0 then .agg (sqc N g) else undef), (9, bif d 1 then .agg (bls 10 (inL f n)) else undef), (10, bif d 2 then .agg (bls 10 (clB g N (inL f n))) else undef), (11, bif d 3 then .agg (bls 10 (inL f n)) else undef), (12, bif d 4 then .bool (eqL (clB g N (inL f n)) (inL f n)) else undef), (4, bif d 5 then .bool (eqL (clB g N (inL f n)) (inL f n)) else .bool false)])
    (fun d _ w' => Has w w' [(sqc N g, 30)] ∧ holds w' gb (bls 10 (inL f n)) 62) (by kernel_rfl) (by kernel_rfl) ?h0_sb ?hs_sb ?hq_sb
  case h0_sb => exact ⟨(), (by simp [lput]), hH.drew, (show _ from hgb)⟩
  case hs_sb =>
    refine ⟨?_, ?_, ?_, ?_, ?_, ?_, trivial⟩
    all_goals
      clear hH hgb
      intro d _ w1 hd hn hJ
      simp only [needs, Region.binds, reduceCtorEq, Bool.false_eq_true, false_implies, true_and, and_true, true_implies, forall_const] at hn
      simp only [lput, List.set, hn, cond_true]
      obtain ⟨hH, hgb⟩ := hJ
      go_wp2_with (first | fail | (refine wpL_loadFull rfl rfl rfl rowSq hH.h0 (sqc_size _ _) ?_) | (refine wpL_loadFull (x := .tmp 5) rfl rfl rfl rowBo hgb (bls_size _ _) ?_) | (go_at_call 53; refine (l05Close_any N g (inL f n) _ HQ.out).mono ?_; rintro e w6 ⟨rfl, hb⟩; replace hH := hH.call' hb; replace hgb := holds_below hgb hb (holds_lt hgb); clear hb) | (refine wpL_eqAgg rfl rfl rfl rfl gdBo (eqBo _ _ _) ?_))
      first
        | (refine ⟨(), ?_, hH, hgb⟩; (simp [lput, done, hn]; done))
        | (refine ⟨?_, hH, hgb⟩; (simp [lput, done, hn]; done))
        | (refine ⟨(), ?_, hH, hgb⟩; (simp [lput, done, hn]; rfl))
        | (refine ⟨?_, hH, hgb⟩; (simp [lput, done, hn]; rfl))
        | (refine ⟨(), ?_, hH, hgb⟩; (simp [lput, done]; done))
        | (refine ⟨?_, hH, hgb⟩; (simp [lput, done]; done))
        | (refine ⟨(), ?_, hH, hgb⟩; (simp [lput, done]; rfl))
        | (refine ⟨?_, hH, hgb⟩; (simp [lput, done]; rfl))
  case hq_sb =>
    clear hH hgb
    intro d _ w1 hd hJ
    simp only [allDone, List.length_cons, List.length_nil, Nat.reduceAdd, and_true] at hd
    obtain ⟨hH, hgb⟩ := hJ
    simp only [lput, List.set, hd, cond_true]
    clear hd
    go_wp2
    go_ret
    exact ⟨rfl, hH.below⟩
set_option maxRecDepth 20000 in
set_option maxHeartbeats 1000000 in
theorem specIsSubloop_in (N b n c : Nat) (g : Nat → UInt8) (f : Nat → Int) (w : World) (hq : IsSq N g) (hR : Row w b n f) (hok : ∀ i, i < n → OkAt f N i)
    (hC : Hid (∀ w, Row w b n f → Calls Try.prog 51 #[.agg (sqc N g), .slice (some ⟨b, 0, none⟩) n c] w fun e w' => e = .returned (.int .i64 0) ∧ Below w.heap.size w w')) :
    Calls Try.prog 32 #[.agg (sqc N g), .slice (some ⟨b, 0, none⟩) n c] w fun e w' => e = .returned (.tuple #[.bool (eqL (clB g N (inL f n)) (inL f n)), .int .i64 0]) ∧ Below w.heap.size w w' := by
  have HQ := hid hq
  have HO := hid hok
  clear hq hok
  have hH := Has.start1 w (sqc N g) 30
  replace hR := hid (hR.alloc (.cells (sqc N g) 30))
  go_enter Try.func32, Try.ntmps32
  go_wp2_with (first | fail | (refine wpL_loadFull rfl rfl rfl rowSq hH.h0 (sqc_size _ _) ?_) | (go_at_call 51; refine (hC.out _ hR.out).mono ?_; rintro e w2 ⟨rfl, hb⟩; replace hH := hH.call' hb; replace hR := hid (hR.out.below hb); clear hb) | (go_at_call 58; refine (l05Sub_any N b n c g f _ HQ.out hR.out HO.out).mono ?_; rintro e w3 ⟨rfl, hb⟩; replace hH := hH.call' hb; clear hb))
  go_ret2
  exact ⟨rfl, hH.below⟩
set_option maxRecDepth 20000 in
set_option maxHeartbeats 4000000 in
theorem implIsSubloop_in (N b n c : Nat) (g : Nat → UInt8) (f : Nat → Int) (w : World) (hq : IsSq N g) (hR : Row w b n f)
    (hC : Hid (∀ w, Row w b n f → Calls Try.prog 55 #[.agg (sqc N g), .slice (some ⟨b, 0, none⟩) n c] w fun e w' => e = .returned (.tuple #[.agg (bls 10 (inL f n)), .int .i64 0]) ∧ Below w.heap.size w w')) :
    Calls Try.prog 33 #[.agg (sqc N g), .slice (some ⟨b, 0, none⟩) n c] w fun e w' => e = .returned (.tuple #[.bool (eqL (clB g N (inL f n)) (inL f n)), .int .i64 0]) ∧ Below w.heap.size w w' := by
  have HQ := hid hq
  clear hq
  have hH := Has.start1 w (sqc N g) 30
  replace hR := hid (hR.alloc (.cells (sqc N g) 30))
  go_enter Try.func33, Try.ntmps33
  go_wp2_with (first | fail | (refine wpL_loadFull rfl rfl rfl rowSq hH.h0 (sqc_size _ _) ?_) | (go_at_call 55; refine (hC.out _ hR.out).mono ?_; rintro e w2 ⟨rfl, hb⟩; replace hH := hH.call' hb; clear hb hR) | (refine wpL_allocN (o := ⟨some 6, _, _, _, _, _⟩) rfl rfl zeroMe ?_; intro gb w4 hgb hl4 hb; have hlo : w.heap.size + 1 ≤ gb := (by have := hH.size; simp only [List.length_cons, List.length_nil] at this; omega); replace hH := hH.call' hb; clear hb hl4) | (refine wpL_storeN (x := .tmp 6) rfl rfl rfl rfl rowMe hgb (bls_size _ _) (bls_ok _ _) ?_; intro w5 hz hOo hT; replace hgb := hz; replace hH := hT _ _ hH hlo; clear hz hOo hT))
  refine wp_region_frame (X := Unit) (fun d _ => [(17, bif d 0 then .agg (sqc N g) else undef), (18, bif d 1 then .agg (bls 10 (inL f n)) else undef), (19, bif d 2 then .agg (bls 10 (clB g N (inL f n))) else undef), (20, bif d 3 then .agg (bls 10 (inL f n)) else undef), (21, bif d 4 then .bool (eqL (clB g N (inL f n)) (inL f n)) else undef), (4, bif d 5 then .bool (eqL (clB g N (inL f n)) (inL f n)) else .bool false), (5, bif d 6 then .int .i64 0 else .int .i64 0)])
    (fun d _ w' => Has w w' [(sqc N g, 30)] ∧ holds w' gb (bls 10 (inL f n)) 65) (by kernel_rfl) (by kernel_rfl) ?h0_sb ?hs_sb ?hq_sb
  case h0_sb => exact ⟨(), (by simp [lput]), hH.drew, (show _ from hgb)⟩
  case hs_sb =>
    refine ⟨?_, ?_, ?_, ?_, ?_, ?_, ?_, trivial⟩
    all_goals
      clear hH hgb
      intro d _ w1 hd hn hJ
      simp only [needs, Region.binds, reduceCtorEq, Bool.false_eq_true, false_implies, true_and, and_true, true_implies, forall_const] at hn
      simp only [lput, List.set, hn, cond_true]
      obtain ⟨hH, hgb⟩ := hJ
      go_wp2_with (first | fail | (refine wpL_loadFull rfl rfl rfl rowSq hH.h0 (sqc_size _ _) ?_) | (refine wpL_loadFull (x := .tmp 6) rfl rfl rfl rowMe hgb (bls_size _ _) ?_) | (go_at_call 56; refine (closureOf_any N g (inL f n) _ HQ.out).mono ?_; rintro e w6 ⟨rfl, hb⟩; replace hH := hH.call' hb; replace hgb := holds_below hgb hb (holds_lt hgb); clear hb) | (refine wpL_eqAgg rfl rfl rfl rfl gdMe (eqMe _ _ _) ?_))
      first
        | (refine ⟨(), ?_, hH, hgb⟩; (simp [lput, done, hn]; done))
        | (refine ⟨?_, hH, hgb⟩; (simp [lput, done, hn]; done))
        | (refine ⟨(), ?_, hH, hgb⟩; (simp [lput, done, hn]; rfl))
        | (refine ⟨?_, hH, hgb⟩; (simp [lput, done, hn]; rfl))
        | (refine ⟨(), ?_, hH, hgb⟩; (simp [lput, done]; done))
        | (refine ⟨?_, hH, hgb⟩; (simp [lput, done]; done))
        | (refine ⟨(), ?_, hH, hgb⟩; (simp [lput, done]; rfl))
        | (refine ⟨?_, hH, hgb⟩; (simp [lput, done]; rfl))
  case hq_sb =>
    clear hH hgb
    intro d _ w1 hd hJ
    simp only [allDone, List.length_cons, List.length_nil, Nat.reduceAdd, and_true] at hd
    obtain ⟨hH, hgb⟩ := hJ
    simp only [lput, List.set, hd, cond_true]
    clear hd
    go_wp2
    go_ret2
    exact ⟨rfl, hH.below⟩
end Go.Proofs.Ytpfhjbcmlebejaa
