/- Proved: the law FnExactImageOf returns true, and old memory is left alone. Conditions: those that the theorem names. -/
import Derived.Test.YtphninlinegbbabHq
import Derived.Test.YtphninlinegbbabLx
import Derived.Test.YtphninlinegbbabTo2
namespace Go.Proofs.Ytphninlinegbbab
set_option linter.unusedVariables false
set_option linter.unusedSimpArgs false
open Go.RowKit
set_option maxRecDepth 20000 in
set_option maxHeartbeats 8000000 in
theorem lawImageOf_by (o p : Int) (g h : Nat → UInt8) (v : Value) (n : Nat) (f : Nat → Int) (l : List Int) (z : Int) (w : World) (hnl : n ≤ 1048576) (hll : l.length ≤ 1000) (hI : NIn w v n f)
    (hS : Hid (∀ w b, Row w b n f → Calls Try.prog 42 #[.agg (sqc o g), .agg (sqc p h), .slice (some ⟨b, 0, none⟩) n n] w (GotL l z w)))
    (hT : Hid (∀ w b, Row w b n f → Calls Try.prog 43 #[.agg (sqc o g), .agg (sqc p h), .slice (some ⟨b, 0, none⟩) n n] w (GotL l z w))) :
    Calls Try.prog 10 #[.agg (sqc o g), .agg (sqc p h), v] w fun e w' => e = .returned (.bool true) ∧ Below w.heap.size w w' := by
  have hle : ¬ (1048576 : Int) < (n : Int) := by omega
  obtain ⟨A, cap, hv⟩ : ∃ A cap, v = .slice A n cap := by
    rcases hI with ⟨e, e2⟩ | ⟨a, cap, e, _⟩
    · subst e2; exact ⟨none, 0, e⟩
    · exact ⟨some a, cap, e⟩
  subst hv
  obtain ⟨L, hL⟩ : ∃ L, l.length = L := ⟨_, rfl⟩
  rw [hL] at hll
  have HL := hid hL
  clear hL
  obtain ⟨M, hM⟩ : ∃ M, 1 + n = M := ⟨_, rfl⟩
  have HM := hid hM
  have hM0 : ¬ (M : Int) < 0 := by omega
  clear hM
  have HI := hid hI
  clear hI
  have hH := Has.start2 w (sqc o g) (sqc p h) 25 25
  go_enter Try.func10, Try.ntmps10
  go_wp2
  refine wp_region_frame (X := XB) (fun d x => [(21, bif d 0 then .agg (sqc o g) else undef), (22, bif d 1 then .agg (sqc o g) else undef), (23, bif d 2 then .agg (sqc p h) else undef), (24, bif d 3 then .agg (sqc p h) else undef), (25, bif d 4 then .slice A n cap else undef), (26, bif d 5 then .slice (some ⟨x.b, 0, none⟩) n n else undef), (27, bif d 6 then .tuple #[x.v, .int .i64 z] else undef), (20, bif d 7 then .tuple #[x.v, .int .i64 z] else undef), (28, bif d 8 then x.v else undef), (29, bif d 9 then .int .i64 z else undef), (7, bif d 10 then x.v else undef), (8, bif d 11 then .int .i64 z else undef)])
    (fun d x w' => Has w w' [(sqc o g, 25), (sqc p h, 25)] ∧ (d 5 = true → Hid (Row w' x.b n f)) ∧ (d 6 = true → Hid (IL w' (w.heap.size + 2) w'.heap.size x.v l)) ∧ (d 7 = true → d 6 = true) ∧ (d 8 = true → d 7 = true) ∧ (d 10 = true → d 8 = true)) (by kernel_rfl) (by kernel_rfl) ?h0_ra ?hs_ra ?hq_ra
  case h0_ra => exact ⟨⟨0, .bool false⟩, (by simp [lput]), hH.drew, (fun h => by cases h), (fun h => by cases h), (fun h => by cases h), (fun h => by cases h), (fun h => by cases h)⟩
  case hs_ra =>
    refine ⟨?_, ?_, ?_, ?_, ?_, ?_, ?_, ?_, ?_, ?_, ?_, ?_, trivial⟩
    all_goals
      clear hH
      intro d x w1 hd hn hJ
      simp only [needs, Region.binds, reduceCtorEq, Bool.false_eq_true, false_implies, true_and, and_true, true_implies, forall_const] at hn
      simp only [lput, List.set, hn, cond_true]
      obtain ⟨hH, hR, hV, I7_6, I8_7, I10_8⟩ := hJ
      (try have hR_ := hR (by simp only [hn]))
      (try have hV_ := hV (by simp only [hn]))
      have zz := hH.size
      simp only [List.length_cons, List.length_nil] at zz
      go_wp2_with (first | fail | (refine wpL_loadFull rfl rfl rfl rowSl hH.h0 (sqc_size _ _) ?_) | (refine wpL_loadFull rfl rfl rfl rowSl hH.h1 (sqc_size _ _) ?_) | (go_at_call 16; with_reducible refine (toSquare_any o g _).mono ?_; rintro e w2 ⟨rfl, hb⟩; replace hH := hH.call' hb; replace hR := fun e => hid ((hR e).out.below hb); replace hV := fun e => hid ((hV e).out.go hb)) | (go_at_call 16; with_reducible refine (toSquare_any p h _).mono ?_; rintro e w2 ⟨rfl, hb⟩; replace hH := hH.call' hb; replace hR := fun e => hid ((hR e).out.below hb); replace hV := fun e => hid ((hV e).out.go hb)) | (go_at_call 38; refine (toInt64S_any _ n f _ (HI.out.below hH.below) hnl).mono ?_; intro e w3 hg; obtain ⟨b0, rfl, hb, H0, hlo0⟩ := hg.size; replace hH := hH.call' hb; replace hV := fun e => hid ((hV e).out.go hb); clear hg) | (go_at_call 42; refine (hS.out _ _ hR_.out).mono ?_; rintro e w4 ⟨v0, rfl, hb, hI0⟩; replace hH := hH.call' hb; replace hR := fun e => hid ((hR e).out.below hb); replace hI0 := hid (hI0.lower (by omega : w.heap.size + 2 ≤ _))))
      first
        | (refine ⟨⟨b0, x.v⟩, ?_, hH, (fun _ => H0), (fun e => hV (done_ne e (by decide))), (by intro e; first | (simp [done]; done) | (have e2 := I7_6 (done_ne e (by decide)); simp [done, e2]; done) | (simp [done, hn]; done)), (by intro e; first | (simp [done]; done) | (have e2 := I8_7 (done_ne e (by decide)); simp [done, e2]; done) | (simp [done, hn]; done)), (by intro e; first | (simp [done]; done) | (have e2 := I10_8 (done_ne e (by decide)); simp [done, e2]; done) | (simp [done, hn]; done))⟩; (simp [lput, done, hn]; done))
        | (have z7 := imp_no I7_6 hd; have z8 := imp_no I8_7 z7; have z10 := imp_no I10_8 z8; refine ⟨⟨x.b, v0⟩, ?_, hH, (fun e => hR (done_ne e (by decide))), (fun _ => hI0), (by intro e; first | (simp [done]; done) | (have e2 := I7_6 (done_ne e (by decide)); simp [done, e2]; done) | (simp [done, hn]; done)), (by intro e; first | (simp [done]; done) | (have e2 := I8_7 (done_ne e (by decide)); simp [done, e2]; done) | (simp [done, hn]; done)), (by intro e; first | (simp [done]; done) | (have e2 := I10_8 (done_ne e (by decide)); simp [done, e2]; done) | (simp [done, hn]; done))⟩; (simp [lput, done, hn, z7, z8, z10]; done))
        | (refine ⟨x, ?_, hH, (fun e => hR (done_ne e (by decide))), (fun e => hV (done_ne e (by decide))), (by intro e; first | (simp [done]; done) | (have e2 := I7_6 (done_ne e (by decide)); simp [done, e2]; done) | (simp [done, hn]; done)), (by intro e; first | (simp [done]; done) | (have e2 := I8_7 (done_ne e (by decide)); simp [done, e2]; done) | (simp [done, hn]; done)), (by intro e; first | (simp [done]; done) | (have e2 := I10_8 (done_ne e (by decide)); simp [done, e2]; done) | (simp [done, hn]; done))⟩; (simp [lput, done, hn]; done))
        | (refine ⟨?_, hH, (fun e => hR (done_ne e (by decide))), (fun e => hV (done_ne e (by decide))), (by intro e; first | (simp [done]; done) | (have e2 := I7_6 (done_ne e (by decide)); simp [done, e2]; done) | (simp [done, hn]; done)), (by intro e; first | (simp [done]; done) | (have e2 := I8_7 (done_ne e (by decide)); simp [done, e2]; done) | (simp [done, hn]; done)), (by intro e; first | (simp [done]; done) | (have e2 := I10_8 (done_ne e (by decide)); simp [done, e2]; done) | (simp [done, hn]; done))⟩; (simp [lput, done, hn]; done))
        | (refine ⟨x, ?_, hH, (fun e => hR (done_ne e (by decide))), (fun e => hV (done_ne e (by decide))), (by intro e; first | (simp [done]; done) | (have e2 := I7_6 (done_ne e (by decide)); simp [done, e2]; done) | (simp [done, hn]; done)), (by intro e; first | (simp [done]; done) | (have e2 := I8_7 (done_ne e (by decide)); simp [done, e2]; done) | (simp [done, hn]; done)), (by intro e; first | (simp [done]; done) | (have e2 := I10_8 (done_ne e (by decide)); simp [done, e2]; done) | (simp [done, hn]; done))⟩; (simp [lput, done, hn]; rfl))
        | (refine ⟨?_, hH, (fun e => hR (done_ne e (by decide))), (fun e => hV (done_ne e (by decide))), (by intro e; first | (simp [done]; done) | (have e2 := I7_6 (done_ne e (by decide)); simp [done, e2]; done) | (simp [done, hn]; done)), (by intro e; first | (simp [done]; done) | (have e2 := I8_7 (done_ne e (by decide)); simp [done, e2]; done) | (simp [done, hn]; done)), (by intro e; first | (simp [done]; done) | (have e2 := I10_8 (done_ne e (by decide)); simp [done, e2]; done) | (simp [done, hn]; done))⟩; (simp [lput, done, hn]; rfl))
        | (refine ⟨x, ?_, hH, (fun e => hR (done_ne e (by decide))), (fun e => hV (done_ne e (by decide))), (by intro e; first | (simp [done]; done) | (have e2 := I7_6 (done_ne e (by decide)); simp [done, e2]; done) | (simp [done, hn]; done)), (by intro e; first | (simp [done]; done) | (have e2 := I8_7 (done_ne e (by decide)); simp [done, e2]; done) | (simp [done, hn]; done)), (by intro e; first | (simp [done]; done) | (have e2 := I10_8 (done_ne e (by decide)); simp [done, e2]; done) | (simp [done, hn]; done))⟩; (simp [lput, done]; done))
        | (refine ⟨?_, hH, (fun e => hR (done_ne e (by decide))), (fun e => hV (done_ne e (by decide))), (by intro e; first | (simp [done]; done) | (have e2 := I7_6 (done_ne e (by decide)); simp [done, e2]; done) | (simp [done, hn]; done)), (by intro e; first | (simp [done]; done) | (have e2 := I8_7 (done_ne e (by decide)); simp [done, e2]; done) | (simp [done, hn]; done)), (by intro e; first | (simp [done]; done) | (have e2 := I10_8 (done_ne e (by decide)); simp [done, e2]; done) | (simp [done, hn]; done))⟩; (simp [lput, done]; done))
        | (refine ⟨x, ?_, hH, (fun e => hR (done_ne e (by decide))), (fun e => hV (done_ne e (by decide))), (by intro e; first | (simp [done]; done) | (have e2 := I7_6 (done_ne e (by decide)); simp [done, e2]; done) | (simp [done, hn]; done)), (by intro e; first | (simp [done]; done) | (have e2 := I8_7 (done_ne e (by decide)); simp [done, e2]; done) | (simp [done, hn]; done)), (by intro e; first | (simp [done]; done) | (have e2 := I10_8 (done_ne e (by decide)); simp [done, e2]; done) | (simp [done, hn]; done))⟩; (simp [lput, done]; rfl))
        | (refine ⟨?_, hH, (fun e => hR (done_ne e (by decide))), (fun e => hV (done_ne e (by decide))), (by intro e; first | (simp [done]; done) | (have e2 := I7_6 (done_ne e (by decide)); simp [done, e2]; done) | (simp [done, hn]; done)), (by intro e; first | (simp [done]; done) | (have e2 := I8_7 (done_ne e (by decide)); simp [done, e2]; done) | (simp [done, hn]; done)), (by intro e; first | (simp [done]; done) | (have e2 := I10_8 (done_ne e (by decide)); simp [done, e2]; done) | (simp [done, hn]; done))⟩; (simp [lput, done]; rfl))
  case hq_ra =>
    clear hH
    intro d x w1 hd hJ
    simp only [allDone, List.length_cons, List.length_nil, Nat.reduceAdd, and_true] at hd
    obtain ⟨hH, hR, hV, I7_6, I8_7, I10_8⟩ := hJ
    replace hR := hR (by simp only [hd])
    replace hV := hV (by simp only [hd])
    clear I7_6
    clear I8_7
    clear I10_8
    simp only [lput, List.set, hd, cond_true]
    clear hd
    clear hR
    rcases x with ⟨xb, v0⟩
    replace hV : Hid (IL w1 (w.heap.size + 2) w1.heap.size v0 l) := hV
    have zz := hH.size
    simp only [List.length_cons, List.length_nil] at zz
    go_wp2_with (first | fail | (go_at_call 38; refine (toInt64S_any _ n f _ (HI.out.below hH.below) hnl).mono ?_; intro e w3 hg; obtain ⟨b1, rfl, hb, H1, hlo1, hhi1⟩ := hg.high (Nat.le_refl _); have zs := hb.size; replace hH := hH.call' hb; replace hV := hid (hV.out.below hb (Nat.le_refl _)); clear hg hb))
    obtain ⟨S, hSS⟩ : ∃ S, w3.heap.size = S := ⟨_, rfl⟩
    have hq : S ≤ w3.heap.size := by omega
    replace hV : Hid (IL w3 (w.heap.size + 2) b1 v0 l) := hid (by rcases hV.out with h | ⟨g, c, e, h1, h2, h3⟩; exact .inl h; exact .inr ⟨g, c, e, h1, by omega, h3⟩)
    have hb1S : b1 < S := by omega
    have hlo2 : w.heap.size + 2 ≤ b1 := by omega
    clear hSS hhi1 hlo1 zs zz
    refine wp_region_frame (X := Value) (fun d x => [(33, bif d 0 then .agg (sqc o g) else undef), (34, bif d 1 then .agg (sqc o g) else undef), (35, bif d 2 then .agg (sqc p h) else undef), (36, bif d 3 then .agg (sqc p h) else undef), (37, bif d 4 then .slice (some ⟨b1, 0, none⟩) n n else undef), (38, bif d 5 then .tuple #[x, .int .i64 z] else undef), (32, bif d 6 then .tuple #[x, .int .i64 z] else undef), (39, bif d 7 then x else undef), (40, bif d 8 then .int .i64 z else undef), (10, bif d 9 then x else undef), (11, bif d 10 then .int .i64 z else undef)])
      (fun d x w' => Has w w' [(sqc o g, 25), (sqc p h, 25)] ∧ S ≤ w'.heap.size ∧ Hid (Row w' b1 n f) ∧ Hid (IL w' (w.heap.size + 2) b1 v0 l) ∧ (d 5 = true → Hid (IL w' S w'.heap.size x l)) ∧ (d 6 = true → d 5 = true) ∧ (d 7 = true → d 6 = true) ∧ (d 9 = true → d 7 = true)) (by kernel_rfl) (by kernel_rfl) ?h0_rb ?hs_rb ?hq_rb
    case h0_rb => exact ⟨.bool false, (by simp [lput]), hH.drew, (show S ≤ _ from hq), hid (H1.out.block rfl), hid hV.out.drew, (fun h => by cases h), (fun h => by cases h), (fun h => by cases h), (fun h => by cases h)⟩
    case hs_rb =>
      refine ⟨?_, ?_, ?_, ?_, ?_, ?_, ?_, ?_, ?_, ?_, ?_, trivial⟩
      all_goals
        clear hH hq H1 hV
        intro d x w1 hd hn hJ
        simp only [needs, Region.binds, reduceCtorEq, Bool.false_eq_true, false_implies, true_and, and_true, true_implies, forall_const] at hn
        simp only [lput, List.set, hn, cond_true]
        obtain ⟨hH, hq, H1, hV, hG, I6_5, I7_6, I9_7⟩ := hJ
        (try have hG_ := hG (by simp only [hn]))
        go_wp2_with (first | fail | (refine wpL_loadFull rfl rfl rfl rowSl hH.h0 (sqc_size _ _) ?_) | (refine wpL_loadFull rfl rfl rfl rowSl hH.h1 (sqc_size _ _) ?_) | (go_at_call 16; with_reducible refine (toSquare_any o g _).mono ?_; rintro e w2 ⟨rfl, hb⟩; replace hH := hH.call' hb; have hzs := hb.size; replace H1 := hid (H1.out.below hb); replace hV := hid (hV.out.below hb (by omega)); replace hG := fun e => hid ((hG e).out.go hb); replace hq : S ≤ w2.heap.size := (by omega)) | (go_at_call 16; with_reducible refine (toSquare_any p h _).mono ?_; rintro e w2 ⟨rfl, hb⟩; replace hH := hH.call' hb; have hzs := hb.size; replace H1 := hid (H1.out.below hb); replace hV := hid (hV.out.below hb (by omega)); replace hG := fun e => hid ((hG e).out.go hb); replace hq : S ≤ w2.heap.size := (by omega)) | (go_at_call 43; refine (hT.out _ _ H1.out).mono ?_; rintro e w4 ⟨v1, rfl, hb, hI1⟩; have hzs := hb.size; replace hH := hH.call' hb; replace H1 := hid (H1.out.below hb); replace hV := hid (hV.out.below hb (by omega)); replace hI1 := hid (hI1.lower hq); replace hq : S ≤ w4.heap.size := (by omega)))
        first
          | (have z6 := imp_no I6_5 hd; have z7 := imp_no I7_6 z6; have z9 := imp_no I9_7 z7; refine ⟨v1, ?_, hH, hq, H1, hV, (fun _ => hI1), (by intro e; first | (simp [done]; done) | (have e2 := I6_5 (done_ne e (by decide)); simp [done, e2]; done) | (simp [done, hn]; done)), (by intro e; first | (simp [done]; done) | (have e2 := I7_6 (done_ne e (by decide)); simp [done, e2]; done) | (simp [done, hn]; done)), (by intro e; first | (simp [done]; done) | (have e2 := I9_7 (done_ne e (by decide)); simp [done, e2]; done) | (simp [done, hn]; done))⟩; (simp [lput, done, hn, z6, z7, z9]; done))
          | (refine ⟨x, ?_, hH, hq, H1, hV, (fun e => hG (done_ne e (by decide))), (by intro e; first | (simp [done]; done) | (have e2 := I6_5 (done_ne e (by decide)); simp [done, e2]; done) | (simp [done, hn]; done)), (by intro e; first | (simp [done]; done) | (have e2 := I7_6 (done_ne e (by decide)); simp [done, e2]; done) | (simp [done, hn]; done)), (by intro e; first | (simp [done]; done) | (have e2 := I9_7 (done_ne e (by decide)); simp [done, e2]; done) | (simp [done, hn]; done))⟩; (simp [lput, done, hn]; done))
          | (refine ⟨?_, hH, hq, H1, hV, (fun e => hG (done_ne e (by decide))), (by intro e; first | (simp [done]; done) | (have e2 := I6_5 (done_ne e (by decide)); simp [done, e2]; done) | (simp [done, hn]; done)), (by intro e; first | (simp [done]; done) | (have e2 := I7_6 (done_ne e (by decide)); simp [done, e2]; done) | (simp [done, hn]; done)), (by intro e; first | (simp [done]; done) | (have e2 := I9_7 (done_ne e (by decide)); simp [done, e2]; done) | (simp [done, hn]; done))⟩; (simp [lput, done, hn]; done))
          | (refine ⟨x, ?_, hH, hq, H1, hV, (fun e => hG (done_ne e (by decide))), (by intro e; first | (simp [done]; done) | (have e2 := I6_5 (done_ne e (by decide)); simp [done, e2]; done) | (simp [done, hn]; done)), (by intro e; first | (simp [done]; done) | (have e2 := I7_6 (done_ne e (by decide)); simp [done, e2]; done) | (simp [done, hn]; done)), (by intro e; first | (simp [done]; done) | (have e2 := I9_7 (done_ne e (by decide)); simp [done, e2]; done) | (simp [done, hn]; done))⟩; (simp [lput, done, hn]; rfl))
          | (refine ⟨?_, hH, hq, H1, hV, (fun e => hG (done_ne e (by decide))), (by intro e; first | (simp [done]; done) | (have e2 := I6_5 (done_ne e (by decide)); simp [done, e2]; done) | (simp [done, hn]; done)), (by intro e; first | (simp [done]; done) | (have e2 := I7_6 (done_ne e (by decide)); simp [done, e2]; done) | (simp [done, hn]; done)), (by intro e; first | (simp [done]; done) | (have e2 := I9_7 (done_ne e (by decide)); simp [done, e2]; done) | (simp [done, hn]; done))⟩; (simp [lput, done, hn]; rfl))
          | (refine ⟨x, ?_, hH, hq, H1, hV, (fun e => hG (done_ne e (by decide))), (by intro e; first | (simp [done]; done) | (have e2 := I6_5 (done_ne e (by decide)); simp [done, e2]; done) | (simp [done, hn]; done)), (by intro e; first | (simp [done]; done) | (have e2 := I7_6 (done_ne e (by decide)); simp [done, e2]; done) | (simp [done, hn]; done)), (by intro e; first | (simp [done]; done) | (have e2 := I9_7 (done_ne e (by decide)); simp [done, e2]; done) | (simp [done, hn]; done))⟩; (simp [lput, done]; done))
          | (refine ⟨?_, hH, hq, H1, hV, (fun e => hG (done_ne e (by decide))), (by intro e; first | (simp [done]; done) | (have e2 := I6_5 (done_ne e (by decide)); simp [done, e2]; done) | (simp [done, hn]; done)), (by intro e; first | (simp [done]; done) | (have e2 := I7_6 (done_ne e (by decide)); simp [done, e2]; done) | (simp [done, hn]; done)), (by intro e; first | (simp [done]; done) | (have e2 := I9_7 (done_ne e (by decide)); simp [done, e2]; done) | (simp [done, hn]; done))⟩; (simp [lput, done]; done))
          | (refine ⟨x, ?_, hH, hq, H1, hV, (fun e => hG (done_ne e (by decide))), (by intro e; first | (simp [done]; done) | (have e2 := I6_5 (done_ne e (by decide)); simp [done, e2]; done) | (simp [done, hn]; done)), (by intro e; first | (simp [done]; done) | (have e2 := I7_6 (done_ne e (by decide)); simp [done, e2]; done) | (simp [done, hn]; done)), (by intro e; first | (simp [done]; done) | (have e2 := I9_7 (done_ne e (by decide)); simp [done, e2]; done) | (simp [done, hn]; done))⟩; (simp [lput, done]; rfl))
          | (refine ⟨?_, hH, hq, H1, hV, (fun e => hG (done_ne e (by decide))), (by intro e; first | (simp [done]; done) | (have e2 := I6_5 (done_ne e (by decide)); simp [done, e2]; done) | (simp [done, hn]; done)), (by intro e; first | (simp [done]; done) | (have e2 := I7_6 (done_ne e (by decide)); simp [done, e2]; done) | (simp [done, hn]; done)), (by intro e; first | (simp [done]; done) | (have e2 := I9_7 (done_ne e (by decide)); simp [done, e2]; done) | (simp [done, hn]; done))⟩; (simp [lput, done]; rfl))
    case hq_rb =>
      clear hH hq H1 hV
      intro d x w1 hd hJ
      simp only [allDone, List.length_cons, List.length_nil, Nat.reduceAdd, and_true] at hd
      obtain ⟨hH, hq, H1, hV, hG, I6_5, I7_6, I9_7⟩ := hJ
      replace hG := hG (by simp only [hd])
      clear I6_5
      clear I7_6
      clear I9_7
      simp only [lput, List.set, hd, cond_true]
      clear hd
      obtain ⟨v1, hv1⟩ : ∃ v1, v1 = x := ⟨_, rfl⟩
      subst hv1
      obtain ⟨S2, hS2⟩ : ∃ S2, w1.heap.size = S2 := ⟨_, rfl⟩
      replace hG : Hid (IL w1 S S2 v1 l) := hid (by rw [← hS2]; exact hG.out)
      have hq2 : S2 ≤ w1.heap.size := by omega
      have hSS2 : S ≤ S2 := by omega
      clear hS2
      go_wp2_with (first | fail | (refine wpL_guard rfl rfl ?_) | (go_at_call 25; refine (eqIL hG.out hV.out (by rw [HL.out]; omega)).mono ?_; rintro e w6 ⟨rfl, hb⟩; have hzs := hb.size; replace hH := hH.call' hb; replace H1 := hid (H1.out.below hb); replace hV := hid (hV.out.below hb (by omega)); replace hG := hid (hG.out.below hb (by omega)); replace hq2 : S2 ≤ w6.heap.size := (by omega); clear hb))
      go_wp2_with (first | fail | (go_at_call 38; refine (toInt64S_any _ n f _ (HI.out.below hH.below) hnl).mono ?_; intro e w7 hg; obtain ⟨b2, rfl, hb, H2, hlo3⟩ := hg.size; have hzs := hb.size; replace hH := hH.call' hb; replace H1 := hid (H1.out.below hb); replace hV := hid (hV.out.below hb (by omega)); replace hG := hid (hG.out.below hb (by omega)); replace hq2 : S2 ≤ w7.heap.size := (by omega); clear hg hb) | (go_at_call 25; refine (eqInt64S_same b1 b2 _ _ _ f _ hnl H1.out H2.out).mono ?_; rintro e w8 ⟨rfl, hb⟩; have hzs2 := hb.size; replace hH := hH.call' hb; replace H1 := hid (H1.out.below hb); replace hV := hid (hV.out.below hb (by omega)); replace hG := hid (hG.out.below hb (by omega)); replace hq2 : S2 ≤ w8.heap.size := (by omega); clear hb H2))
      go_wp2_with (first | fail | (refine wpL_guard rfl rfl ?_) | (go_at_call 26; refine (mark_one b1 n n f _ M HM.out hnl H1.out).mono ?_; rintro e w9 ⟨rfl, hg⟩; have hzs3 := hg.size; replace hH := hH.grown hg (fun k hk => by cases hk; simp; omega); replace hV := hid (hV.out.grownB hg (.inr (Nat.le_refl _))); replace hG := hid (hG.out.grownB hg (.inl hb1S)); replace hq2 : S2 ≤ w9.heap.size := (by omega); clear hg H1) | (go_at_call 25; refine (eqIL hG.out hV.out (by rw [HL.out]; omega)).mono ?_; rintro e w10 ⟨rfl, hb⟩; have hzs4 := hb.size; replace hH := hH.call' hb; replace hV := hid (hV.out.below hb (by omega)); replace hG := hid (hG.out.below hb (by omega)); replace hq2 : S2 ≤ w10.heap.size := (by omega); clear hb))
      go_wp2_with (first | fail | (go_at_call 26; refine (markIL hG.out (by rw [HL.out]; omega) (by omega) (by omega) (by omega)).mono ?_; rintro e w11 ⟨rfl, hb, hI2⟩; rw [HL.out]; have hzs5 := hb.size; replace hH := hH.call hb (by simp; omega); replace hV := hid (hV.out.below hb (by omega)); replace hG := hid hI2; replace hq2 : S2 ≤ w11.heap.size := (by omega); clear hb hI2))
      go_wp2_with (first | fail | (go_at_call 27; refine (heldIL hG.out (by rw [HL.out]; omega) (by omega) (by omega)).mono ?_; rintro e w12 ⟨rfl, rfl⟩; rw [HL.out]))
      refine wp_region_frame (X := XB) (fun d x => [(83, bif d 0 then .agg (sqc o g) else undef), (84, bif d 1 then .agg (sqc o g) else undef), (85, bif d 2 then .agg (sqc p h) else undef), (86, bif d 3 then .agg (sqc p h) else undef), (87, bif d 4 then .slice A n cap else undef), (88, bif d 5 then .slice (some ⟨x.b, 0, none⟩) n n else undef), (89, bif d 6 then .tuple #[x.v, .int .i64 z] else undef), (82, bif d 7 then .tuple #[x.v, .int .i64 z] else undef), (90, bif d 8 then x.v else undef), (91, bif d 9 then .int .i64 z else undef), (15, bif d 10 then x.v else undef), (16, bif d 11 then .int .i64 z else undef)])
        (fun d x w' => Has w w' [(sqc o g, 25), (sqc p h, 25)] ∧ S2 ≤ w'.heap.size ∧ Hid (IL w' (w.heap.size + 2) b1 v0 l) ∧ Hid (IL w' S S2 v1 (marks l 1)) ∧ (d 5 = true → Hid (Row w' x.b n f)) ∧ (d 6 = true → Hid (IL w' (w.heap.size + 2) w'.heap.size x.v l)) ∧ (d 7 = true → d 6 = true) ∧ (d 8 = true → d 7 = true) ∧ (d 10 = true → d 8 = true)) (by kernel_rfl) (by kernel_rfl) ?h0_rc ?hs_rc ?hq_rc
      case h0_rc => exact ⟨⟨0, .bool false⟩, (by simp [lput]), hH.drew, (show S2 ≤ _ from hq2), hid hV.out.drew, hid hG.out.drew, (fun h => by cases h), (fun h => by cases h), (fun h => by cases h), (fun h => by cases h), (fun h => by cases h)⟩
      case hs_rc =>
        refine ⟨?_, ?_, ?_, ?_, ?_, ?_, ?_, ?_, ?_, ?_, ?_, ?_, trivial⟩
        all_goals
          clear hH hq2 hV hG
          intro d x w1 hd hn hJ
          simp only [needs, Region.binds, reduceCtorEq, Bool.false_eq_true, false_implies, true_and, and_true, true_implies, forall_const] at hn
          simp only [lput, List.set, hn, cond_true]
          obtain ⟨hH, hq2, hV, hG, hR, hW, I7_6, I8_7, I10_8⟩ := hJ
          (try have hR_ := hR (by simp only [hn]))
          (try have hW_ := hW (by simp only [hn]))
          have zz := hH.size
          simp only [List.length_cons, List.length_nil] at zz
          go_wp2_with (first | fail | (refine wpL_loadFull rfl rfl rfl rowSl hH.h0 (sqc_size _ _) ?_) | (refine wpL_loadFull rfl rfl rfl rowSl hH.h1 (sqc_size _ _) ?_) | (go_at_call 16; with_reducible refine (toSquare_any o g _).mono ?_; rintro e w2 ⟨rfl, hb⟩; replace hH := hH.call' hb; have hzs := hb.size; replace hV := hid (hV.out.below hb (by omega)); replace hG := hid (hG.out.below hb (by omega)); replace hR := fun e => hid ((hR e).out.below hb); replace hW := fun e => hid ((hW e).out.go hb); replace hq2 : S2 ≤ w2.heap.size := (by omega)) | (go_at_call 16; with_reducible refine (toSquare_any p h _).mono ?_; rintro e w2 ⟨rfl, hb⟩; replace hH := hH.call' hb; have hzs := hb.size; replace hV := hid (hV.out.below hb (by omega)); replace hG := hid (hG.out.below hb (by omega)); replace hR := fun e => hid ((hR e).out.below hb); replace hW := fun e => hid ((hW e).out.go hb); replace hq2 : S2 ≤ w2.heap.size := (by omega)) | (go_at_call 38; refine (toInt64S_any _ n f _ (HI.out.below hH.below) hnl).mono ?_; intro e w3 hg; obtain ⟨b0, rfl, hb, H0, hlo0⟩ := hg.size; have hzs := hb.size; replace hH := hH.call' hb; replace hV := hid (hV.out.below hb (by omega)); replace hG := hid (hG.out.below hb (by omega)); replace hW := fun e => hid ((hW e).out.go hb); replace hq2 : S2 ≤ w3.heap.size := (by omega); clear hg) | (go_at_call 43; refine (hT.out _ _ hR_.out).mono ?_; rintro e w4 ⟨v2, rfl, hb, hI0⟩; have hzs := hb.size; replace hH := hH.call' hb; replace hV := hid (hV.out.below hb (by omega)); replace hG := hid (hG.out.below hb (by omega)); replace hR := fun e => hid ((hR e).out.below hb); replace hI0 := hid (hI0.lower (by omega : w.heap.size + 2 ≤ _)); replace hq2 : S2 ≤ w4.heap.size := (by omega)))
          first
            | (refine ⟨⟨b0, x.v⟩, ?_, hH, hq2, hV, hG, (fun _ => H0), (fun e => hW (done_ne e (by decide))), (by intro e; first | (simp [done]; done) | (have e2 := I7_6 (done_ne e (by decide)); simp [done, e2]; done) | (simp [done, hn]; done)), (by intro e; first | (simp [done]; done) | (have e2 := I8_7 (done_ne e (by decide)); simp [done, e2]; done) | (simp [done, hn]; done)), (by intro e; first | (simp [done]; done) | (have e2 := I10_8 (done_ne e (by decide)); simp [done, e2]; done) | (simp [done, hn]; done))⟩; (simp [lput, done, hn]; done))
            | (have z7 := imp_no I7_6 hd; have z8 := imp_no I8_7 z7; have z10 := imp_no I10_8 z8; refine ⟨⟨x.b, v2⟩, ?_, hH, hq2, hV, hG, (fun e => hR (done_ne e (by decide))), (fun _ => hI0), (by intro e; first | (simp [done]; done) | (have e2 := I7_6 (done_ne e (by decide)); simp [done, e2]; done) | (simp [done, hn]; done)), (by intro e; first | (simp [done]; done) | (have e2 := I8_7 (done_ne e (by decide)); simp [done, e2]; done) | (simp [done, hn]; done)), (by intro e; first | (simp [done]; done) | (have e2 := I10_8 (done_ne e (by decide)); simp [done, e2]; done) | (simp [done, hn]; done))⟩; (simp [lput, done, hn, z7, z8, z10]; done))
            | (refine ⟨x, ?_, hH, hq2, hV, hG, (fun e => hR (done_ne e (by decide))), (fun e => hW (done_ne e (by decide))), (by intro e; first | (simp [done]; done) | (have e2 := I7_6 (done_ne e (by decide)); simp [done, e2]; done) | (simp [done, hn]; done)), (by intro e; first | (simp [done]; done) | (have e2 := I8_7 (done_ne e (by decide)); simp [done, e2]; done) | (simp [done, hn]; done)), (by intro e; first | (simp [done]; done) | (have e2 := I10_8 (done_ne e (by decide)); simp [done, e2]; done) | (simp [done, hn]; done))⟩; (simp [lput, done, hn]; done))
            | (refine ⟨?_, hH, hq2, hV, hG, (fun e => hR (done_ne e (by decide))), (fun e => hW (done_ne e (by decide))), (by intro e; first | (simp [done]; done) | (have e2 := I7_6 (done_ne e (by decide)); simp [done, e2]; done) | (simp [done, hn]; done)), (by intro e; first | (simp [done]; done) | (have e2 := I8_7 (done_ne e (by decide)); simp [done, e2]; done) | (simp [done, hn]; done)), (by intro e; first | (simp [done]; done) | (have e2 := I10_8 (done_ne e (by decide)); simp [done, e2]; done) | (simp [done, hn]; done))⟩; (simp [lput, done, hn]; done))
            | (refine ⟨x, ?_, hH, hq2, hV, hG, (fun e => hR (done_ne e (by decide))), (fun e => hW (done_ne e (by decide))), (by intro e; first | (simp [done]; done) | (have e2 := I7_6 (done_ne e (by decide)); simp [done, e2]; done) | (simp [done, hn]; done)), (by intro e; first | (simp [done]; done) | (have e2 := I8_7 (done_ne e (by decide)); simp [done, e2]; done) | (simp [done, hn]; done)), (by intro e; first | (simp [done]; done) | (have e2 := I10_8 (done_ne e (by decide)); simp [done, e2]; done) | (simp [done, hn]; done))⟩; (simp [lput, done, hn]; rfl))
            | (refine ⟨?_, hH, hq2, hV, hG, (fun e => hR (done_ne e (by decide))), (fun e => hW (done_ne e (by decide))), (by intro e; first | (simp [done]; done) | (have e2 := I7_6 (done_ne e (by decide)); simp [done, e2]; done) | (simp [done, hn]; done)), (by intro e; first | (simp [done]; done) | (have e2 := I8_7 (done_ne e (by decide)); simp [done, e2]; done) | (simp [done, hn]; done)), (by intro e; first | (simp [done]; done) | (have e2 := I10_8 (done_ne e (by decide)); simp [done, e2]; done) | (simp [done, hn]; done))⟩; (simp [lput, done, hn]; rfl))
            | (refine ⟨x, ?_, hH, hq2, hV, hG, (fun e => hR (done_ne e (by decide))), (fun e => hW (done_ne e (by decide))), (by intro e; first | (simp [done]; done) | (have e2 := I7_6 (done_ne e (by decide)); simp [done, e2]; done) | (simp [done, hn]; done)), (by intro e; first | (simp [done]; done) | (have e2 := I8_7 (done_ne e (by decide)); simp [done, e2]; done) | (simp [done, hn]; done)), (by intro e; first | (simp [done]; done) | (have e2 := I10_8 (done_ne e (by decide)); simp [done, e2]; done) | (simp [done, hn]; done))⟩; (simp [lput, done]; done))
            | (refine ⟨?_, hH, hq2, hV, hG, (fun e => hR (done_ne e (by decide))), (fun e => hW (done_ne e (by decide))), (by intro e; first | (simp [done]; done) | (have e2 := I7_6 (done_ne e (by decide)); simp [done, e2]; done) | (simp [done, hn]; done)), (by intro e; first | (simp [done]; done) | (have e2 := I8_7 (done_ne e (by decide)); simp [done, e2]; done) | (simp [done, hn]; done)), (by intro e; first | (simp [done]; done) | (have e2 := I10_8 (done_ne e (by decide)); simp [done, e2]; done) | (simp [done, hn]; done))⟩; (simp [lput, done]; done))
            | (refine ⟨x, ?_, hH, hq2, hV, hG, (fun e => hR (done_ne e (by decide))), (fun e => hW (done_ne e (by decide))), (by intro e; first | (simp [done]; done) | (have e2 := I7_6 (done_ne e (by decide)); simp [done, e2]; done) | (simp [done, hn]; done)), (by intro e; first | (simp [done]; done) | (have e2 := I8_7 (done_ne e (by decide)); simp [done, e2]; done) | (simp [done, hn]; done)), (by intro e; first | (simp [done]; done) | (have e2 := I10_8 (done_ne e (by decide)); simp [done, e2]; done) | (simp [done, hn]; done))⟩; (simp [lput, done]; rfl))
            | (refine ⟨?_, hH, hq2, hV, hG, (fun e => hR (done_ne e (by decide))), (fun e => hW (done_ne e (by decide))), (by intro e; first | (simp [done]; done) | (have e2 := I7_6 (done_ne e (by decide)); simp [done, e2]; done) | (simp [done, hn]; done)), (by intro e; first | (simp [done]; done) | (have e2 := I8_7 (done_ne e (by decide)); simp [done, e2]; done) | (simp [done, hn]; done)), (by intro e; first | (simp [done]; done) | (have e2 := I10_8 (done_ne e (by decide)); simp [done, e2]; done) | (simp [done, hn]; done))⟩; (simp [lput, done]; rfl))
      case hq_rc =>
        clear hH hq2 hV hG
        intro d x w1 hd hJ
        simp only [allDone, List.length_cons, List.length_nil, Nat.reduceAdd, and_true] at hd
        obtain ⟨hH, hq2, hV, hG, hR, hW, I7_6, I8_7, I10_8⟩ := hJ
        replace hR := hR (by simp only [hd])
        replace hW := hW (by simp only [hd])
        clear I7_6
        clear I8_7
        clear I10_8
        simp only [lput, List.set, hd, cond_true]
        clear hd
        clear hR
        rcases x with ⟨xb2, v2⟩
        replace hW : Hid (IL w1 (w.heap.size + 2) w1.heap.size v2 l) := hW
        go_wp2_with (first | fail | (refine wpL_guard rfl rfl ?_) | (go_at_call 25; refine (eqIL hW.out hV.out (by rw [HL.out]; omega)).mono ?_; rintro e w6 ⟨rfl, hb⟩; replace hH := hH.call' hb; replace hG := hid (hG.out.below hb (by omega)); clear hb hW hV) | (go_at_call 27; refine (heldIL hG.out (by rw [HL.out]; omega) (by omega) (by omega)).mono ?_; rintro e w12 ⟨rfl, rfl⟩; rw [HL.out]))
        go_ret
        exact ⟨rfl, hH.below⟩
set_option maxHeartbeats 1000000 in
theorem lawImageOf_long (o p : Int) (g h : Nat → UInt8) (v : Value) (n : Nat) (f : Nat → Int) (w : World) (hn : ¬ n ≤ 1048576) (hI : NIn w v n f) :
    Calls Try.prog 10 #[.agg (sqc o g), .agg (sqc p h), v] w fun e w' => e = .returned (.bool true) ∧ Below w.heap.size w w' := by
  have hgt : (1048576 : Int) < (n : Int) := by omega
  rcases hI with ⟨rfl, rfl⟩ | ⟨a, cap, rfl, _⟩
  · exact absurd (by omega : (0 : Nat) ≤ 1048576) hn
  · have hH := Has.start2 w (sqc o g) (sqc p h) 25 25
    go_enter Try.func10, Try.ntmps10
    go_wp2
    go_ret
    exact ⟨rfl, hH.below⟩
theorem lawImageOf_any (o : Int) (g : Nat → UInt8) (_ : (Lit.int .i64 o).wf = true) (p : Int) (h : Nat → UInt8) (_ : (Lit.int .i64 p).wf = true) (v : Value) (n : Nat) (f : Nat → Int) (w : World) (hI : NIn w v n f) :
    Calls Try.prog 10 #[.agg (sqc o g), .agg (sqc p h), v] w fun e w' => e = .returned (.bool true) ∧ Below w.heap.size w w' := by
  by_cases hn : n ≤ 1048576
  · cases hs : (loopB o g && loopB p h) with
    | false => exact lawImageOf_by o p g h v n f [] 1 w hn (by simp) hI (hid fun w b hR => (specImageOf_err o p g h b n n f 1 w rfl hR (hid fun w _ => l06Hom_no o p g h _ w hs)).mono fun e w' h => GotL.err h) (hid fun w b hR => (implImageOf_err o p g h b n n f 1 w rfl hR (hid fun w _ => homCode_no o p g h _ w hs)).mono fun e w' h => GotL.err h)
    | true =>
      simp only [Bool.and_eq_true] at hs
      obtain ⟨N, rfl, hL1, hs1, hl1⟩ := loop_true hs.1
      obtain ⟨M, rfl, hL2, hs2, hl2⟩ := loop_true hs.2
      have two : ∀ z : Int, (z == 0) = false → Hid (∀ w b, Row w b n f → Calls Try.prog 71 #[.agg (sqc N g), .agg (sqc M h), .slice (some ⟨b, 0, none⟩) n n] w fun e w' => e = .returned (.int .i64 z) ∧ Below w.heap.size w w') →
          Hid (∀ w b, Row w b n f → Calls Try.prog 39 #[.agg (sqc N g), .agg (sqc M h), .slice (some ⟨b, 0, none⟩) n n] w fun e w' => e = .returned (.tuple #[.bool false, .int .i64 z]) ∧ Below w.heap.size w w') →
          Calls Try.prog 10 #[.agg (sqc N g), .agg (sqc M h), v] w fun e w' => e = .returned (.bool true) ∧ Below w.heap.size w w' := fun z hz hA hB =>
        lawImageOf_by N M g h v n f [] z w hn (by simp) hI (hid fun w b hR => (specImageOf_err N M g h b n n f z w hz hR (hid fun w hR => l06Hom_two N M g h b n n f z w hl1 hl2 hz hR (hid fun w hR => hA.out w b hR))).mono fun e w' h => GotL.err h) (hid fun w b hR => (implImageOf_err N M g h b n n f z w hz hR (hid fun w hR => homCode_by N M g h b n n f false z z w hl1 hl2 hR (.inl ⟨by simpa using hz, rfl⟩) (hid fun w hR => hB.out w b hR))).mono fun e w' h => GotL.err h)
      rcases far_or_all f M n with ⟨k0, hF⟩ | hF
      · refine two 2 rfl (hid fun w b hR => l06Two_far N M n b n k0 g h f w hs1 hs2 hn hR hF) (hid fun w b hR => ?_)
        by_cases e : n = N
        · subst e; exact implIsHomomorphism_far n M b n k0 g h f w hs1 hs2 hR hF
        · exact implIsHomomorphism_len N M n b n g h w hs1 hs2 e
      · by_cases e : n = N
        · subst e
          have ha : ∀ i, i < n → (f i).toNat < M := fun i hi => by have := hF i hi; omega
          have hfe : ∀ i, i < n → ((f i).toNat : Int) = f i := fun i hi => by have := hF i hi; omega
          have hfe2 : ∀ i, i < n → f i = ((f i).toNat : Int) := fun i hi => (hfe i hi).symm
          cases he : homB n g h (fun i => (f i).toNat) with
          | true =>
            obtain ⟨a, haf⟩ : ∃ a : Nat → Nat, (fun i => (f i).toNat) = a := ⟨_, rfl⟩
            have hae : ∀ i, i < n → ((a i : Nat) : Int) = f i := fun i hi => by rw [← haf]; exact hfe i hi
            have haM : ∀ i, i < n → a i < M := fun i hi => by rw [← haf]; exact ha i hi
            rw [haf] at he
            have N := n
            exact lawImageOf_by n M g h v n f (selL (imgB a n) M) 0 w hn (Nat.le_trans (selL_len _ _) (by have := hL1.sq.hi; have := hL2.sq.hi; omega)) hI
              (hid fun w b hR => specImageOf_in n M b n g h a w hL1.sq.lo hL1.sq.hi hL2.sq.lo hL2.sq.hi haM (hR.congr hae) (hid fun w hR => l06Hom_in n M b n g h a 0 w hl1 hl2 hs1 hs2 hL1.sq hL2.sq haM hR (.inl ⟨he, rfl⟩)))
              (hid fun w b hR => implImageOf_in n M b n g h a w hL1.sq.lo hL1.sq.hi hL2.sq.lo hL2.sq.hi haM (hR.congr hae) (hid fun w hR => homCode_by n M g h b n n _ true 0 0 w hl1 hl2 hR (.inr (.inl ⟨rfl, rfl, rfl⟩)) (hid fun w hR => by have := implIsHomomorphism_in n M b n g h a w hs1 hs2 hL1.sq hL2.sq haM hR; rw [he] at this; exact this)))
          | false =>
            exact lawImageOf_by n M g h v n f [] 5 w hn (by simp) hI
              (hid fun w b hR => (specImageOf_err n M g h b n n (fun i => ((f i).toNat : Int)) 5 w rfl (hR.congr hfe) (hid fun w hR => l06Hom_in n M b n g h _ 5 w hl1 hl2 hs1 hs2 hL1.sq hL2.sq ha hR (.inr ⟨he, rfl⟩))).mono fun e w' h => GotL.err h)
              (hid fun w b hR => (implImageOf_err n M g h b n n (fun i => ((f i).toNat : Int)) 5 w rfl (hR.congr hfe) (hid fun w hR => homCode_by n M g h b n n _ false 0 5 w hl1 hl2 hR (.inr (.inr ⟨rfl, rfl, rfl⟩)) (hid fun w hR => by have := implIsHomomorphism_in n M b n g h (fun i => (f i).toNat) w hs1 hs2 hL1.sq hL2.sq ha hR; rw [he] at this; exact this))).mono fun e w' h => GotL.err h)
        · exact two 2 rfl (hid fun w b hR => l06Two_all N M n b n g h f w hs1 hs2 hn hR hF 2 (.inr ⟨e, rfl⟩)) (hid fun w b hR => implIsHomomorphism_len N M n b n g h w hs1 hs2 e)
  · exact lawImageOf_long o p g h v n f w hn hI
end Go.Proofs.Ytphninlinegbbab
