/- Proved: the law FnExactIsHomomorphism returns true, and old memory is left alone. Conditions: those that the theorem names. -/
import Derived.Test.YtphninlinegbbabHp
import Derived.Test.YtphninlinegbbabLi
import Derived.Test.YtphninlinegbbabTo2
namespace Go.Proofs.Ytphninlinegbbab
set_option linter.unusedVariables false
set_option linter.unusedSimpArgs false
open Go.RowKit
set_option maxRecDepth 20000 in
set_option maxHeartbeats 4000000 in
theorem lawIsHomomorphism_by (o p : Int) (g h : Nat → UInt8) (v : Value) (n : Nat) (f : Nat → Int) (r : Bool) (z : Int) (w : World) (hnl : n ≤ 1048576) (hI : NIn w v n f)
    (hS : Hid (∀ w b, Row w b n f → Calls Try.prog 37 #[.agg (sqc o g), .agg (sqc p h), .slice (some ⟨b, 0, none⟩) n n] w fun e w' => e = .returned (.tuple #[.bool r, .int .i64 z]) ∧ Below w.heap.size w w'))
    (hT : Hid (∀ w b, Row w b n f → Calls Try.prog 39 #[.agg (sqc o g), .agg (sqc p h), .slice (some ⟨b, 0, none⟩) n n] w fun e w' => e = .returned (.tuple #[.bool r, .int .i64 z]) ∧ Below w.heap.size w w')) :
    Calls Try.prog 8 #[.agg (sqc o g), .agg (sqc p h), v] w fun e w' => e = .returned (.bool true) ∧ Below w.heap.size w w' := by
  have hle : ¬ (1048576 : Int) < (n : Int) := by omega
  obtain ⟨A, cap, hv⟩ : ∃ A cap, v = .slice A n cap := by
    rcases hI with ⟨e, e2⟩ | ⟨a, cap, e, _⟩
    · subst e2; exact ⟨none, 0, e⟩
    · exact ⟨some a, cap, e⟩
  subst hv
  have HI := hid ((hI.below (((Below.refl _ _).alloc (Nat.le_refl _) (.cells (sqc o g) 25)).alloc (by simp) (.cells (sqc p h) 25))))
  clear hI
  have hH := Has.start2 w (sqc o g) (sqc p h) 25 25
  go_enter Try.func8, Try.ntmps8
  go_wp2
  refine wp_region_frame (X := Nat) (fun d x => [(16, bif d 0 then .agg (sqc o g) else undef), (17, bif d 1 then .agg (sqc o g) else undef), (18, bif d 2 then .agg (sqc p h) else undef), (19, bif d 3 then .agg (sqc p h) else undef), (20, bif d 4 then .slice A n cap else undef), (21, bif d 5 then .slice (some ⟨x, 0, none⟩) n n else undef), (22, bif d 6 then .tuple #[.bool r, .int .i64 z] else undef), (15, bif d 7 then .tuple #[.bool r, .int .i64 z] else undef), (23, bif d 8 then .bool r else undef), (24, bif d 9 then .int .i64 z else undef), (7, bif d 10 then .bool r else undef), (8, bif d 11 then .int .i64 z else undef)])
    (fun d x w' => Has w w' [(sqc o g, 25), (sqc p h, 25)] ∧ Hid (NIn w' (.slice A n cap) n f) ∧ (d 5 = true → Hid (Row w' x n f))) (by kernel_rfl) (by kernel_rfl) ?h0_ra ?hs_ra ?hq_ra
  case h0_ra => exact ⟨0, (by simp [lput]), hH.drew, (show _ from HI), (fun h => by cases h)⟩
  case hs_ra =>
    refine ⟨?_, ?_, ?_, ?_, ?_, ?_, ?_, ?_, ?_, ?_, ?_, ?_, trivial⟩
    all_goals
      clear hH HI
      intro d x w1 hd hn hJ
      simp only [needs, Region.binds, reduceCtorEq, Bool.false_eq_true, false_implies, true_and, and_true, true_implies, forall_const] at hn
      simp only [lput, List.set, hn, cond_true]
      obtain ⟨hH, HI, hR⟩ := hJ
      (try have hR_ := hR (by simp only [hn]))
      go_wp2_with (first | fail | (refine wpL_loadFull rfl rfl rfl rowSl hH.h0 (sqc_size _ _) ?_) | (refine wpL_loadFull rfl rfl rfl rowSl hH.h1 (sqc_size _ _) ?_) | (go_at_call 16; with_reducible refine (toSquare_any o g _).mono ?_; rintro e w2 ⟨rfl, hb⟩; replace hH := hH.call' hb; replace HI := hid (HI.out.below hb); replace hR := fun e => hid ((hR e).out.below hb)) | (go_at_call 16; with_reducible refine (toSquare_any p h _).mono ?_; rintro e w2 ⟨rfl, hb⟩; replace hH := hH.call' hb; replace HI := hid (HI.out.below hb); replace hR := fun e => hid ((hR e).out.below hb)) | (go_at_call 38; refine (toInt64S_any _ n f _ HI.out hnl).mono ?_; intro e w3 hg; obtain ⟨b0, rfl, hb, H0, hlo0⟩ := hg.size; replace hH := hH.call' hb; replace HI := hid (HI.out.below hb); clear hg) | (go_at_call 37; refine (hS.out _ _ hR_.out).mono ?_; rintro e w4 ⟨rfl, hb⟩; replace hH := hH.call' hb; replace HI := hid (HI.out.below hb); replace hR := fun e => hid ((hR e).out.below hb)))
      first
        | (refine ⟨b0, ?_, hH, HI, (fun _ => H0)⟩; (simp [lput, done, hn]; done))
        | (refine ⟨x, ?_, hH, HI, (fun e => hR (done_ne e (by decide)))⟩; (simp [lput, done, hn]; done))
        | (refine ⟨?_, hH, HI, (fun e => hR (done_ne e (by decide)))⟩; (simp [lput, done, hn]; done))
        | (refine ⟨x, ?_, hH, HI, (fun e => hR (done_ne e (by decide)))⟩; (simp [lput, done, hn]; rfl))
        | (refine ⟨?_, hH, HI, (fun e => hR (done_ne e (by decide)))⟩; (simp [lput, done, hn]; rfl))
        | (refine ⟨x, ?_, hH, HI, (fun e => hR (done_ne e (by decide)))⟩; (simp [lput, done]; done))
        | (refine ⟨?_, hH, HI, (fun e => hR (done_ne e (by decide)))⟩; (simp [lput, done]; done))
        | (refine ⟨x, ?_, hH, HI, (fun e => hR (done_ne e (by decide)))⟩; (simp [lput, done]; rfl))
        | (refine ⟨?_, hH, HI, (fun e => hR (done_ne e (by decide)))⟩; (simp [lput, done]; rfl))
  case hq_ra =>
    clear hH HI
    intro d x w1 hd hJ
    simp only [allDone, List.length_cons, List.length_nil, Nat.reduceAdd, and_true] at hd
    obtain ⟨hH, HI, hR⟩ := hJ
    replace hR := hR (by simp only [hd])
    simp only [lput, List.set, hd, cond_true]
    clear hd
    clear hR
    go_wp2_with (first | fail | (go_at_call 38; refine (toInt64S_any _ n f _ HI.out hnl).mono ?_; intro e w3 hg; obtain ⟨b1, rfl, hb, H1, hlo1⟩ := hg.size; replace hH := hH.call' hb; replace HI := hid (HI.out.below hb); clear hg hb hlo1))
    refine wp_region_frame (X := Unit) (fun d _ => [(28, bif d 0 then .agg (sqc o g) else undef), (29, bif d 1 then .agg (sqc o g) else undef), (30, bif d 2 then .agg (sqc p h) else undef), (31, bif d 3 then .agg (sqc p h) else undef), (32, bif d 4 then .slice (some ⟨b1, 0, none⟩) n n else undef), (33, bif d 5 then .tuple #[.bool r, .int .i64 z] else undef), (27, bif d 6 then .tuple #[.bool r, .int .i64 z] else undef), (34, bif d 7 then .bool r else undef), (35, bif d 8 then .int .i64 z else undef), (10, bif d 9 then .bool r else undef), (11, bif d 10 then .int .i64 z else undef)])
      (fun d _ w' => Has w w' [(sqc o g, 25), (sqc p h, 25)] ∧ Hid (NIn w' (.slice A n cap) n f) ∧ Hid (Row w' b1 n f)) (by kernel_rfl) (by kernel_rfl) ?h0_rb ?hs_rb ?hq_rb
    case h0_rb => exact ⟨(), (by simp [lput]), hH.drew, (show _ from HI), hid (H1.out.block rfl)⟩
    case hs_rb =>
      refine ⟨?_, ?_, ?_, ?_, ?_, ?_, ?_, ?_, ?_, ?_, ?_, trivial⟩
      all_goals
        clear hH HI H1
        intro d _ w1 hd hn hJ
        simp only [needs, Region.binds, reduceCtorEq, Bool.false_eq_true, false_implies, true_and, and_true, true_implies, forall_const] at hn
        simp only [lput, List.set, hn, cond_true]
        obtain ⟨hH, HI, H1⟩ := hJ
        go_wp2_with (first | fail | (refine wpL_loadFull rfl rfl rfl rowSl hH.h0 (sqc_size _ _) ?_) | (refine wpL_loadFull rfl rfl rfl rowSl hH.h1 (sqc_size _ _) ?_) | (go_at_call 16; with_reducible refine (toSquare_any o g _).mono ?_; rintro e w2 ⟨rfl, hb⟩; replace hH := hH.call' hb; replace HI := hid (HI.out.below hb); replace H1 := hid (H1.out.below hb)) | (go_at_call 16; with_reducible refine (toSquare_any p h _).mono ?_; rintro e w2 ⟨rfl, hb⟩; replace hH := hH.call' hb; replace HI := hid (HI.out.below hb); replace H1 := hid (H1.out.below hb)) | (go_at_call 39; refine (hT.out _ _ H1.out).mono ?_; rintro e w4 ⟨rfl, hb⟩; replace hH := hH.call' hb; replace HI := hid (HI.out.below hb); replace H1 := hid (H1.out.below hb)))
        first
          | (refine ⟨(), ?_, hH, HI, H1⟩; (simp [lput, done, hn]; done))
          | (refine ⟨?_, hH, HI, H1⟩; (simp [lput, done, hn]; done))
          | (refine ⟨(), ?_, hH, HI, H1⟩; (simp [lput, done, hn]; rfl))
          | (refine ⟨?_, hH, HI, H1⟩; (simp [lput, done, hn]; rfl))
          | (refine ⟨(), ?_, hH, HI, H1⟩; (simp [lput, done]; done))
          | (refine ⟨?_, hH, HI, H1⟩; (simp [lput, done]; done))
          | (refine ⟨(), ?_, hH, HI, H1⟩; (simp [lput, done]; rfl))
          | (refine ⟨?_, hH, HI, H1⟩; (simp [lput, done]; rfl))
    case hq_rb =>
      clear hH HI H1
      intro d _ w1 hd hJ
      simp only [allDone, List.length_cons, List.length_nil, Nat.reduceAdd, and_true] at hd
      obtain ⟨hH, HI, H1⟩ := hJ
      simp only [lput, List.set, hd, cond_true]
      clear hd
      cases r
      all_goals
        go_wp2_with (first | fail | (refine wpL_guard rfl rfl ?_) | (go_at_call 38; refine (toInt64S_any _ n f _ HI.out hnl).mono ?_; intro e w6 hg; obtain ⟨b2, rfl, hb, H2, hlo2⟩ := hg.size; replace hH := hH.call' hb; replace H1 := hid (H1.out.below hb); clear hg hb hlo2) | (go_at_call 25; refine (eqInt64S_same b1 b2 _ _ _ f _ hnl H1.out H2.out).mono ?_; rintro e w7 ⟨rfl, hb⟩; replace hH := hH.call' hb; clear hb))
        go_ret
        exact ⟨rfl, hH.below⟩
set_option maxHeartbeats 1000000 in
theorem lawIsHomomorphism_long (o p : Int) (g h : Nat → UInt8) (v : Value) (n : Nat) (f : Nat → Int) (w : World) (hn : ¬ n ≤ 1048576) (hI : NIn w v n f) :
    Calls Try.prog 8 #[.agg (sqc o g), .agg (sqc p h), v] w fun e w' => e = .returned (.bool true) ∧ Below w.heap.size w w' := by
  have hgt : (1048576 : Int) < (n : Int) := by omega
  rcases hI with ⟨rfl, rfl⟩ | ⟨a, cap, rfl, _⟩
  · exact absurd (by omega : (0 : Nat) ≤ 1048576) hn
  · have hH := Has.start2 w (sqc o g) (sqc p h) 25 25
    go_enter Try.func8, Try.ntmps8
    go_wp2
    go_ret
    exact ⟨rfl, hH.below⟩
theorem lawIsHomomorphism_any (o : Int) (g : Nat → UInt8) (_ : (Lit.int .i64 o).wf = true) (p : Int) (h : Nat → UInt8) (_ : (Lit.int .i64 p).wf = true) (v : Value) (n : Nat) (f : Nat → Int) (w : World) (hI : NIn w v n f) :
    Calls Try.prog 8 #[.agg (sqc o g), .agg (sqc p h), v] w fun e w' => e = .returned (.bool true) ∧ Below w.heap.size w w' := by
  by_cases hn : n ≤ 1048576
  · cases hs : (sqB o g && sqB p h) with
    | false => exact lawIsHomomorphism_by o p g h v n f false 1 w hn hI (hid fun w b hR => specIsHomomorphism_err o p g h n b n 1 w rfl f hR (hid fun w hR => l06Two_no o p g h _ w hs)) (hid fun w b hR => implIsHomomorphism_no o p g h _ w hs)
    | true =>
      simp only [Bool.and_eq_true] at hs
      obtain ⟨N, rfl, hq⟩ := sqB_true.1 hs.1
      obtain ⟨M, rfl, hr⟩ := sqB_true.1 hs.2
      rcases far_or_all f M n with ⟨k0, hF⟩ | hF
      · refine lawIsHomomorphism_by N M g h v n f false 2 w hn hI (hid fun w b hR => specIsHomomorphism_err N M g h n b n 2 w rfl f hR (hid fun w hR => l06Two_far N M n b n k0 g h f w hs.1 hs.2 hn hR hF)) (hid fun w b hR => ?_)
        by_cases e : n = N
        · subst e; exact implIsHomomorphism_far n M b n k0 g h f w hs.1 hs.2 hR hF
        · exact implIsHomomorphism_len N M n b n g h w hs.1 hs.2 e
      · by_cases e : n = N
        · subst e
          have ha : ∀ i, i < n → (f i).toNat < M := fun i hi => by have := hF i hi; omega
          have hfe : ∀ i, i < n → ((f i).toNat : Int) = f i := fun i hi => by have := hF i hi; omega
          exact lawIsHomomorphism_by n M g h v n f (homB n g h fun i => (f i).toNat) 0 w hn hI (hid fun w b hR => specIsHomomorphism_in n M b n g h (fun i => (f i).toNat) w hs.1 hs.2 hq hr ha (hR.congr hfe)) (hid fun w b hR => implIsHomomorphism_in n M b n g h (fun i => (f i).toNat) w hs.1 hs.2 hq hr ha (hR.congr hfe))
        · exact lawIsHomomorphism_by N M g h v n f false 2 w hn hI (hid fun w b hR => specIsHomomorphism_err N M g h n b n 2 w rfl f hR (hid fun w hR => l06Two_all N M n b n g h f w hs.1 hs.2 hn hR hF 2 (.inr ⟨e, rfl⟩))) (hid fun w b hR => implIsHomomorphism_len N M n b n g h w hs.1 hs.2 e)
  · exact lawIsHomomorphism_long o p g h v n f w hn hI
end Go.Proofs.Ytphninlinegbbab
