/- Proved: what IntercalatesOf returns, of program and model alike. Conditions: those that each theorem names. -/
import Derived.Test.YtbdcbmennblcdaaIc0
import Derived.Test.YtbdcbmennblcdaaSq3b
import Derived.Test.YtbdcbmennblcdaaSq5
import Derived.Test.YtbdcbmennblcdaaSr
namespace Go.Proofs.Ytbdcbmennblcdaa
set_option linter.unusedVariables false
set_option linter.unusedSimpArgs false
open Go.RowKit
theorem imp_nI {a b : Bool} (h : a = true → b = true) (hb : b = false) : a = false := by
  cases a with
  | false => rfl
  | true => rw [h rfl] at hb; cases hb
set_option maxRecDepth 20000 in
set_option maxHeartbeats 4000000 in
theorem l09Square_any (N a b c d : Nat) (g : Nat → UInt8) (w : World) (h10 : N ≤ 10) (ha : a < N) (hb : b < N) (hc : c < N) (hd : d < N) :
    Calls Try.prog 68 #[.agg (sqc N g), .int .i64 a, .int .i64 b, .int .i64 c, .int .i64 d] w fun e w' => e = .returned (.bool (q4 g a b c d)) ∧ Below w.heap.size w w' := by
  have hH := Has.start1 w (sqc N g) 31
  obtain ⟨p, hp⟩ : ∃ p, (g (a * 10 + c)).toNat = p := ⟨_, rfl⟩
  obtain ⟨q, hqq⟩ : ∃ q, (g (b * 10 + d)).toNat = q := ⟨_, rfl⟩
  obtain ⟨r, hr⟩ : ∃ r, (g (a * 10 + d)).toNat = r := ⟨_, rfl⟩
  obtain ⟨s, hs⟩ : ∃ s, (g (b * 10 + c)).toNat = s := ⟨_, rfl⟩
  have HQ := hid (show q4 g a b c d = decide (p = q ∧ r = s) by unfold q4; rw [hp, hqq, hr, hs])
  have c1 := hH.c0 (1 + a * 10 + c)
  rw [Nat.add_assoc, sqc_get _ _ _ (by omega), hp, ← Nat.add_assoc] at c1
  have c2 := hH.c0 (1 + b * 10 + d)
  rw [Nat.add_assoc, sqc_get _ _ _ (by omega), hqq, ← Nat.add_assoc] at c2
  have c3 := hH.c0 (1 + a * 10 + d)
  rw [Nat.add_assoc, sqc_get _ _ _ (by omega), hr, ← Nat.add_assoc] at c3
  have c4 := hH.c0 (1 + b * 10 + c)
  rw [Nat.add_assoc, sqc_get _ _ _ (by omega), hs, ← Nat.add_assoc] at c4
  have a1 : (a : Int) < 10 := by omega
  have b1 : (b : Int) < 10 := by omega
  have d1 : (c : Int) < 10 := by omega
  have e1 : (d : Int) < 10 := by omega
  clear hp hqq hr hs
  by_cases hpq : p = q
  · have hpq' : (p : Int) = (q : Int) := by omega
    by_cases hrs : r = s
    · have hrs' : (r : Int) = (s : Int) := by omega
      have HV := hid (show q4 g a b c d = true by rw [HQ.out]; exact decide_eq_true ⟨hpq, hrs⟩)
      clear hpq hrs
      go_enter Try.func68, Try.ntmps68
      go_wp2
      go_quiet (fail)
      go_wp2
      go_ret
      exact ⟨by rw [HV.out]; rfl, (hH.drewN _).below⟩
    · have hrs' : ¬ (r : Int) = (s : Int) := by omega
      have HV := hid (show q4 g a b c d = false by rw [HQ.out]; exact decide_eq_false fun h => hrs h.2)
      have HE := hid (show ((r : Int) == (s : Int)) = false by simpa using hrs')
      clear hpq hrs
      go_enter Try.func68, Try.ntmps68
      go_wp2
      go_quiet (fail)
      go_wp2
      go_ret
      exact ⟨by show Ending.returned (.bool ((r : Int) == (s : Int))) = _; rw [HV.out, HE.out], (hH.drewN _).below⟩
  · have hpq' : ¬ (p : Int) = (q : Int) := by omega
    have HV := hid (show q4 g a b c d = false by rw [HQ.out]; exact decide_eq_false fun h => hpq h.1)
    clear hpq
    go_enter Try.func68, Try.ntmps68
    go_wp2
    go_quiet (fail)
    go_wp2
    go_ret
    exact ⟨by rw [HV.out]; rfl, (hH.drewN _).below⟩
set_option maxRecDepth 20000 in
set_option maxHeartbeats 2000000 in
theorem specIntercalatesOf_no (o : Int) (g : Nat → UInt8) (w : World) (hs : sqB o g = false) :
    Calls Try.prog 34 #[.agg (sqc o g)] w fun e w' => e = .returned (.tuple #[.slice none 0 0, .int .i64 1]) ∧ Below w.heap.size w w' := by
  have hH := Has.start1 w (sqc o g) 31
  go_enter Try.func34, Try.ntmps34
  go_wp2_with (first | fail | (refine wpL_loadFull rfl rfl rfl rowSq hH.h0 (sqc_size _ _) ?_) | (go_at_call 53; refine (l01Is_any o g _).mono ?_; rintro e w2 ⟨rfl, hb⟩; replace hH := hH.call' hb; rw [hs]))
  go_ret2
  exact ⟨rfl, hH.below⟩
set_option maxRecDepth 100000 in
set_option maxHeartbeats 8000000 in
theorem specIntercalatesOf_yes (N : Nat) (g : Nat → UInt8) (w : World) (hs : sqB (N : Int) g = true) (hq : IsSq N g) :
    Calls Try.prog 34 #[.agg (sqc N g)] w (GotLL (aI g N N).length (getLL (aI g N N)) 0 w) := by
  have h10 := hq.hi
  have hN10 : (N : Int) ≤ 10 := by omega
  have HLA := hid (fun k (hk : k ≤ N) => aI_len hq k hk)
  have HLB := hid (fun a acc i (ha : a < N) => bI_len (acc := acc) hq ha i)
  have HLC := hid (fun a b acc k (ha : a < N) (hk : k ≤ N) => cI_len (b := b) (acc := acc) hq ha k hk)
  have HLD := hid (fun a b c acc i (ha : a < N) (hi : c + 1 + i ≤ N) => (dI_len (b := b) (c := c) (acc := acc) hq ha i hi).1)
  clear hq
  have hH := Has.start1 w (sqc N g) 31
  go_enter Try.func34, Try.ntmps34
  go_wp2_with (first | fail | (refine wpL_loadFull rfl rfl rfl rowSq hH.h0 (sqc_size _ _) ?_) | (go_at_call 53; refine (l01Is_any N g _).mono ?_; rintro e w2 ⟨rfl, hb⟩; replace hH := hH.call' hb; clear hb; rw [hs]; have c0 := hH.c0 0; rw [sqc_get0] at c0))
  try clear c0
  refine wp_region_frame (X := Nat) (fun d x => [(13, bif d 0 then .slice (some ⟨x, 0, none⟩) 0 0 else undef), (14, bif d 1 then .pointer (some ⟨w.heap.size, 0, none⟩) else undef), (15, bif d 2 then .int .i64 N else undef), (4, bif d 3 then .slice (some ⟨x, 0, none⟩) 0 0 else undef), (5, bif d 4 then .int .i64 N else undef)])
    (fun d x w' => Has w w' [(sqc N g, 31)] ∧ (d 0 = true → Hid (LP w' (w.heap.size + 1) (.slice (some ⟨x, 0, none⟩) 0 0) 0 (getLL []))) ∧ (d 3 = true → d 0 = true)) (by kernel_rfl) (by kernel_rfl) ?h0_ic ?hs_ic ?hq_ic
  case h0_ic => exact ⟨0, (by simp [lput]), hH.drew, (fun h => by cases h), (fun h => by cases h)⟩
  case hs_ic =>
    refine ⟨?_, ?_, ?_, ?_, ?_, trivial⟩
    all_goals
      clear hH
      intro d x w1 hd hn hJ
      simp only [needs, Region.binds, reduceCtorEq, Bool.false_eq_true, false_implies, true_and, and_true, true_implies, forall_const] at hn
      simp only [lput, List.set, hn, cond_true]
      obtain ⟨hH, hP, I3_0⟩ := hJ
      (try have hP_ := hP (by simp only [hn]))
      have c0 := hH.c0 0
      rw [sqc_get0] at c0
      have zz := hH.size
      simp only [List.length_cons, List.length_nil] at zz
      go_wp2_with (first | fail)
      first
        | (have z3 := imp_nI I3_0 hd; refine ⟨w1.heap.size, ?_, hH.alloc _, (fun _ => hid (LP.start (World.ownsRow_made _ _ _ (by omega) (by unfold maxLen; omega) rfl))), (by intro e; simp [done])⟩; (simp [lput, done, hn, z3]; done))
        | (refine ⟨x, ?_, hH, (fun e => hP (done_ne e (by decide))), (by intro e; first | (simp [done]; done) | (have e2 := I3_0 (done_ne e (by decide)); simp [done, e2]; done) | (simp [done, hn]; done))⟩; (simp [lput, done, hn]; done))
        | (refine ⟨?_, hH, (fun e => hP (done_ne e (by decide))), (by intro e; first | (simp [done]; done) | (have e2 := I3_0 (done_ne e (by decide)); simp [done, e2]; done) | (simp [done, hn]; done))⟩; (simp [lput, done, hn]; done))
        | (refine ⟨x, ?_, hH, (fun e => hP (done_ne e (by decide))), (by intro e; first | (simp [done]; done) | (have e2 := I3_0 (done_ne e (by decide)); simp [done, e2]; done) | (simp [done, hn]; done))⟩; (simp [lput, done, hn]; rfl))
        | (refine ⟨?_, hH, (fun e => hP (done_ne e (by decide))), (by intro e; first | (simp [done]; done) | (have e2 := I3_0 (done_ne e (by decide)); simp [done, e2]; done) | (simp [done, hn]; done))⟩; (simp [lput, done, hn]; rfl))
        | (refine ⟨x, ?_, hH, (fun e => hP (done_ne e (by decide))), (by intro e; first | (simp [done]; done) | (have e2 := I3_0 (done_ne e (by decide)); simp [done, e2]; done) | (simp [done, hn]; done))⟩; (simp [lput, done]; done))
        | (refine ⟨?_, hH, (fun e => hP (done_ne e (by decide))), (by intro e; first | (simp [done]; done) | (have e2 := I3_0 (done_ne e (by decide)); simp [done, e2]; done) | (simp [done, hn]; done))⟩; (simp [lput, done]; done))
        | (refine ⟨x, ?_, hH, (fun e => hP (done_ne e (by decide))), (by intro e; first | (simp [done]; done) | (have e2 := I3_0 (done_ne e (by decide)); simp [done, e2]; done) | (simp [done, hn]; done))⟩; (simp [lput, done]; rfl))
        | (refine ⟨?_, hH, (fun e => hP (done_ne e (by decide))), (by intro e; first | (simp [done]; done) | (have e2 := I3_0 (done_ne e (by decide)); simp [done, e2]; done) | (simp [done, hn]; done))⟩; (simp [lput, done]; rfl))
  case hq_ic =>
    clear hH
    intro d x w1 hd hJ
    simp only [allDone, List.length_cons, List.length_nil, Nat.reduceAdd, and_true] at hd
    obtain ⟨hH, hP, I3_0⟩ := hJ
    replace hP := hP (by simp only [hd])
    clear I3_0
    simp only [lput, List.set, hd, cond_true]
    clear hd
    go_wp2
    go_loopw [4, 6] (fun v i wr => ∃ a : Nat, a ≤ N ∧ i = .int .i64 a ∧ Has w wr [(sqc N g, 31)] ∧ Hid (LP wr (w.heap.size + 1) v (aI g N a).length (getLL (aI g N a)))) (fun _ i _ => 20 - (intOf i).toNat)
    case atStart => exact ⟨0, by omega, rfl, hH, hP⟩
    case round =>
      clear hH hP
      obtain ⟨a, ha, rfl, hH, hP⟩ := hrel
      have cz : wr.cell? ⟨w.heap.size, 0, none⟩ = some (.int .i64 N) := by rw [hH.c0, sqc_get0]
      by_cases hal : a < N
      · have ha1 : (a : Int) < N := by omega
        have ha10 : (a : Int) < 10 := by omega
        have HAL := hid (HLA.out a (by omega))
        obtain ⟨A0, hA0⟩ : ∃ A, aI g N a = A := ⟨_, rfl⟩
        have HA0 := hid hA0
        rw [hA0] at hP HAL
        clear hA0
        go_wp2
        clear cz
        go_loopw [4, 7] (fun v i wr => ∃ t : Nat, a + 1 + t ≤ N ∧ i = .int .i64 ((a + 1 + t : Nat) : Int) ∧ Has w wr [(sqc N g, 31)] ∧ Hid (LP wr (w.heap.size + 1) v (bI g N a A0 t).length (getLL (bI g N a A0 t)))) (fun _ i _ => 20 - (intOf i).toNat)
        case atStart => exact ⟨0, by omega, by simp, hH, hP⟩
        case round =>
          clear hH hP
          obtain ⟨t, ht, rfl, hH, hP⟩ := hrel
          have cz : wr.cell? ⟨w.heap.size, 0, none⟩ = some (.int .i64 N) := by rw [hH.c0, sqc_get0]
          obtain ⟨b, hb⟩ : ∃ b, a + 1 + t = b := ⟨_, rfl⟩
          rw [hb] at ht ⊢
          by_cases hbl : b < N
          · have hb1 : (b : Int) < N := by omega
            have hb10 : (b : Int) < 10 := by omega
            have HBL := hid (HLB.out a A0 t hal)
            obtain ⟨A1, hA1⟩ : ∃ A, bI g N a A0 t = A := ⟨_, rfl⟩
            have HA1 := hid hA1
            rw [hA1] at hP HBL
            clear hA1
            go_wp2
            clear cz
            go_loopw [4, 8] (fun v i wr => ∃ c : Nat, c ≤ N ∧ i = .int .i64 c ∧ Has w wr [(sqc N g, 31)] ∧ Hid (LP wr (w.heap.size + 1) v (cI g N a b A1 c).length (getLL (cI g N a b A1 c)))) (fun _ i _ => 20 - (intOf i).toNat)
            case atStart => exact ⟨0, by omega, rfl, hH, hP⟩
            case round =>
              clear hH hP
              obtain ⟨c, hc, rfl, hH, hP⟩ := hrel
              have cz : wr.cell? ⟨w.heap.size, 0, none⟩ = some (.int .i64 N) := by rw [hH.c0, sqc_get0]
              by_cases hcl : c < N
              · have hc1 : (c : Int) < N := by omega
                have hc10 : (c : Int) < 10 := by omega
                have HCL := hid (HLC.out a b A1 c hal (by omega))
                obtain ⟨A2, hA2⟩ : ∃ A, cI g N a b A1 c = A := ⟨_, rfl⟩
                have HA2 := hid hA2
                rw [hA2] at hP HCL
                clear hA2
                go_wp2
                clear cz
                go_loopw [4, 9] (fun v i wr => ∃ u : Nat, c + 1 + u ≤ N ∧ i = .int .i64 ((c + 1 + u : Nat) : Int) ∧ Has w wr [(sqc N g, 31)] ∧ Hid (LP wr (w.heap.size + 1) v (dI g a b c A2 u).length (getLL (dI g a b c A2 u)))) (fun _ i _ => 20 - (intOf i).toNat)
                case atStart => exact ⟨0, by omega, by simp, hH, hP⟩
                case round =>
                  clear hH hP
                  obtain ⟨u, hu, rfl, hH, hP⟩ := hrel
                  have cz : wr.cell? ⟨w.heap.size, 0, none⟩ = some (.int .i64 N) := by rw [hH.c0, sqc_get0]
                  obtain ⟨d, hd⟩ : ∃ d, c + 1 + u = d := ⟨_, rfl⟩
                  have HDE := hid hd
                  rw [hd] at hu ⊢
                  by_cases hdl : d < N
                  · have hd1 : (d : Int) < N := by omega
                    have hd10 : (d : Int) < 10 := by omega
                    have HDL := hid (HLD.out a b c A2 u hal (by omega))
                    have hDlen : (dI g a b c A2 u).length ≤ 1000 := by have h1 := HDL.out; have h2 := HCL.out; have h3 := HBL.out; have h4 := HAL.out; omega
                    cases hq : q4 g a b c d with
                    | true =>
                      have HQ4 := hid hq
                      have HDN := hid (show dI g a b c A2 (u + 1) = dI g a b c A2 u ++ [four a b c d] by rw [← hd] at hq ⊢; exact dI_yes hq)
                      obtain ⟨A3, hA3⟩ : ∃ A, dI g a b c A2 u = A := ⟨_, rfl⟩
                      rw [hA3] at hP HDN hDlen
                      clear hA3 hq hd
                      obtain ⟨L3, hL3⟩ : ∃ L, A3.length = L := ⟨_, rfl⟩
                      have HL3 := hid hL3
                      rw [hL3] at hP hDlen
                      clear hL3
                      go_wp2_with (first | fail | (refine wpL_loadFull rfl rfl rfl rowSq hH.h0 (sqc_size _ _) ?_) | (go_at_call 68; refine (l09Square_any N a b c d g _ h10 hal hbl hcl hdl).mono ?_; rintro e w3 ⟨rfl, hb3⟩; rw [HQ4.out]; replace hH := hH.call' hb3; replace hP := hid (hP.out.below hb3); clear hb3; have zz := hH.size; simp only [List.length_cons, List.length_nil] at zz; obtain ⟨xs, X, p, q, hLx⟩ := (hP.out.congr (l' := getLL (A3 ++ [four a b c d])) (fun j hj => getLL_app (by rw [HL3.out]; exact hj))); have HLx := hid hLx; clear hP hLx) | (refine wpL_slice4 (x := (a : Nat)) (y := (b : Nat)) (u := (c : Nat)) (v := (d : Nat)) rfl (by rfl) (by rfl) (by rfl) (by rfl) (by rfl) ?_; have HIL := hid (IL_four w3 a b c d)) | (refine wpL_appS (v := u4) (n := L3) (base := w.heap.size + 1) (xs := xs) (p := some ⟨w3.heap.size, 0, none⟩) (l := 4) (k := 4) rfl (by rfl) (by rfl) (by rfl) (World.ownsRow.alloc (World.ownsRow.alloc HLx.out.own _) _) (by simp) (by omega) (by simp; omega) ?_; intro r cap w2 how hgr hor hlt3; have HP3 := hid (HLx.out.push (by omega) ((Below.refl _ _).alloc (Nat.le_refl _) _) (by rw [← HL3.out, getLL_new]; simpa using HIL.out) how hgr hor); replace hH := ((hH.alloc (.cells #[.int .i64 (a : Nat), .int .i64 (b : Nat), .int .i64 (c : Nat), .int .i64 (d : Nat)] 2)).alloc (.cells #[.slice (some ⟨w3.heap.size, 0, none⟩) 4 4] 38)).grown hgr (fun x hx => by have := (World.ownsRow.lt HLx.out.own x hx).1; simp; omega); clear how hgr hor hlt3))
                      go_roundw
                      case rel => exact ⟨u + 1, by have := HDE.out; omega, by rw [← HDE.out]; go_num, hH, by rw [HDN.out, List.length_append, HL3.out]; exact HP3⟩
                      case measure => simp [intOf]; omega
                    | false =>
                      have HQ4 := hid hq
                      have HDN := hid (show dI g a b c A2 (u + 1) = dI g a b c A2 u by rw [← hd] at hq; exact dI_no hq)
                      clear hq
                      go_wp2_with (first | fail | (refine wpL_loadFull rfl rfl rfl rowSq hH.h0 (sqc_size _ _) ?_) | (go_at_call 68; refine (l09Square_any N a b c d g _ h10 hal hbl hcl hdl).mono ?_; rintro e w3 ⟨rfl, hb3⟩; rw [HQ4.out]; replace hH := hH.call' hb3; replace hP := hid (hP.out.below hb3); clear hb3))
                      go_roundw
                      case rel => exact ⟨u + 1, by omega, by rw [← HDE.out]; go_num, hH, by rw [HDN.out]; exact hP⟩
                      case measure => simp [intOf]; omega
                  · have hdN : d = N := by omega
                    subst hdN
                    have HN2 := hid (show cI g d a b A1 (c + 1) = dI g a b c A2 u by show dI g a b c (cI g d a b A1 c) (d - (c + 1)) = _; rw [HA2.out, show d - (c + 1) = u by omega])
                    go_wp2
                    go_roundw
                    case rel => exact ⟨c + 1, by omega, by go_num, hH, by rw [HN2.out]; exact hP⟩
                    case measure => simp [intOf]; omega
              · obtain rfl : c = N := by omega
                have HN2 := hid (show bI g c a A0 (t + 1) = cI g c a b A1 c by show cI g c a (a + 1 + t) (bI g c a A0 t) c = _; rw [HA1.out, hb])
                go_wp2
                go_roundw
                case rel => exact ⟨t + 1, by omega, by rw [← hb]; go_num, hH, by rw [HN2.out]; exact hP⟩
                case measure => simp [intOf]; omega
          · have hbN : b = N := by omega
            subst hbN
            have HN2 := hid (show aI g b (a + 1) = bI g b a A0 t by show bI g b a (aI g b a) (b - (a + 1)) = _; rw [HA0.out, show b - (a + 1) = t by omega])
            go_wp2
            go_roundw
            case rel => exact ⟨a + 1, by omega, by go_num, hH, by rw [HN2.out]; exact hP⟩
            case measure => simp [intOf]; omega
      · obtain rfl : a = N := by omega
        go_wp2
        go_ret2
        exact hP.out.got hH.below (by omega)
set_option maxRecDepth 20000 in
set_option maxHeartbeats 4000000 in
theorem isIntercalate_any (N a b c d : Nat) (g : Nat → UInt8) (w : World) (h10 : N ≤ 10) (ha : a < N) (hb : b < N) (hc : c < N) (hd : d < N) :
    Calls Try.prog 69 #[.agg (sqc N g), .int .i64 a, .int .i64 b, .int .i64 c, .int .i64 d] w fun e w' => e = .returned (.bool (q4 g a b c d)) ∧ Below w.heap.size w w' := by
  have hH := Has.start1 w (sqc N g) 31
  obtain ⟨p, hp⟩ : ∃ p, (g (a * 10 + c)).toNat = p := ⟨_, rfl⟩
  obtain ⟨q, hqq⟩ : ∃ q, (g (b * 10 + d)).toNat = q := ⟨_, rfl⟩
  obtain ⟨r, hr⟩ : ∃ r, (g (a * 10 + d)).toNat = r := ⟨_, rfl⟩
  obtain ⟨s, hs⟩ : ∃ s, (g (b * 10 + c)).toNat = s := ⟨_, rfl⟩
  have HQ := hid (show q4 g a b c d = decide (p = q ∧ r = s) by unfold q4; rw [hp, hqq, hr, hs])
  have c1 := hH.c0 (1 + a * 10 + c)
  rw [Nat.add_assoc, sqc_get _ _ _ (by omega), hp, ← Nat.add_assoc] at c1
  have c2 := hH.c0 (1 + b * 10 + d)
  rw [Nat.add_assoc, sqc_get _ _ _ (by omega), hqq, ← Nat.add_assoc] at c2
  have c3 := hH.c0 (1 + a * 10 + d)
  rw [Nat.add_assoc, sqc_get _ _ _ (by omega), hr, ← Nat.add_assoc] at c3
  have c4 := hH.c0 (1 + b * 10 + c)
  rw [Nat.add_assoc, sqc_get _ _ _ (by omega), hs, ← Nat.add_assoc] at c4
  have a1 : (a : Int) < 10 := by omega
  have b1 : (b : Int) < 10 := by omega
  have d1 : (c : Int) < 10 := by omega
  have e1 : (d : Int) < 10 := by omega
  clear hp hqq hr hs
  by_cases hpq : p = q
  · have hpq' : (p : Int) = (q : Int) := by omega
    by_cases hrs : r = s
    · have hrs' : (r : Int) = (s : Int) := by omega
      have HV := hid (show q4 g a b c d = true by rw [HQ.out]; exact decide_eq_true ⟨hpq, hrs⟩)
      clear hpq hrs
      go_enter Try.func69, Try.ntmps69
      go_wp2
      go_quiet (fail)
      go_wp2
      go_ret
      exact ⟨by rw [HV.out]; rfl, (hH.drewN _).below⟩
    · have hrs' : ¬ (r : Int) = (s : Int) := by omega
      have HV := hid (show q4 g a b c d = false by rw [HQ.out]; exact decide_eq_false fun h => hrs h.2)
      have HE := hid (show ((r : Int) == (s : Int)) = false by simpa using hrs')
      clear hpq hrs
      go_enter Try.func69, Try.ntmps69
      go_wp2
      go_quiet (fail)
      go_wp2
      go_ret
      exact ⟨by show Ending.returned (.bool ((r : Int) == (s : Int))) = _; rw [HV.out, HE.out], (hH.drewN _).below⟩
  · have hpq' : ¬ (p : Int) = (q : Int) := by omega
    have HV := hid (show q4 g a b c d = false by rw [HQ.out]; exact decide_eq_false fun h => hpq h.1)
    clear hpq
    go_enter Try.func69, Try.ntmps69
    go_wp2
    go_quiet (fail)
    go_wp2
    go_ret
    exact ⟨by rw [HV.out]; rfl, (hH.drewN _).below⟩
set_option maxRecDepth 20000 in
set_option maxHeartbeats 2000000 in
theorem implIntercalatesOf_no (o : Int) (g : Nat → UInt8) (w : World) (hs : sqB o g = false) :
    Calls Try.prog 35 #[.agg (sqc o g)] w fun e w' => e = .returned (.tuple #[.slice none 0 0, .int .i64 1]) ∧ Below w.heap.size w w' := by
  have hH := Has.start1 w (sqc o g) 31
  go_enter Try.func35, Try.ntmps35
  go_wp2_with (first | fail | (refine wpL_loadFull rfl rfl rfl rowSq hH.h0 (sqc_size _ _) ?_) | (go_at_call 55; refine (IsSquare_any o g _).mono ?_; rintro e w2 ⟨rfl, hb⟩; replace hH := hH.call' hb; rw [hs]))
  go_ret2
  exact ⟨rfl, hH.below⟩
set_option maxRecDepth 100000 in
set_option maxHeartbeats 8000000 in
theorem implIntercalatesOf_yes (N : Nat) (g : Nat → UInt8) (w : World) (hs : sqB (N : Int) g = true) (hq : IsSq N g) :
    Calls Try.prog 35 #[.agg (sqc N g)] w (GotLL (aI g N N).length (getLL (aI g N N)) 0 w) := by
  have h10 := hq.hi
  have hN10 : (N : Int) ≤ 10 := by omega
  have HLA := hid (fun k (hk : k ≤ N) => aI_len hq k hk)
  have HLB := hid (fun a acc i (ha : a < N) => bI_len (acc := acc) hq ha i)
  have HLC := hid (fun a b acc k (ha : a < N) (hk : k ≤ N) => cI_len (b := b) (acc := acc) hq ha k hk)
  have HLD := hid (fun a b c acc i (ha : a < N) (hi : c + 1 + i ≤ N) => (dI_len (b := b) (c := c) (acc := acc) hq ha i hi).1)
  clear hq
  have hH := Has.start1 w (sqc N g) 31
  go_enter Try.func35, Try.ntmps35
  go_wp2_with (first | fail | (refine wpL_loadFull rfl rfl rfl rowSq hH.h0 (sqc_size _ _) ?_) | (go_at_call 55; refine (IsSquare_any N g _).mono ?_; rintro e w2 ⟨rfl, hb⟩; replace hH := hH.call' hb; clear hb; rw [hs]; have c0 := hH.c0 0; rw [sqc_get0] at c0))
  try clear c0
  have hP := hid (LP.nil w2 (w.heap.size + 1) (getLL []))
  obtain ⟨w1, hw1⟩ : ∃ q, w2 = q := ⟨_, rfl⟩
  subst hw1
  go_wp2
  go_loopw [4, 14] (fun v i wr => ∃ a : Nat, a ≤ N ∧ i = .int .i64 a ∧ Has w wr [(sqc N g, 31)] ∧ Hid (LP wr (w.heap.size + 1) v (aI g N a).length (getLL (aI g N a)))) (fun _ i _ => 20 - (intOf i).toNat)
  case atStart => exact ⟨0, by omega, rfl, hH, hP⟩
  case round =>
    clear hH hP
    obtain ⟨a, ha, rfl, hH, hP⟩ := hrel
    have cz : wr.cell? ⟨w.heap.size, 0, none⟩ = some (.int .i64 N) := by rw [hH.c0, sqc_get0]
    by_cases hal : a < N
    · have ha1 : (a : Int) < N := by omega
      have ha10 : (a : Int) < 10 := by omega
      have HAL := hid (HLA.out a (by omega))
      obtain ⟨A0, hA0⟩ : ∃ A, aI g N a = A := ⟨_, rfl⟩
      have HA0 := hid hA0
      rw [hA0] at hP HAL
      clear hA0
      go_wp2
      clear cz
      go_loopw [4, 6] (fun v i wr => ∃ t : Nat, a + 1 + t ≤ N ∧ i = .int .i64 ((a + 1 + t : Nat) : Int) ∧ Has w wr [(sqc N g, 31)] ∧ Hid (LP wr (w.heap.size + 1) v (bI g N a A0 t).length (getLL (bI g N a A0 t)))) (fun _ i _ => 20 - (intOf i).toNat)
      case atStart => exact ⟨0, by omega, by simp, hH, hP⟩
      case round =>
        clear hH hP
        obtain ⟨t, ht, rfl, hH, hP⟩ := hrel
        have cz : wr.cell? ⟨w.heap.size, 0, none⟩ = some (.int .i64 N) := by rw [hH.c0, sqc_get0]
        obtain ⟨b, hb⟩ : ∃ b, a + 1 + t = b := ⟨_, rfl⟩
        rw [hb] at ht ⊢
        by_cases hbl : b < N
        · have hb1 : (b : Int) < N := by omega
          have hb10 : (b : Int) < 10 := by omega
          have HBL := hid (HLB.out a A0 t hal)
          obtain ⟨A1, hA1⟩ : ∃ A, bI g N a A0 t = A := ⟨_, rfl⟩
          have HA1 := hid hA1
          rw [hA1] at hP HBL
          clear hA1
          go_wp2
          clear cz
          go_loopw [4, 27] (fun v i wr => ∃ c : Nat, c ≤ N ∧ i = .int .i64 c ∧ Has w wr [(sqc N g, 31)] ∧ Hid (LP wr (w.heap.size + 1) v (cI g N a b A1 c).length (getLL (cI g N a b A1 c)))) (fun _ i _ => 20 - (intOf i).toNat)
          case atStart => exact ⟨0, by omega, rfl, hH, hP⟩
          case round =>
            clear hH hP
            obtain ⟨c, hc, rfl, hH, hP⟩ := hrel
            have cz : wr.cell? ⟨w.heap.size, 0, none⟩ = some (.int .i64 N) := by rw [hH.c0, sqc_get0]
            by_cases hcl : c < N
            · have hc1 : (c : Int) < N := by omega
              have hc10 : (c : Int) < 10 := by omega
              have HCL := hid (HLC.out a b A1 c hal (by omega))
              obtain ⟨A2, hA2⟩ : ∃ A, cI g N a b A1 c = A := ⟨_, rfl⟩
              have HA2 := hid hA2
              rw [hA2] at hP HCL
              clear hA2
              go_wp2
              clear cz
              go_loopw [4, 8] (fun v i wr => ∃ u : Nat, c + 1 + u ≤ N ∧ i = .int .i64 ((c + 1 + u : Nat) : Int) ∧ Has w wr [(sqc N g, 31)] ∧ Hid (LP wr (w.heap.size + 1) v (dI g a b c A2 u).length (getLL (dI g a b c A2 u)))) (fun _ i _ => 20 - (intOf i).toNat)
              case atStart => exact ⟨0, by omega, by simp, hH, hP⟩
              case round =>
                clear hH hP
                obtain ⟨u, hu, rfl, hH, hP⟩ := hrel
                have cz : wr.cell? ⟨w.heap.size, 0, none⟩ = some (.int .i64 N) := by rw [hH.c0, sqc_get0]
                obtain ⟨d, hd⟩ : ∃ d, c + 1 + u = d := ⟨_, rfl⟩
                have HDE := hid hd
                rw [hd] at hu ⊢
                by_cases hdl : d < N
                · have hd1 : (d : Int) < N := by omega
                  have hd10 : (d : Int) < 10 := by omega
                  have HDL := hid (HLD.out a b c A2 u hal (by omega))
                  have hDlen : (dI g a b c A2 u).length ≤ 1000 := by have h1 := HDL.out; have h2 := HCL.out; have h3 := HBL.out; have h4 := HAL.out; omega
                  cases hq : q4 g a b c d with
                  | true =>
                    have HQ4 := hid hq
                    have HDN := hid (show dI g a b c A2 (u + 1) = dI g a b c A2 u ++ [four a b c d] by rw [← hd] at hq ⊢; exact dI_yes hq)
                    obtain ⟨A3, hA3⟩ : ∃ A, dI g a b c A2 u = A := ⟨_, rfl⟩
                    rw [hA3] at hP HDN hDlen
                    clear hA3 hq hd
                    obtain ⟨L3, hL3⟩ : ∃ L, A3.length = L := ⟨_, rfl⟩
                    have HL3 := hid hL3
                    rw [hL3] at hP hDlen
                    clear hL3
                    go_wp2_with (first | fail | (refine wpL_loadFull rfl rfl rfl rowSq hH.h0 (sqc_size _ _) ?_) | (go_at_call 69; refine (isIntercalate_any N a b c d g _ h10 hal hbl hcl hdl).mono ?_; rintro e w3 ⟨rfl, hb3⟩; rw [HQ4.out]; replace hH := hH.call' hb3; replace hP := hid (hP.out.below hb3); clear hb3; have zz := hH.size; simp only [List.length_cons, List.length_nil] at zz; obtain ⟨xs, X, p, q, hLx⟩ := (hP.out.congr (l' := getLL (A3 ++ [four a b c d])) (fun j hj => getLL_app (by rw [HL3.out]; exact hj))); have HLx := hid hLx; clear hP hLx) | (refine wpL_slice4 (x := (a : Nat)) (y := (b : Nat)) (u := (c : Nat)) (v := (d : Nat)) rfl (by rfl) (by rfl) (by rfl) (by rfl) (by rfl) ?_; have HIL := hid (IL_four w3 a b c d)) | (refine wpL_appS (v := u4) (n := L3) (base := w.heap.size + 1) (xs := xs) (p := some ⟨w3.heap.size, 0, none⟩) (l := 4) (k := 4) rfl (by rfl) (by rfl) (by rfl) (World.ownsRow.alloc (World.ownsRow.alloc HLx.out.own _) _) (by simp) (by omega) (by simp; omega) ?_; intro r cap w2 how hgr hor hlt3; have HP3 := hid (HLx.out.push (by omega) ((Below.refl _ _).alloc (Nat.le_refl _) _) (by rw [← HL3.out, getLL_new]; simpa using HIL.out) how hgr hor); replace hH := ((hH.alloc (.cells #[.int .i64 (a : Nat), .int .i64 (b : Nat), .int .i64 (c : Nat), .int .i64 (d : Nat)] 2)).alloc (.cells #[.slice (some ⟨w3.heap.size, 0, none⟩) 4 4] 38)).grown hgr (fun x hx => by have := (World.ownsRow.lt HLx.out.own x hx).1; simp; omega); clear how hgr hor hlt3))
                    go_roundw
                    case rel => exact ⟨u + 1, by have := HDE.out; omega, by rw [← HDE.out]; go_num, hH, by rw [HDN.out, List.length_append, HL3.out]; exact HP3⟩
                    case measure => simp [intOf]; omega
                  | false =>
                    have HQ4 := hid hq
                    have HDN := hid (show dI g a b c A2 (u + 1) = dI g a b c A2 u by rw [← hd] at hq; exact dI_no hq)
                    clear hq
                    go_wp2_with (first | fail | (refine wpL_loadFull rfl rfl rfl rowSq hH.h0 (sqc_size _ _) ?_) | (go_at_call 69; refine (isIntercalate_any N a b c d g _ h10 hal hbl hcl hdl).mono ?_; rintro e w3 ⟨rfl, hb3⟩; rw [HQ4.out]; replace hH := hH.call' hb3; replace hP := hid (hP.out.below hb3); clear hb3))
                    go_roundw
                    case rel => exact ⟨u + 1, by omega, by rw [← HDE.out]; go_num, hH, by rw [HDN.out]; exact hP⟩
                    case measure => simp [intOf]; omega
                · have hdN : d = N := by omega
                  subst hdN
                  have HN2 := hid (show cI g d a b A1 (c + 1) = dI g a b c A2 u by show dI g a b c (cI g d a b A1 c) (d - (c + 1)) = _; rw [HA2.out, show d - (c + 1) = u by omega])
                  go_wp2
                  go_roundw
                  case rel => exact ⟨c + 1, by omega, by go_num, hH, by rw [HN2.out]; exact hP⟩
                  case measure => simp [intOf]; omega
            · obtain rfl : c = N := by omega
              have HN2 := hid (show bI g c a A0 (t + 1) = cI g c a b A1 c by show cI g c a (a + 1 + t) (bI g c a A0 t) c = _; rw [HA1.out, hb])
              go_wp2
              go_roundw
              case rel => exact ⟨t + 1, by omega, by rw [← hb]; go_num, hH, by rw [HN2.out]; exact hP⟩
              case measure => simp [intOf]; omega
        · have hbN : b = N := by omega
          subst hbN
          have HN2 := hid (show aI g b (a + 1) = bI g b a A0 t by show bI g b a (aI g b a) (b - (a + 1)) = _; rw [HA0.out, show b - (a + 1) = t by omega])
          go_wp2
          go_roundw
          case rel => exact ⟨a + 1, by omega, by go_num, hH, by rw [HN2.out]; exact hP⟩
          case measure => simp [intOf]; omega
    · obtain rfl : a = N := by omega
      go_wp2
      go_ret2
      exact hP.out.got hH.below (by omega)
end Go.Proofs.Ytbdcbmennblcdaa
