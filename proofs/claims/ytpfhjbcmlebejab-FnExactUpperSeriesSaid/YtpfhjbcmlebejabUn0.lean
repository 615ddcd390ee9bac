/- Proved: what the model's l05Next returns, and that the upper central series ends. Conditions: those that each theorem names. -/
import Derived.Test.YtpfhjbcmlebejabAs0
import Derived.Test.YtpfhjbcmlebejabDy
import Derived.Test.YtpfhjbcmlebejabCl
import Derived.Test.YtpfhjbcmlebejabSb0
import Derived.Test.YtpfhjbcmlebejabLc
namespace Go.Proofs.Ytpfhjbcmlebejab
set_option linter.unusedVariables false
set_option linter.unusedSimpArgs false
open Go.RowKit
/-- The set that follows s in the upper central series. -/
noncomputable def nxS (g : Nat → UInt8) (N : Nat) (s : Nat → Bool) : Nat → Bool := foF N 4 s (dfF g N) N
/-- The associators of a with x and y are in s. -/
def T3 (g : Nat → UInt8) (N : Nat) (s : Nat → Bool) (a x y : Nat) : Prop := s (asc g N a x y).toNat = true ∧ s (asc g N x a y).toNat = true ∧ s (asc g N x y a).toNat = true
/-- As far as all x before k. -/
def NxP (g : Nat → UInt8) (N : Nat) (s : Nat → Bool) (a k : Nat) : Prop := ∀ x, x < k → s (cmm g N a x).toNat = true ∧ ∀ y, y < N → T3 g N s a x y
/-- b tells of all x before x, and of x with all y before y. -/
def NxI (g : Nat → UInt8) (N : Nat) (s : Nat → Bool) (a x y : Nat) (b : Bool) : Prop := b = true ↔ NxP g N s a x ∧ s (cmm g N a x).toNat = true ∧ ∀ y', y' < y → T3 g N s a x y'
def NxX (g : Nat → UInt8) (N : Nat) (s : Nat → Bool) (a x : Nat) (b : Bool) : Prop := b = true ↔ NxP g N s a x
theorem NxX.start (g : Nat → UInt8) (N : Nat) (s : Nat → Bool) (a : Nat) : NxX g N s a 0 true := by unfold NxX NxP; simp
theorem NxX.yes {g : Nat → UInt8} {N : Nat} {s : Nat → Bool} {a x : Nat} (h : NxX g N s a x true) {v : Bool} (hv : s (cmm g N a x).toNat = v) : NxI g N s a x 0 v := by
  unfold NxI; unfold NxX at h; rw [hv]
  exact ⟨fun e => ⟨h.1 rfl, e, fun _ h => by omega⟩, fun e => e.2.1⟩
theorem NxX.no {g : Nat → UInt8} {N : Nat} {s : Nat → Bool} {a x : Nat} (h : NxX g N s a x false) : NxI g N s a x 0 false := by
  unfold NxI; unfold NxX at h
  exact ⟨fun e => (by cases e), fun e => h.2 e.1⟩
theorem NxI.no {g : Nat → UInt8} {N : Nat} {s : Nat → Bool} {a x y : Nat} (h : NxI g N s a x y false) : NxI g N s a x (y + 1) false := by
  unfold NxI at *
  exact ⟨fun e => (by cases e), fun e => h.2 ⟨e.1, e.2.1, fun y' hy => e.2.2 y' (by omega)⟩⟩
theorem NxI.yes {g : Nat → UInt8} {N : Nat} {s : Nat → Bool} {a x y : Nat} (h : NxI g N s a x y true) {v : Bool} (hv : v = true ↔ T3 g N s a x y) : NxI g N s a x (y + 1) v := by
  unfold NxI at *
  have h1 := h.1 rfl
  constructor
  · intro e
    refine ⟨h1.1, h1.2.1, fun y' hy => ?_⟩
    by_cases q : y' = y
    · subst q; exact hv.1 e
    · exact h1.2.2 y' (by omega)
  · intro e
    exact hv.2 (e.2.2 y (by omega))
theorem NxI.done {g : Nat → UInt8} {N : Nat} {s : Nat → Bool} {a x : Nat} {b : Bool} (h : NxI g N s a x N b) : NxX g N s a (x + 1) b := by
  unfold NxI at h; unfold NxX
  rw [h]
  constructor
  · rintro ⟨h1, h2, h3⟩ x' hx
    by_cases q : x' = x
    · subst q; exact ⟨h2, h3⟩
    · exact h1 x' (by omega)
  · intro h1
    exact ⟨fun x' hx => h1 x' (by omega), (h1 x (by omega)).1, (h1 x (by omega)).2⟩
theorem NxX.done {g : Nat → UInt8} {N : Nat} {s : Nat → Bool} {a : Nat} {b : Bool} (h : NxX g N s a N b) (hN : 1 ≤ N) : b = winB N 4 s (dfF g N) a := bool_same (by
  unfold NxX at h
  rw [h, winB_iff]
  constructor
  · intro h1 x hx y hy j hj
    have h2 := h1 x hx
    have h3 := h2.2 y hy
    have : j = 0 ∨ j = 1 ∨ j = 2 ∨ j = 3 := by omega
    rcases this with rfl | rfl | rfl | rfl
    · exact h3.1
    · exact h3.2.1
    · exact h3.2.2
    · exact h2.1
  · intro h1 x hx
    exact ⟨h1 x hx 0 (by omega) 3 (by omega), fun y hy => ⟨h1 x hx y hy 0 (by omega), h1 x hx y hy 1 (by omega), h1 x hx y hy 2 (by omega)⟩⟩)
theorem foF_next {N m : Nat} {s : Nat → Bool} {D : Nat → Nat → Nat → Nat → UInt8} {k : Nat} {b : Bool} (h : b = winB N m s D k) (j : Nat) : foF N m s D (k + 1) j = if j = k then b else foF N m s D k j := by
  cases b with
  | true => exact foF_yes h.symm j
  | false =>
    rw [foF_no h.symm]
    by_cases e : j = k
    · subst e; rw [if_pos rfl]; unfold foF; simp
    · rw [if_neg e]
theorem l05Commutator_nat (N x y : Nat) (g : Nat → UInt8) (w : World) (hq : IsSq N g) (hx : x < N) (hy : y < N) :
    Calls Try.prog 149 #[.agg (sqc N g), .int .u8 x, .int .u8 y] w fun e w' => e = .returned (.int .u8 (cmm g N x y).toNat) ∧ Below w.heap.size w w' := by
  have h10 := hq.hi
  have := l05Commutator_any N g (UInt8.ofNat x) (UInt8.ofNat y) w hq (by rw [u8_of x (by omega)]; exact hx) (by rw [u8_of y (by omega)]; exact hy)
  rw [u8_of x (by omega), u8_of y (by omega)] at this
  exact this
theorem l05Associator_nat (N x y z : Nat) (g : Nat → UInt8) (w : World) (hq : IsSq N g) (hx : x < N) (hy : y < N) (hz : z < N) :
    Calls Try.prog 150 #[.agg (sqc N g), .int .u8 x, .int .u8 y, .int .u8 z] w fun e w' => e = .returned (.int .u8 (asc g N x y z).toNat) ∧ Below w.heap.size w w' := by
  have h10 := hq.hi
  have := l05Associator_any N g (UInt8.ofNat x) (UInt8.ofNat y) (UInt8.ofNat z) w hq (by rw [u8_of x (by omega)]; exact hx) (by rw [u8_of y (by omega)]; exact hy) (by rw [u8_of z (by omega)]; exact hz)
  rw [u8_of x (by omega), u8_of y (by omega), u8_of z (by omega)] at this
  exact this
set_option maxRecDepth 100000 in
set_option maxHeartbeats 20000000 in
theorem l05Next_any (N : Nat) (g : Nat → UInt8) (s : Nat → Bool) (w : World) (hq : IsSq N g) :
    Calls Try.prog 125 #[.agg (sqc N g), .agg (bls 10 s)] w fun e w' => e = .returned (.agg (bls 10 (nxS g N s))) ∧ Below w.heap.size w w' := by
  have h1 := hq.lo
  have h10 := hq.hi
  have hN10 : (N : Int) ≤ 10 := by omega
  have hH := Has.start3 w (sqc N g) (bls 10 s) (bls 10 fun _ => false) 30 90 90
  have hs0 : (((w.alloc (.cells (sqc N g) 30)).alloc (.cells (bls 10 s) 90)).alloc (.cells (bls 10 fun _ => false) 90)).heap.size = w.heap.size + 1 + 1 + 1 := by simp
  have HQ := hid hq
  clear hq
  go_enter Try.func125, Try.ntmps125
  go_wp2_with (first | fail | (refine wpL_alloc rfl rfl zeroBo ?_; intro g0 hg0; (try simp at hg0); subst hg0))
  refine wp_region_frame (X := Unit) (fun d _ => [(11, bif d 0 then .agg (bls 10 fun _ => false) else undef), (12, bif d 1 then .pointer (some ⟨w.heap.size, 0, none⟩) else undef), (13, bif d 2 then .int .i64 N else undef), (14, bif d 3 then .int .u8 N else undef), (5, bif d 4 then .pointer (some ⟨w.heap.size + 1 + 1 + 1, 0, none⟩) else undef), (6, bif d 6 then .int .u8 N else undef)])
    (fun d _ w' => Has w w' [(sqc N g, 30), (bls 10 s, 90), (bls 10 fun _ => false, 90)] ∧ (d 4 = true → Has w w' [(sqc N g, 30), (bls 10 s, 90), (bls 10 fun _ => false, 90), (bls 10 fun _ => false, 90)]) ∧ (d 4 = false → w'.heap.size = w.heap.size + 1 + 1 + 1)) (by kernel_rfl) (by kernel_rfl) ?h0_ra ?hs_ra ?hq_ra
  case h0_ra => exact ⟨(), (by simp [lput]), hH.drew, (fun h => by cases h), (fun _ => (show _ from hs0))⟩
  case hs_ra =>
    refine ⟨?_, ?_, ?_, ?_, ?_, ?_, ?_, trivial⟩
    all_goals
      clear hH hs0
      intro d _ w1 hd hn hJ
      simp only [needs, Region.binds, reduceCtorEq, Bool.false_eq_true, false_implies, true_and, and_true, true_implies, forall_const] at hn
      simp only [lput, List.set, hn, cond_true]
      obtain ⟨hH, hB, hs0⟩ := hJ
      (try have hB_ := hB (by simp only [hn]))
      (try have hs0_ := hs0 hd)
      have c0 := hH.c0 0
      rw [sqc_get0] at c0
      go_wp2_with (first | fail | (refine wpL_build rfl rfl builtBo ?_) | (refine wpL_alloc rfl rfl zeroBo ?_; intro g0 hg0; rw [hs0_] at hg0; subst hg0; have hB2 := hH.push (by simpa using hs0_) (bls 10 fun _ => false) 90; replace hH := hH.alloc (.cells (bls 10 fun _ => false) 90)) | (refine wpL_storeSame rfl rfl rfl rfl rowBo hB_.h3 (bls_ok _ _) ?_))
      first
        | (refine ⟨?_, hH, (fun _ => hB2), (fun e => by simp [done] at e)⟩; (simp [lput, done, hn]; done))
        | (refine ⟨(), ?_, hH, (fun e => hB (done_ne e (by decide))), (fun e => hs0 (done_no e))⟩; (simp [lput, done, hn]; done))
        | (refine ⟨?_, hH, (fun e => hB (done_ne e (by decide))), (fun e => hs0 (done_no e))⟩; (simp [lput, done, hn]; done))
        | (refine ⟨(), ?_, hH, (fun e => hB (done_ne e (by decide))), (fun e => hs0 (done_no e))⟩; (simp [lput, done, hn]; rfl))
        | (refine ⟨?_, hH, (fun e => hB (done_ne e (by decide))), (fun e => hs0 (done_no e))⟩; (simp [lput, done, hn]; rfl))
        | (refine ⟨(), ?_, hH, (fun e => hB (done_ne e (by decide))), (fun e => hs0 (done_no e))⟩; (simp [lput, done]; done))
        | (refine ⟨?_, hH, (fun e => hB (done_ne e (by decide))), (fun e => hs0 (done_no e))⟩; (simp [lput, done]; done))
        | (refine ⟨(), ?_, hH, (fun e => hB (done_ne e (by decide))), (fun e => hs0 (done_no e))⟩; (simp [lput, done]; rfl))
        | (refine ⟨?_, hH, (fun e => hB (done_ne e (by decide))), (fun e => hs0 (done_no e))⟩; (simp [lput, done]; rfl))
  case hq_ra =>
    clear hH hs0
    intro d _ w1 hd hJ
    simp only [allDone, List.length_cons, List.length_nil, Nat.reduceAdd, and_true] at hd
    obtain ⟨hH, hB, hs0⟩ := hJ
    replace hB := hB (by simp only [hd])
    clear hs0
    simp only [lput, List.set, hd, cond_true]
    clear hd
    clear hH
    have hH := hB
    clear hB
    go_wp2
    go_loopw [7] (fun i wr => ∃ a : Nat, a ≤ N ∧ i = .int .u8 a ∧ Has w wr [(sqc N g, 30), (bls 10 s, 90), (bls 10 fun _ => false, 90), (bls 10 (foF N 4 s (dfF g N) a), 90)]) (fun i _ => 20 - (intOf i).toNat)
    case atStart => exact ⟨0, by omega, rfl, by rw [foF_zero]; exact hH⟩
    case round =>
      clear hH
      obtain ⟨a, haN, rfl, hH⟩ := hrel
      by_cases ha : a < N
      · have ha1 : (a : Int) < N := by omega
        have ha10 : (a : Int) < 10 := by omega
        have ha10' : a < 10 := by omega
        obtain ⟨wa, hwa⟩ : ∃ wa : World, wa = wr := ⟨_, rfl⟩
        subst hwa
        go_wp2
        go_loopw [8, 9] (fun b i wr => ∃ (x : Nat) (v : Bool), x ≤ N ∧ i = .int .u8 x ∧ b = .bool v ∧ Has w wr [(sqc N g, 30), (bls 10 s, 90), (bls 10 fun _ => false, 90), (bls 10 (foF N 4 s (dfF g N) a), 90)] ∧ Hid (NxX g N s a x v)) (fun _ i _ => 20 - (intOf i).toNat)
        case atStart => exact ⟨0, true, by omega, rfl, rfl, hH, hid (NxX.start g N s a)⟩
        case round =>
          clear hH
          obtain ⟨x, v, hxN, rfl, rfl, hH, HX⟩ := hrel
          by_cases hx : x < N
          · have hx1 : (x : Int) < N := by omega
            have hx10 : (x : Int) < 10 := by omega
            obtain ⟨wx, hwx⟩ : ∃ wx : World, wx = wr := ⟨_, rfl⟩
            subst hwx
            have hcl : (cmm g N a x).toNat < 10 := by have := cmm_lt HQ.out ha hx; omega
            have hci : ((cmm g N a x).toNat : Int) < 10 := by omega
            obtain ⟨z, hz⟩ : ∃ z, (cmm g N a x).toNat = z := ⟨_, rfl⟩
            rw [hz] at hcl hci
            have HZ := hid hz
            clear hz
            obtain ⟨sv, hsv⟩ : ∃ sv, s z = sv := ⟨_, rfl⟩
            have HSV := hid hsv
            clear hsv
            have HN : Hid (NxI g N s a x 0 (bif v then sv else false)) := by
              cases v with
              | true => exact hid (HX.out.yes (by rw [HZ.out]; exact HSV.out))
              | false => exact hid HX.out.no
            cases v with
            | true =>
              go_wp2_with (first | fail | (refine wpL_guard rfl rfl ?_) | (refine wpL_loadFull rfl rfl rfl rowSq hH.h0 (sqc_size _ _) ?_) | (go_at_call 149; refine (l05Commutator_nat N a x g _ HQ.out ha hx).mono ?_; rintro e w3 ⟨rfl, hb⟩; rw [HZ.out]; replace hH := hH.call' hb; clear hb; have cz := hH.c1 z; rw [bls_get _ _ _ hcl, HSV.out] at cz))
              clear cz
              go_loopw [8, 10] (fun b i wr => ∃ (y : Nat) (v : Bool), y ≤ N ∧ i = .int .u8 y ∧ b = .bool v ∧ Has w wr [(sqc N g, 30), (bls 10 s, 90), (bls 10 fun _ => false, 90), (bls 10 (foF N 4 s (dfF g N) a), 90)] ∧ Hid (NxI g N s a x y v)) (fun _ i _ => 20 - (intOf i).toNat)
              case atStart => exact ⟨0, sv, by omega, rfl, rfl, hH, HN⟩
              case round =>
                clear hH
                obtain ⟨y, v, hyN, rfl, rfl, hH, HI⟩ := hrel
                by_cases hy : y < N
                · have hy1 : (y : Int) < N := by omega
                  have hy10 : (y : Int) < 10 := by omega
                  have hl1 : (asc g N a x y).toNat < 10 := by have := asc_lt HQ.out ha hx hy; omega
                  have hl2 : (asc g N x a y).toNat < 10 := by have := asc_lt HQ.out hx ha hy; omega
                  have hl3 : (asc g N x y a).toNat < 10 := by have := asc_lt HQ.out hx hy ha; omega
                  obtain ⟨z1, hz1⟩ : ∃ z, (asc g N a x y).toNat = z := ⟨_, rfl⟩
                  obtain ⟨z2, hz2⟩ : ∃ z, (asc g N x a y).toNat = z := ⟨_, rfl⟩
                  obtain ⟨z3, hz3⟩ : ∃ z, (asc g N x y a).toNat = z := ⟨_, rfl⟩
                  rw [hz1] at hl1
                  rw [hz2] at hl2
                  rw [hz3] at hl3
                  have hi1 : (z1 : Int) < 10 := by omega
                  have hi2 : (z2 : Int) < 10 := by omega
                  have hi3 : (z3 : Int) < 10 := by omega
                  obtain ⟨s1, hs1⟩ : ∃ b, s z1 = b := ⟨_, rfl⟩
                  obtain ⟨s2, hs2⟩ : ∃ b, s z2 = b := ⟨_, rfl⟩
                  obtain ⟨s3, hs3⟩ : ∃ b, s z3 = b := ⟨_, rfl⟩
                  have HT : Hid (T3 g N s a x y ↔ (s1 = true ∧ s2 = true ∧ s3 = true)) := hid (by unfold T3; rw [hz1, hz2, hz3, hs1, hs2, hs3])
                  have Z1 := hid hz1
                  have Z2 := hid hz2
                  have Z3 := hid hz3
                  have S1 := hid hs1
                  have S2 := hid hs2
                  have S3 := hid hs3
                  clear hz1 hz2 hz3 hs1 hs2 hs3
                  cases v with
                  | false =>
                    go_wp2
                    go_roundw
                    case rel => exact ⟨y + 1, false, by omega, by go_num, rfl, hH, hid HI.out.no⟩
                    case measure => simp [intOf]; omega
                  | true =>
                    cases s1 with
                    | false =>
                      go_wp2_with (first | fail | (refine wpL_guard rfl rfl ?_) | (refine wpL_loadFull rfl rfl rfl rowSq hH.h0 (sqc_size _ _) ?_) | (go_at_call 150; refine (l05Associator_nat N a x y g _ HQ.out ha hx hy).mono ?_; rintro e w3 ⟨rfl, hb⟩; rw [Z1.out]; replace hH := hH.call' hb; clear hb; have cz := hH.c1 z1; rw [bls_get _ _ _ hl1, S1.out] at cz))
                      go_roundw
                      case rel => exact ⟨y + 1, false, by omega, by go_num, rfl, hH, hid (HI.out.yes (by rw [HT.out]; simp))⟩
                      case measure => simp [intOf]; omega
                    | true =>
                      cases s2 with
                      | false =>
                        go_wp2_with (first | fail | (refine wpL_guard rfl rfl ?_) | (refine wpL_loadFull rfl rfl rfl rowSq hH.h0 (sqc_size _ _) ?_) | (go_at_call 150; with_reducible refine (l05Associator_nat N a x y g _ HQ.out ha hx hy).mono ?_; rintro e w3 ⟨rfl, hb⟩; rw [Z1.out]; replace hH := hH.call' hb; clear hb; have cz := hH.c1 z1; rw [bls_get _ _ _ hl1, S1.out] at cz; clear Z1) | (go_at_call 150; with_reducible refine (l05Associator_nat N x a y g _ HQ.out hx ha hy).mono ?_; rintro e w3 ⟨rfl, hb⟩; rw [Z2.out]; replace hH := hH.call' hb; clear hb; have cz2 := hH.c1 z2; rw [bls_get _ _ _ hl2, S2.out] at cz2))
                        go_roundw
                        case rel => exact ⟨y + 1, false, by omega, by go_num, rfl, hH, hid (HI.out.yes (by rw [HT.out]; simp))⟩
                        case measure => simp [intOf]; omega
                      | true =>
                        go_wp2_with (first | fail | (refine wpL_guard rfl rfl ?_) | (refine wpL_loadFull rfl rfl rfl rowSq hH.h0 (sqc_size _ _) ?_) | (go_at_call 150; with_reducible refine (l05Associator_nat N a x y g _ HQ.out ha hx hy).mono ?_; rintro e w3 ⟨rfl, hb⟩; rw [Z1.out]; replace hH := hH.call' hb; clear hb; have cz := hH.c1 z1; rw [bls_get _ _ _ hl1, S1.out] at cz; clear Z1) | (go_at_call 150; with_reducible refine (l05Associator_nat N x a y g _ HQ.out hx ha hy).mono ?_; rintro e w3 ⟨rfl, hb⟩; rw [Z2.out]; replace hH := hH.call' hb; clear hb; have cz2 := hH.c1 z2; rw [bls_get _ _ _ hl2, S2.out] at cz2; clear Z2) | (go_at_call 150; with_reducible refine (l05Associator_nat N x y a g _ HQ.out hx hy ha).mono ?_; rintro e w3 ⟨rfl, hb⟩; rw [Z3.out]; replace hH := hH.call' hb; clear hb; have cz3 := hH.c1 z3; rw [bls_get _ _ _ hl3, S3.out] at cz3))
                        go_roundw
                        case rel => exact ⟨y + 1, s3, by omega, by go_num, rfl, hH, hid (HI.out.yes (by rw [HT.out]; simp))⟩
                        case measure => simp [intOf]; omega
                · obtain rfl : y = N := by omega
                  have HX2 := hid HI.out.done
                  go_wp2
                  go_roundw
                  case rel => exact ⟨x + 1, v, by omega, by go_num, rfl, hH, HX2⟩
                  case measure => simp [intOf]; omega
            | false =>
              go_wp2
              go_loopw [8, 10] (fun b i wr => ∃ y : Nat, y ≤ N ∧ i = .int .u8 y ∧ b = .bool false ∧ Has w wr [(sqc N g, 30), (bls 10 s, 90), (bls 10 fun _ => false, 90), (bls 10 (foF N 4 s (dfF g N) a), 90)] ∧ Hid (NxI g N s a x y false)) (fun _ i _ => 20 - (intOf i).toNat)
              case atStart => exact ⟨0, by omega, rfl, rfl, hH, HN⟩
              case round =>
                clear hH
                obtain ⟨y, hyN, rfl, rfl, hH, HI⟩ := hrel
                by_cases hy : y < N
                · have hy1 : (y : Int) < N := by omega
                  have hy10 : (y : Int) < 10 := by omega
                  go_wp2
                  go_roundw
                  case rel => exact ⟨y + 1, by omega, by go_num, rfl, hH, hid HI.out.no⟩
                  case measure => simp [intOf]; omega
                · obtain rfl : y = N := by omega
                  have HX2 := hid HI.out.done
                  go_wp2
                  go_roundw
                  case rel => exact ⟨x + 1, false, by omega, by go_num, rfl, hH, HX2⟩
                  case measure => simp [intOf]; omega
          · obtain rfl : x = N := by omega
            have HD := hid (HX.out.done h1)
            have f3 := hH.f3
            obtain ⟨v3, c3⟩ : ∃ v, wr.cell? ⟨w.heap.size + 1 + 1 + 1, a, none⟩ = some v := ⟨_, by rw [hH.c3, bls_get _ _ _ ha10']⟩
            go_wp2
            go_roundw
            case rel => exact ⟨a + 1, by omega, by go_num, hH.s3 _ _ (bls_step 10 _ _ a v (fun j _ => foF_next HD.out j))⟩
            case measure => simp [intOf]; omega
      · obtain rfl : a = N := by omega
        go_wp2_with (first | fail | (refine wpL_loadFull rfl rfl rfl rowBo hH.h3 (bls_size _ _) ?_) | (refine wpL_storeFull rfl rfl rfl rfl rowBo hH.h2 (bls_size _ _) (bls_ok _ _) ?_))
        exact ret_c rfl rfl hH.r2.h2 rowBo (bls_size _ _) ⟨rfl, hH.r2.below⟩
end Go.Proofs.Ytpfhjbcmlebejab
