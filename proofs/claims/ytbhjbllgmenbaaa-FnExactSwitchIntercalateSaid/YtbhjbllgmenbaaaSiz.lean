/- Proved: what SwitchIntercalate returns, of program and model alike. Conditions: those that each theorem names. -/
import Derived.Test.YtbhjbllgmenbaaaIc
import Derived.Test.YtbhjbllgmenbaaaSw5
import Derived.Test.YtbhjbllgmenbaaaIa
namespace Go.Proofs.Ytbhjbllgmenbaaa
set_option linter.unusedVariables false
set_option linter.unusedSimpArgs false
open Go.RowKit
theorem Row.drewQ {w : World} {b n : Nat} {f : Nat → Int} (h : Row w b n f) (k : Nat) : Row (w.drewN k) b n f := h.block rfl
theorem siIn_yes (n : Int) (M : Nat) (h : 0 ≤ n ∧ n < M) (w : World) : Calls Try.prog 61 #[.int .i64 n, .int .i64 0, .int .i64 ((M : Int) - 1)] w fun e w' => e = .returned (.bool true) ∧ w' = w := by
  refine (l01In_any n 0 ((M : Int) - 1) w).mono ?_
  rintro e w' ⟨rfl, rfl⟩
  exact ⟨by rw [inB_true h.1 (by omega)], rfl⟩
theorem siIn_no (n : Int) (M : Nat) (h : ¬ (0 ≤ n ∧ n < M)) (w : World) : Calls Try.prog 61 #[.int .i64 n, .int .i64 0, .int .i64 ((M : Int) - 1)] w fun e w' => e = .returned (.bool false) ∧ w' = w := by
  refine (l01In_any n 0 ((M : Int) - 1) w).mono ?_
  rintro e w' ⟨rfl, rfl⟩
  exact ⟨by rw [inB_false (by omega)], rfl⟩
set_option maxRecDepth 20000 in
set_option maxHeartbeats 2000000 in
theorem l09Four_no (o : Int) (g : Nat → UInt8) (v : Value) (w : World) (hs : sqB o g = false) :
    Calls Try.prog 53 #[.agg (sqc o g), v] w fun e w' => e = .returned (.int .i64 1) ∧ Below w.heap.size w w' := by
  have hH := Has.start1 w (sqc o g) 29
  go_enter Try.func53, Try.ntmps53
  go_wp2_with (first | fail | (refine wpL_loadFull rfl rfl rfl rowSq hH.h0 (sqc_size _ _) ?_) | (go_at_call 70; refine (l01Is_any o g _).mono ?_; rintro e w2 ⟨rfl, hb⟩; replace hH := hH.call' hb; clear hb; rw [hs]))
  go_ret
  exact ⟨rfl, hH.below⟩
set_option maxRecDepth 20000 in
set_option maxHeartbeats 4000000 in
theorem l09Four_ord (N n b c : Nat) (g : Nat → UInt8) (f : Nat → Int) (w : World) (hs : sqB (N : Int) g = true) (hn : n ≤ 1048576) (hR : Row w b n f) (h : ¬ n = 4 ∨ (n = 4 ∧ (f 1 ≤ f 0 ∨ f 3 ≤ f 2))) :
    Calls Try.prog 53 #[.agg (sqc N g), .slice (some ⟨b, 0, none⟩) n c] w fun e w' => e = .returned (.int .i64 2) ∧ Below w.heap.size w w' := by
  have hH := Has.start1 w (sqc N g) 29
  replace hR := hid (hR.alloc (.cells (sqc N g) 29))
  rcases h with h | ⟨rfl, h⟩
  · have h4 : ¬ (n : Int) = 4 := by omega
    have e4 : ((n : Int) == 4) = false := by simpa using h4
    go_enter Try.func53, Try.ntmps53
    go_wp2_with (first | fail | (refine wpL_loadFull rfl rfl rfl rowSq hH.h0 (sqc_size _ _) ?_) | (go_at_call 70; refine (l01Is_any N g _).mono ?_; rintro e w2 ⟨rfl, hb⟩; replace hH := hH.call' hb; clear hb; rw [hs]))
    go_quiet (fail)
    go_wp2
    go_ret
    exact ⟨rfl, (hH.drewN _).below⟩
  · obtain ⟨p, hp⟩ : ∃ p, f 0 = p := ⟨_, rfl⟩
    obtain ⟨q, hqq⟩ : ∃ p, f 1 = p := ⟨_, rfl⟩
    obtain ⟨r, hr⟩ : ∃ p, f 2 = p := ⟨_, rfl⟩
    obtain ⟨s, hss⟩ : ∃ p, f 3 = p := ⟨_, rfl⟩
    rw [hp, hqq, hr, hss] at h
    have HP := hid hp
    have HQ := hid hqq
    have HR := hid hr
    have HS := hid hss
    clear hp hqq hr hss
    by_cases h01 : q ≤ p
    · clear h
      go_enter Try.func53, Try.ntmps53
      go_wp2_with (first | fail | (refine wpL_loadFull rfl rfl rfl rowSq hH.h0 (sqc_size _ _) ?_) | (go_at_call 70; refine (l01Is_any N g _).mono ?_; rintro e w2 ⟨rfl, hb⟩; replace hH := hH.call' hb; replace hR := hid (hR.out.below hb); clear hb; rw [hs]; have c1 := hR.out.cell (i := 0) (by omega); have c2 := hR.out.cell (i := 1) (by omega); rw [HP.out] at c1; rw [HQ.out] at c2))
      go_quiet (fail)
      go_wp2
      go_ret
      exact ⟨rfl, (hH.drewN _).below⟩
    · have h23 : s ≤ r := by omega
      have e01 : decide (q ≤ p) = false := decide_eq_false h01
      clear h
      go_enter Try.func53, Try.ntmps53
      go_wp2_with (first | fail | (refine wpL_loadFull rfl rfl rfl rowSq hH.h0 (sqc_size _ _) ?_) | (go_at_call 70; refine (l01Is_any N g _).mono ?_; rintro e w2 ⟨rfl, hb⟩; replace hH := hH.call' hb; replace hR := hid (hR.out.below hb); clear hb; rw [hs]; have c1 := hR.out.cell (i := 0) (by omega); have c2 := hR.out.cell (i := 1) (by omega); have c3 := hR.out.cell (i := 2) (by omega); have c4 := hR.out.cell (i := 3) (by omega); rw [HP.out] at c1; rw [HQ.out] at c2; rw [HR.out] at c3; rw [HS.out] at c4))
      go_quiet (fail)
      go_wp2
      go_ret
      exact ⟨rfl, (hH.drewN _).below⟩
set_option maxRecDepth 20000 in
set_option maxHeartbeats 4000000 in
theorem l09Four_in (N b c k0 : Nat) (g : Nat → UInt8) (f : Nat → Int) (z : Int) (w : World) (hs : sqB (N : Int) g = true) (hR : Row w b 4 f) (h01 : f 0 < f 1) (h23 : f 2 < f 3) (hlo : ∀ k, k < k0 → 0 ≤ f k ∧ f k < N) (hk0 : k0 ≤ 4) (hz : (k0 = 4 ∧ z = 0) ∨ (k0 < 4 ∧ ¬ (0 ≤ f k0 ∧ f k0 < N) ∧ z = 2)) :
    Calls Try.prog 53 #[.agg (sqc N g), .slice (some ⟨b, 0, none⟩) 4 c] w fun e w' => e = .returned (.int .i64 z) ∧ Below w.heap.size w w' := by
  have HL := hid hlo
  have HZ := hid hz
  have hN1 := (sqB_range hs).1
  have hN2 := (sqB_range hs).2
  clear hlo hz
  have hH := Has.start1 w (sqc N g) 29
  replace hR := hid (hR.alloc (.cells (sqc N g) 29))
  obtain ⟨p, hp⟩ : ∃ p, f 0 = p := ⟨_, rfl⟩
  obtain ⟨q, hqq⟩ : ∃ p, f 1 = p := ⟨_, rfl⟩
  obtain ⟨r, hr⟩ : ∃ p, f 2 = p := ⟨_, rfl⟩
  obtain ⟨s, hss⟩ : ∃ p, f 3 = p := ⟨_, rfl⟩
  rw [hp, hqq] at h01
  rw [hr, hss] at h23
  have HP := hid hp
  have HQ := hid hqq
  have HR := hid hr
  have HS := hid hss
  clear hp hqq hr hss
  have n01 : ¬ q ≤ p := by omega
  have n23 : ¬ s ≤ r := by omega
  have e01 : decide (q ≤ p) = false := decide_eq_false n01
  have e23 : decide (s ≤ r) = false := decide_eq_false n23
  go_enter Try.func53, Try.ntmps53
  go_wp2_with (first | fail | (refine wpL_loadFull rfl rfl rfl rowSq hH.h0 (sqc_size _ _) ?_) | (go_at_call 70; refine (l01Is_any N g _).mono ?_; rintro e w2 ⟨rfl, hb⟩; replace hH := hH.call' hb; replace hR := hid (hR.out.below hb); clear hb; rw [hs]; have c1 := hR.out.cell (i := 0) (by omega); have c2 := hR.out.cell (i := 1) (by omega); have c3 := hR.out.cell (i := 2) (by omega); have c4 := hR.out.cell (i := 3) (by omega); rw [HP.out] at c1; rw [HQ.out] at c2; rw [HR.out] at c3; rw [HS.out] at c4))
  go_quiet (fail)
  clear c1 c2 c3 c4
  replace hH := hH.drewN nq
  replace hR := hid (hR.out.drewQ nq)
  go_wp2
  go_loopw [5] (fun i wr => ∃ k : Nat, k ≤ k0 ∧ i = .int .i64 k ∧ Has w wr [(sqc N g, 29)] ∧ Hid (Row wr b 4 f)) (fun i _ => 10 - (intOf i).toNat)
  case atStart => exact ⟨0, by omega, rfl, hH, hR⟩
  case round =>
    clear hH hR
    obtain ⟨k, hk, rfl, hH, hR⟩ := hrel
    have e2 : IntKind.i64.wrap ((N : Int) - 1) = (N : Int) - 1 := IntWalk.i64_in _ (by omega)
    have cz : wr.cell? ⟨w.heap.size, 0, none⟩ = some (.int .i64 N) := by rw [hH.c0, sqc_get0]
    by_cases hlt : k < k0
    · have hk4 : (k : Int) < 4 := by omega
      have cl := hR.out.cell (i := k) (by omega)
      have hC := siIn_yes (f k) N (HL.out k hlt)
      go_wp2
      go_quiet ((go_at_call 61; exact Calls.quiet_of_same (hC _)))
      go_wp2
      go_roundw
      case rel => exact ⟨k + 1, by omega, by go_num, hH.drewN _, hid (hR.out.drewQ _)⟩
      case measure => simp [intOf]; omega
    · obtain rfl : k = k0 := by omega
      rcases HZ.out with ⟨rfl, rfl⟩ | ⟨h4, hno, rfl⟩
      · go_wp2
        go_ret
        exact ⟨rfl, hH.below⟩
      · have hk4 : (k : Int) < 4 := by omega
        have cl := hR.out.cell (i := k) h4
        have hC := siIn_no (f k) N hno
        clear hno
        go_wp2
        go_quiet ((go_at_call 61; exact Calls.quiet_of_same (hC _)))
        go_wp2
        go_ret
        exact ⟨rfl, (hH.drewN _).below⟩
end Go.Proofs.Ytbhjbllgmenbaaa
namespace Go.Proofs.Ytbhjbllgmenbaaa
set_option linter.unusedVariables false
set_option linter.unusedSimpArgs false
open Go.RowKit
/-- The two columns of an intercalate. -/
def twoS (c d : Nat) : Nat → Bool := fun y => decide (y = c ∨ y = d)
def si1 (g : Nat → UInt8) (a c d : Nat) : Nat → UInt8 := fun j => if j = a * 10 + c then g (a * 10 + d) else g j
def si2 (g : Nat → UInt8) (a c d : Nat) : Nat → UInt8 := fun j => if j = a * 10 + d then g (a * 10 + c) else si1 g a c d j
def si3 (g : Nat → UInt8) (a b c d : Nat) : Nat → UInt8 := fun j => if j = b * 10 + c then g (a * 10 + c) else si2 g a c d j
def si4 (g : Nat → UInt8) (a b c d : Nat) : Nat → UInt8 := fun j => if j = b * 10 + d then g (a * 10 + d) else si3 g a b c d j
theorem q4_eq {g : Nat → UInt8} {a b c d : Nat} (h : q4 g a b c d = true) : g (a * 10 + c) = g (b * 10 + d) ∧ g (a * 10 + d) = g (b * 10 + c) := by
  have h2 := of_decide_eq_true h
  exact ⟨UInt8.toNat.inj h2.1, UInt8.toNat.inj h2.2⟩
theorem si4_is {g : Nat → UInt8} {a b c d : Nat} (hab : a ≠ b) (hc : c < 10) (hd : d < 10) (h : q4 g a b c d = true) : si4 g a b c d = swF g a b (twoS c d) := by
  obtain ⟨e1, e2⟩ := q4_eq h
  have sc : twoS c d c = true := by simp [twoS]
  have sd : twoS c d d = true := by simp [twoS]
  funext j
  unfold si4
  by_cases j1 : j = b * 10 + d
  · subst j1
    rw [if_pos rfl, swF_b hd hab, if_pos sd]
  · rw [if_neg j1]
    unfold si3
    by_cases j2 : j = b * 10 + c
    · subst j2
      rw [if_pos rfl, swF_b hc hab, if_pos sc]
    · rw [if_neg j2]
      unfold si2
      by_cases j3 : j = a * 10 + d
      · subst j3
        rw [if_pos rfl, swF_a hd, if_pos sd, e1]
      · rw [if_neg j3]
        unfold si1
        by_cases j4 : j = a * 10 + c
        · subst j4
          rw [if_pos rfl, swF_a hc, if_pos sc, e2]
        · rw [if_neg j4]
          unfold swF
          rw [if_neg (fun q => ?_), if_neg (fun q => ?_)]
          · have := of_decide_eq_true q.2
            omega
          · have := of_decide_eq_true q.2
            omega
theorem si_orbit {g : Nat → UInt8} {N a b c d : Nat} (hq : IsSq N g) (ha : a < N) (hb : b < N) (hc : c < N) (hd : d < N) (hcd : c ≠ d) (h : q4 g a b c d = true) : Cyc N (swC g N a b) c 2 ∧ inO (swC g N a b) c 2 = twoS c d := by
  obtain ⟨e1, e2⟩ := q4_eq h
  have f1 : swC g N a b c = d := by
    unfold swC
    rw [← e2]
    exact back_at (hq.rows a ha) hd
  have f2 : swC g N a b d = c := by
    unfold swC
    rw [← e1]
    exact back_at (hq.rows a ha) hc
  have i1 : it (swC g N a b) c 1 = d := f1
  have i2 : it (swC g N a b) c 2 = c := by show swC g N a b (swC g N a b c) = c; rw [f1, f2]
  refine ⟨⟨by omega, by omega, i2, fun i h0 h2 => ?_⟩, ?_⟩
  · obtain rfl : i = 1 := by omega
    rw [i1]; exact Ne.symm hcd
  · funext z
    have : inO (swC g N a b) c 2 z = true ↔ twoS c d z = true := by
      rw [inO_iff]
      constructor
      · rintro ⟨i, hi, e⟩
        match i, hi with
        | 0, _ => exact decide_eq_true (.inl e.symm)
        | 1, _ => rw [i1] at e; exact decide_eq_true (.inr e.symm)
      · intro q
        rcases of_decide_eq_true q with e | e
        · exact ⟨0, by omega, e.symm⟩
        · exact ⟨1, by omega, by rw [i1]; exact e.symm⟩
    cases h1 : inO (swC g N a b) c 2 z <;> cases h2 : twoS c d z <;> simp_all
set_option maxRecDepth 20000 in
set_option maxHeartbeats 2000000 in
theorem specSI_err (o : Int) (g : Nat → UInt8) (v : Value) (z : Int) (w : World) (hz : (z == 0) = false)
    (hC : Hid (∀ w', Below w.heap.size w w' → Calls Try.prog 53 #[.agg (sqc o g), v] w' fun e w'' => e = .returned (.int .i64 z) ∧ Below w'.heap.size w' w'')) :
    Calls Try.prog 15 #[.agg (sqc o g), v] w fun e w' => e = .returned (.tuple #[.agg (sqc 0 fun _ => 0), .int .i64 z]) ∧ Below w.heap.size w w' := by
  have hz2 : ¬ z = 0 := by simpa using hz
  have hH := Has.start2 w (sqc o g) (sqc 0 fun _ => 0) 29 29
  go_enter Try.func15, Try.ntmps15
  go_wp2_with (first | fail | (refine wpL_alloc rfl rfl zeroSq ?_; intro g0 hg0; (try simp at hg0); subst hg0) | (refine wpL_loadFull rfl rfl rfl rowSq hH.h0 (sqc_size _ _) ?_) | (go_at_call 53; refine (hC.out _ hH.below).mono ?_; rintro e w2 ⟨rfl, hb⟩; replace hH := hH.call' hb; clear hb) | (refine wpL_build rfl rfl builtSq ?_) | (refine wpL_storeSame rfl rfl rfl rfl rowSq hH.h1 (sqc_ok _ _) ?_))
  exact ret_ct rfl rfl rfl hH.h1 rowSq (sqc_size _ _) ⟨rfl, hH.below⟩
set_option maxRecDepth 100000 in
set_option maxHeartbeats 8000000 in
theorem specSI_in (N gb cap a b c d : Nat) (g : Nat → UInt8) (f : Nat → Int) (w : World) (hq : IsSq N g) (hR : Row w gb 4 f) (e0 : f 0 = (a : Int)) (e1 : f 1 = (b : Int)) (e2 : f 2 = (c : Int)) (e3 : f 3 = (d : Int)) (hab : a < b) (hb : b < N) (hcd : c < d) (hd : d < N)
    (hC : Hid (∀ w', Below w.heap.size w w' → Calls Try.prog 53 #[.agg (sqc N g), .slice (some ⟨gb, 0, none⟩) 4 cap] w' fun e w'' => e = .returned (.int .i64 0) ∧ Below w'.heap.size w' w'')) :
    Calls Try.prog 15 #[.agg (sqc N g), .slice (some ⟨gb, 0, none⟩) 4 cap] w fun e w' => e = .returned (.tuple #[.agg (bif q4 g a b c d then sqc N (si4 g a b c d) else sqc 0 fun _ => 0), .int .i64 (bif q4 g a b c d then 0 else 5)]) ∧ Below w.heap.size w w' := by
  have h10 := hq.hi
  clear hq
  have HE0 := hid e0
  have HE1 := hid e1
  have HE2 := hid e2
  have HE3 := hid e3
  clear e0 e1 e2 e3
  replace hR := hid ((hR.alloc (.cells (sqc N g) 29)).alloc (.cells (sqc 0 fun _ => 0) 29))
  have hH := Has.start2 w (sqc N g) (sqc 0 fun _ => 0) 29 29
  have hab' : (a : Int) < 10 := by omega
  have hb' : (b : Int) < 10 := by omega
  have hc' : (c : Int) < 10 := by omega
  have hd' : (d : Int) < 10 := by omega
  cases h4 : q4 g a b c d with
  | false =>
    have H4 := hid h4
    clear h4
    go_enter Try.func15, Try.ntmps15
    go_wp2_with (first | fail | (refine wpL_alloc rfl rfl zeroSq ?_; intro g0 hg0; (try simp at hg0); subst hg0) | (refine wpL_loadFull rfl rfl rfl rowSq hH.h0 (sqc_size _ _) ?_) | (go_at_call 53; refine (hC.out _ hH.below).mono ?_; rintro e w2 ⟨rfl, hb⟩; replace hH := hH.call' hb; replace hR := hid (hR.out.below hb); clear hb; have c0 := hR.out.cell (i := 0) (by omega); have c1 := hR.out.cell (i := 1) (by omega); have c2 := hR.out.cell (i := 2) (by omega); have c3 := hR.out.cell (i := 3) (by omega); rw [HE0.out] at c0; rw [HE1.out] at c1; rw [HE2.out] at c2; rw [HE3.out] at c3))
    go_quiet (fail)
    clear c0 c1 c2 c3
    replace hH := hH.drewN nq
    go_wp2_with (first | fail | (refine wpL_loadFull rfl rfl rfl rowSq hH.h0 (sqc_size _ _) ?_) | (go_at_call 54; refine (l09Square_any N a b c d g _ h10 (by omega) (by omega) (by omega) (by omega)).mono ?_; rintro e w3 ⟨rfl, hb⟩; rw [H4.out]; replace hH := hH.call' hb; clear hb) | (refine wpL_build rfl rfl builtSq ?_) | (refine wpL_storeSame rfl rfl rfl rfl rowSq hH.h1 (sqc_ok _ _) ?_))
    exact ret_ct rfl rfl rfl hH.h1 rowSq (sqc_size _ _) ⟨rfl, hH.below⟩
  | true =>
    have H4 := hid h4
    clear h4
    obtain ⟨p, hp⟩ : ∃ p, g (a * 10 + c) = p := ⟨_, rfl⟩
    obtain ⟨q, hqq⟩ : ∃ p, g (a * 10 + d) = p := ⟨_, rfl⟩
    have HP := hid hp
    have HQ := hid hqq
    obtain ⟨X1, hX1⟩ : ∃ X, sqc N (si1 g a c d) = X := ⟨_, rfl⟩
    obtain ⟨X2, hX2⟩ : ∃ X, sqc N (si2 g a c d) = X := ⟨_, rfl⟩
    obtain ⟨X3, hX3⟩ : ∃ X, sqc N (si3 g a b c d) = X := ⟨_, rfl⟩
    have HX1 := hid (show (sqc N g).setIfInBounds (1 + a * 10 + c) (.int .u8 q.toNat) = X1 by rw [← hX1, Nat.add_assoc]; exact sqc_set _ _ _ _ _ (fun j _ => by unfold si1; rw [hqq]))
    have HX2 := hid (show X1.setIfInBounds (1 + a * 10 + d) (.int .u8 p.toNat) = X2 by rw [← hX1, ← hX2, Nat.add_assoc]; exact sqc_set _ _ _ _ _ (fun j _ => by unfold si2; rw [hp]))
    have HX3 := hid (show X2.setIfInBounds (1 + b * 10 + c) (.int .u8 p.toNat) = X3 by rw [← hX2, ← hX3, Nat.add_assoc]; exact sqc_set _ _ _ _ _ (fun j _ => by unfold si3; rw [hp]))
    have HX4 := hid (show X3.setIfInBounds (1 + b * 10 + d) (.int .u8 q.toNat) = sqc N (si4 g a b c d) by rw [← hX3, Nat.add_assoc]; exact sqc_set _ _ _ _ _ (fun j _ => by unfold si4; rw [hqq]))
    have HZ1 := hid (show X1.size = 101 by rw [← hX1]; exact sqc_size _ _)
    have HZ2 := hid (show X2.size = 101 by rw [← hX2]; exact sqc_size _ _)
    have HZ3 := hid (show X3.size = 101 by rw [← hX3]; exact sqc_size _ _)
    clear hp hqq hX1 hX2 hX3
    go_enter Try.func15, Try.ntmps15
    go_wp2_with (first | fail | (refine wpL_alloc rfl rfl zeroSq ?_; intro g0 hg0; (try simp at hg0); subst hg0) | (refine wpL_loadFull rfl rfl rfl rowSq hH.h0 (sqc_size _ _) ?_) | (go_at_call 53; refine (hC.out _ hH.below).mono ?_; rintro e w2 ⟨rfl, hb⟩; replace hH := hH.call' hb; replace hR := hid (hR.out.below hb); clear hb; have c0 := hR.out.cell (i := 0) (by omega); have c1 := hR.out.cell (i := 1) (by omega); have c2 := hR.out.cell (i := 2) (by omega); have c3 := hR.out.cell (i := 3) (by omega); rw [HE0.out] at c0; rw [HE1.out] at c1; rw [HE2.out] at c2; rw [HE3.out] at c3))
    go_quiet (fail)
    clear c0 c1 c2 c3
    replace hH := hH.drewN nq
    go_wp2_with (first | fail | (refine wpL_loadFull rfl rfl rfl rowSq hH.h0 (sqc_size _ _) ?_) | (go_at_call 54; refine (l09Square_any N a b c d g _ h10 (by omega) (by omega) (by omega) (by omega)).mono ?_; rintro e w3 ⟨rfl, hb⟩; rw [H4.out]; replace hH := hH.call' hb; clear hb; have c0 := hH.c0 (1 + a * 10 + c); have c1 := hH.c0 (1 + a * 10 + d); rw [Nat.add_assoc, sqc_get _ _ _ (by omega), HP.out, ← Nat.add_assoc] at c0; rw [Nat.add_assoc, sqc_get _ _ _ (by omega), HQ.out, ← Nat.add_assoc] at c1))
    go_quiet (fail)
    clear c0 c1
    replace hH := hH.drewN nq
    obtain ⟨wd, hwd⟩ : ∃ q, w3.drewN nq = q := ⟨_, rfl⟩
    rw [hwd] at hH ⊢
    clear hwd
    go_wp2_with (first | fail | (refine wpL_cellW (x := .tmp 57) (v := .int .u8 q.toNat) (cs' := X1) (off := 1 + a * 10 + c) rfl rfl rfl rfl (by kernel_rfl) (by rfl) hH.h0 (by rw [sqc_size]; omega) HX1.out ?_; replace hH := hH.r0 (cs' := X1)) | (refine wpL_cellW (x := .tmp 63) (v := .int .u8 p.toNat) (cs' := X2) (off := 1 + a * 10 + d) rfl rfl rfl rfl (by kernel_rfl) (by rfl) hH.h0 (by rw [HZ1.out]; omega) HX2.out ?_; replace hH := hH.r0 (cs' := X2)) | (refine wpL_cellW (x := .tmp 69) (v := .int .u8 p.toNat) (cs' := X3) (off := 1 + b * 10 + c) rfl rfl rfl rfl (by kernel_rfl) (by rfl) hH.h0 (by rw [HZ2.out]; omega) HX3.out ?_; replace hH := hH.r0 (cs' := X3)) | (refine wpL_cellW (x := .tmp 75) (v := .int .u8 q.toNat) (cs' := sqc N (si4 g a b c d)) (off := 1 + b * 10 + d) rfl rfl rfl rfl (by kernel_rfl) (by rfl) hH.h0 (by rw [HZ3.out]; omega) HX4.out ?_; replace hH := hH.r0 (cs' := sqc N (si4 g a b c d))) | (refine wpL_loadFull (x := .tmp 2) rfl rfl rfl rowSq hH.h0 (sqc_size _ _) ?_) | (refine wpL_storeFull (x := .tmp 4) rfl rfl rfl rfl rowSq hH.h1 (sqc_size _ _) (sqc_ok _ _) ?_; replace hH := hH.r1 (cs' := sqc N (si4 g a b c d))))
    exact ret_ct rfl rfl rfl hH.h1 rowSq (sqc_size _ _) ⟨rfl, hH.below⟩
end Go.Proofs.Ytbhjbllgmenbaaa
namespace Go.Proofs.Ytbhjbllgmenbaaa
set_option linter.unusedVariables false
set_option linter.unusedSimpArgs false
open Go.RowKit
set_option maxRecDepth 20000 in
set_option maxHeartbeats 2000000 in
theorem isRising_is (a b n : Int) (r : Bool) (h : decide (0 ≤ a ∧ a < b ∧ b < n) = r) (w : World) :
    Calls Try.prog 57 #[.int .i64 a, .int .i64 b, .int .i64 n] w fun e w' => e = .returned (.bool r) ∧ w' = w := by
  by_cases h0 : 0 ≤ a
  · by_cases h1 : a < b
    · by_cases h2 : b < n
      · obtain rfl : r = true := by rw [← h]; exact decide_eq_true ⟨h0, h1, h2⟩
        clear h
        go_enter Try.func57, Try.ntmps57
        go_wp2
        go_ret
        exact ⟨rfl, rfl⟩
      · obtain rfl : r = false := by rw [← h]; exact decide_eq_false (fun q => h2 q.2.2)
        clear h
        go_enter Try.func57, Try.ntmps57
        go_wp2
        go_ret
        exact ⟨rfl, rfl⟩
    · obtain rfl : r = false := by rw [← h]; exact decide_eq_false (fun q => h1 q.2.1)
      clear h
      go_enter Try.func57, Try.ntmps57
      go_wp2
      go_ret
      exact ⟨rfl, rfl⟩
  · obtain rfl : r = false := by rw [← h]; exact decide_eq_false (fun q => h0 q.1)
    clear h
    go_enter Try.func57, Try.ntmps57
    go_wp2
    go_ret
    exact ⟨rfl, rfl⟩
set_option maxRecDepth 20000 in
set_option maxHeartbeats 2000000 in
theorem implSI_no (o : Int) (g : Nat → UInt8) (v : Value) (w : World) (hs : sqB o g = false) :
    Calls Try.prog 18 #[.agg (sqc o g), v] w fun e w' => e = .returned (.tuple #[.agg (sqc 0 fun _ => 0), .int .i64 1]) ∧ Below w.heap.size w w' := by
  have hH := Has.start2 w (sqc o g) (sqc 0 fun _ => 0) 29 29
  go_enter Try.func18, Try.ntmps18
  go_wp2_with (first | fail | (refine wpL_alloc rfl rfl zeroSq ?_; intro g0 hg0; (try simp at hg0); subst hg0) | (refine wpL_loadFull rfl rfl rfl rowSq hH.h0 (sqc_size _ _) ?_) | (go_at_call 56; refine (IsSquare_any o g _).mono ?_; rintro e w2 ⟨rfl, hb⟩; replace hH := hH.call' hb; clear hb; rw [hs]) | (refine wpL_build rfl rfl builtSq ?_) | (refine wpL_storeSame rfl rfl rfl rfl rowSq hH.h1 (sqc_ok _ _) ?_))
  exact ret_ct rfl rfl rfl hH.h1 rowSq (sqc_size _ _) ⟨rfl, hH.below⟩
set_option maxRecDepth 20000 in
set_option maxHeartbeats 4000000 in
theorem implSI_range (N n gb cap : Nat) (g : Nat → UInt8) (f : Nat → Int) (w : World) (hs : sqB (N : Int) g = true) (hn : n ≤ 1048576) (hR : Row w gb n f) (h : ¬ n = 4 ∨ (n = 4 ∧ (¬ (0 ≤ f 0 ∧ f 0 < f 1 ∧ f 1 < N) ∨ ¬ (0 ≤ f 2 ∧ f 2 < f 3 ∧ f 3 < N)))) :
    Calls Try.prog 18 #[.agg (sqc N g), .slice (some ⟨gb, 0, none⟩) n cap] w fun e w' => e = .returned (.tuple #[.agg (sqc 0 fun _ => 0), .int .i64 2]) ∧ Below w.heap.size w w' := by
  have hH := Has.start2 w (sqc N g) (sqc 0 fun _ => 0) 29 29
  replace hR := hid ((hR.alloc (.cells (sqc N g) 29)).alloc (.cells (sqc 0 fun _ => 0) 29))
  rcases h with h | ⟨rfl, h⟩
  · have h4 : ¬ (n : Int) = 4 := by omega
    have e4 : ((n : Int) != 4) = true := by simpa using h4
    go_enter Try.func18, Try.ntmps18
    go_wp2_with (first | fail | (refine wpL_alloc rfl rfl zeroSq ?_; intro g0 hg0; (try simp at hg0); subst hg0) | (refine wpL_loadFull rfl rfl rfl rowSq hH.h0 (sqc_size _ _) ?_) | (go_at_call 56; refine (IsSquare_any N g _).mono ?_; rintro e w2 ⟨rfl, hb⟩; replace hH := hH.call' hb; clear hb; rw [hs]))
    go_quiet (fail)
    replace hH := hH.drewN nq
    go_wp2_with (first | fail | (refine wpL_build rfl rfl builtSq ?_) | (refine wpL_storeSame rfl rfl rfl rfl rowSq hH.h1 (sqc_ok _ _) ?_))
    exact ret_ct rfl rfl rfl hH.h1 rowSq (sqc_size _ _) ⟨rfl, hH.below⟩
  · cases r1 : decide (0 ≤ f 0 ∧ f 0 < f 1 ∧ f 1 < N) with
    | false =>
      have hC1 := isRising_is _ _ _ _ r1
      clear h r1
      go_enter Try.func18, Try.ntmps18
      go_wp2_with (first | fail | (refine wpL_alloc rfl rfl zeroSq ?_; intro g0 hg0; (try simp at hg0); subst hg0) | (refine wpL_loadFull rfl rfl rfl rowSq hH.h0 (sqc_size _ _) ?_) | (go_at_call 56; refine (IsSquare_any N g _).mono ?_; rintro e w2 ⟨rfl, hb⟩; replace hH := hH.call' hb; replace hR := hid (hR.out.below hb); clear hb; rw [hs]; have cz := hH.c0 0; rw [sqc_get0] at cz; have c0 := hR.out.cell (i := 0) (by omega); have c1 := hR.out.cell (i := 1) (by omega)))
      go_quiet ((go_at_call 57; exact Calls.quiet_of_same (hC1 _)))
      clear c0 c1 cz
      replace hH := hH.drewN nq
      go_wp2_with (first | fail | (refine wpL_build rfl rfl builtSq ?_) | (refine wpL_storeSame rfl rfl rfl rfl rowSq hH.h1 (sqc_ok _ _) ?_))
      exact ret_ct rfl rfl rfl hH.h1 rowSq (sqc_size _ _) ⟨rfl, hH.below⟩
    | true =>
      have hC1 := isRising_is _ _ _ _ r1
      have r2 : decide (0 ≤ f 2 ∧ f 2 < f 3 ∧ f 3 < N) = false := decide_eq_false (by
        rcases h with h | h
        · exact absurd (of_decide_eq_true r1) h
        · exact h)
      have hC2 := isRising_is _ _ _ _ r2
      clear h r1 r2
      go_enter Try.func18, Try.ntmps18
      go_wp2_with (first | fail | (refine wpL_alloc rfl rfl zeroSq ?_; intro g0 hg0; (try simp at hg0); subst hg0) | (refine wpL_loadFull rfl rfl rfl rowSq hH.h0 (sqc_size _ _) ?_) | (go_at_call 56; refine (IsSquare_any N g _).mono ?_; rintro e w2 ⟨rfl, hb⟩; replace hH := hH.call' hb; replace hR := hid (hR.out.below hb); clear hb; rw [hs]; have cz := hH.c0 0; rw [sqc_get0] at cz; have c0 := hR.out.cell (i := 0) (by omega); have c1 := hR.out.cell (i := 1) (by omega); have c2 := hR.out.cell (i := 2) (by omega); have c3 := hR.out.cell (i := 3) (by omega)))
      go_quiet ((go_at_call 57; first | with_reducible exact Calls.quiet_of_same (hC1 _) | with_reducible exact Calls.quiet_of_same (hC2 _)))
      clear c0 c1 c2 c3 cz
      replace hH := hH.drewN nq
      go_wp2_with (first | fail | (refine wpL_build rfl rfl builtSq ?_) | (refine wpL_storeSame rfl rfl rfl rfl rowSq hH.h1 (sqc_ok _ _) ?_))
      exact ret_ct rfl rfl rfl hH.h1 rowSq (sqc_size _ _) ⟨rfl, hH.below⟩
end Go.Proofs.Ytbhjbllgmenbaaa
namespace Go.Proofs.Ytbhjbllgmenbaaa
set_option linter.unusedVariables false
set_option linter.unusedSimpArgs false
open Go.RowKit
theorem Row.setRowQ {w : World} {b n k : Nat} {f : Nat → Int} {cs : Array Value} (h : Row w b n f) (hne : b ≠ k) : Row (w.setRow k cs) b n f := h.block (setRow_other _ _ _ _ hne)
set_option maxRecDepth 100000 in
set_option maxHeartbeats 8000000 in
theorem implSI_in (N gb cap a b c dd : Nat) (g : Nat → UInt8) (f : Nat → Int) (w : World) (hs : sqB (N : Int) g = true) (hq : IsSq N g) (hR : Row w gb 4 f) (e0 : f 0 = (a : Int)) (e1 : f 1 = (b : Int)) (e2 : f 2 = (c : Int)) (e3 : f 3 = (dd : Int)) (hab : a < b) (hb : b < N) (hcd : c < dd) (hd : dd < N) :
    Calls Try.prog 18 #[.agg (sqc N g), .slice (some ⟨gb, 0, none⟩) 4 cap] w fun e w' => e = .returned (.tuple #[.agg (bif q4 g a b c dd then sqc N (si4 g a b c dd) else sqc 0 fun _ => 0), .int .i64 (bif q4 g a b c dd then 0 else 5)]) ∧ Below w.heap.size w w' := by
  have h10 := hq.hi
  have HS := hid (fun (h4 : q4 g a b c dd = true) (w : World) => by
    have hO := si_orbit hq (show a < N by omega) hb (show c < N by omega) hd (by omega) h4
    have h := switchCycle_any N a b c 2 g w hq (by omega) hb (by omega) (by omega) hO.1
    rwa [hO.2, ← si4_is (by omega) (by omega) (by omega) h4] at h)
  clear hq
  have HE0 := hid e0
  have HE1 := hid e1
  have HE2 := hid e2
  have HE3 := hid e3
  have r1 : decide (0 ≤ (a : Int) ∧ (a : Int) < (b : Int) ∧ (b : Int) < (N : Int)) = true := decide_eq_true (by omega)
  have r2 : decide (0 ≤ (c : Int) ∧ (c : Int) < (dd : Int) ∧ (dd : Int) < (N : Int)) = true := decide_eq_true (by omega)
  have hC1 := isRising_is _ _ _ _ r1
  have hC2 := isRising_is _ _ _ _ r2
  clear e0 e1 e2 e3 r1 r2
  have hgb := hR.lt
  replace hR := hid ((hR.alloc (.cells (sqc N g) 29)).alloc (.cells (sqc 0 fun _ => 0) 29))
  have hH := Has.start2 w (sqc N g) (sqc 0 fun _ => 0) 29 29
  have hab' : (a : Int) < 10 := by omega
  have hb' : (b : Int) < 10 := by omega
  have hc' : (c : Int) < 10 := by omega
  have hd' : (dd : Int) < 10 := by omega
  have hsq : True := trivial
  obtain ⟨r, h4⟩ : ∃ r, q4 g a b c dd = r := ⟨_, rfl⟩
  have H4 := hid h4
  rw [h4] at HS ⊢
  clear h4
  go_enter Try.func18, Try.ntmps18
  go_wp2_with (first | fail | (refine wpL_alloc rfl rfl zeroSq ?_; intro g0 hg0; (try simp at hg0); subst hg0) | (refine wpL_loadFull rfl rfl rfl rowSq hH.h0 (sqc_size _ _) ?_) | (go_at_call 56; refine (IsSquare_any N g _).mono ?_; rintro e w2 ⟨rfl, hb⟩; replace hH := hH.call' hb; replace hR := hid (hR.out.below hb); clear hb; rw [hs]; have cz := hH.c0 0; rw [sqc_get0] at cz; have c0 := hR.out.cell (i := 0) (by omega); have c1 := hR.out.cell (i := 1) (by omega); have c2 := hR.out.cell (i := 2) (by omega); have c3 := hR.out.cell (i := 3) (by omega); rw [HE0.out] at c0; rw [HE1.out] at c1; rw [HE2.out] at c2; rw [HE3.out] at c3))
  go_quiet ((go_at_call 57; first | with_reducible exact Calls.quiet_of_same (hC1 _) | with_reducible exact Calls.quiet_of_same (hC2 _)))
  clear c0 c1 c2 c3 cz
  replace hH := hH.drewN nq
  replace hR := hid (hR.out.drewQ nq)
  go_wp2
  obtain ⟨wd, hwd⟩ : ∃ q, w2.drewN nq = q := ⟨_, rfl⟩
  rw [hwd] at hH hR ⊢
  clear hwd
  refine wp_region_frame (X := Unit) (fun d _ => [(38, bif d 0 then .agg (sqc N g) else undef), (39, bif d 1 then .slice (some ⟨gb, 0, none⟩) 4 cap else undef), (40, bif d 2 then .pointer (some ⟨gb, 0, none⟩) else undef), (41, bif d 3 then .int .i64 a else undef), (42, bif d 4 then .slice (some ⟨gb, 0, none⟩) 4 cap else undef), (43, bif d 5 then .pointer (some ⟨gb, 1, none⟩) else undef), (44, bif d 6 then .int .i64 b else undef), (45, bif d 7 then .slice (some ⟨gb, 0, none⟩) 4 cap else undef), (46, bif d 8 then .pointer (some ⟨gb, 2, none⟩) else undef), (47, bif d 9 then .int .i64 c else undef), (48, bif d 10 then .slice (some ⟨gb, 0, none⟩) 4 cap else undef), (49, bif d 11 then .pointer (some ⟨gb, 3, none⟩) else undef), (50, bif d 12 then .int .i64 dd else undef), (51, bif d 13 then .bool r else undef), (52, bif d 14 then .bool (!r) else undef)])
    (fun d _ w' => Has w w' [(sqc N g, 29), (sqc 0 (fun _ => 0), 29)] ∧ Hid (Row w' gb 4 f)) (by kernel_rfl) (by kernel_rfl) ?h0_sa ?hs_sa ?hq_sa
  case h0_sa => exact ⟨(), (by simp [lput]), hH.drew, hid (hR.out.block rfl)⟩
  case hs_sa =>
    refine ⟨?_, ?_, ?_, ?_, ?_, ?_, ?_, ?_, ?_, ?_, ?_, ?_, ?_, ?_, ?_, trivial⟩
    all_goals
      clear hH hR
      intro d _ w1 hd hn hJ
      simp only [needs, Region.binds, reduceCtorEq, Bool.false_eq_true, false_implies, true_and, and_true, true_implies, forall_const] at hn
      simp only [lput, List.set, hn, cond_true]
      obtain ⟨hH, hR⟩ := hJ
      have c0 := hR.out.cell (i := 0) (by omega)
      have c1 := hR.out.cell (i := 1) (by omega)
      have c2 := hR.out.cell (i := 2) (by omega)
      have c3 := hR.out.cell (i := 3) (by omega)
      rw [HE0.out] at c0
      rw [HE1.out] at c1
      rw [HE2.out] at c2
      rw [HE3.out] at c3
      go_wp2_with (first | fail | (refine wpL_loadFull rfl rfl rfl rowSq hH.h0 (sqc_size _ _) ?_) | (go_at_call 58; refine (isIntercalate_any N a b c dd g _ h10 (by omega) (by omega) (by omega) (by omega)).mono ?_; rintro e w3 ⟨rfl, hb⟩; rw [H4.out]; replace hH := hH.call' hb; replace hR := hid (hR.out.below hb); clear hb))
      first
        | (refine ⟨(), ?_, hH, hR⟩; (simp [lput, done, hn]; done))
        | (refine ⟨?_, hH, hR⟩; (simp [lput, done, hn]; done))
        | (refine ⟨(), ?_, hH, hR⟩; (simp [lput, done, hn]; rfl))
        | (refine ⟨?_, hH, hR⟩; (simp [lput, done, hn]; rfl))
        | (refine ⟨(), ?_, hH, hR⟩; (simp [lput, done]; done))
        | (refine ⟨?_, hH, hR⟩; (simp [lput, done]; done))
        | (refine ⟨(), ?_, hH, hR⟩; (simp [lput, done]; rfl))
        | (refine ⟨?_, hH, hR⟩; (simp [lput, done]; rfl))
  case hq_sa =>
    clear hH hR
    intro d _ w1 hd hJ
    simp only [allDone, List.length_cons, List.length_nil, Nat.reduceAdd, and_true] at hd
    obtain ⟨hH, hR⟩ := hJ
    simp only [lput, List.set, hd, cond_true]
    clear hd
    cases r with
    | false =>
      go_wp2_with (first | fail | (refine wpL_build rfl rfl builtSq ?_) | (refine wpL_storeSame rfl rfl rfl rfl rowSq hH.h1 (sqc_ok _ _) ?_))
      exact ret_ct rfl rfl rfl hH.h1 rowSq (sqc_size _ _) ⟨rfl, hH.below⟩
    | true =>
      replace HS := HS.out rfl
      go_wp2
      refine wp_region_frame (X := Unit) (fun d _ => [(54, bif d 0 then .agg (sqc N g) else undef), (55, bif d 1 then .slice (some ⟨gb, 0, none⟩) 4 cap else undef), (56, bif d 2 then .pointer (some ⟨gb, 0, none⟩) else undef), (57, bif d 3 then .int .i64 a else undef), (58, bif d 4 then .int .u8 a else undef), (59, bif d 5 then .slice (some ⟨gb, 0, none⟩) 4 cap else undef), (60, bif d 6 then .pointer (some ⟨gb, 1, none⟩) else undef), (61, bif d 7 then .int .i64 b else undef), (62, bif d 8 then .int .u8 b else undef), (63, bif d 9 then .slice (some ⟨gb, 0, none⟩) 4 cap else undef), (64, bif d 10 then .pointer (some ⟨gb, 2, none⟩) else undef), (65, bif d 11 then .int .i64 c else undef), (66, bif d 12 then .int .u8 c else undef), (67, bif d 13 then .agg (sqc N (si4 g a b c dd)) else undef), (5, bif d 15 then .int .i64 0 else .int .i64 0)])
        (fun d _ w' => Has w w' [(sqc N g, 29), (bif d 14 then sqc N (si4 g a b c dd) else sqc 0 (fun _ => 0), 29)] ∧ Hid (Row w' gb 4 f)) (by kernel_rfl) (by kernel_rfl) ?h0_sc ?hs_sc ?hq_sc
      case h0_sc => exact ⟨(), (by simp [lput]), hH.drew, hid (hR.out.block rfl)⟩
      case hs_sc =>
        refine ⟨?_, ?_, ?_, ?_, ?_, ?_, ?_, ?_, ?_, ?_, ?_, ?_, ?_, ?_, ?_, ?_, trivial⟩
        all_goals
          clear hH hR
          intro d _ w1 hd hn hJ
          simp only [needs, Region.binds, reduceCtorEq, Bool.false_eq_true, false_implies, true_and, and_true, true_implies, forall_const] at hn
          simp only [lput, List.set, hn, cond_true]
          try simp only [hd, cond_false] at hJ
          obtain ⟨hH, hR⟩ := hJ
          (try have c0 := hR.out.cell (i := 0) (by omega))
          (try have c1 := hR.out.cell (i := 1) (by omega))
          (try have c2 := hR.out.cell (i := 2) (by omega))
          (try rw [HE0.out] at c0)
          (try rw [HE1.out] at c1)
          (try rw [HE2.out] at c2)
          go_wp2_with (first | fail | (refine wpL_loadFull rfl rfl rfl rowSq hH.h0 (sqc_size _ _) ?_) | (go_at_call 59; refine (HS _).mono ?_; rintro e w3 ⟨rfl, hb⟩; replace hH := hH.call' hb; replace hR := hid (hR.out.below hb); clear hb) | (refine wpL_storeFull rfl rfl rfl rfl rowSq hH.h1 (sqc_size _ _) (sqc_ok _ _) ?_; replace hR := hid (hR.out.setRowQ (cs := sqc N (si4 g a b c dd)) (show gb ≠ w.heap.size + 1 by omega)); replace hH := hH.r1 (cs' := sqc N (si4 g a b c dd))))
          first
            | (refine ⟨(), ?_, hH, hR⟩; (simp [lput, done, hn]; done))
            | (refine ⟨?_, hH, hR⟩; (simp [lput, done, hn]; done))
            | (refine ⟨(), ?_, hH, hR⟩; (simp [lput, done, hn]; rfl))
            | (refine ⟨?_, hH, hR⟩; (simp [lput, done, hn]; rfl))
            | (refine ⟨(), ?_, hH, hR⟩; (simp [lput, done]; done))
            | (refine ⟨?_, hH, hR⟩; (simp [lput, done]; done))
            | (refine ⟨(), ?_, hH, hR⟩; (simp [lput, done]; rfl))
            | (refine ⟨?_, hH, hR⟩; (simp [lput, done]; rfl))
      case hq_sc =>
        clear hH hR
        intro d _ w1 hd hJ
        simp only [allDone, List.length_cons, List.length_nil, Nat.reduceAdd, and_true] at hd
        obtain ⟨hH, hR⟩ := hJ
        simp only [hd, cond_true] at hH
        simp only [lput, List.set, hd, cond_true]
        clear hd
        go_wp2
        exact ret_ct rfl rfl rfl hH.h1 rowSq (sqc_size _ _) ⟨rfl, hH.below⟩
end Go.Proofs.Ytbhjbllgmenbaaa
