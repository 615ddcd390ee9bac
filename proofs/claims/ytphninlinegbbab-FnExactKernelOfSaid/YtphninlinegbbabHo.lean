/- Proved: what the model's IsHomomorphism, and the parts of the program's, return. Conditions: those that each theorem names. -/
import Derived.Test.YtphninlinegbbabIa
import Derived.Test.YtphninlinegbbabSq3b
import Derived.Test.YtphninlinegbbabSq5
import Derived.Test.YtphninlinegbbabPl1
import Derived.Test.YtphninlinegbbabNu
import Derived.Test.YtphninlinegbbabReg
namespace Go.Proofs.Ytphninlinegbbab
set_option linter.unusedVariables false
set_option linter.unusedSimpArgs false
open Go.RowKit
/-- The first of the n numbers that is no element. -/
structure FarN (f : Nat → Int) (M n k0 : Nat) : Prop where
  lt : k0 < n
  lo : ∀ i, i < k0 → 0 ≤ f i ∧ f i < M
  far : ¬ (0 ≤ f k0 ∧ f k0 < M)
theorem far_or_all (f : Nat → Int) (M : Nat) : ∀ n, (∃ k0, FarN f M n k0) ∨ ∀ i, i < n → 0 ≤ f i ∧ f i < M
  | 0 => .inr fun i hi => by omega
  | n + 1 => by
    rcases far_or_all f M n with ⟨k0, h⟩ | h
    · exact .inl ⟨k0, by have := h.lt; omega, h.lo, h.far⟩
    · by_cases hn : 0 ≤ f n ∧ f n < M
      · refine .inr fun i hi => ?_
        by_cases e : i = n
        · subst e; exact hn
        · exact h i (by omega)
      · exact .inl ⟨n, by omega, h, hn⟩
theorem Row.drew {w : World} {b n : Nat} {f : Nat → Int} (h : Row w b n f) (m : Nat) : Row (w.drewN m) b n f := h.block rfl
noncomputable def homB (N : Nat) (g h : Nat → UInt8) (a : Nat → Nat) : Bool := @decide (∀ x, x < N → ∀ y, y < N → a (mu g x y) = mu h (a x) (a y)) (Classical.propDecidable _)
theorem homB_iff {N : Nat} {g h : Nat → UInt8} {a : Nat → Nat} : homB N g h a = true ↔ ∀ x, x < N → ∀ y, y < N → a (mu g x y) = mu h (a x) (a y) := by unfold homB; exact @decide_eq_true_iff _ (Classical.propDecidable _)
theorem homB_no {N x y : Nat} {g h : Nat → UInt8} {a : Nat → Nat} (hx : x < N) (hy : y < N) (e : ¬ a (mu g x y) = mu h (a x) (a y)) : homB N g h a = false := by
  cases he : homB N g h a with
  | false => rfl
  | true => exact absurd (homB_iff.1 he x hx y hy) e
theorem l01In_yes (n : Int) (M : Nat) (h : 0 ≤ n ∧ n < M) (w : World) : Calls Try.prog 93 #[.int .i64 n, .int .i64 0, .int .i64 ((M : Int) - 1)] w fun e w' => e = .returned (.bool true) ∧ w' = w := by
  refine (l01In_any n 0 ((M : Int) - 1) w).mono ?_
  rintro e w' ⟨rfl, rfl⟩
  exact ⟨by rw [inB_true h.1 (by omega)], rfl⟩
theorem l01In_no (n : Int) (M : Nat) (h : ¬ (0 ≤ n ∧ n < M)) (w : World) : Calls Try.prog 93 #[.int .i64 n, .int .i64 0, .int .i64 ((M : Int) - 1)] w fun e w' => e = .returned (.bool false) ∧ w' = w := by
  refine (l01In_any n 0 ((M : Int) - 1) w).mono ?_
  rintro e w' ⟨rfl, rfl⟩
  exact ⟨by rw [inB_false (by omega)], rfl⟩
set_option maxRecDepth 20000 in
set_option maxHeartbeats 2000000 in
theorem l06Two_no (o p : Int) (g h : Nat → UInt8) (v : Value) (w : World) (hs : (sqB o g && sqB p h) = false) :
    Calls Try.prog 71 #[.agg (sqc o g), .agg (sqc p h), v] w fun e w' => e = .returned (.int .i64 1) ∧ Below w.heap.size w w' := by
  have hH := Has.start2 w (sqc o g) (sqc p h) 31 31
  cases h1 : sqB o g with
  | false =>
    go_enter Try.func71, Try.ntmps71
    go_wp2_with (first | fail | (refine wpL_loadFull rfl rfl rfl rowSq hH.h0 (sqc_size _ _) ?_) | (go_at_call 52; refine (l01Is_any o g _).mono ?_; rintro e w2 ⟨rfl, hb⟩; replace hH := hH.call' hb; clear hb; rw [h1]))
    go_ret
    exact ⟨rfl, hH.below⟩
  | true =>
    have h2 : sqB p h = false := by simpa [h1] using hs
    clear hs
    go_enter Try.func71, Try.ntmps71
    go_wp2_with (first | fail | (refine wpL_guard rfl rfl ?_) | (refine wpL_loadFull rfl rfl rfl rowSq hH.h0 (sqc_size _ _) ?_) | (refine wpL_loadFull rfl rfl rfl rowSq hH.h1 (sqc_size _ _) ?_) | (go_at_call 52; with_reducible refine (l01Is_any o g _).mono ?_; rintro e w2 ⟨rfl, hb⟩; replace hH := hH.call' hb; clear hb; rw [h1]) | (go_at_call 52; with_reducible refine (l01Is_any p h _).mono ?_; rintro e w3 ⟨rfl, hb⟩; replace hH := hH.call' hb; clear hb; rw [h2]))
    go_ret
    exact ⟨rfl, hH.below⟩
set_option maxRecDepth 20000 in
set_option maxHeartbeats 2000000 in
theorem l06Two_far (N M n b c k0 : Nat) (g h : Nat → UInt8) (f : Nat → Int) (w : World) (h1 : sqB (N : Int) g = true) (h2 : sqB (M : Int) h = true) (hn : n ≤ 1048576) (hR : Row w b n f) (hF : FarN f M n k0) :
    Calls Try.prog 71 #[.agg (sqc N g), .agg (sqc M h), .slice (some ⟨b, 0, none⟩) n c] w fun e w' => e = .returned (.int .i64 2) ∧ Below w.heap.size w w' := by
  have HF := hid hF
  have hk0n := hF.lt
  have hM1 := (sqB_range h2).1
  have hM2 := (sqB_range h2).2
  clear hF
  replace hR := hid ((hR.alloc (.cells (sqc N g) 31)).alloc (.cells (sqc M h) 31))
  have hH := Has.start2 w (sqc N g) (sqc M h) 31 31
  go_enter Try.func71, Try.ntmps71
  go_wp2_with (first | fail | (refine wpL_guard rfl rfl ?_) | (refine wpL_loadFull rfl rfl rfl rowSq hH.h0 (sqc_size _ _) ?_) | (refine wpL_loadFull rfl rfl rfl rowSq hH.h1 (sqc_size _ _) ?_) | (go_at_call 52; with_reducible refine (l01Is_any N g _).mono ?_; rintro e w2 ⟨rfl, hb⟩; replace hH := hH.call' hb; replace hR := hid (hR.out.below hb); clear hb; rw [h1]) | (go_at_call 52; with_reducible refine (l01Is_any M h _).mono ?_; rintro e w3 ⟨rfl, hb⟩; replace hH := hH.call' hb; replace hR := hid (hR.out.below hb); clear hb; rw [h2]))
  go_loopw [7] (fun i wr => ∃ k : Nat, k ≤ k0 ∧ i = .int .i64 k ∧ Has w wr [(sqc N g, 31), (sqc M h, 31)] ∧ Hid (Row wr b n f)) (fun i _ => n - (intOf i).toNat)
  case atStart => exact ⟨0, by omega, rfl, hH, hR⟩
  case round =>
    clear hH hR
    obtain ⟨k, hk, rfl, hH, hR⟩ := hrel
    have hkn : k < n := by omega
    have hkn' : (k : Int) < n := by omega
    have cl := hR.out.cell hkn
    have cz : wr.cell? ⟨w.heap.size + 1, 0, none⟩ = some (.int .i64 M) := by rw [hH.c1, sqc_get0]
    by_cases hlt : k < k0
    · have hC := l01In_yes (f k) M (HF.out.lo k hlt)
      go_wp2
      go_quiet ((go_at_call 93; exact Calls.quiet_of_same (hC _)))
      go_wp2
      go_roundw
      case rel => exact ⟨k + 1, by omega, by go_num, hH.drewN _, hid (hR.out.drew _)⟩
      case measure => simp [intOf]; omega
    · obtain rfl : k = k0 := by omega
      have hC := l01In_no (f k) M HF.out.far
      go_wp2
      go_quiet ((go_at_call 93; exact Calls.quiet_of_same (hC _)))
      go_wp2
      go_ret
      exact ⟨rfl, (hH.drewN _).below⟩
set_option maxRecDepth 20000 in
set_option maxHeartbeats 2000000 in
theorem l06Two_all (N M n b c : Nat) (g h : Nat → UInt8) (f : Nat → Int) (w : World) (h1 : sqB (N : Int) g = true) (h2 : sqB (M : Int) h = true) (hn : n ≤ 1048576) (hR : Row w b n f) (hF : ∀ i, i < n → 0 ≤ f i ∧ f i < M) (z : Int) (hz : (n = N ∧ z = 0) ∨ (n ≠ N ∧ z = 2)) :
    Calls Try.prog 71 #[.agg (sqc N g), .agg (sqc M h), .slice (some ⟨b, 0, none⟩) n c] w fun e w' => e = .returned (.int .i64 z) ∧ Below w.heap.size w w' := by
  have HF := hid hF
  have HZ := hid hz
  have hM1 := (sqB_range h2).1
  have hM2 := (sqB_range h2).2
  clear hF hz
  replace hR := hid ((hR.alloc (.cells (sqc N g) 31)).alloc (.cells (sqc M h) 31))
  have hH := Has.start2 w (sqc N g) (sqc M h) 31 31
  go_enter Try.func71, Try.ntmps71
  go_wp2_with (first | fail | (refine wpL_guard rfl rfl ?_) | (refine wpL_loadFull rfl rfl rfl rowSq hH.h0 (sqc_size _ _) ?_) | (refine wpL_loadFull rfl rfl rfl rowSq hH.h1 (sqc_size _ _) ?_) | (go_at_call 52; with_reducible refine (l01Is_any N g _).mono ?_; rintro e w2 ⟨rfl, hb⟩; replace hH := hH.call' hb; replace hR := hid (hR.out.below hb); clear hb; rw [h1]) | (go_at_call 52; with_reducible refine (l01Is_any M h _).mono ?_; rintro e w3 ⟨rfl, hb⟩; replace hH := hH.call' hb; replace hR := hid (hR.out.below hb); clear hb; rw [h2]))
  go_loopw [7] (fun i wr => ∃ k : Nat, k ≤ n ∧ i = .int .i64 k ∧ Has w wr [(sqc N g, 31), (sqc M h, 31)] ∧ Hid (Row wr b n f)) (fun i _ => n - (intOf i).toNat)
  case atStart => exact ⟨0, by omega, rfl, hH, hR⟩
  case round =>
    clear hH hR
    obtain ⟨k, hk, rfl, hH, hR⟩ := hrel
    by_cases hlt : k < n
    · have hkn' : (k : Int) < n := by omega
      have cl := hR.out.cell hlt
      have cz : wr.cell? ⟨w.heap.size + 1, 0, none⟩ = some (.int .i64 M) := by rw [hH.c1, sqc_get0]
      have hC := l01In_yes (f k) M (HF.out k hlt)
      go_wp2
      go_quiet ((go_at_call 93; exact Calls.quiet_of_same (hC _)))
      go_wp2
      go_roundw
      case rel => exact ⟨k + 1, by omega, by go_num, hH.drewN _, hid (hR.out.drew _)⟩
      case measure => simp [intOf]; omega
    · obtain rfl : k = n := by omega
      have cz : wr.cell? ⟨w.heap.size, 0, none⟩ = some (.int .i64 N) := by rw [hH.c0, sqc_get0]
      rcases HZ.out with ⟨e1, rfl⟩ | ⟨e1, rfl⟩
      · have e2 : (k : Int) = (N : Int) := by omega
        clear e1
        go_wp2
        go_ret
        exact ⟨rfl, hH.below⟩
      · have e2 : ¬ (k : Int) = (N : Int) := by omega
        go_wp2
        go_ret
        exact ⟨rfl, hH.below⟩
set_option maxRecDepth 20000 in
set_option maxHeartbeats 4000000 in
theorem l06Is_any (N M b c : Nat) (g h : Nat → UInt8) (a : Nat → Nat) (w : World) (hq : IsSq N g) (hr : IsSq M h) (ha : ∀ i, i < N → a i < M) (hR : Row w b N (fun i => (a i : Int))) :
    Calls Try.prog 72 #[.agg (sqc N g), .agg (sqc M h), .slice (some ⟨b, 0, none⟩) N c] w fun e w' => e = .returned (.bool (homB N g h a)) ∧ Below w.heap.size w w' := by
  have h10 := hq.hi
  have m10 := hr.hi
  have HQ := hid hq
  have HA := hid ha
  clear hq hr ha
  replace hR := hid ((hR.alloc (.cells (sqc N g) 31)).alloc (.cells (sqc M h) 31))
  have hH := Has.start2 w (sqc N g) (sqc M h) 31 31
  go_enter Try.func72, Try.ntmps72
  go_wp2
  go_loopw [7] (fun i wr => ∃ k : Nat, k ≤ N ∧ i = .int .i64 k ∧ Has w wr [(sqc N g, 31), (sqc M h, 31)] ∧ Hid (Row wr b N (fun i => (a i : Int))) ∧ Hid (∀ x, x < k → ∀ y, y < N → a (mu g x y) = mu h (a x) (a y))) (fun i _ => 20 - (intOf i).toNat)
  case atStart => exact ⟨0, by omega, rfl, hH, hR, hid (fun x hx => absurd hx (Nat.not_lt_zero x))⟩
  case round =>
    clear hH hR
    obtain ⟨k, hk, rfl, hH, hR, hU⟩ := hrel
    have cz : wr.cell? ⟨w.heap.size, 0, none⟩ = some (.int .i64 N) := by rw [hH.c0, sqc_get0]
    by_cases hlt : k < N
    · have hk1 : (k : Int) < 10 := by omega
      have hkN : (k : Int) < N := by omega
      go_wp2
      clear cz
      go_loopw [8] (fun i wx => ∃ j : Nat, j ≤ N ∧ i = .int .i64 j ∧ Has w wx [(sqc N g, 31), (sqc M h, 31)] ∧ Hid (Row wx b N (fun i => (a i : Int))) ∧ Hid (∀ y, y < j → a (mu g k y) = mu h (a k) (a y))) (fun i _ => 20 - (intOf i).toNat)
      case atStart => exact ⟨0, by omega, rfl, hH, hR, hid (fun x hx => absurd hx (Nat.not_lt_zero x))⟩
      case round =>
        clear hH hR
        obtain ⟨j, hj, rfl, hH, hR, hV⟩ := hrel
        have cz : wr.cell? ⟨w.heap.size, 0, none⟩ = some (.int .i64 N) := by rw [hH.c0, sqc_get0]
        by_cases hlt2 : j < N
        · have hj1 : (j : Int) < 10 := by omega
          have hjN : (j : Int) < N := by omega
          obtain ⟨z, hz⟩ : ∃ z, g (k * 10 + j) = z := ⟨_, rfl⟩
          have hzl : z.toNat < N := by rw [← hz]; exact mu_lt HQ.out hlt hlt2
          have hzl' : (z.toNat : Int) < N := by omega
          obtain ⟨u, hu⟩ : ∃ u, h (a k * 10 + a j) = u := ⟨_, rfl⟩
          have hak := HA.out k hlt
          have haj := HA.out j hlt2
          have c1 : wr.cell? ⟨w.heap.size, 1 + k * 10 + j, none⟩ = some (.int .u8 z.toNat) := by rw [hH.c0, Nat.add_assoc, sqc_get _ _ _ (by omega), hz]
          have c2 := hR.out.cell hzl
          have c3 := hR.out.cell hlt
          have c4 := hR.out.cell hlt2
          have c5 : wr.cell? ⟨w.heap.size + 1, 1 + a k * 10 + a j, none⟩ = some (.int .u8 u.toNat) := by rw [hH.c1, Nat.add_assoc, sqc_get _ _ _ (by omega), hu]
          have hak' : ((a k : Nat) : Int) < 10 := by omega
          have haj' : ((a j : Nat) : Int) < 10 := by omega
          have bu := u8_bd u
          have HE := hid (show a (mu g k j) = mu h (a k) (a j) ↔ a z.toNat = u.toNat by unfold mu; rw [hz, hu])
          clear hz hu
          by_cases ea : a z.toNat = u.toNat
          · have hV' : Hid (∀ y, y < j + 1 → a (mu g k y) = mu h (a k) (a y)) := hid (fun y hy => by
              by_cases e : y = j
              · subst e; exact HE.out.2 ea
              · exact hV.out y (by omega))
            have ea' : ((a z.toNat : Nat) : Int) = (u.toNat : Int) := by omega
            clear ea
            go_wp2
            go_quiet (fail)
            go_wp2
            go_roundw
            case rel => exact ⟨j + 1, by omega, by go_num, hH.drewN _, hid (hR.out.drew _), hV'⟩
            case measure => simp [intOf]; omega
          · have hno := hid (homB_no hlt hlt2 (fun h => ea (HE.out.1 h)))
            have ea' : ¬ ((a z.toNat : Nat) : Int) = (u.toNat : Int) := by omega
            go_wp2
            go_quiet (fail)
            go_wp2
            go_ret
            exact ⟨by rw [hno.out]; rfl, (hH.drewN _).below⟩
        · obtain rfl : j = N := by omega
          have hU' : Hid (∀ x, x < k + 1 → ∀ y, y < j → a (mu g x y) = mu h (a x) (a y)) := hid (fun x hx => by
            by_cases e : x = k
            · subst e; exact hV.out
            · exact hU.out x (by omega))
          go_wp2
          go_roundw
          case rel => exact ⟨k + 1, by omega, by go_num, hH, hR, hU'⟩
          case measure => simp [intOf]; omega
    · obtain rfl : k = N := by omega
      have hyes := hid (homB_iff.2 hU.out)
      go_wp2
      go_ret
      exact ⟨by rw [hyes.out]; rfl, hH.below⟩
end Go.Proofs.Ytphninlinegbbab
