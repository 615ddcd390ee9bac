/- Proved: what the model's nuclei, commutant and centre are. Conditions: those that each theorem names. -/
import Derived.Test.YtphninlinegbbaaNu
import Derived.Test.YtphninlinegbbaaSel
import Derived.Test.YtphninlinegbbaaLc
namespace Go.Proofs.Ytphninlinegbbaa
set_option linter.unusedVariables false
set_option linter.unusedSimpArgs false
open Go.RowKit
/-- a meets the law of the nucleus s (0: left, 1: middle, 2: right) at x and y. -/
def regE (g : Nat → UInt8) (s a x y : Nat) : Prop :=
  if s = 0 then mu g (mu g a x) y = mu g a (mu g x y) else if s = 1 then mu g (mu g x a) y = mu g x (mu g a y) else mu g (mu g x y) a = mu g x (mu g y a)
noncomputable def regB (g : Nat → UInt8) (N s a : Nat) : Bool := @decide (∀ x, x < N → ∀ y, y < N → regE g s a x y) (Classical.propDecidable _)
theorem regB_iff {g : Nat → UInt8} {N s a : Nat} : regB g N s a = true ↔ ∀ x, x < N → ∀ y, y < N → regE g s a x y := by unfold regB; exact @decide_eq_true_iff _ (Classical.propDecidable _)
theorem regB_no {g : Nat → UInt8} {N s a x y : Nat} (hx : x < N) (hy : y < N) (h : ¬ regE g s a x y) : regB g N s a = false := by
  cases e : regB g N s a with
  | false => rfl
  | true => exact absurd (regB_iff.1 e x hx y hy) h
theorem u8_ne {p q : UInt8} (h : ¬ p.toNat = q.toNat) : ¬ ((p.toNat : Int) = (q.toNat : Int)) := by omega
set_option maxRecDepth 20000 in
set_option maxHeartbeats 4000000 in
theorem l05Regular_0 (N a : Nat) (g : Nat → UInt8) (w : World) (hq : IsSq N g) (ha : a < N) :
    Calls Try.prog 90 #[.agg (sqc N g), .int .u8 a, .int .i64 0] w fun e w' => e = .returned (.bool (regB g N 0 a)) ∧ Below w.heap.size w w' := by
  have h10 := hq.hi
  have HQ := hid hq
  clear hq
  have ha' : (a : Int) < 10 := by omega
  have ha10 : a < 10 := by omega
  have hH := Has.start2 w (sqc N g) (u8s 100 fun _ => 0) 31 29
  have h0 := Has.start1 w (sqc N g) 31
  go_enter Try.func90, Try.ntmps90
  go_wp2_with (first | (refine wpL_loadTab rfl rfl rfl rowTa h0.h0 ?_) | (refine wpL_alloc rfl rfl zeroTa ?_; intro g hg; (try simp at hg); subst hg) | (refine wpL_storeFull rfl rfl rfl rfl rowTa hH.h1 (u8s_size _ _) (u8s_ok _ _) ?_; replace hH := hH.r1 (cs' := u8s 100 g)))
  clear h0
  go_loopw [8] (fun i wr => ∃ k : Nat, k ≤ N ∧ i = .int .i64 k ∧ Has w wr [(sqc N g, 31), (u8s 100 g, 29)] ∧ Hid (∀ x, x < k → ∀ y, y < N → regE g 0 a x y)) (fun i _ => 20 - (intOf i).toNat)
  case atStart => exact ⟨0, by omega, rfl, hH, hid (fun x hx => absurd hx (Nat.not_lt_zero x))⟩
  case round =>
    clear hH
    obtain ⟨k, hk, rfl, hH, hU⟩ := hrel
    have cz : wr.cell? ⟨w.heap.size, 0, none⟩ = some (.int .i64 N) := by rw [hH.c0, sqc_get0]
    by_cases hlt : k < N
    · have hk10 : k < 10 := by omega
      have hk1 : (k : Int) < 10 := by omega
      go_wp2
      clear cz
      go_loopw [9] (fun i wr => ∃ j : Nat, j ≤ N ∧ i = .int .i64 j ∧ Has w wr [(sqc N g, 31), (u8s 100 g, 29)] ∧ Hid (∀ y, y < j → regE g 0 a k y)) (fun i _ => 20 - (intOf i).toNat)
      case atStart => exact ⟨0, by omega, rfl, hH, hid (fun x hx => absurd hx (Nat.not_lt_zero x))⟩
      case round =>
        clear hH
        obtain ⟨j, hj, rfl, hH, hV⟩ := hrel
        have cz : wr.cell? ⟨w.heap.size, 0, none⟩ = some (.int .i64 N) := by rw [hH.c0, sqc_get0]
        by_cases hlt2 : j < N
        · have hj10 : j < 10 := by omega
          have hj1 : (j : Int) < 10 := by omega
          obtain ⟨p, hp⟩ : ∃ p, g (a * 10 + k) = p := ⟨_, rfl⟩
          have hpl : p.toNat < N := by rw [← hp]; exact mu_lt HQ.out (by omega) (by omega)
          obtain ⟨q, hqq⟩ : ∃ q, g (p.toNat * 10 + j) = q := ⟨_, rfl⟩
          obtain ⟨r, hr⟩ : ∃ r, g (k * 10 + j) = r := ⟨_, rfl⟩
          have hrl : r.toNat < N := by rw [← hr]; exact mu_lt HQ.out (by omega) (by omega)
          obtain ⟨s, hs⟩ : ∃ s, g (a * 10 + r.toNat) = s := ⟨_, rfl⟩
          have hE : regE g 0 a k j ↔ q.toNat = s.toNat := by
            unfold regE mu
            simp only [if_true, if_false, Nat.reduceEqDiff, Nat.one_ne_zero]
            rw [hp, hqq, hr, hs]
          have HE := hid hE
          have c1 : wr.cell? ⟨w.heap.size + 1, a * 10 + k, none⟩ = some (.int .u8 p.toNat) := by rw [hH.c1, u8s_get _ _ _ (by omega), hp]
          have c2 : wr.cell? ⟨w.heap.size + 1, p.toNat * 10 + j, none⟩ = some (.int .u8 q.toNat) := by rw [hH.c1, u8s_get _ _ _ (by omega), hqq]
          have c3 : wr.cell? ⟨w.heap.size + 1, k * 10 + j, none⟩ = some (.int .u8 r.toNat) := by rw [hH.c1, u8s_get _ _ _ (by omega), hr]
          have c4 : wr.cell? ⟨w.heap.size + 1, a * 10 + r.toNat, none⟩ = some (.int .u8 s.toNat) := by rw [hH.c1, u8s_get _ _ _ (by omega), hs]
          have hp1 : (p.toNat : Int) < 10 := by omega
          have hr1 : (r.toNat : Int) < 10 := by omega
          clear hp hqq hr hs hE
          by_cases ea : q.toNat = s.toNat
          · have hV' : Hid (∀ y, y < j + 1 → regE g 0 a k y) := hid (fun y hy => by
              by_cases e : y = j
              · subst e; exact HE.out.2 ea
              · exact hV.out y (by omega))
            have ea' : ((q.toNat : Int) = (s.toNat : Int)) := by omega
            clear ea
            go_wp2
            go_quiet (fail)
            go_wp2
            go_quiet (fail)
            go_wp2
            go_quiet (fail)
            go_wp2
            go_roundw
            case rel => exact ⟨j + 1, by omega, by go_num, hH.drewN _, hV'⟩
            case measure => simp [intOf]; omega
          · have hno := hid (regB_no hlt hlt2 (fun h => ea (HE.out.1 h)))
            have ea' := u8_ne ea
            go_wp2
            go_quiet (fail)
            go_wp2
            go_ret
            first | exact ⟨by rw [hno.out]; rfl, (hH.drewN _).below⟩ | exact ⟨by rw [hno.out]; rfl, ((hH.drewN _).drewN _).below⟩ | exact ⟨by rw [hno.out]; rfl, (((hH.drewN _).drewN _).drewN _).below⟩
        · obtain rfl : j = N := by omega
          have hU' : Hid (∀ x, x < k + 1 → ∀ y, y < j → regE g 0 a x y) := hid (fun x hx => by
            by_cases e : x = k
            · subst e; exact hV.out
            · exact hU.out x (by omega))
          go_wp2
          go_roundw
          case rel => exact ⟨k + 1, by omega, by go_num, hH, hU'⟩
          case measure => simp [intOf]; omega
    · obtain rfl : k = N := by omega
      have hyes := hid (regB_iff.2 hU.out)
      go_wp2
      go_ret
      exact ⟨by rw [hyes.out]; rfl, hH.below⟩
set_option maxRecDepth 20000 in
set_option maxHeartbeats 4000000 in
theorem l05Regular_1 (N a : Nat) (g : Nat → UInt8) (w : World) (hq : IsSq N g) (ha : a < N) :
    Calls Try.prog 90 #[.agg (sqc N g), .int .u8 a, .int .i64 1] w fun e w' => e = .returned (.bool (regB g N 1 a)) ∧ Below w.heap.size w w' := by
  have h10 := hq.hi
  have HQ := hid hq
  clear hq
  have ha' : (a : Int) < 10 := by omega
  have ha10 : a < 10 := by omega
  have hH := Has.start2 w (sqc N g) (u8s 100 fun _ => 0) 31 29
  have h0 := Has.start1 w (sqc N g) 31
  go_enter Try.func90, Try.ntmps90
  go_wp2_with (first | (refine wpL_loadTab rfl rfl rfl rowTa h0.h0 ?_) | (refine wpL_alloc rfl rfl zeroTa ?_; intro g hg; (try simp at hg); subst hg) | (refine wpL_storeFull rfl rfl rfl rfl rowTa hH.h1 (u8s_size _ _) (u8s_ok _ _) ?_; replace hH := hH.r1 (cs' := u8s 100 g)))
  clear h0
  go_loopw [8] (fun i wr => ∃ k : Nat, k ≤ N ∧ i = .int .i64 k ∧ Has w wr [(sqc N g, 31), (u8s 100 g, 29)] ∧ Hid (∀ x, x < k → ∀ y, y < N → regE g 1 a x y)) (fun i _ => 20 - (intOf i).toNat)
  case atStart => exact ⟨0, by omega, rfl, hH, hid (fun x hx => absurd hx (Nat.not_lt_zero x))⟩
  case round =>
    clear hH
    obtain ⟨k, hk, rfl, hH, hU⟩ := hrel
    have cz : wr.cell? ⟨w.heap.size, 0, none⟩ = some (.int .i64 N) := by rw [hH.c0, sqc_get0]
    by_cases hlt : k < N
    · have hk10 : k < 10 := by omega
      have hk1 : (k : Int) < 10 := by omega
      go_wp2
      clear cz
      go_loopw [9] (fun i wr => ∃ j : Nat, j ≤ N ∧ i = .int .i64 j ∧ Has w wr [(sqc N g, 31), (u8s 100 g, 29)] ∧ Hid (∀ y, y < j → regE g 1 a k y)) (fun i _ => 20 - (intOf i).toNat)
      case atStart => exact ⟨0, by omega, rfl, hH, hid (fun x hx => absurd hx (Nat.not_lt_zero x))⟩
      case round =>
        clear hH
        obtain ⟨j, hj, rfl, hH, hV⟩ := hrel
        have cz : wr.cell? ⟨w.heap.size, 0, none⟩ = some (.int .i64 N) := by rw [hH.c0, sqc_get0]
        by_cases hlt2 : j < N
        · have hj10 : j < 10 := by omega
          have hj1 : (j : Int) < 10 := by omega
          obtain ⟨p, hp⟩ : ∃ p, g (k * 10 + a) = p := ⟨_, rfl⟩
          have hpl : p.toNat < N := by rw [← hp]; exact mu_lt HQ.out (by omega) (by omega)
          obtain ⟨q, hqq⟩ : ∃ q, g (p.toNat * 10 + j) = q := ⟨_, rfl⟩
          obtain ⟨r, hr⟩ : ∃ r, g (a * 10 + j) = r := ⟨_, rfl⟩
          have hrl : r.toNat < N := by rw [← hr]; exact mu_lt HQ.out (by omega) (by omega)
          obtain ⟨s, hs⟩ : ∃ s, g (k * 10 + r.toNat) = s := ⟨_, rfl⟩
          have hE : regE g 1 a k j ↔ q.toNat = s.toNat := by
            unfold regE mu
            simp only [if_true, if_false, Nat.reduceEqDiff, Nat.one_ne_zero]
            rw [hp, hqq, hr, hs]
          have HE := hid hE
          have c1 : wr.cell? ⟨w.heap.size + 1, k * 10 + a, none⟩ = some (.int .u8 p.toNat) := by rw [hH.c1, u8s_get _ _ _ (by omega), hp]
          have c2 : wr.cell? ⟨w.heap.size + 1, p.toNat * 10 + j, none⟩ = some (.int .u8 q.toNat) := by rw [hH.c1, u8s_get _ _ _ (by omega), hqq]
          have c3 : wr.cell? ⟨w.heap.size + 1, a * 10 + j, none⟩ = some (.int .u8 r.toNat) := by rw [hH.c1, u8s_get _ _ _ (by omega), hr]
          have c4 : wr.cell? ⟨w.heap.size + 1, k * 10 + r.toNat, none⟩ = some (.int .u8 s.toNat) := by rw [hH.c1, u8s_get _ _ _ (by omega), hs]
          have hp1 : (p.toNat : Int) < 10 := by omega
          have hr1 : (r.toNat : Int) < 10 := by omega
          clear hp hqq hr hs hE
          by_cases ea : q.toNat = s.toNat
          · have hV' : Hid (∀ y, y < j + 1 → regE g 1 a k y) := hid (fun y hy => by
              by_cases e : y = j
              · subst e; exact HE.out.2 ea
              · exact hV.out y (by omega))
            have ea' : ((q.toNat : Int) = (s.toNat : Int)) := by omega
            clear ea
            go_wp2
            go_quiet (fail)
            go_wp2
            go_quiet (fail)
            go_wp2
            go_quiet (fail)
            go_wp2
            go_roundw
            case rel => exact ⟨j + 1, by omega, by go_num, hH.drewN _, hV'⟩
            case measure => simp [intOf]; omega
          · have hno := hid (regB_no hlt hlt2 (fun h => ea (HE.out.1 h)))
            have ea' := u8_ne ea
            go_wp2
            go_quiet (fail)
            go_wp2
            go_quiet (fail)
            go_wp2
            go_ret
            first | exact ⟨by rw [hno.out]; rfl, (hH.drewN _).below⟩ | exact ⟨by rw [hno.out]; rfl, ((hH.drewN _).drewN _).below⟩ | exact ⟨by rw [hno.out]; rfl, (((hH.drewN _).drewN _).drewN _).below⟩
        · obtain rfl : j = N := by omega
          have hU' : Hid (∀ x, x < k + 1 → ∀ y, y < j → regE g 1 a x y) := hid (fun x hx => by
            by_cases e : x = k
            · subst e; exact hV.out
            · exact hU.out x (by omega))
          go_wp2
          go_roundw
          case rel => exact ⟨k + 1, by omega, by go_num, hH, hU'⟩
          case measure => simp [intOf]; omega
    · obtain rfl : k = N := by omega
      have hyes := hid (regB_iff.2 hU.out)
      go_wp2
      go_ret
      exact ⟨by rw [hyes.out]; rfl, hH.below⟩
set_option maxRecDepth 20000 in
set_option maxHeartbeats 4000000 in
theorem l05Regular_2 (N a : Nat) (g : Nat → UInt8) (w : World) (hq : IsSq N g) (ha : a < N) :
    Calls Try.prog 90 #[.agg (sqc N g), .int .u8 a, .int .i64 2] w fun e w' => e = .returned (.bool (regB g N 2 a)) ∧ Below w.heap.size w w' := by
  have h10 := hq.hi
  have HQ := hid hq
  clear hq
  have ha' : (a : Int) < 10 := by omega
  have ha10 : a < 10 := by omega
  have hH := Has.start2 w (sqc N g) (u8s 100 fun _ => 0) 31 29
  have h0 := Has.start1 w (sqc N g) 31
  go_enter Try.func90, Try.ntmps90
  go_wp2_with (first | (refine wpL_loadTab rfl rfl rfl rowTa h0.h0 ?_) | (refine wpL_alloc rfl rfl zeroTa ?_; intro g hg; (try simp at hg); subst hg) | (refine wpL_storeFull rfl rfl rfl rfl rowTa hH.h1 (u8s_size _ _) (u8s_ok _ _) ?_; replace hH := hH.r1 (cs' := u8s 100 g)))
  clear h0
  go_loopw [8] (fun i wr => ∃ k : Nat, k ≤ N ∧ i = .int .i64 k ∧ Has w wr [(sqc N g, 31), (u8s 100 g, 29)] ∧ Hid (∀ x, x < k → ∀ y, y < N → regE g 2 a x y)) (fun i _ => 20 - (intOf i).toNat)
  case atStart => exact ⟨0, by omega, rfl, hH, hid (fun x hx => absurd hx (Nat.not_lt_zero x))⟩
  case round =>
    clear hH
    obtain ⟨k, hk, rfl, hH, hU⟩ := hrel
    have cz : wr.cell? ⟨w.heap.size, 0, none⟩ = some (.int .i64 N) := by rw [hH.c0, sqc_get0]
    by_cases hlt : k < N
    · have hk10 : k < 10 := by omega
      have hk1 : (k : Int) < 10 := by omega
      go_wp2
      clear cz
      go_loopw [9] (fun i wr => ∃ j : Nat, j ≤ N ∧ i = .int .i64 j ∧ Has w wr [(sqc N g, 31), (u8s 100 g, 29)] ∧ Hid (∀ y, y < j → regE g 2 a k y)) (fun i _ => 20 - (intOf i).toNat)
      case atStart => exact ⟨0, by omega, rfl, hH, hid (fun x hx => absurd hx (Nat.not_lt_zero x))⟩
      case round =>
        clear hH
        obtain ⟨j, hj, rfl, hH, hV⟩ := hrel
        have cz : wr.cell? ⟨w.heap.size, 0, none⟩ = some (.int .i64 N) := by rw [hH.c0, sqc_get0]
        by_cases hlt2 : j < N
        · have hj10 : j < 10 := by omega
          have hj1 : (j : Int) < 10 := by omega
          obtain ⟨p, hp⟩ : ∃ p, g (k * 10 + j) = p := ⟨_, rfl⟩
          have hpl : p.toNat < N := by rw [← hp]; exact mu_lt HQ.out (by omega) (by omega)
          obtain ⟨q, hqq⟩ : ∃ q, g (p.toNat * 10 + a) = q := ⟨_, rfl⟩
          obtain ⟨r, hr⟩ : ∃ r, g (j * 10 + a) = r := ⟨_, rfl⟩
          have hrl : r.toNat < N := by rw [← hr]; exact mu_lt HQ.out (by omega) (by omega)
          obtain ⟨s, hs⟩ : ∃ s, g (k * 10 + r.toNat) = s := ⟨_, rfl⟩
          have hE : regE g 2 a k j ↔ q.toNat = s.toNat := by
            unfold regE mu
            simp only [if_true, if_false, Nat.reduceEqDiff, Nat.one_ne_zero]
            rw [hp, hqq, hr, hs]
          have HE := hid hE
          have c1 : wr.cell? ⟨w.heap.size + 1, k * 10 + j, none⟩ = some (.int .u8 p.toNat) := by rw [hH.c1, u8s_get _ _ _ (by omega), hp]
          have c2 : wr.cell? ⟨w.heap.size + 1, p.toNat * 10 + a, none⟩ = some (.int .u8 q.toNat) := by rw [hH.c1, u8s_get _ _ _ (by omega), hqq]
          have c3 : wr.cell? ⟨w.heap.size + 1, j * 10 + a, none⟩ = some (.int .u8 r.toNat) := by rw [hH.c1, u8s_get _ _ _ (by omega), hr]
          have c4 : wr.cell? ⟨w.heap.size + 1, k * 10 + r.toNat, none⟩ = some (.int .u8 s.toNat) := by rw [hH.c1, u8s_get _ _ _ (by omega), hs]
          have hp1 : (p.toNat : Int) < 10 := by omega
          have hr1 : (r.toNat : Int) < 10 := by omega
          clear hp hqq hr hs hE
          by_cases ea : q.toNat = s.toNat
          · have hV' : Hid (∀ y, y < j + 1 → regE g 2 a k y) := hid (fun y hy => by
              by_cases e : y = j
              · subst e; exact HE.out.2 ea
              · exact hV.out y (by omega))
            have ea' : ((q.toNat : Int) = (s.toNat : Int)) := by omega
            clear ea
            go_wp2
            go_quiet (fail)
            go_wp2
            go_quiet (fail)
            go_wp2
            go_quiet (fail)
            go_wp2
            go_roundw
            case rel => exact ⟨j + 1, by omega, by go_num, hH.drewN _, hV'⟩
            case measure => simp [intOf]; omega
          · have hno := hid (regB_no hlt hlt2 (fun h => ea (HE.out.1 h)))
            have ea' := u8_ne ea
            go_wp2
            go_quiet (fail)
            go_wp2
            go_quiet (fail)
            go_wp2
            go_quiet (fail)
            go_wp2
            go_ret
            first | exact ⟨by rw [hno.out]; rfl, (hH.drewN _).below⟩ | exact ⟨by rw [hno.out]; rfl, ((hH.drewN _).drewN _).below⟩ | exact ⟨by rw [hno.out]; rfl, (((hH.drewN _).drewN _).drewN _).below⟩
        · obtain rfl : j = N := by omega
          have hU' : Hid (∀ x, x < k + 1 → ∀ y, y < j → regE g 2 a x y) := hid (fun x hx => by
            by_cases e : x = k
            · subst e; exact hV.out
            · exact hU.out x (by omega))
          go_wp2
          go_roundw
          case rel => exact ⟨k + 1, by omega, by go_num, hH, hU'⟩
          case measure => simp [intOf]; omega
    · obtain rfl : k = N := by omega
      have hyes := hid (regB_iff.2 hU.out)
      go_wp2
      go_ret
      exact ⟨by rw [hyes.out]; rfl, hH.below⟩
set_option maxRecDepth 20000 in
set_option maxHeartbeats 4000000 in
theorem l05Nucleus_by (N s : Nat) (g : Nat → UInt8) (w : World) (h1 : 1 ≤ N) (h10 : N ≤ 10)
    (hR : Hid (∀ a w, a < N → Calls Try.prog 90 #[.agg (sqc N g), .int .u8 (a : Nat), .int .i64 s] w fun e w' => e = .returned (.bool (regB g N s a)) ∧ Below w.heap.size w w')) :
    Calls Try.prog 61 #[.agg (sqc N g), .int .i64 s] w (GotV (selL (regB g N s) N) w) := by
  have hH := Has.start1 w (sqc N g) 31
  go_enter Try.func61, Try.ntmps61
  go_wp2
  go_loopw [5, 6] (fun v i wr => ∃ k : Nat, k ≤ N ∧ i = .int .u8 k ∧ Has w wr [(sqc N g, 31)] ∧ Hid (OL wr (w.heap.size + 1) v (selL (regB g N s) k))) (fun _ i _ => 20 - (intOf i).toNat)
  case atStart => exact ⟨0, by omega, rfl, hH.alloc _, hid (by rw [show selL (regB g N s) 0 = [] from rfl]; exact OL.fresh _ (by simp) (by simp))⟩
  case round =>
    clear hH
    obtain ⟨k, hk, rfl, hH, hO⟩ := hrel
    have hsz := hH.size
    simp only [List.length_cons, List.length_nil] at hsz
    have hlen := selL_len (regB g N s) k
    have cz : wr.cell? ⟨w.heap.size, 0, none⟩ = some (.int .i64 N) := by rw [hH.c0, sqc_get0]
    by_cases hlt : k < N
    · have hk1 : (k : Int) < N := by omega
      have hk2 : (k : Int) < 10 := by omega
      cases he : regB g N s k with
      | true =>
        have HE := hid he
        go_wp2_with (first | fail | (refine wpL_loadFull rfl rfl rfl rowSq hH.h0 (sqc_size _ _) ?_) | (go_at_call 90; refine (hR.out k _ hlt).mono ?_; rintro e w3 ⟨rfl, hb⟩; rw [he]; replace hH := hH.call' hb; replace hO := hid (hO.out.below hb); have hs3 := hb.size; clear hb cz) | (refine wpL_appI (v := u5) (n := (selL (regB g N s) k).length) (base := w.heap.size + 1) (z := (k : Int)) rfl (by rfl) (by rfl) (by rfl) (World.ownsRow.alloc hO.out _) (by simp) (by omega) (by simp; omega) ?_; intro r cap w2 how hg hor hlt3; have hO2 := hid (OL.add how); replace hH := (hH.alloc _).grown hg (fun x hx => by have := (World.ownsRow.lt hO.out x hx).1; simp; omega); rw [← selL_yes HE.out] at hO2; clear how hg hor hlt3))
        go_roundw
        case rel => exact ⟨k + 1, by omega, by go_num, hH, hO2⟩
        case measure => simp [intOf]; omega
      | false =>
        have HE := hid he
        go_wp2_with (first | fail | (refine wpL_loadFull rfl rfl rfl rowSq hH.h0 (sqc_size _ _) ?_) | (go_at_call 90; refine (hR.out k _ hlt).mono ?_; rintro e w3 ⟨rfl, hb⟩; rw [he]; replace hH := hH.call' hb; replace hO := hid (hO.out.below hb); have hs3 := hb.size; clear hb cz))
        go_roundw
        case rel => exact ⟨k + 1, by omega, by go_num, hH, by rw [selL_no HE.out]; exact hO⟩
        case measure => simp [intOf]; omega
    · obtain rfl : k = N := by omega
      go_wp2
      go_ret
      exact ⟨_, rfl, hH.below, hO.out.lower (by omega)⟩
set_option maxRecDepth 20000 in
theorem specLeftNucleus_no (o : Int) (g : Nat → UInt8) (w : World) (hs : loopB o g = false) :
    Calls Try.prog 27 #[.agg (sqc o g)] w fun e w' => e = .returned (.tuple #[.slice none 0 0, .int .i64 1]) ∧ Below w.heap.size w w' := by
  have hH := Has.start1 w (sqc o g) 31
  go_enter Try.func27, Try.ntmps27
  go_wp2_with (first | (refine wpL_loadFull rfl rfl rfl rowSq hH.h0 (sqc_size _ _) ?_) | (go_at_call 60; refine (l01Loop_any o g _).mono ?_; rintro e w2 ⟨rfl, hb⟩; replace hH := hH.call' hb; clear hb; rw [hs]))
  go_ret2
  exact ⟨rfl, hH.below⟩
set_option maxRecDepth 20000 in
theorem specLeftNucleus_yes (N : Nat) (g : Nat → UInt8) (w : World) (hl : loopB (N : Int) g = true) (hq : IsSq N g) :
    Calls Try.prog 27 #[.agg (sqc N g)] w (GotL (selL (regB g N 0) N) 0 w) := by
  have HQ := hid hq
  have h1 := hq.lo
  have h10 := hq.hi
  clear hq
  have hH := Has.start1 w (sqc N g) 31
  go_enter Try.func27, Try.ntmps27
  go_wp2_with (first | (refine wpL_loadFull rfl rfl rfl rowSq hH.h0 (sqc_size _ _) ?_) | (go_at_call 60; refine (l01Loop_any N g _).mono ?_; rintro e w2 ⟨rfl, hb⟩; replace hH := hH.call' hb; clear hb; rw [hl]) | (go_at_call 61; refine (l05Nucleus_by N 0 g _ h1 h10 (hid fun a w ha => l05Regular_0 N a g w HQ.out ha)).mono ?_; rintro e w3 ⟨v, rfl, hb, hO⟩; have hlo := hH.size; simp only [List.length_cons, List.length_nil] at hlo; replace hH := hH.call' hb; clear hb))
  go_ret2
  exact hO.got hH.below (by omega)
set_option maxRecDepth 20000 in
theorem specMiddleNucleus_no (o : Int) (g : Nat → UInt8) (w : World) (hs : loopB o g = false) :
    Calls Try.prog 32 #[.agg (sqc o g)] w fun e w' => e = .returned (.tuple #[.slice none 0 0, .int .i64 1]) ∧ Below w.heap.size w w' := by
  have hH := Has.start1 w (sqc o g) 31
  go_enter Try.func32, Try.ntmps32
  go_wp2_with (first | (refine wpL_loadFull rfl rfl rfl rowSq hH.h0 (sqc_size _ _) ?_) | (go_at_call 60; refine (l01Loop_any o g _).mono ?_; rintro e w2 ⟨rfl, hb⟩; replace hH := hH.call' hb; clear hb; rw [hs]))
  go_ret2
  exact ⟨rfl, hH.below⟩
set_option maxRecDepth 20000 in
theorem specMiddleNucleus_yes (N : Nat) (g : Nat → UInt8) (w : World) (hl : loopB (N : Int) g = true) (hq : IsSq N g) :
    Calls Try.prog 32 #[.agg (sqc N g)] w (GotL (selL (regB g N 1) N) 0 w) := by
  have HQ := hid hq
  have h1 := hq.lo
  have h10 := hq.hi
  clear hq
  have hH := Has.start1 w (sqc N g) 31
  go_enter Try.func32, Try.ntmps32
  go_wp2_with (first | (refine wpL_loadFull rfl rfl rfl rowSq hH.h0 (sqc_size _ _) ?_) | (go_at_call 60; refine (l01Loop_any N g _).mono ?_; rintro e w2 ⟨rfl, hb⟩; replace hH := hH.call' hb; clear hb; rw [hl]) | (go_at_call 61; refine (l05Nucleus_by N 1 g _ h1 h10 (hid fun a w ha => l05Regular_1 N a g w HQ.out ha)).mono ?_; rintro e w3 ⟨v, rfl, hb, hO⟩; have hlo := hH.size; simp only [List.length_cons, List.length_nil] at hlo; replace hH := hH.call' hb; clear hb))
  go_ret2
  exact hO.got hH.below (by omega)
set_option maxRecDepth 20000 in
theorem specRightNucleus_no (o : Int) (g : Nat → UInt8) (w : World) (hs : loopB o g = false) :
    Calls Try.prog 34 #[.agg (sqc o g)] w fun e w' => e = .returned (.tuple #[.slice none 0 0, .int .i64 1]) ∧ Below w.heap.size w w' := by
  have hH := Has.start1 w (sqc o g) 31
  go_enter Try.func34, Try.ntmps34
  go_wp2_with (first | (refine wpL_loadFull rfl rfl rfl rowSq hH.h0 (sqc_size _ _) ?_) | (go_at_call 60; refine (l01Loop_any o g _).mono ?_; rintro e w2 ⟨rfl, hb⟩; replace hH := hH.call' hb; clear hb; rw [hs]))
  go_ret2
  exact ⟨rfl, hH.below⟩
set_option maxRecDepth 20000 in
theorem specRightNucleus_yes (N : Nat) (g : Nat → UInt8) (w : World) (hl : loopB (N : Int) g = true) (hq : IsSq N g) :
    Calls Try.prog 34 #[.agg (sqc N g)] w (GotL (selL (regB g N 2) N) 0 w) := by
  have HQ := hid hq
  have h1 := hq.lo
  have h10 := hq.hi
  clear hq
  have hH := Has.start1 w (sqc N g) 31
  go_enter Try.func34, Try.ntmps34
  go_wp2_with (first | (refine wpL_loadFull rfl rfl rfl rowSq hH.h0 (sqc_size _ _) ?_) | (go_at_call 60; refine (l01Loop_any N g _).mono ?_; rintro e w2 ⟨rfl, hb⟩; replace hH := hH.call' hb; clear hb; rw [hl]) | (go_at_call 61; refine (l05Nucleus_by N 2 g _ h1 h10 (hid fun a w ha => l05Regular_2 N a g w HQ.out ha)).mono ?_; rintro e w3 ⟨v, rfl, hb, hO⟩; have hlo := hH.size; simp only [List.length_cons, List.length_nil] at hlo; replace hH := hH.call' hb; clear hb))
  go_ret2
  exact hO.got hH.below (by omega)
end Go.Proofs.Ytphninlinegbbaa
