/- Proved: what the functions that tell permutations return, of program and model alike. Conditions: those that each theorem names. -/
import Derived.Test.YtbhjbllgmenbaaaBase
import Derived.Test.YtbhjbllgmenbaaaPerm
namespace Go.Proofs.Ytbhjbllgmenbaaa
set_option linter.unusedVariables false
set_option linter.unusedSimpArgs false
open Go.RowKit

theorem isOrder_any (n : Int) (w : World) :
    Calls Try.prog 92 #[.int .i64 n] w fun e w' => e = .returned (.bool (inB n 1 10)) ∧ w = w' := by
  by_cases h : 1 ≤ n
  · by_cases h2 : n ≤ 10
    · go_enter Try.func92, Try.ntmps92
      go_wp2
      go_ret
      exact ⟨by simp [inB, *], rfl⟩
    · have h2' : decide (n ≤ 10) = false := by simpa using h2
      go_enter Try.func92, Try.ntmps92
      go_wp2
      go_ret
      exact ⟨by simp [inB, *], rfl⟩
  · have h' : decide (1 ≤ n) = false := by simpa using h
    go_enter Try.func92, Try.ntmps92
    go_wp2
    go_ret
    exact ⟨by simp [inB, *], rfl⟩
theorem l01In_any (n a b : Int) (w : World) :
    Calls Try.prog 61 #[.int .i64 n, .int .i64 a, .int .i64 b] w fun e w' => e = .returned (.bool (inB n a b)) ∧ w = w' := by
  by_cases h : a ≤ n
  · by_cases h2 : n ≤ b
    · go_enter Try.func61, Try.ntmps61
      go_wp2
      go_ret
      exact ⟨by simp [inB, *], rfl⟩
    · have h2' : decide (n ≤ b) = false := by simpa using h2
      go_enter Try.func61, Try.ntmps61
      go_wp2
      go_ret
      exact ⟨by simp [inB, *], rfl⟩
  · have h' : decide (a ≤ n) = false := by simpa using h
    go_enter Try.func61, Try.ntmps61
    go_wp2
    go_ret
    exact ⟨by simp [inB, *], rfl⟩

set_option maxHeartbeats 1000000 in
theorem l01Perm_any (p : Nat → UInt8) (n : Int) (w : World) :
    Calls Try.prog 127 #[.agg (u8s 10 p), .int .i64 n] w fun e w' => e = .returned (.bool (permB p n)) ∧ Below w.heap.size w w' := by
  by_cases hn : 1 ≤ n ∧ n ≤ 10
  · obtain ⟨h1, h2⟩ := hn
    obtain ⟨N, rfl⟩ := Int.eq_ofNat_of_zero_le (show 0 ≤ n by omega)
    have hd := inB_true h1 h2
    go_enter Try.func127, Try.ntmps127
    go_wp2_with (first | (go_at_call 61; refine (l01In_any _ _ _ _).mono ?_; rintro e w' ⟨rfl, rfl⟩) | (refine wpL_alloc rfl rfl zeroBo ?_; intro g hg; (try simp at hg); subst hg) | (refine wpL_build rfl rfl builtBo ?_) | (refine wpL_storeSame rfl rfl rfl rfl rowBo (Has.start2 _ _ _ _ _).h1 (bls_ok _ _) ?_))
    go_loopw [6] (fun i wr => ∃ k : Nat, k ≤ 10 ∧ i = .int .i64 k ∧ Has w wr [(u8s 10 p, 71), (bls 10 (metB p N k), 77)] ∧ Hid (PermTo p N k)) (fun i _ => 10 - (intOf i).toNat)
    case atStart =>
      refine ⟨0, by omega, rfl, ?_, PermTo.start p N⟩
      have e : bls 10 (metB p N 0) = bls 10 (fun _ => false) := by rw [show metB p N 0 = fun _ => false from funext fun j => metB_zero p N j]
      rw [e]
      exact Has.start2 _ _ _ _ _
    case round =>
      obtain ⟨k, hk, rfl, hH, hP⟩ := hrel
      have c0 := hH.c0
      have c1 := hH.c1
      have f1 := hH.f1
      have hb := u8_bd (p k)
      by_cases hlt : k < 10
      · by_cases hN : N ≤ k
        · by_cases hz : (p k).toNat ≤ 0
          · go_wp2
            go_roundw
            case rel =>
              refine ⟨k + 1, by omega, by go_num, ?_, hid (hP.out.step0 hN (by omega))⟩
              have e : metB p N (k + 1) = metB p N k := by funext j; exact metB_ge p N k j hN
              rw [e]; exact hH
            case measure => simp [intOf]; omega
          · have hp := permB_rest (p := p) hN hlt (by omega)
            go_wp2
            go_ret
            exact ⟨by first | rfl | (rw [hp]; rfl), hH.below⟩
        · by_cases hg : N ≤ (p k).toNat
          · have hp := permB_ge (p := p) (show k < N by omega) hg
            go_wp2
            go_ret
            exact ⟨by first | rfl | (rw [hp]; rfl), hH.below⟩
          · have hg10 : (p k).toNat < 10 := by omega
            cases hm : metB p N k (p k).toNat with
            | true =>
              have hp := permB_met (p := p) (show k < N by omega) hm
              go_wp2
              go_ret
              exact ⟨by first | rfl | (rw [hp]; rfl), hH.below⟩
            | false =>
              go_wp2
              go_roundw
              case rel =>
                refine ⟨k + 1, by omega, by go_num, hH.s1 _ _ (bls_step 10 _ _ _ true (fun j _ => metB_succ p N k j (by omega))), hid (hP.out.step (by omega) (by omega) hm)⟩
              case measure => simp [intOf]; omega
      · obtain rfl : k = 10 := by omega
        have hp := permB_done (p := p) hP.out (by omega) (by omega)
        go_wp2
        go_ret
        exact ⟨by first | rfl | (rw [hp]; rfl), hH.below⟩
  · have hd := inB_false hn
    have hp := permB_out (p := p) hn
    go_enter Try.func127, Try.ntmps127
    go_wp2_with (go_at_call 61; refine (l01In_any _ _ _ _).mono ?_; rintro e w' ⟨rfl, rfl⟩)
    go_ret
    exact ⟨by first | rfl | (rw [hp]; rfl), (Has.start1 w _ _).below⟩

set_option maxHeartbeats 2000000 in
theorem IsPermutation_any (p : Nat → UInt8) (n : Int) (w : World) :
    Calls Try.prog 95 #[.agg (u8s 10 p), .int .i64 n] w fun e w' => e = .returned (.bool (permB p n)) ∧ Below w.heap.size w w' := by
  by_cases hn : 1 ≤ n ∧ n ≤ 10
  · obtain ⟨h1, h2⟩ := hn
    obtain ⟨N, rfl⟩ := Int.eq_ofNat_of_zero_le (show 0 ≤ n by omega)
    have hd := inB_true h1 h2
    go_enter Try.func95, Try.ntmps95
    go_wp2_with (first | (go_at_call 92; refine (isOrder_any _ _).mono ?_; rintro e w' ⟨rfl, rfl⟩) | (refine wpL_alloc rfl rfl zeroBo ?_; intro g hg; (try simp at hg); subst hg))
    go_loopw [16] (fun i wr => ∃ k : Nat, k ≤ N ∧ i = .int .i64 k ∧ Has w wr [(u8s 10 p, 71), (bls 10 (metB p N k), 77)] ∧ Hid (PermTo p N k)) (fun i _ => 10 - (intOf i).toNat)
    case atStart =>
      refine ⟨0, by omega, rfl, ?_, PermTo.start p N⟩
      have e : bls 10 (metB p N 0) = bls 10 (fun _ => false) := by rw [show metB p N 0 = fun _ => false from funext fun j => metB_zero p N j]
      rw [e]
      exact Has.start2 _ _ _ _ _
    case round =>
      obtain ⟨k, hk, rfl, hH, hP⟩ := hrel
      have c0 := hH.c0
      have c1 := hH.c1
      have f1 := hH.f1
      have hb := u8_bd (p k)
      by_cases hlt : k < N
      · have hlt10 : k < 10 := by omega
        by_cases hg : N ≤ (p k).toNat
        · have hp := permB_ge (p := p) hlt hg
          go_wp2
          go_ret
          exact ⟨by first | rfl | (rw [hp]; rfl), hH.below⟩
        · have hg10 : (p k).toNat < 10 := by omega
          cases hm : metB p N k (p k).toNat with
          | true =>
            have hp := permB_met (p := p) hlt hm
            go_wp2
            go_ret
            exact ⟨by first | rfl | (rw [hp]; rfl), hH.below⟩
          | false =>
            go_wp2
            go_roundw
            case rel =>
              refine ⟨k + 1, by omega, by go_num, hH.s1 _ _ (bls_step 10 _ _ _ true (fun j _ => metB_succ p N k j (by omega))), hid (hP.out.step (by omega) (by omega) hm)⟩
            case measure => simp [intOf]; omega
      · obtain rfl : k = N := by omega
        clear c0 c1 f1 hb
        by_cases h10 : k = 10
        · subst h10
          have hp := permB_done (p := p) hP.out (by omega) (by omega)
          go_wp2
          refine wp_loop_once ?_
          go_wp2
          go_ret
          exact ⟨by first | rfl | (rw [hp]; rfl), hH.below⟩
        · have hlt10 : k < 10 := by omega
          go_wp2
          go_loop [35] (fun i => ∃ j : Nat, j ≤ 10 - k ∧ i = .int .i64 j ∧ Hid (PermTo p k (k + j))) (fun i => 10 - (intOf i).toNat)
          case atStart => exact ⟨0, by omega, rfl, hP⟩
          case round =>
            obtain ⟨j, hj, rfl, hQ⟩ := hrel
            have c0 := hH.c0
            by_cases hlt2 : j < 10 - k
            · have hkj : k + j < 10 := by omega
              by_cases hz : (p (k + j)).toNat ≤ 0
              · go_wp2
                go_round
                case rel => exact ⟨j + 1, by omega, by go_num, hid (hQ.out.step0 (by omega) (by omega))⟩
                case measure => simp [intOf]; omega
              · have hp := permB_rest (p := p) (N := k) (k := k + j) (by omega) hkj (by omega)
                go_wp2
                go_ret
                exact ⟨by first | rfl | (rw [hp]; rfl), hH.below⟩
            · have hp := permB_done (p := p) (N := k) (by rw [show (10 : Nat) = k + j by omega]; exact hQ.out) (by omega) (by omega)
              go_wp2
              go_ret
              exact ⟨by first | rfl | (rw [hp]; rfl), hH.below⟩
  · have hd := inB_false hn
    have hp := permB_out (p := p) hn
    go_enter Try.func95, Try.ntmps95
    go_wp2_with (go_at_call 92; refine (isOrder_any _ _).mono ?_; rintro e w' ⟨rfl, rfl⟩)
    go_ret
    exact ⟨by first | rfl | (rw [hp]; rfl), (Has.start1 w _ _).below⟩
end Go.Proofs.Ytbhjbllgmenbaaa
