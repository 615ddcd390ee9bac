/- Proved: what the model's functions that tell terms return. Conditions: those that each theorem names. -/
import Derived.Test.YtphninlinegbbacTe1
namespace Go.Proofs.Ytphninlinegbbac
set_option linter.unusedVariables false
set_option linter.unusedSimpArgs false
open Go.RowKit
theorem l03Op_any (c : UInt8) (w : World) : Calls Try.prog 84 #[.int .u8 c.toNat] w fun e w' => e = .returned (.bool (isOp c)) ∧ w = w' := by
  rcases letters c with (rfl | rfl | rfl | rfl) | (rfl | rfl | rfl) | ⟨⟨_, _, _, _⟩, ⟨h5, h6, h7⟩, _, ho⟩
  case inr.inr =>
    rw [ho]
    clear ho
    go_enter Try.func84, Try.ntmps84
    go_wp2_with (refine wpL_guard rfl rfl ?_)
    go_ret
    exact ⟨rfl, rfl⟩
  all_goals
    go_enter Try.func84, Try.ntmps84
    go_wp2_with (refine wpL_guard rfl rfl ?_)
    go_ret
    exact ⟨rfl, rfl⟩
theorem l03Op_yes (z : Int) (hz : z = 42 ∨ z = 92 ∨ z = 47) (w : World) : Calls Try.prog 84 #[.int .u8 z] w fun e w' => e = .returned (.bool true) ∧ w = w' := by
  rcases hz with rfl | rfl | rfl
  · exact l03Op_any 42 w
  · exact l03Op_any 92 w
  · exact l03Op_any 47 w
set_option maxRecDepth 20000 in
set_option maxHeartbeats 8000000 in
theorem l03Is_any (b n c : Nat) (f : Nat → UInt8) (w : World) (hn : n ≤ 1048576) (h : BRow w b n f) :
    Calls Try.prog 56 #[.slice (some ⟨b, 0, none⟩) n c] w fun e w' => e = .returned (.bool (termT f n).isSome) ∧ w = w' := by
  have HR := hid h
  clear h
  go_enter Try.func56, Try.ntmps56
  go_wp2
  go_loop [3, 4] (fun d i => ∃ k m : Nat, k ≤ n ∧ m ≤ k ∧ i = .int .i64 k ∧ d = .int .i64 m ∧ Hid (∃ l, runT f k = some l ∧ l.length = m)) (fun _ i => n - (intOf i).toNat)
  case atStart => exact ⟨0, 0, by omega, by omega, rfl, rfl, hid ⟨[], rfl, rfl⟩⟩
  case round =>
    obtain ⟨k, m, hk, hm, rfl, rfl, hl⟩ := hrel
    by_cases hlt : k < n
    · have hlt' : (k : Int) < (n : Int) := by omega
      have ca := HR.out.cell hlt
      obtain ⟨x, hx⟩ : ∃ x, f k = x := ⟨_, rfl⟩
      rw [hx] at ca
      have HX := hid hx
      clear hx
      rcases letters x with hv | ho | hb
      · have hN : ∃ l, runT f (k + 1) = some l ∧ l.length = m + 1 := by
          obtain ⟨l, e1, e2⟩ := hl.out
          exact ⟨_, runT_var e1 (by rw [HX.out]; exact var_yes hv), by simp [e2]⟩
        have HN := hid hN
        clear hN
        obtain ⟨z, hz, hv2⟩ := var_int hv
        rw [hz] at ca
        clear hz hv
        rcases hv2 with rfl | rfl | rfl | rfl
        all_goals
          go_wp2_with (refine wpL_guard rfl rfl ?_)
          go_round
          case rel => exact ⟨k + 1, m + 1, by omega, by omega, by go_num, by go_num, HN⟩
          case measure => simp [intOf]; omega
      · have hc1 : isVar x = false := op_novar ho
        have hc2 : isOp x = true := op_yes ho
        by_cases h2 : 2 ≤ m
        · have hN : ∃ l, runT f (k + 1) = some l ∧ l.length = m - 1 := by
            obtain ⟨l, e1, e2⟩ := hl.out
            obtain ⟨p, y, z, rfl, e3⟩ := two_last (l := l) (by omega)
            exact ⟨_, runT_op e1 (by rw [HX.out]; exact hc1) (by rw [HX.out]; exact hc2), by simp; omega⟩
          have HN := hid hN
          obtain ⟨q, rfl⟩ : ∃ q, m = q + 2 := ⟨m - 2, by omega⟩
          have hge : (2 : Int) ≤ ((q + 2 : Nat) : Int) := by omega
          clear hN h2
          obtain ⟨z, hz, ho2⟩ := op_int ho
          rw [hz] at ca
          clear hz ho hc1 hc2
          rcases ho2 with rfl | rfl | rfl
          all_goals
            go_wp2_with (refine wpL_guard rfl rfl ?_)
            go_at_call 84
            refine (l03Op_yes _ (by first | exact .inl rfl | exact .inr (.inl rfl) | exact .inr (.inr rfl)) _).mono ?_
            rintro e w2 ⟨rfl, rfl⟩
            go_wp2_with (refine wpL_guard rfl rfl ?_)
            exact ⟨⟨k + 1, q + 1, by omega, by omega, by go_num, by go_num, HN⟩, by simp [intOf]; omega⟩
        · have hq := hid (show termT f n = none by
            obtain ⟨l, e1, e2⟩ := hl.out
            exact termT_dead (runT_few e1 (by rw [HX.out]; exact hc1) (by omega)) (by omega : k + 1 ≤ n))
          have hge : ¬ (2 : Int) ≤ (m : Int) := by omega
          obtain ⟨z, hz, ho2⟩ := op_int ho
          rw [hz] at ca
          clear hz ho hc1 hc2
          rcases ho2 with rfl | rfl | rfl
          all_goals
            go_wp2_with (refine wpL_guard rfl rfl ?_)
            go_at_call 84
            refine (l03Op_yes _ (by first | exact .inl rfl | exact .inr (.inl rfl) | exact .inr (.inr rfl)) _).mono ?_
            rintro e w2 ⟨rfl, rfl⟩
            go_wp2_with (refine wpL_guard rfl rfl ?_)
            go_ret
            exact ⟨by rw [hq.out]; rfl, rfl⟩
      · obtain ⟨⟨n1, n2, n3, n4⟩, _, hc1, hc2⟩ := hb
        have hq := hid (show termT f n = none by
          obtain ⟨l, e1, e2⟩ := hl.out
          exact termT_dead (runT_bad e1 (by rw [HX.out]; exact hc1) (by rw [HX.out]; exact hc2)) (by omega : k + 1 ≤ n))
        go_wp2_with (first | (refine wpL_guard rfl rfl ?_) | (go_at_call 84; refine (l03Op_any x _).mono ?_; rintro e w2 ⟨rfl, rfl⟩; rw [hc2]))
        go_ret
        exact ⟨by rw [hq.out]; rfl, rfl⟩
    · obtain rfl : k = n := by omega
      by_cases h1 : m = 1
      · have hm1 : ((m : Int) == 1) = true := by simp [h1]
        by_cases h40 : k ≤ 40
        · have hq := hid (show (termT f k).isSome = true by
            obtain ⟨l, e1, e2⟩ := hl.out
            rw [h1] at e2
            match l, e2 with
            | [t], _ => rw [termT_yes e1 h40]; rfl)
          have hle : (k : Int) ≤ 40 := by omega
          go_wp2_with (refine wpL_guard rfl rfl ?_)
          go_ret
          exact ⟨by rw [hq.out]; rfl, rfl⟩
        · have hq := hid (termT_long (f := f) (n := k) (by omega))
          have hle : ¬ (k : Int) ≤ 40 := by omega
          go_wp2_with (refine wpL_guard rfl rfl ?_)
          go_ret
          exact ⟨by rw [hq.out]; rfl, rfl⟩
      · have hq := hid (show termT f k = none by
          obtain ⟨l, e1, e2⟩ := hl.out
          exact termT_many e1 (by omega))
        have hne : ((m : Int) == 1) = false := by rw [beq_eq_false_iff_ne]; omega
        go_wp2_with (refine wpL_guard rfl rfl ?_)
        go_ret
        exact ⟨by rw [hq.out]; rfl, rfl⟩
end Go.Proofs.Ytphninlinegbbac
