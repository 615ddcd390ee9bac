/- Proved: what the model's l09Is and both functions IsPartial return. Conditions: those that each theorem names. -/
import Derived.Test.YtbhjbllgmenbaaaBo3
import Derived.IntWalk
namespace Go.Proofs.Ytbhjbllgmenbaaa
set_option linter.unusedVariables false
set_option linter.unusedSimpArgs false
open Go.RowKit
/-- In row i and in column i the entries j and k do not clash. -/
def noc (f : Nat → Nat → Int) (i j k : Nat) : Prop := ¬ ((0 ≤ f i j ∧ f i j = f i k) ∨ (0 ≤ f j i ∧ f j i = f k i))
section
variable {n i j k : Nat} {m : Nat → Nat} {f : Nat → Nat → Int}
theorem ParG_in (hi : i < n) (hj : j < n) (h : ¬ (-1 ≤ f i j ∧ f i j ≤ (n : Int) - 1)) : ¬ ParG n m f := fun q => by
  rcases q.2.2.2 i j hi hj with e | ⟨e1, e2, _⟩ <;> omega
theorem ParG_clash (hi : i < n) (hj : j < n) (hk : k < j) (h : ¬ noc f i j k) : ¬ ParG n m f := fun q => h fun c => by
  rcases c with ⟨c1, c2⟩ | ⟨c1, c2⟩
  · rcases q.2.2.2 i j hi hj with e | ⟨_, _, e, _⟩
    · omega
    · exact e k hk c2.symm
  · rcases q.2.2.2 j i hj hi with e | ⟨_, _, _, e⟩
    · omega
    · exact e k hk c2.symm
theorem ParG_all (h1 : 1 ≤ n) (h10 : n ≤ 10) (hm : ∀ x, x < n → m x = n) (hr : ∀ x y, x < n → y < n → -1 ≤ f x y ∧ f x y ≤ (n : Int) - 1) (hc : ∀ i j k, i < n → j < n → k < j → noc f i j k) : ParG n m f :=
  ⟨h1, h10, hm, fun x y hx hy => by
    have hxy := hr x y hx hy
    by_cases e : f x y = -1
    · exact .inl e
    · exact .inr ⟨by omega, by omega, fun y' hy' c => hc x y y' hx hy hy' (.inl ⟨by omega, c.symm⟩), fun x' hx' c => hc y x x' hy hx hx' (.inr ⟨by omega, c.symm⟩)⟩⟩
end
set_option maxRecDepth 20000 in
set_option maxHeartbeats 2000000 in
theorem l09Is_out (b n : Nat) (w : World) (hn : n ≤ 1048576) (h : ¬ (1 ≤ n ∧ n ≤ 10)) :
    Calls Try.prog 72 #[.slice (some ⟨b, 0, none⟩) n n] w fun e w' => e = .returned (.bool false) ∧ Below w.heap.size w w' := by
  by_cases h0 : n = 0
  · subst h0
    go_enter Try.func72, Try.ntmps72
    go_wp2_with (first | fail | (refine wpL_guard rfl rfl ?_))
    go_ret
    exact ⟨rfl, Below.refl _ _⟩
  · have h1 : ¬ (n : Int) < 1 := by omega
    have h2 : (n : Int) > 10 := by omega
    go_enter Try.func72, Try.ntmps72
    go_wp2_with (first | fail | (refine wpL_guard rfl rfl ?_))
    go_ret
    exact ⟨rfl, Below.refl _ _⟩
set_option maxRecDepth 20000 in
set_option maxHeartbeats 8000000 in
theorem l09Is_any (b n : Nat) (m : Nat → Nat) (f : Nat → Nat → Int) (w : World) (h1 : 1 ≤ n) (h10 : n ≤ 10) (hm : ∀ i, i < n → m i ≤ 1048576) (hL : SL w b n m f) :
    Calls Try.prog 72 #[.slice (some ⟨b, 0, none⟩) n n] w fun e w' => e = .returned (.bool (parB n m f)) ∧ Below w.heap.size w w' := by
  have HM := hid hm
  clear hm
  have hn10 : (n : Int) ≤ 10 := by omega
  have hn1 : ¬ (n : Int) < 1 := by omega
  have hn2 : ¬ (n : Int) > 10 := by omega
  have hH := Has.nil w
  have hL' := hid hL
  clear hL
  go_enter Try.func72, Try.ntmps72
  go_wp2_with (first | fail | (refine wpL_guard rfl rfl ?_))
  go_loopw [4] (fun i wr => ∃ x : Nat, x ≤ n ∧ i = .int .i64 x ∧ Has w wr [] ∧ Hid (SL wr b n m f) ∧ Hid (∀ x', x' < x → m x' = n) ∧ Hid (∀ x' y', x' < x → y' < n → -1 ≤ f x' y' ∧ f x' y' ≤ (n : Int) - 1)) (fun i _ => 20 - (intOf i).toNat)
  case atStart => exact ⟨0, by omega, rfl, hH, hL', hid (fun x' h => by omega), hid (fun x' y' h => by omega)⟩
  case round =>
    clear hH hL'
    obtain ⟨x, hx, rfl, hH, hL, hA, hB⟩ := hrel
    by_cases hlt : x < n
    · have hx1 : (x : Int) < n := by omega
      obtain ⟨g, c1, hR⟩ := hL.out.cell hlt
      have HR := hid hR
      obtain ⟨q, hq⟩ : ∃ q, m x = q := ⟨_, rfl⟩
      have hqb := HM.out x hlt
      rw [hq] at c1 HR hqb
      have HQ := hid hq
      clear hq hR
      by_cases hqn : q = n
      · subst hqn
        go_wp2
        go_loopw [5] (fun i wr => ∃ y : Nat, y ≤ q ∧ i = .int .i64 y ∧ Has w wr [] ∧ Hid (SL wr b q m f) ∧ Hid (Row wr g q (f x)) ∧ wr.cell? ⟨b, x, none⟩ = some (.slice (some ⟨g, 0, none⟩) q q) ∧ Hid (∀ y', y' < y → -1 ≤ f x y' ∧ f x y' ≤ (q : Int) - 1)) (fun i _ => 20 - (intOf i).toNat)
        case atStart => exact ⟨0, by omega, rfl, hH, hL, HR, c1, hid (fun y' h => by omega)⟩
        case round =>
          clear hH hL HR c1
          obtain ⟨y, hy, rfl, hH, hL, HR, c1, hC⟩ := hrel
          by_cases hyl : y < q
          · have hy1 : (y : Int) < q := by omega
            have c2 := HR.out.cell hyl
            obtain ⟨z, hz⟩ : ∃ z, f x y = z := ⟨_, rfl⟩
            rw [hz] at c2
            have HZ := hid hz
            clear hz
            have e2 : IntKind.i64.wrap ((q : Int) - 1) = (q : Int) - 1 := IntWalk.i64_in _ (by omega)
            by_cases hin : -1 ≤ z ∧ z ≤ (q : Int) - 1
            · have hI : ∀ w, Calls Try.prog 61 #[.int .i64 z, .int .i64 (-1), .int .i64 ((q : Int) - 1)] w fun e w' => e = .returned (.bool true) ∧ w = w' := fun w => by have := l01In_any z (-1) ((q : Int) - 1) w; rwa [inB_true hin.1 hin.2] at this
              have HIN := hid hin
              clear hin
              go_wp2_with (first | fail | (go_at_call 61; refine (hI _).mono ?_; rintro e w2 ⟨rfl, rfl⟩))
              go_roundw
              case rel => exact ⟨y + 1, by omega, by go_num, hH, hL, HR, c1, hid (fun y' hy' => by
                by_cases e : y' = y
                · subst e; rw [HZ.out]; exact HIN.out
                · exact hC.out y' (by omega))⟩
              case measure => simp [intOf]; omega
            · have hI : ∀ w, Calls Try.prog 61 #[.int .i64 z, .int .i64 (-1), .int .i64 ((q : Int) - 1)] w fun e w' => e = .returned (.bool false) ∧ w = w' := fun w => by have := l01In_any z (-1) ((q : Int) - 1) w; rwa [inB_false hin] at this
              have HV := hid (parB_no (ParG_in (m := m) (f := f) hlt hyl (by rw [HZ.out]; exact hin)))
              clear hin
              go_wp2_with (first | fail | (go_at_call 61; refine (hI _).mono ?_; rintro e w2 ⟨rfl, rfl⟩))
              go_ret
              exact ⟨by first | (rw [HV.out]; done) | (rw [HV.out]; rfl), hH.below⟩
          · obtain rfl : y = q := by omega
            go_wp2
            go_roundw
            case rel => exact ⟨x + 1, by omega, by go_num, hH, hL, hid (fun x' hx' => by
              by_cases e : x' = x
              · subst e; exact HQ.out
              · exact hA.out x' (by omega)), hid (fun x' y' hx' hy' => by
              by_cases e : x' = x
              · subst e; exact hC.out y' hy'
              · exact hB.out x' y' (by omega) hy')⟩
            case measure => simp [intOf]; omega
      · have hqn' : ¬ (q : Int) = n := by omega
        have hqn2 : ((q : Int) == (n : Int)) = false := by simpa using hqn'
        have HV := hid (parB_no (ParG_len (m := m) (f := f) hlt (by rw [HQ.out]; exact hqn)))
        go_wp2
        go_ret
        exact ⟨by first | (rw [HV.out]; done) | (rw [HV.out]; rfl), hH.below⟩
    · obtain rfl : x = n := by omega
      have HALL := hid (fun hc => parB_yes (ParG_all h1 h10 hA.out hB.out hc))
      have HMN := hA
      clear hB hA
      go_wp2
      go_loopw [6] (fun i wr => ∃ i0 : Nat, i0 ≤ x ∧ i = .int .i64 i0 ∧ Has w wr [] ∧ Hid (SL wr b x m f) ∧ Hid (∀ i' j k, i' < i0 → j < x → k < j → noc f i' j k)) (fun i _ => 20 - (intOf i).toNat)
      case atStart => exact ⟨0, by omega, rfl, hH, hL, hid (fun i' j k h => by omega)⟩
      case round =>
        clear hH hL
        obtain ⟨i, hi, rfl, hH, hL, hA⟩ := hrel
        by_cases hil : i < x
        · have hi1 : (i : Int) < x := by omega
          go_wp2
          go_loopw [7] (fun jv wr => ∃ j : Nat, j ≤ x ∧ jv = .int .i64 j ∧ Has w wr [] ∧ Hid (SL wr b x m f) ∧ Hid (∀ j' k, j' < j → k < j' → noc f i j' k)) (fun jv _ => 20 - (intOf jv).toNat)
          case atStart => exact ⟨0, by omega, rfl, hH, hL, hid (fun j' k h => by omega)⟩
          case round =>
            clear hH hL
            obtain ⟨j, hj, rfl, hH, hL, hB⟩ := hrel
            by_cases hjl : j < x
            · have hj1 : (j : Int) < x := by omega
              go_wp2
              go_loopw [8] (fun kv wr => ∃ k : Nat, k ≤ j ∧ kv = .int .i64 k ∧ Has w wr [] ∧ Hid (SL wr b x m f) ∧ Hid (∀ k', k' < k → noc f i j k')) (fun kv _ => 20 - (intOf kv).toNat)
              case atStart => exact ⟨0, by omega, rfl, hH, hL, hid (fun k' h => by omega)⟩
              case round =>
                clear hH hL
                obtain ⟨k, hk, rfl, hH, hL, hC⟩ := hrel
                by_cases hkl : k < j
                · have hk1 : (k : Int) < j := by omega
                  have hk2 : (k : Int) < x := by omega
                  obtain ⟨gi, ci, hri⟩ := hL.out.cell hil
                  obtain ⟨gj, cj, hrj⟩ := hL.out.cell hjl
                  obtain ⟨gk, ck, hrk⟩ := hL.out.cell (show k < x by omega)
                  rw [HMN.out i hil] at ci hri
                  rw [HMN.out j hjl] at cj hrj
                  rw [HMN.out k (by omega)] at ck hrk
                  have r1 := hri.cell hjl
                  have r2 := hri.cell (show k < x by omega)
                  have r3 := hrj.cell hil
                  have r4 := hrk.cell hil
                  obtain ⟨a, ha⟩ : ∃ a, f i j = a := ⟨_, rfl⟩
                  obtain ⟨p, hp⟩ : ∃ p, f i k = p := ⟨_, rfl⟩
                  obtain ⟨c, hc⟩ : ∃ c, f j i = c := ⟨_, rfl⟩
                  obtain ⟨d, hd⟩ : ∃ d, f k i = d := ⟨_, rfl⟩
                  rw [ha] at r1
                  rw [hp] at r2
                  rw [hc] at r3
                  rw [hd] at r4
                  have HN := hid (show noc f i j k ↔ ¬ ((0 ≤ a ∧ a = p) ∨ (0 ≤ c ∧ c = d)) by unfold noc; rw [ha, hp, hc, hd])
                  have HNO := hid (fun (h : ¬ noc f i j k) => parB_no (ParG_clash (m := m) hil hjl hkl h))
                  clear ha hp hc hd hri hrj hrk
                  by_cases ha0 : 0 ≤ a
                  · by_cases hap : a = p
                    · subst hap
                      have HV := hid (HNO.out (fun q => HN.out.1 q (by omega)))
                      go_wp2
                      go_quiet (fail)
                      go_wp2
                      go_ret
                      exact ⟨by first | (rw [HV.out]; done) | (rw [HV.out]; rfl), (hH.drewN _).below⟩
                    · have hap2 : (a == p) = false := by simpa using hap
                      by_cases hc0 : 0 ≤ c
                      · by_cases hcd : c = d
                        · subst hcd
                          have HV := hid (HNO.out (fun q => HN.out.1 q (by omega)))
                          go_wp2
                          go_quiet (fail)
                          go_wp2
                          go_ret
                          exact ⟨by first | (rw [HV.out]; done) | (rw [HV.out]; rfl), (hH.drewN _).below⟩
                        · have hcd2 : (c == d) = false := by simpa using hcd
                          have HOK := hid (HN.out.2 (by omega))
                          go_wp2
                          go_quiet (fail)
                          go_wp2
                          go_roundw
                          case rel => exact ⟨k + 1, by omega, by go_num, hH.drewN _, hid (hL.out.kept fun _ _ => rfl), hid (fun k' hk' => by
                            by_cases e : k' = k
                            · subst e; exact HOK.out
                            · exact hC.out k' (by omega))⟩
                          case measure => simp [intOf]; omega
                      · have hc2 : decide (0 ≤ c) = false := decide_eq_false hc0
                        have hc3 : decide (c ≥ 0) = false := decide_eq_false hc0
                        have HOK := hid (HN.out.2 (by omega))
                        go_wp2
                        go_quiet (fail)
                        go_wp2
                        go_roundw
                        case rel => exact ⟨k + 1, by omega, by go_num, hH.drewN _, hid (hL.out.kept fun _ _ => rfl), hid (fun k' hk' => by
                          by_cases e : k' = k
                          · subst e; exact HOK.out
                          · exact hC.out k' (by omega))⟩
                        case measure => simp [intOf]; omega
                  · have ha2 : decide (0 ≤ a) = false := decide_eq_false ha0
                    have ha3 : decide (a ≥ 0) = false := decide_eq_false ha0
                    by_cases hc0 : 0 ≤ c
                    · by_cases hcd : c = d
                      · subst hcd
                        have HV := hid (HNO.out (fun q => HN.out.1 q (by omega)))
                        go_wp2
                        go_quiet (fail)
                        go_wp2
                        go_ret
                        exact ⟨by first | (rw [HV.out]; done) | (rw [HV.out]; rfl), (hH.drewN _).below⟩
                      · have hcd2 : (c == d) = false := by simpa using hcd
                        have HOK := hid (HN.out.2 (by omega))
                        go_wp2
                        go_quiet (fail)
                        go_wp2
                        go_roundw
                        case rel => exact ⟨k + 1, by omega, by go_num, hH.drewN _, hid (hL.out.kept fun _ _ => rfl), hid (fun k' hk' => by
                          by_cases e : k' = k
                          · subst e; exact HOK.out
                          · exact hC.out k' (by omega))⟩
                        case measure => simp [intOf]; omega
                    · have hc2 : decide (0 ≤ c) = false := decide_eq_false hc0
                      have hc3 : decide (c ≥ 0) = false := decide_eq_false hc0
                      have HOK := hid (HN.out.2 (by omega))
                      go_wp2
                      go_quiet (fail)
                      go_wp2
                      go_roundw
                      case rel => exact ⟨k + 1, by omega, by go_num, hH.drewN _, hid (hL.out.kept fun _ _ => rfl), hid (fun k' hk' => by
                        by_cases e : k' = k
                        · subst e; exact HOK.out
                        · exact hC.out k' (by omega))⟩
                      case measure => simp [intOf]; omega
                · obtain rfl : k = j := by omega
                  go_wp2
                  go_roundw
                  case rel => exact ⟨k + 1, by omega, by go_num, hH, hL, hid (fun j' k' hj' hk' => by
                    by_cases e : j' = k
                    · subst e; exact hC.out k' hk'
                    · exact hB.out j' k' (by omega) hk')⟩
                  case measure => simp [intOf]; omega
            · obtain rfl : j = x := by omega
              go_wp2
              go_roundw
              case rel => exact ⟨i + 1, by omega, by go_num, hH, hL, hid (fun i' j' k' hi' hj' hk' => by
                by_cases e : i' = i
                · subst e; exact hB.out j' k' hj' hk'
                · exact hA.out i' j' k' (by omega) hj' hk')⟩
              case measure => simp [intOf]; omega
        · obtain rfl : i = x := by omega
          have HV := hid (HALL.out hA.out)
          go_wp2
          go_ret
          exact ⟨by first | (rw [HV.out]; done) | (rw [HV.out]; rfl), hH.below⟩
end Go.Proofs.Ytbhjbllgmenbaaa
