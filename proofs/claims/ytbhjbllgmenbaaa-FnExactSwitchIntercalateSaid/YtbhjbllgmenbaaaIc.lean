/- Proved: what IntercalatesOf returns, of program and model alike. Conditions: those that each theorem names. -/
import Derived.Test.YtbhjbllgmenbaaaIc0
import Derived.Test.YtbhjbllgmenbaaaSq3b
import Derived.Test.YtbhjbllgmenbaaaSq5
import Derived.Test.YtbhjbllgmenbaaaSr
namespace Go.Proofs.Ytbhjbllgmenbaaa
set_option linter.unusedVariables false
set_option linter.unusedSimpArgs false
open Go.RowKit
theorem imp_nI {a b : Bool} (h : a = true → b = true) (hb : b = false) : a = false := by
  cases a with
  | false => rfl
  | true => rw [h rfl] at hb; cases hb
set_option maxRecDepth 20000 in
set_option maxHeartbeats 4000000 in
theorem l09Square_any (N a b c d : Nat) (g : Nat → UInt8) (w : World) (h10 : N ≤ 10) (ha : a < N) (hb : b < N) (hc : c < N) (hd : d < N) :
    Calls Try.prog 54 #[.agg (sqc N g), .int .i64 a, .int .i64 b, .int .i64 c, .int .i64 d] w fun e w' => e = .returned (.bool (q4 g a b c d)) ∧ Below w.heap.size w w' := by
  have hH := Has.start1 w (sqc N g) 29
  obtain ⟨p, hp⟩ : ∃ p, (g (a * 10 + c)).toNat = p := ⟨_, rfl⟩
  obtain ⟨q, hqq⟩ : ∃ q, (g (b * 10 + d)).toNat = q := ⟨_, rfl⟩
  obtain ⟨r, hr⟩ : ∃ r, (g (a * 10 + d)).toNat = r := ⟨_, rfl⟩
  obtain ⟨s, hs⟩ : ∃ s, (g (b * 10 + c)).toNat = s := ⟨_, rfl⟩
  have HQ := hid (show q4 g a b c d = decide (p = q ∧ r = s) by unfold q4; rw [hp, hqq, hr, hs])
  have c1 := hH.c0 (1 + a * 10 + c)
  rw [Nat.add_assoc, sqc_get _ _ _ (by omega), hp, ← Nat.add_assoc] at c1
  have c2 := hH.c0 (1 + b * 10 + d)
  rw [Nat.add_assoc, sqc_get _ _ _ (by omega), hqq, ← Nat.add_assoc] at c2
  have c3 := hH.c0 (1 + a * 10 + d)
  rw [Nat.add_assoc, sqc_get _ _ _ (by omega), hr, ← Nat.add_assoc] at c3
  have c4 := hH.c0 (1 + b * 10 + c)
  rw [Nat.add_assoc, sqc_get _ _ _ (by omega), hs, ← Nat.add_assoc] at c4
  have a1 : (a : Int) < 10 := by omega
  have b1 : (b : Int) < 10 := by omega
  have d1 : (c : Int) < 10 := by omega
  have e1 : (d : Int) < 10 := by omega
  clear hp hqq hr hs
  by_cases hpq : p = q
  · have hpq' : (p : Int) = (q : Int) := by omega
    by_cases hrs : r = s
    · have hrs' : (r : Int) = (s : Int) := by omega
      have HV := hid (show q4 g a b c d = true by rw [HQ.out]; exact decide_eq_true ⟨hpq, hrs⟩)
      clear hpq hrs
      go_enter Try.func54, Try.ntmps54
      go_wp2
      go_quiet (fail)
      go_wp2
      go_ret
      exact ⟨by rw [HV.out]; rfl, (hH.drewN _).below⟩
    · have hrs' : ¬ (r : Int) = (s : Int) := by omega
      have HV := hid (show q4 g a b c d = false by rw [HQ.out]; exact decide_eq_false fun h => hrs h.2)
      have HE := hid (show ((r : Int) == (s : Int)) = false by simpa using hrs')
      clear hpq hrs
      go_enter Try.func54, Try.ntmps54
      go_wp2
      go_quiet (fail)
      go_wp2
      go_ret
      exact ⟨by show Ending.returned (.bool ((r : Int) == (s : Int))) = _; rw [HV.out, HE.out], (hH.drewN _).below⟩
  · have hpq' : ¬ (p : Int) = (q : Int) := by omega
    have HV := hid (show q4 g a b c d = false by rw [HQ.out]; exact decide_eq_false fun h => hpq h.1)
    clear hpq
    go_enter Try.func54, Try.ntmps54
    go_wp2
    go_quiet (fail)
    go_wp2
    go_ret
    exact ⟨by rw [HV.out]; rfl, (hH.drewN _).below⟩
set_option maxRecDepth 20000 in
set_option maxHeartbeats 4000000 in
theorem isIntercalate_any (N a b c d : Nat) (g : Nat → UInt8) (w : World) (h10 : N ≤ 10) (ha : a < N) (hb : b < N) (hc : c < N) (hd : d < N) :
    Calls Try.prog 58 #[.agg (sqc N g), .int .i64 a, .int .i64 b, .int .i64 c, .int .i64 d] w fun e w' => e = .returned (.bool (q4 g a b c d)) ∧ Below w.heap.size w w' := by
  have hH := Has.start1 w (sqc N g) 29
  obtain ⟨p, hp⟩ : ∃ p, (g (a * 10 + c)).toNat = p := ⟨_, rfl⟩
  obtain ⟨q, hqq⟩ : ∃ q, (g (b * 10 + d)).toNat = q := ⟨_, rfl⟩
  obtain ⟨r, hr⟩ : ∃ r, (g (a * 10 + d)).toNat = r := ⟨_, rfl⟩
  obtain ⟨s, hs⟩ : ∃ s, (g (b * 10 + c)).toNat = s := ⟨_, rfl⟩
  have HQ := hid (show q4 g a b c d = decide (p = q ∧ r = s) by unfold q4; rw [hp, hqq, hr, hs])
  have c1 := hH.c0 (1 + a * 10 + c)
  rw [Nat.add_assoc, sqc_get _ _ _ (by omega), hp, ← Nat.add_assoc] at c1
  have c2 := hH.c0 (1 + b * 10 + d)
  rw [Nat.add_assoc, sqc_get _ _ _ (by omega), hqq, ← Nat.add_assoc] at c2
  have c3 := hH.c0 (1 + a * 10 + d)
  rw [Nat.add_assoc, sqc_get _ _ _ (by omega), hr, ← Nat.add_assoc] at c3
  have c4 := hH.c0 (1 + b * 10 + c)
  rw [Nat.add_assoc, sqc_get _ _ _ (by omega), hs, ← Nat.add_assoc] at c4
  have a1 : (a : Int) < 10 := by omega
  have b1 : (b : Int) < 10 := by omega
  have d1 : (c : Int) < 10 := by omega
  have e1 : (d : Int) < 10 := by omega
  clear hp hqq hr hs
  by_cases hpq : p = q
  · have hpq' : (p : Int) = (q : Int) := by omega
    by_cases hrs : r = s
    · have hrs' : (r : Int) = (s : Int) := by omega
      have HV := hid (show q4 g a b c d = true by rw [HQ.out]; exact decide_eq_true ⟨hpq, hrs⟩)
      clear hpq hrs
      go_enter Try.func58, Try.ntmps58
      go_wp2
      go_quiet (fail)
      go_wp2
      go_ret
      exact ⟨by rw [HV.out]; rfl, (hH.drewN _).below⟩
    · have hrs' : ¬ (r : Int) = (s : Int) := by omega
      have HV := hid (show q4 g a b c d = false by rw [HQ.out]; exact decide_eq_false fun h => hrs h.2)
      have HE := hid (show ((r : Int) == (s : Int)) = false by simpa using hrs')
      clear hpq hrs
      go_enter Try.func58, Try.ntmps58
      go_wp2
      go_quiet (fail)
      go_wp2
      go_ret
      exact ⟨by show Ending.returned (.bool ((r : Int) == (s : Int))) = _; rw [HV.out, HE.out], (hH.drewN _).below⟩
  · have hpq' : ¬ (p : Int) = (q : Int) := by omega
    have HV := hid (show q4 g a b c d = false by rw [HQ.out]; exact decide_eq_false fun h => hpq h.1)
    clear hpq
    go_enter Try.func58, Try.ntmps58
    go_wp2
    go_quiet (fail)
    go_wp2
    go_ret
    exact ⟨by rw [HV.out]; rfl, (hH.drewN _).below⟩
end Go.Proofs.Ytbhjbllgmenbaaa
