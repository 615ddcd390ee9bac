/- Proved: the law FnExactQuadraticSquare returns true, and old memory is left alone, where program and model return the same. Conditions: those that the theorem names. -/
import Derived.Test.YtbhjbllgmenbaaaQd
import Derived.Test.YtbhjbllgmenbaaaReg
namespace Go.Proofs.Ytbhjbllgmenbaaa
set_option linter.unusedVariables false
set_option linter.unusedSimpArgs false
open Go.RowKit
set_option maxRecDepth 20000 in
set_option maxHeartbeats 2000000 in
theorem lawQuadraticSquare_by (a0 : Int) (a1 : Int) (a2 : Int) (z0 : Int) (r0 : Nat → UInt8) (r1 : Int) (w : World)
    (hS : Hid (∀ w, Calls Try.prog 21 #[.int .i64 a0, .int .i64 a1, .int .i64 a2] w fun e w' => e = .returned (.tuple #[.agg (sqc z0 r0), .int .i64 r1]) ∧ Below w.heap.size w w'))
    (hT : Hid (∀ w, Calls Try.prog 22 #[.int .i64 a0, .int .i64 a1, .int .i64 a2] w fun e w' => e = .returned (.tuple #[.agg (sqc z0 r0), .int .i64 r1]) ∧ Below w.heap.size w w'))
    : Calls Try.prog 4 #[.int .i64 a0, .int .i64 a1, .int .i64 a2] w fun e w' => e = .returned (.bool true) ∧ Below w.heap.size w w' := by
  have hH := Has.nil w
  go_enter Try.func4, Try.ntmps4
  go_wp2_with (first | fail | (go_at_call 21; refine (hS.out _).mono ?_; rintro e w2 ⟨rfl, hb⟩; replace hH := hH.call' hb; (try replace hg7 := holds_below hg7 hb (holds_lt hg7)); (try replace hg9 := holds_below hg9 hb (holds_lt hg9)); clear hb) | (go_at_call 22; refine (hT.out _).mono ?_; rintro e w2 ⟨rfl, hb⟩; replace hH := hH.call' hb; (try replace hg7 := holds_below hg7 hb (holds_lt hg7)); (try replace hg9 := holds_below hg9 hb (holds_lt hg9)); clear hb) | (go_at_call 19; refine (eqSquare_self _ _ _).mono ?_; rintro e w2 ⟨rfl, hb⟩; replace hH := hH.call' hb; (try replace hg7 := holds_below hg7 hb (holds_lt hg7)); (try replace hg9 := holds_below hg9 hb (holds_lt hg9)); clear hb) | (refine wpL_loadFull (x := .tmp 7) rfl rfl rfl rowSq hg7 (sqc_size _ _) ?_) | (refine wpL_loadFull (x := .tmp 9) rfl rfl rfl rowSq hg9 (sqc_size _ _) ?_) | (refine wpL_allocN (o := ⟨some 7, _, _, _, _, _⟩) rfl rfl zeroSq ?_; intro g7 w2 hg7 hl hb; have hb7 : w.heap.size + 0 ≤ g7 := (by have := hH.size; simp only [List.length_cons, List.length_nil] at this; omega); replace hH := hH.call' hb; (try replace hg9 := holds_below hg9 hb (holds_lt hg9)); clear hb hl) | (refine wpL_storeN (x := .tmp 7) rfl rfl rfl rfl rowSq hg7 (sqc_size _ _) (sqc_ok _ _) ?_; intro w2 hz hO hT; (try replace hg9 := hO _ _ _ (by omega) hg9); replace hg7 := hz; replace hH := hT _ _ hH hb7; clear hz hO hT) | (refine wpL_allocN (o := ⟨some 9, _, _, _, _, _⟩) rfl rfl zeroSq ?_; intro g9 w2 hg9 hl hb; have hb9 : w.heap.size + 0 ≤ g9 := (by have := hH.size; simp only [List.length_cons, List.length_nil] at this; omega); (try have hn7_9 : g7 ≠ g9 := (by have := holds_lt hg7; omega)); replace hH := hH.call' hb; (try replace hg7 := holds_below hg7 hb (holds_lt hg7)); clear hb hl) | (refine wpL_storeN (x := .tmp 9) rfl rfl rfl rfl rowSq hg9 (sqc_size _ _) (sqc_ok _ _) ?_; intro w2 hz hO hT; (try replace hg7 := hO _ _ _ (by omega) hg7); replace hg9 := hz; replace hH := hT _ _ hH hb9; clear hz hO hT))
  go_ret
  exact ⟨rfl, hH.below⟩
theorem lawQuad3 (a b : Int) (w : World) : Calls Try.prog 4 #[.int .i64 3, .int .i64 a, .int .i64 b] w fun e w' => e = .returned (.bool true) ∧ Below w.heap.size w w' := by
  by_cases h : 0 ≤ a ∧ a < 3 ∧ 0 ≤ b ∧ b < 3
  · obtain ⟨a, rfl⟩ : ∃ n : Nat, a = n := ⟨a.toNat, by omega⟩
    obtain ⟨b, rfl⟩ : ∃ n : Nat, b = n := ⟨b.toNat, by omega⟩
    have ha : a < 3 := by omega
    have hb : b < 3 := by omega
    have hp : P357 3 := by unfold P357; omega
    cases hq : quB 3 a b with
    | true => exact lawQuadraticSquare_by 3 a b _ _ _ w (hid fun w => specQuad3_yes w ha hb hq) (hid fun w => implQuad3_in a b _ 0 _ 0 _ _ w ha hb (hid fun w => orthoCy_yes hp ha hb hq w) (fun _ => ⟨rfl, rfl, rfl⟩) (fun h => absurd rfl h))
    | false =>
      obtain ⟨Z, hZ, hO⟩ := orthoCy_no hp ha hb hq
      exact lawQuadraticSquare_by 3 a b _ _ _ w (hid fun w => specQuad3_no w ha hb hq) (hid fun w => implQuad3_in a b _ Z _ 5 _ _ w ha hb (hid hO) (fun h => absurd h hZ) (fun _ => ⟨rfl, rfl, rfl⟩))
  · exact lawQuadraticSquare_by 3 a b _ _ _ w (hid fun w => specQuad3_out a b w h) (hid fun w => implQuad3_out a b w h)
theorem lawQuad5 (a b : Int) (w : World) : Calls Try.prog 4 #[.int .i64 5, .int .i64 a, .int .i64 b] w fun e w' => e = .returned (.bool true) ∧ Below w.heap.size w w' := by
  by_cases h : 0 ≤ a ∧ a < 5 ∧ 0 ≤ b ∧ b < 5
  · obtain ⟨a, rfl⟩ : ∃ n : Nat, a = n := ⟨a.toNat, by omega⟩
    obtain ⟨b, rfl⟩ : ∃ n : Nat, b = n := ⟨b.toNat, by omega⟩
    have ha : a < 5 := by omega
    have hb : b < 5 := by omega
    have hp : P357 5 := by unfold P357; omega
    cases hq : quB 5 a b with
    | true => exact lawQuadraticSquare_by 5 a b _ _ _ w (hid fun w => specQuad5_yes w ha hb hq) (hid fun w => implQuad5_in a b _ 0 _ 0 _ _ w ha hb (hid fun w => orthoCy_yes hp ha hb hq w) (fun _ => ⟨rfl, rfl, rfl⟩) (fun h => absurd rfl h))
    | false =>
      obtain ⟨Z, hZ, hO⟩ := orthoCy_no hp ha hb hq
      exact lawQuadraticSquare_by 5 a b _ _ _ w (hid fun w => specQuad5_no w ha hb hq) (hid fun w => implQuad5_in a b _ Z _ 5 _ _ w ha hb (hid hO) (fun h => absurd h hZ) (fun _ => ⟨rfl, rfl, rfl⟩))
  · exact lawQuadraticSquare_by 5 a b _ _ _ w (hid fun w => specQuad5_out a b w h) (hid fun w => implQuad5_out a b w h)
theorem lawQuad7 (a b : Int) (w : World) : Calls Try.prog 4 #[.int .i64 7, .int .i64 a, .int .i64 b] w fun e w' => e = .returned (.bool true) ∧ Below w.heap.size w w' := by
  by_cases h : 0 ≤ a ∧ a < 7 ∧ 0 ≤ b ∧ b < 7
  · obtain ⟨a, rfl⟩ : ∃ n : Nat, a = n := ⟨a.toNat, by omega⟩
    obtain ⟨b, rfl⟩ : ∃ n : Nat, b = n := ⟨b.toNat, by omega⟩
    have ha : a < 7 := by omega
    have hb : b < 7 := by omega
    have hp : P357 7 := by unfold P357; omega
    cases hq : quB 7 a b with
    | true => exact lawQuadraticSquare_by 7 a b _ _ _ w (hid fun w => specQuad7_yes w ha hb hq) (hid fun w => implQuad7_in a b _ 0 _ 0 _ _ w ha hb (hid fun w => orthoCy_yes hp ha hb hq w) (fun _ => ⟨rfl, rfl, rfl⟩) (fun h => absurd rfl h))
    | false =>
      obtain ⟨Z, hZ, hO⟩ := orthoCy_no hp ha hb hq
      exact lawQuadraticSquare_by 7 a b _ _ _ w (hid fun w => specQuad7_no w ha hb hq) (hid fun w => implQuad7_in a b _ Z _ 5 _ _ w ha hb (hid hO) (fun h => absurd h hZ) (fun _ => ⟨rfl, rfl, rfl⟩))
  · exact lawQuadraticSquare_by 7 a b _ _ _ w (hid fun w => specQuad7_out a b w h) (hid fun w => implQuad7_out a b w h)
theorem lawQuadraticSquare_any (p : Int) (_ : (Lit.int .i64 p).wf = true) (a : Int) (_ : (Lit.int .i64 a).wf = true) (b : Int) (_ : (Lit.int .i64 b).wf = true) (w : World) : Calls Try.prog 4 #[.int .i64 p, .int .i64 a, .int .i64 b] w fun e w' => e = .returned (.bool true) ∧ Below w.heap.size w w' := by
  by_cases h3 : p = 3
  · subst h3; exact lawQuad3 a b w
  by_cases h5 : p = 5
  · subst h5; exact lawQuad5 a b w
  by_cases h7 : p = 7
  · subst h7; exact lawQuad7 a b w
  exact lawQuadraticSquare_by p a b _ _ _ w (hid fun w => specQuad_no p a b w h3 h5 h7) (hid fun w => implQuad_no p a b w h3 h5 h7)
end Go.Proofs.Ytbhjbllgmenbaaa
