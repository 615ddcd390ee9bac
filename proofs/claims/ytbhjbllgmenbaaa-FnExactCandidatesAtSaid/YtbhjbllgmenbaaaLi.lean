/- Proved: what the laws' helpers on lists of numbers return, for a list in memory of its own. Conditions: those that each theorem names. -/
import Derived.Test.YtbhjbllgmenbaaaIl3
namespace Go.Proofs.Ytbhjbllgmenbaaa
set_option linter.unusedVariables false
set_option linter.unusedSimpArgs false
open Go.RowKit
/-- v is the list l of numbers: no block, or a block between lo and hi. -/
def IL (w : World) (lo hi : Nat) (v : Value) (l : List Int) : Prop :=
  (v = .slice none 0 0 ∧ l = []) ∨ ∃ g cap, v = .slice (some ⟨g, 0, none⟩) l.length cap ∧ lo ≤ g ∧ g < hi ∧ Row w g l.length (fun i => l.getD i 0)
def GotL (l : List Int) (z : Int) (w : World) (e : Ending) (w' : World) : Prop :=
  ∃ v, e = .returned (.tuple #[v, .int .i64 z]) ∧ Below w.heap.size w w' ∧ IL w' w.heap.size w'.heap.size v l
theorem GotL.err {z : Int} {w w' : World} {e : Ending} (h : e = .returned (.tuple #[.slice none 0 0, .int .i64 z]) ∧ Below w.heap.size w w') : GotL [] z w e w' := ⟨_, h.1, h.2, .inl ⟨rfl, rfl⟩⟩
theorem IL.below {w w' : World} {lo hi B : Nat} {v : Value} {l : List Int} (h : IL w lo hi v l) (hb : Below B w w') (hB : hi ≤ B) : IL w' lo hi v l := by
  rcases h with h | ⟨g, cap, e, h1, h2, h3⟩
  · exact .inl h
  · exact .inr ⟨g, cap, e, h1, h2, h3.block (hb.block g (by omega))⟩
theorem ints_getD {l : List Int} {i : Nat} (h : i < l.length) : (l.map fun z => Value.int .i64 z)[i]? = some (.int .i64 (l.getD i 0)) := by
  rw [List.getElem?_map, List.getElem?_eq_getElem h]; simp [List.getD, h]
theorem IL.of_own {w : World} {base : Nat} {v : Value} {l : List Int} (h : w.ownsRow base 2 1 v l.length (l.map fun z => .int .i64 z)) : IL w base w.heap.size v l := by
  rcases h.2 with ⟨h1, h0⟩ | ⟨g, cap, cur, rfl, hb, hg, hc, _, hs, hx⟩
  · exact .inl ⟨h1, List.length_eq_zero_iff.1 h0⟩
  · refine .inr ⟨g, cap, rfl, hb, (Array.getElem?_eq_some_iff.1 hg).1, cur, hg, by omega, fun i hi => ?_⟩
    have := ints_getD hi
    rw [← hx, List.getElem?_take, if_pos (by omega)] at this
    simpa using this
theorem eqInt64S_zero (p q : Option Addr) (c d : Nat) (w : World) : Calls Try.prog 20 #[.slice p 0 c, .slice q 0 d] w fun e w' => e = .returned (.bool true) ∧ Below w.heap.size w w' := by
  go_enter Try.func20, Try.ntmps20
  go_wp2
  go_loopw [5] (fun i wr => i = .int .i64 0 ∧ Below w.heap.size w wr) (fun _ _ => 0)
  case atStart => exact ⟨rfl, Below.refl _ _⟩
  case round =>
    obtain ⟨rfl, hB⟩ := hrel
    go_wp2
    go_ret
    exact ⟨rfl, hB⟩
theorem markInt64S_zero (p : Option Addr) (c : Nat) (k : Int) (w : World) : Calls Try.prog 25 #[.slice p 0 c, .int .i64 k] w fun e w' => e = .returned (.int .i64 k) ∧ w = w' := by
  go_enter Try.func25, Try.ntmps25
  go_wp2
  go_loop [1, 5] (fun m i => m = .int .i64 k ∧ i = .int .i64 0) (fun _ _ => 0)
  case atStart => exact ⟨rfl, rfl⟩
  case round =>
    obtain ⟨rfl, rfl⟩ := hrel
    go_wp2
    go_ret
    exact ⟨rfl, rfl⟩
theorem heldInt64S_zero (p : Option Addr) (c : Nat) (k : Int) (w : World) : Calls Try.prog 26 #[.slice p 0 c, .int .i64 k] w fun e w' => e = .returned (.int .i64 k) ∧ w = w' := by
  go_enter Try.func26, Try.ntmps26
  go_wp2
  go_loop [1, 5] (fun m i => m = .int .i64 k ∧ i = .int .i64 0) (fun _ _ => 0)
  case atStart => exact ⟨rfl, rfl⟩
  case round =>
    obtain ⟨rfl, rfl⟩ := hrel
    go_wp2
    go_ret
    exact ⟨rfl, rfl⟩
theorem eqIL {w : World} {lo hi lo' hi' : Nat} {v v' : Value} {l : List Int} (h : IL w lo hi v l) (h' : IL w lo' hi' v' l) (hn : l.length ≤ 1048576) :
    Calls Try.prog 20 #[v, v'] w fun e w' => e = .returned (.bool true) ∧ Below w.heap.size w w' := by
  rcases h with ⟨rfl, rfl⟩ | ⟨g, cap, rfl, h1, h2, h3⟩
  · rcases h' with ⟨rfl, _⟩ | ⟨g', cap', rfl, h1', h2', h3'⟩
    · exact eqInt64S_zero _ _ _ _ _
    · exact eqInt64S_zero _ _ _ _ _
  · rcases h' with ⟨rfl, rfl⟩ | ⟨g', cap', rfl, h1', h2', h3'⟩
    · exact eqInt64S_zero _ _ _ _ _
    · exact eqInt64S_same g g' _ cap cap' _ w hn h3 h3'
/-- What a list reads when its numbers have been replaced by k, k + 1, .. -/
def marks (l : List Int) (k : Int) : List Int := (List.range l.length).map fun (i : Nat) => k + (i : Int)
theorem marks_length (l : List Int) (k : Int) : (marks l k).length = l.length := by simp [marks]
theorem marks_get (l : List Int) (k : Int) {i : Nat} (h : i < l.length) : (marks l k).getD i 0 = k + i := by simp [marks, List.getD, h]
theorem markIL {w : World} {lo hi : Nat} {v : Value} {l : List Int} {k : Int} (h : IL w lo hi v l) (hn : l.length ≤ 1048576) (hk0 : 0 ≤ k) (hk1 : k ≤ 1000000000) (hlo : lo ≤ w.heap.size) :
    Calls Try.prog 25 #[v, .int .i64 k] w fun e w' => e = .returned (.int .i64 (k + l.length)) ∧ Below lo w w' ∧ IL w' lo hi v (marks l k) := by
  rcases h with ⟨rfl, rfl⟩ | ⟨g, cap, rfl, h1, h2, h3⟩
  · refine (markInt64S_zero none 0 k w).mono ?_
    rintro e w' ⟨rfl, rfl⟩
    exact ⟨by simp, Below.refl _ _, .inl ⟨rfl, rfl⟩⟩
  · refine (markInt64S_any g _ cap k _ w hn hk0 hk1 h3).mono ?_
    rintro e w' ⟨rfl, hg, hr⟩
    refine ⟨rfl, ⟨hg.os, hg.tape, hg.output, hg.size, fun x hx => hg.block x (by omega) (by simp; omega)⟩, .inr ⟨g, cap, by rw [marks_length], h1, h2, ?_⟩⟩
    rw [marks_length]
    exact hr.congr fun i hi => marks_get l k hi
theorem heldIL {w : World} {lo hi : Nat} {v : Value} {l : List Int} {k : Int} (h : IL w lo hi v (marks l k)) (hn : l.length ≤ 1048576) (hk0 : 0 ≤ k) (hk1 : k ≤ 1000000000) :
    Calls Try.prog 26 #[v, .int .i64 k] w fun e w' => e = .returned (.int .i64 (k + l.length)) ∧ w = w' := by
  rcases h with ⟨rfl, e⟩ | ⟨g, cap, rfl, h1, h2, h3⟩
  · have e0 : l.length = 0 := by rw [← marks_length l k, e]; rfl
    rw [e0]
    refine (heldInt64S_zero none 0 k w).mono ?_
    rintro e w' ⟨rfl, rfl⟩
    exact ⟨by simp, rfl⟩
  · rw [marks_length] at h3 ⊢
    exact heldInt64S_yes g _ cap k _ w hn hk0 hk1 h3 fun i hi => marks_get l k hi
end Go.Proofs.Ytbhjbllgmenbaaa
