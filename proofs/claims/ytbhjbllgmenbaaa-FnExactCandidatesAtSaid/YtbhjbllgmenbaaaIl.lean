/- Proved: what the laws' helpers on lists of numbers return. Conditions: those that each theorem names. -/
import Derived.Test.YtbhjbllgmenbaaaBase
import Derived.Laws.AppendOwn
namespace Go.Proofs.Ytbhjbllgmenbaaa
set_option linter.unusedVariables false
set_option linter.unusedSimpArgs false
open Go.RowKit
/-- Block b begins with the numbers f 0, f 1 .. f (n - 1). -/
structure Row (w : World) (b n : Nat) (f : Nat → Int) : Prop where
  at' : ∃ cs, holds w b cs 2 ∧ n ≤ cs.size ∧ ∀ i, i < n → cs[i]? = some (.int .i64 (f i))
theorem Row.lt {w : World} {b n : Nat} {f : Nat → Int} (h : Row w b n f) : b < w.heap.size := by
  obtain ⟨cs, h1, _⟩ := h.at'; exact holds_lt h1
theorem Row.cell {w : World} {b n : Nat} {f : Nat → Int} (h : Row w b n f) {i : Nat} (hi : i < n) : w.cell? ⟨b, i, none⟩ = some (.int .i64 (f i)) := by
  obtain ⟨cs, h1, _, h2⟩ := h.at'; rw [holds_cell h1]; exact h2 i hi
theorem Row.frozen {w : World} {b n : Nat} {f : Nat → Int} (h : Row w b n f) (i : Nat) : w.frozen? ⟨b, i, none⟩ = false := by
  obtain ⟨cs, h1, _, _⟩ := h.at'; exact holds_frozen h1 i
theorem Row.block {w w' : World} {b n : Nat} {f : Nat → Int} (h : Row w b n f) (e : w'.heap[b]? = w.heap[b]?) : Row w' b n f := by
  obtain ⟨cs, h1, h2, h3⟩ := h.at'
  exact ⟨cs, by show w'.heap[b]? = _; rw [e]; exact h1, h2, h3⟩
theorem Row.below {w w' : World} {b n : Nat} {f : Nat → Int} (h : Row w b n f) (hb : Below w.heap.size w w') : Row w' b n f := h.block (hb.block b h.lt)
theorem Row.grown {w w' : World} {b n g : Nat} {f : Nat → Int} (h : Row w b n f) (hb : w.grownBy w' (some g)) (hne : b ≠ g) : Row w' b n f := h.block (hb.block b h.lt (by simp [hne]))
theorem Row.congr {w : World} {b n : Nat} {f f' : Nat → Int} (h : Row w b n f) (e : ∀ i, i < n → f' i = f i) : Row w b n f' := by
  obtain ⟨cs, h1, h2, h3⟩ := h.at'
  exact ⟨cs, h1, h2, fun i hi => by rw [h3 i hi, e i hi]⟩
theorem Row.set {w : World} {b n : Nat} {f : Nat → Int} (h : Row w b n f) (k : Nat) (v : Int) (f' : Nat → Int) (e : ∀ i, i < n → f' i = if i = k then v else f i) : Row (w.setCell ⟨b, k, none⟩ (.int .i64 v)) b n f' := by
  obtain ⟨cs, h1, h2, h3⟩ := h.at'
  refine ⟨cs.setIfInBounds k (.int .i64 v), holds_set h1 k _, by simpa using h2, fun i hi => ?_⟩
  rw [e i hi, Array.getElem?_setIfInBounds]
  by_cases c : k = i
  · subst c; rw [if_pos rfl, if_pos (by omega), if_pos rfl]
  · rw [if_neg c, if_neg (Ne.symm c)]; exact h3 i hi
theorem grown_set {w w1 : World} {b : Nat} (h : w.grownBy w1 (some b)) (k : Nat) (v : Value) : w.grownBy (w1.setCell ⟨b, k, none⟩ v) (some b) :=
  ⟨h.os, h.tape, h.output, by have := h.size; simp [World.setCell]; omega, fun j hj hne => by
    rw [heap_setCell_other w1 ⟨b, k, none⟩ j v (by intro e; apply hne; simp [e])]; exact h.block j hj hne⟩
theorem grown_refl (w : World) (r : Option Nat) : w.grownBy w r := ⟨rfl, rfl, rfl, Nat.le_refl _, fun _ _ _ => rfl⟩
set_option maxHeartbeats 1000000 in
theorem eqInt64S_same (b1 b2 n c1 c2 : Nat) (f : Nat → Int) (w : World) (hn : n ≤ 1048576) (h1 : Row w b1 n f) (h2 : Row w b2 n f) :
    Calls Try.prog 20 #[.slice (some ⟨b1, 0, none⟩) n c1, .slice (some ⟨b2, 0, none⟩) n c2] w fun e w' => e = .returned (.bool true) ∧ Below w.heap.size w w' := by
  go_enter Try.func20, Try.ntmps20
  go_wp2
  go_loopw [5] (fun i wr => ∃ k : Nat, k ≤ n ∧ i = .int .i64 k ∧ Below w.heap.size w wr ∧ Hid (Row wr b1 n f ∧ Row wr b2 n f)) (fun i _ => n - (intOf i).toNat)
  case atStart => exact ⟨0, by omega, rfl, Below.refl _ _, h1, h2⟩
  case round =>
    obtain ⟨k, hk, rfl, hB, hR⟩ := hrel
    by_cases hlt : k < n
    · have c1 := hR.out.1.cell hlt
      have c2 := hR.out.2.cell hlt
      have hlt' : (k : Int) < (n : Int) := by omega
      go_wp2
      go_quiet (fail)
      go_wp2
      go_roundw
      case rel => exact ⟨k + 1, by omega, by go_num, ⟨hB.os, hB.tape, hB.output, hB.size, hB.block⟩, hid ⟨hR.out.1.block rfl, hR.out.2.block rfl⟩⟩
      case measure => simp [intOf]; omega
    · go_wp2
      go_ret
      exact ⟨rfl, hB⟩
set_option maxHeartbeats 1000000 in
theorem heldInt64S_yes (b n c : Nat) (k : Int) (f : Nat → Int) (w : World) (hn : n ≤ 1048576) (hk0 : 0 ≤ k) (hk1 : k ≤ 1000000000) (h : Row w b n f) (hf : ∀ i, i < n → f i = k + i) :
    Calls Try.prog 26 #[.slice (some ⟨b, 0, none⟩) n c, .int .i64 k] w fun e w' => e = .returned (.int .i64 (k + n)) ∧ w = w' := by
  have HF := hid hf; clear hf
  go_enter Try.func26, Try.ntmps26
  go_wp2
  go_loop [1, 5] (fun m i => ∃ j : Nat, j ≤ n ∧ i = .int .i64 j ∧ m = .int .i64 (k + j)) (fun _ i => n - (intOf i).toNat)
  case atStart => exact ⟨0, by omega, rfl, by simp⟩
  case round =>
    obtain ⟨j, hj, rfl, rfl⟩ := hrel
    by_cases hlt : j < n
    · have c1 := h.cell hlt
      rw [HF.out j hlt] at c1
      have hlt' : (j : Int) < (n : Int) := by omega
      go_wp2
      go_round
      case rel => exact ⟨j + 1, by omega, by go_num, by congr 1; omega⟩
      case measure => simp [intOf]; omega
    · obtain rfl : j = n := by omega
      go_wp2
      go_ret
      exact ⟨rfl, rfl⟩
set_option maxHeartbeats 1000000 in
theorem markInt64S_any (b n c : Nat) (k : Int) (f : Nat → Int) (w : World) (hn : n ≤ 1048576) (hk0 : 0 ≤ k) (hk1 : k ≤ 1000000000) (h : Row w b n f) :
    Calls Try.prog 25 #[.slice (some ⟨b, 0, none⟩) n c, .int .i64 k] w fun e w' => e = .returned (.int .i64 (k + n)) ∧ w.grownBy w' (some b) ∧ Row w' b n (fun i => k + i) := by
  go_enter Try.func25, Try.ntmps25
  go_wp2
  go_loopw [1, 5] (fun m i wr => ∃ j : Nat, j ≤ n ∧ i = .int .i64 j ∧ m = .int .i64 (k + j) ∧ Hid (w.grownBy wr (some b)) ∧ Hid (Row wr b n (fun i => if i < j then k + i else f i))) (fun _ i _ => n - (intOf i).toNat)
  case atStart => exact ⟨0, by omega, rfl, by simp, grown_refl _ _, h.congr fun i hi => by simp⟩
  case round =>
    obtain ⟨j, hj, rfl, rfl, hG, hR⟩ := hrel
    by_cases hlt : j < n
    · have c1 := hR.out.cell hlt
      have f1 := hR.out.frozen j
      have hlt' : (j : Int) < (n : Int) := by omega
      go_wp2
      go_roundw
      case rel => exact ⟨j + 1, by omega, by go_num, by congr 1; omega, hid (grown_set hG.out _ _), hid (hR.out.set j _ _ fun i hi => by
          by_cases e : i = j
          · subst e; simp
          · simp [e, show i < j + 1 ↔ i < j by omega])⟩
      case measure => simp [intOf]; omega
    · obtain rfl : j = n := by omega
      have HR := hid (hR.out.congr (f' := fun i => k + i) (fun i hi => by simp [hi]))
      go_wp2
      go_ret
      exact ⟨rfl, hG.out, HR.out⟩
end Go.Proofs.Ytbhjbllgmenbaaa
