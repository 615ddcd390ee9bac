/- Proved: what the laws' helpers on lists of numbers that come in return. Conditions: those that each theorem names. -/
import Derived.Test.YtbhjbllgmenbaaaIl3
namespace Go.Proofs.Ytbhjbllgmenbaaa
set_option linter.unusedVariables false
set_option linter.unusedSimpArgs false
open Go.RowKit
/-- Block b holds n cells, the first k of them the numbers f 0 .. f (k - 1). -/
def NPart (w : World) (b n k : Nat) (f : Nat → Int) : Prop := ∃ cs, holds w b cs 2 ∧ cs.size = n ∧ ∀ i, i < k → cs[i]? = some (.int .i64 (f i))
theorem NPart.done {w : World} {b n : Nat} {f : Nat → Int} (h : NPart w b n n f) : Row w b n f := by
  obtain ⟨cs, h1, h2, h3⟩ := h
  exact ⟨cs, h1, by omega, h3⟩
theorem NPart.cell {w : World} {b n k : Nat} {f : Nat → Int} (h : NPart w b n k f) {i : Nat} (hi : i < n) : ∃ v, w.cell? ⟨b, i, none⟩ = some v := by
  obtain ⟨cs, h1, h2, _⟩ := h
  exact ⟨cs[i]'(by omega), by rw [holds_cell h1, Array.getElem?_eq_getElem]⟩
theorem NPart.frozen {w : World} {b n k : Nat} {f : Nat → Int} (h : NPart w b n k f) (i : Nat) : w.frozen? ⟨b, i, none⟩ = false := by
  obtain ⟨cs, h1, _⟩ := h; exact holds_frozen h1 i
theorem NPart.step {w : World} {b n k : Nat} {f : Nat → Int} (h : NPart w b n k f) (hk : k < n) : NPart (w.setCell ⟨b, k, none⟩ (.int .i64 (f k))) b n (k + 1) f := by
  obtain ⟨cs, h1, h2, h3⟩ := h
  refine ⟨cs.setIfInBounds k (.int .i64 (f k)), holds_set h1 k _, by simpa using h2, fun i hi => ?_⟩
  rw [Array.getElem?_setIfInBounds]
  by_cases e : k = i
  · subst e; rw [if_pos rfl, if_pos (by omega)]
  · rw [if_neg e]; exact h3 i (by omega)
theorem NPart.made {w w' : World} {n : Nat} {base : Nat} {xs : List Value} {f : Nat → Int} (h : w'.ownsRow base 2 1 (.slice (some ⟨w.heap.size, 0, none⟩) n n) n xs) : NPart w' w.heap.size n 0 f := by
  rcases h.2 with ⟨h1, _⟩ | ⟨g, cap, cur, e, _, hg, _, _, hs, _⟩
  · cases h1
  · obtain ⟨rfl, rfl⟩ : w.heap.size = g ∧ n = cap := by simpa using e
    exact ⟨cur, hg, by omega, fun i hi => absurd hi (Nat.not_lt_zero i)⟩
section
variable {ops : Array Oper} {rest : List Oper} {o : Oper} {a : Act} {w : World} {Q : Exit → Act → World → Prop}
theorem wpL_makeN {l c : Operand} (f : Nat → Int) (hgd : o.guard = none) (ho : o.op = .makeSlice 26 l c) {n : Nat} (hl : a.eval l = .int .i64 n) (hc : a.eval c = .int .i64 n) (hn : n ≤ 1048576)
    (h : ∀ w', NPart w' w.heap.size n 0 f → Below w.heap.size w w' → wpList Try.prog ops Q rest (a.put o.dst (.slice (some ⟨w.heap.size, 0, none⟩) n n)) w') : wpList Try.prog ops Q (o :: rest) a w := by
  obtain ⟨i, hi, hz, h1, h2⟩ := info_parts infoI
  refine wpList_make_full w hgd l c 26 ho w.heap.size 2 i (.int .i64 0) 1 Try.underlying26 hi hz h1 .i64 .i64 n n n hl hc rfl rfl (by rw [h2]; omega) (by unfold maxLen; omega) (Nat.le_refl _) fun w' ho hg => ?_
  exact h w' (NPart.made ho) ⟨hg.os, hg.tape, hg.output, hg.size, fun k hk => hg.block k hk (by simp)⟩
end
/-- v is a list of n numbers that came in. -/
def NIn (w : World) (v : Value) (n : Nat) (f : Nat → Int) : Prop :=
  (v = .slice none 0 0 ∧ n = 0) ∨ ∃ a cap, v = .slice (some a) n cap ∧ ∀ i, i < n → w.cell? (a.add i) = some (.int .i64 (f i))
theorem NIn.below {w w' : World} {v : Value} {n : Nat} {f : Nat → Int} (h : NIn w v n f) (hb : Below w.heap.size w w') : NIn w' v n f := by
  rcases h with h | ⟨a, cap, e, hc⟩
  · exact .inl h
  · exact .inr ⟨a, cap, e, fun i hi => (hb.cell (World.block_lt_of_cell? w _ (hc i hi))).trans (hc i hi)⟩
/-- What a conversion gives: the same numbers, in a block of their own. -/
def GotN (n : Nat) (f : Nat → Int) (w : World) (e : Ending) (w' : World) : Prop := ∃ b, e = .returned (.slice (some ⟨b, 0, none⟩) n n) ∧ Below w.heap.size w w' ∧ Row w' b n f ∧ w.heap.size ≤ b
set_option maxHeartbeats 2000000 in
theorem toInt64S_any (v : Value) (n : Nat) (f : Nat → Int) (w : World) (h : NIn w v n f) (hn : n ≤ 1048576) :
    Calls Try.prog 17 #[v] w (GotN n f w) := by
  rcases h with ⟨rfl, rfl⟩ | ⟨ad, cap, rfl, hc⟩
  · go_enter Try.func17, Try.ntmps17
    go_wp2_with (refine wpL_makeN f (n := 0) rfl (by rfl) (by rfl) (by rfl) (by omega) ?_; intro w2 hp hb)
    go_loopw [4] (fun i wr => i = .int .i64 0 ∧ Below w.heap.size w wr ∧ Hid (NPart wr w.heap.size 0 0 f)) (fun _ _ => 0)
    case atStart => exact ⟨rfl, hb, hp⟩
    case round =>
      obtain ⟨rfl, hB, hP⟩ := hrel
      go_wp2
      go_ret
      exact ⟨_, rfl, hB, hP.out.done, Nat.le_refl _⟩
  · have HC := hid (show NIn w (.slice (some ad) n cap) n f from .inr ⟨ad, cap, rfl, hc⟩)
    clear hc
    go_enter Try.func17, Try.ntmps17
    go_wp2_with (refine wpL_makeN f (n := n) rfl (by rfl) (by rfl) (by rfl) hn ?_; intro w2 hp hb)
    go_loopw [4] (fun i wr => ∃ k : Nat, k ≤ n ∧ i = .int .i64 k ∧ Below w.heap.size w wr ∧ Hid (NPart wr w.heap.size n k f)) (fun i _ => n - (intOf i).toNat)
    case atStart => exact ⟨0, by omega, rfl, hb, hp⟩
    case round =>
      clear hb hp
      obtain ⟨k, hk, rfl, hB, hP⟩ := hrel
      by_cases hlt : k < n
      · have hlt' : (k : Int) < (n : Int) := by omega
        have ca : wr.cell? (ad.add k) = some (.int .i64 (f k)) := by
          rcases HC.out.below hB with ⟨h1, _⟩ | ⟨a1, c1, h1, h2⟩
          · cases h1
          · obtain ⟨rfl, rfl⟩ : ad = a1 ∧ cap = c1 := by simpa using h1
            exact h2 k hlt
        obtain ⟨vb, cb⟩ := hP.out.cell hlt
        have fb := hP.out.frozen k
        have hP2 := hid (hP.out.step hlt)
        go_wp2
        go_roundw
        case rel => exact ⟨k + 1, by omega, by go_num, hB.setCell (by simp) _, hP2⟩
        case measure => simp [intOf]; omega
      · obtain rfl : k = n := by omega
        go_wp2
        go_ret
        exact ⟨_, rfl, hB, hP.out.done, Nat.le_refl _⟩
theorem GotN.size {n : Nat} {f : Nat → Int} {w w' : World} {e : Ending} (h : GotN n f w e w') : ∃ b, e = .returned (.slice (some ⟨b, 0, none⟩) n n) ∧ Below w.heap.size w w' ∧ Hid (Row w' b n f) ∧ w.heap.size ≤ b := by
  obtain ⟨b, h1, h2, h3, h4⟩ := h; exact ⟨b, h1, h2, hid h3, h4⟩
end Go.Proofs.Ytbhjbllgmenbaaa
