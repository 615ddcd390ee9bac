/- Proved: what the laws' helpers on lists of lists of numbers that come in return. Conditions: those that each theorem names. -/
import Derived.Test.YtbhjbllgmenbaaaIa
import Derived.Test.YtbhjbllgmenbaaaIl2
namespace Go.Proofs.Ytbhjbllgmenbaaa
set_option linter.unusedVariables false
set_option linter.unusedSimpArgs false
open Go.RowKit
/-- v is a list of n lists that came in; the list i has the m i numbers f i. -/
def SIn (w : World) (v : Value) (n : Nat) (m : Nat → Nat) (f : Nat → Nat → Int) : Prop :=
  (v = .slice none 0 0 ∧ n = 0) ∨ ∃ a cap, v = .slice (some a) n cap ∧ ∀ i, i < n → ∃ r, w.cell? (a.add i) = some r ∧ NIn w r (m i) (f i)
theorem SIn.below {w w' : World} {v : Value} {n : Nat} {m : Nat → Nat} {f : Nat → Nat → Int} (h : SIn w v n m f) (hb : Below w.heap.size w w') : SIn w' v n m f := by
  rcases h with h | ⟨a, cap, e, hc⟩
  · exact .inl h
  · refine .inr ⟨a, cap, e, fun i hi => ?_⟩
    obtain ⟨r, hr, hn⟩ := hc i hi
    exact ⟨r, (hb.cell (World.block_lt_of_cell? w _ hr)).trans hr, hn.below hb⟩
theorem SIn.form {w : World} {v : Value} {n : Nat} {m : Nat → Nat} {f : Nat → Nat → Int} (h : SIn w v n m f) : ∃ A cap, v = .slice A n cap := by
  rcases h with ⟨e, e2⟩ | ⟨a, cap, e, _⟩
  · subst e2; exact ⟨none, 0, e⟩
  · exact ⟨some a, cap, e⟩
theorem NIn.form {w : World} {v : Value} {n : Nat} {f : Nat → Int} (h : NIn w v n f) : ∃ A cap, v = .slice A n cap := by
  rcases h with ⟨e, e2⟩ | ⟨a, cap, e, _⟩
  · subst e2; exact ⟨none, 0, e⟩
  · exact ⟨some a, cap, e⟩
theorem SIn.cell {w : World} {A : Option Addr} {n cap : Nat} {m : Nat → Nat} {f : Nat → Nat → Int} (h : SIn w (.slice A n cap) n m f) {i : Nat} (hi : i < n) :
    ∃ a B c, A = some a ∧ w.cell? (a.add i) = some (.slice B (m i) c) ∧ NIn w (.slice B (m i) c) (m i) (f i) := by
  rcases h with ⟨_, e2⟩ | ⟨a, cap', e, hc⟩
  · omega
  · obtain ⟨r, hr, hn⟩ := hc i hi
    obtain ⟨B, c, rfl⟩ := hn.form
    obtain ⟨rfl, _⟩ : A = some a ∧ _ := by simpa using e
    exact ⟨a, B, c, rfl, hr, hn⟩
/-- Block b holds n cells, the first k of them lists of their own with the numbers f. -/
def SPart (w : World) (b n k : Nat) (m : Nat → Nat) (f : Nat → Nat → Int) : Prop :=
  ∃ cs, holds w b cs 26 ∧ cs.size = n ∧ ∀ i, i < k → ∃ g, cs[i]? = some (.slice (some ⟨g, 0, none⟩) (m i) (m i)) ∧ Row w g (m i) (f i) ∧ b < g
abbrev SL (w : World) (b n : Nat) (m : Nat → Nat) (f : Nat → Nat → Int) : Prop := SPart w b n n m f
theorem SPart.lt {w : World} {b n k : Nat} {m : Nat → Nat} {f : Nat → Nat → Int} (h : SPart w b n k m f) : b < w.heap.size := by obtain ⟨_, h1, _⟩ := h; exact holds_lt h1
theorem SPart.frozen {w : World} {b n k : Nat} {m : Nat → Nat} {f : Nat → Nat → Int} (h : SPart w b n k m f) (i : Nat) : w.frozen? ⟨b, i, none⟩ = false := by obtain ⟨_, h1, _⟩ := h; exact holds_frozen h1 i
theorem SPart.has {w : World} {b n k : Nat} {m : Nat → Nat} {f : Nat → Nat → Int} (h : SPart w b n k m f) {i : Nat} (hi : i < n) : ∃ v, w.cell? ⟨b, i, none⟩ = some v := by
  obtain ⟨cs, h1, h2, _⟩ := h
  exact ⟨cs[i]'(by omega), by rw [holds_cell h1, Array.getElem?_eq_getElem]⟩
theorem SPart.cell {w : World} {b n k : Nat} {m : Nat → Nat} {f : Nat → Nat → Int} (h : SPart w b n k m f) {i : Nat} (hi : i < k) : ∃ g, w.cell? ⟨b, i, none⟩ = some (.slice (some ⟨g, 0, none⟩) (m i) (m i)) ∧ Row w g (m i) (f i) := by
  obtain ⟨cs, h1, _, h3⟩ := h
  obtain ⟨g, hg, hr, _⟩ := h3 i hi
  exact ⟨g, by rw [holds_cell h1, hg], hr⟩
theorem SPart.kept {w w' : World} {b n k : Nat} {m : Nat → Nat} {f : Nat → Nat → Int} (h : SPart w b n k m f) (e : ∀ j, j < w.heap.size → w'.heap[j]? = w.heap[j]?) : SPart w' b n k m f := by
  obtain ⟨cs, h1, h2, h3⟩ := h
  refine ⟨cs, (e b (holds_lt h1)).trans h1, h2, fun i hi => ?_⟩
  obtain ⟨g, hg, hr, hl⟩ := h3 i hi
  exact ⟨g, hg, hr.block (e g hr.lt), hl⟩
theorem SPart.below {w w' : World} {b n k : Nat} {m : Nat → Nat} {f : Nat → Nat → Int} (h : SPart w b n k m f) (hb : Below w.heap.size w w') : SPart w' b n k m f := h.kept hb.block
theorem SPart.drew {w : World} {b n k : Nat} {m : Nat → Nat} {f : Nat → Nat → Int} (h : SPart w b n k m f) : SPart w.drew b n k m f := h.kept fun _ _ => rfl
theorem SPart.alloc {w : World} {b n k : Nat} {m : Nat → Nat} {f : Nat → Nat → Int} (h : SPart w b n k m f) (o : Obj) : SPart (w.alloc o) b n k m f := h.kept fun _ hj => heap_alloc_old w o hj
theorem SPart.step {w : World} {b n k g : Nat} {m : Nat → Nat} {f : Nat → Nat → Int} (h : SPart w b n k m f) (hk : k < n) (hr : Row w g (m k) (f k)) (hg : b < g) :
    SPart (w.setCell ⟨b, k, none⟩ (.slice (some ⟨g, 0, none⟩) (m k) (m k))) b n (k + 1) m f := by
  obtain ⟨cs, h1, h2, h3⟩ := h
  refine ⟨cs.setIfInBounds k (.slice (some ⟨g, 0, none⟩) (m k) (m k)), holds_set h1 k _, by simpa using h2, fun i hi => ?_⟩
  rw [Array.getElem?_setIfInBounds]
  by_cases e : k = i
  · subst e
    rw [if_pos rfl, if_pos (by omega)]
    exact ⟨g, rfl, hr.block (heap_setCell_other w ⟨b, k, none⟩ g _ (by simp; omega)), hg⟩
  · rw [if_neg e]
    obtain ⟨g2, hg2, hr2, hl2⟩ := h3 i (by omega)
    exact ⟨g2, hg2, hr2.block (heap_setCell_other w ⟨b, k, none⟩ g2 _ (by simp; omega)), hl2⟩
theorem SPart.made {w w' : World} {n : Nat} {base : Nat} {xs : List Value} {m : Nat → Nat} {f : Nat → Nat → Int} (h : w'.ownsRow base 26 1 (.slice (some ⟨w.heap.size, 0, none⟩) n n) n xs) : SPart w' w.heap.size n 0 m f := by
  rcases h.2 with ⟨h1, _⟩ | ⟨g, cap, cur, e, _, hg, _, _, hs, _⟩
  · cases h1
  · obtain ⟨rfl, rfl⟩ : w.heap.size = g ∧ n = cap := by simpa using e
    exact ⟨cur, hg, by omega, fun i hi => absurd hi (Nat.not_lt_zero i)⟩
section
variable {ops : Array Oper} {rest : List Oper} {o : Oper} {a : Act} {w : World} {Q : Exit → Act → World → Prop}
theorem wpL_makeSN {l c : Operand} (m : Nat → Nat) (f : Nat → Nat → Int) (hgd : o.guard = none) (ho : o.op = .makeSlice 46 l c) {n : Nat} (hl : a.eval l = .int .i64 n) (hc : a.eval c = .int .i64 n) (hn : n ≤ 1048576)
    (h : ∀ w', SPart w' w.heap.size n 0 m f → Below w.heap.size w w' → wpList Try.prog ops Q rest (a.put o.dst (.slice (some ⟨w.heap.size, 0, none⟩) n n)) w') : wpList Try.prog ops Q (o :: rest) a w := by
  obtain ⟨i, hi, hz, h1, h2⟩ := info_parts infoS
  refine wpList_make_full w hgd l c 46 ho w.heap.size 26 i (.slice none 0 0) 1 Try.underlying46 hi hz h1 .i64 .i64 n n n hl hc rfl rfl (by rw [h2]; omega) (by unfold maxLen; omega) (Nat.le_refl _) fun w' ho hg => ?_
  exact h w' (SPart.made ho) ⟨hg.os, hg.tape, hg.output, hg.size, fun k hk => hg.block k hk (by simp)⟩
end
/-- What a conversion gives: the same numbers, in blocks of their own. -/
def GotS (n : Nat) (m : Nat → Nat) (f : Nat → Nat → Int) (w : World) (e : Ending) (w' : World) : Prop := ∃ b, e = .returned (.slice (some ⟨b, 0, none⟩) n n) ∧ Below w.heap.size w w' ∧ Hid (SL w' b n m f) ∧ w.heap.size ≤ b
/-- The same, all blocks ahead of B. -/
def SU (w : World) (b n : Nat) (m : Nat → Nat) (f : Nat → Nat → Int) (B : Nat) : Prop :=
  b < B ∧ ∃ cs, holds w b cs 26 ∧ cs.size = n ∧ ∀ i, i < n → ∃ g, cs[i]? = some (.slice (some ⟨g, 0, none⟩) (m i) (m i)) ∧ Row w g (m i) (f i) ∧ b < g ∧ g < B
theorem SPart.bound {w : World} {b n B : Nat} {m : Nat → Nat} {f : Nat → Nat → Int} (h : SPart w b n n m f) (hB : w.heap.size ≤ B) : SU w b n m f B := by
  have hb := h.lt
  obtain ⟨cs, h1, h2, h3⟩ := h
  refine ⟨by omega, cs, h1, h2, fun i hi => ?_⟩
  obtain ⟨g, hg, hr, hl⟩ := h3 i hi
  have := hr.lt
  exact ⟨g, hg, hr, hl, by omega⟩
theorem SPart.sl {w : World} {b n : Nat} {m : Nat → Nat} {f : Nat → Nat → Int} (h : SPart w b n n m f) : SL w b n m f := h
theorem SU.sl {w : World} {b n B : Nat} {m : Nat → Nat} {f : Nat → Nat → Int} (h : SU w b n m f B) : SL w b n m f := by
  obtain ⟨_, cs, h1, h2, h3⟩ := h
  refine ⟨cs, h1, h2, fun i hi => ?_⟩
  obtain ⟨g, hg, hr, hl, _⟩ := h3 i hi
  exact ⟨g, hg, hr, hl⟩
theorem SU.below {w w' : World} {b n B : Nat} {m : Nat → Nat} {f : Nat → Nat → Int} (h : SU w b n m f B) (hb : Below w.heap.size w w') : SU w' b n m f B := by
  obtain ⟨h0, cs, h1, h2, h3⟩ := h
  refine ⟨h0, cs, holds_below h1 hb (holds_lt h1), h2, fun i hi => ?_⟩
  obtain ⟨g, hg, hr, hl⟩ := h3 i hi
  exact ⟨g, hg, hr.below hb, hl⟩
theorem SU.away {w w' : World} {b n B x : Nat} {m : Nat → Nat} {f : Nat → Nat → Int} (h : SU w b n m f B) (hO : ∀ b c u, b ≠ x → holds w b c u → holds w' b c u) (hx : B ≤ x) : SU w' b n m f B := by
  obtain ⟨h0, cs, h1, h2, h3⟩ := h
  refine ⟨h0, cs, hO _ _ _ (by omega) h1, h2, fun i hi => ?_⟩
  obtain ⟨g, hg, ⟨rc, r1, r2, r3⟩, hl, hgB⟩ := h3 i hi
  exact ⟨g, hg, ⟨rc, hO _ _ _ (by omega) r1, r2, r3⟩, hl, hgB⟩
end Go.Proofs.Ytbhjbllgmenbaaa
