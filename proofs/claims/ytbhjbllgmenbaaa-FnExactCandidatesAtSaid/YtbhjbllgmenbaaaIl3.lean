/- Proved: how lists of lists of numbers grow, and rules for appends to them. Conditions: those that each lemma names. -/
import Derived.Test.YtbhjbllgmenbaaaIl2
import Derived.Deep.AppendLies
import Derived.OwnWalk
namespace Go.Proofs.Ytbhjbllgmenbaaa
set_option linter.unusedVariables false
set_option linter.unusedSimpArgs false
open Go.RowKit
theorem infoI : (Try.prog.info? 2).map (fun i => (i.zero, i.size, i.bytes)) = some (some (.int .i64 0), 1, 8) := by kernel_rfl
theorem infoS : (Try.prog.info? 26).map (fun i => (i.zero, i.size, i.bytes)) = some (some (.slice none 0 0), 1, 24) := by kernel_rfl
theorem Below.grown {B : Nat} {w w1 w2 : World} {r : Option Nat} (h : Below B w w1) (hg : w1.grownBy w2 r) (hr : ∀ k, r = some k → B ≤ k) (hB : B ≤ w.heap.size) : Below B w w2 :=
  h.trans ⟨hg.os, hg.tape, hg.output, hg.size, fun k hk => hg.block k (by have := h.size; omega) (fun e => by have := hr k e.symm; omega)⟩
theorem Has.grown {w0 w w' : World} {L : List (Array Value × TypeId)} {r : Option Nat} (h : Has w0 w L) (hg : w.grownBy w' r) (hr : ∀ k, r = some k → w0.heap.size + L.length ≤ k) : Has w0 w' L :=
  h.call (B := w0.heap.size + L.length) ⟨hg.os, hg.tape, hg.output, hg.size, fun k hk => hg.block k (by have := h.size; omega) (fun e => by have := hr k e.symm; omega)⟩ (Nat.le_refl _)
theorem Row.grown' {w w' : World} {b n : Nat} {r : Option Nat} {f : Nat → Int} (h : Row w b n f) (hb : w.grownBy w' r) (hne : r ≠ some b) : Row w' b n f := h.block (hb.block b h.lt (fun e => hne e.symm))
theorem Row.alloc {w : World} {b n : Nat} {f : Nat → Int} (h : Row w b n f) (o : Obj) : Row (w.alloc o) b n f := h.block (heap_alloc_old w o h.lt)
/-- The numbers f 0 .. f (n - 1), as cells. -/
def ints (n : Nat) (f : Nat → Int) : List Value := (List.range n).map fun i => .int .i64 (f i)
theorem ints_succ (n : Nat) (f : Nat → Int) : ints n f ++ [.int .i64 (f n)] = ints (n + 1) f := by simp [ints, List.range_succ]
theorem ints_get {n : Nat} {f : Nat → Int} {i : Nat} (h : i < n) : (ints n f)[i]? = some (.int .i64 (f i)) := by simp [ints, h]
theorem own_row {w : World} {base n : Nat} {v : Value} {f : Nat → Int} (h : w.ownsRow base 2 1 v n (ints n f)) (hn : 0 < n) : ∃ g cap, v = .slice (some ⟨g, 0, none⟩) n cap ∧ base ≤ g ∧ Row w g n f := by
  rcases h.2 with ⟨_, h0⟩ | ⟨g, cap, cur, rfl, hb, hg, hc, _, hs, hx⟩
  · omega
  · refine ⟨g, cap, rfl, hb, cur, hg, by omega, fun i hi => ?_⟩
    have := ints_get (f := f) hi
    rw [← hx, List.getElem?_take, if_pos (by omega)] at this
    simpa using this
/-- The same, as far as k lists have been made: v is the list of them. -/
structure PS (w : World) (base : Nat) (v : Value) (k L : Nat) (f : Nat → Nat → Int) (b : Nat → Nat) : Prop where
  own : ∃ xs : List Value, w.ownsRow base 26 1 v k xs ∧ ∀ j, j < k → ∃ cap, xs[j]? = some (.slice (some ⟨b j, 0, none⟩) L cap)
  inner : ∀ j, j < k → Row w (b j) L (f j)
  lo : ∀ j, j < k → base ≤ b j
  ne : ∀ j, j < k → v.ownBlock ≠ some (b j)
  inj : ∀ i j, i < j → j < k → b i ≠ b j
section
variable {w w' : World} {base k L : Nat} {v : Value} {f : Nat → Nat → Int} {b : Nat → Nat}
theorem PS.start (h : w.ownsRow base 26 1 v 0 []) : PS w base v 0 L f b := ⟨⟨[], h, fun j hj => by omega⟩, fun j hj => by omega, fun j hj => by omega, fun j hj => by omega, fun i j _ hj => by omega⟩
theorem own_kept {xs : List Value} {n : Nat} {T : TypeId} (h : w.ownsRow base T 1 v n xs) (e : ∀ k, k < w.heap.size → w'.heap[k]? = w.heap[k]?) : w'.ownsRow base T 1 v n xs := by
  refine ⟨h.1, ?_⟩
  rcases h.2 with hn | ⟨g, cap, cur, rfl, hb, hg, rest⟩
  · exact .inl hn
  · exact .inr ⟨g, cap, cur, rfl, hb, by rw [e g (Array.getElem?_eq_some_iff.1 hg).1]; exact hg, rest⟩
theorem PS.kept (h : PS w base v k L f b) (e : ∀ k, k < w.heap.size → w'.heap[k]? = w.heap[k]?) : PS w' base v k L f b := by
  obtain ⟨xs, h1, h2⟩ := h.own
  exact ⟨⟨xs, own_kept h1 e, h2⟩, fun j hj => (h.inner j hj).block (e _ (h.inner j hj).lt), h.lo, h.ne, h.inj⟩
theorem PS.below (h : PS w base v k L f b) (hb : Below w.heap.size w w') : PS w' base v k L f b := h.kept hb.block
theorem PS.lt (h : PS w base v k L f b) : ∀ x, v.ownBlock = some x → base ≤ x ∧ x < w.heap.size := by
  obtain ⟨xs, h1, _⟩ := h.own; exact h1.lt
/-- One list more. -/
theorem PS.push {w1 w2 : World} {g c g2 cap2 : Nat} {o : Obj} {xs : List Value} (h : PS w base v k L f b) (hx : ∀ j, j < k → ∃ cap, xs[j]? = some (.slice (some ⟨b j, 0, none⟩) L cap)) (hl : xs.length = k)
    (hb : Below w.heap.size w w1) (hr : Row w1 g L (f k)) (hg : w.heap.size ≤ g) (hbase : base ≤ w.heap.size)
    (how : w2.ownsRow base 26 1 (.slice (some ⟨g2, 0, none⟩) (k + 1) cap2) (k + 1) (xs ++ [.slice (some ⟨g, 0, none⟩) L c]))
    (hgr : (w1.alloc o).grownBy w2 v.ownBlock) (hor : v.ownBlock = some g2 ∨ g2 = (w1.alloc o).heap.size) : PS w2 base (.slice (some ⟨g2, 0, none⟩) (k + 1) cap2) (k + 1) L f (fun j => if j = k then g else b j) := by
  have hlt := h.lt
  have hs := hb.size
  have hgl := hr.lt
  have hsz : (w1.alloc o).heap.size = w1.heap.size + 1 := by simp
  have bl : ∀ j, j < k → b j < w.heap.size := fun j hj => (h.inner j hj).lt
  have g2ne : ∀ j, j < k → g2 ≠ b j := fun j hj => by
    rcases hor with e | e
    · have := h.ne j hj; rw [e] at this; simpa using this
    · have := bl j hj; omega
  have g2g : g2 ≠ g := by
    rcases hor with e | e
    · have := (hlt g2 e).2; omega
    · omega
  refine ⟨⟨_, how, fun j hj => ?_⟩, fun j hj => ?_, fun j hj => ?_, fun j hj => ?_, fun i j hij hj => ?_⟩
  · by_cases e : j = k
    · subst e; exact ⟨c, by rw [if_pos rfl, List.getElem?_append_right (by omega)]; simp [hl]⟩
    · rw [if_neg e, List.getElem?_append_left (by omega)]; exact hx j (by omega)
  · by_cases e : j = k
    · subst e; rw [if_pos rfl]; exact (hr.alloc o).grown' hgr (fun e => by have := (hlt g e).2; omega)
    · rw [if_neg e]; exact (((h.inner j (by omega)).below hb).alloc o).grown' hgr (h.ne j (by omega))
  · by_cases e : j = k
    · rw [if_pos e]; omega
    · rw [if_neg e]; exact h.lo j (by omega)
  · show some g2 ≠ _
    by_cases e : j = k
    · rw [if_pos e]; simpa using g2g
    · rw [if_neg e]; simpa using g2ne j (by omega)
  · rw [if_neg (by omega)]
    by_cases e : j = k
    · rw [if_pos e]; have := bl i (by omega); omega
    · rw [if_neg e]; exact h.inj i j hij (by omega)
theorem PS.done (h : PS w base v k L f b) (hk : 0 < k) : ∃ g cap, v = .slice (some ⟨g, 0, none⟩) k cap ∧ base ≤ g ∧ SS w g b k L f := by
  obtain ⟨xs, h1, h2⟩ := h.own
  rcases h1.2 with ⟨_, h0⟩ | ⟨g, cap, cur, rfl, hb, hg, hc, _, hs, hx⟩
  · omega
  · refine ⟨g, cap, rfl, hb, ⟨cur, hg, fun j hj => ?_⟩, h.inner, fun j hj => ?_, h.inj⟩
    · obtain ⟨c, e⟩ := h2 j hj
      refine ⟨c, ?_⟩
      rw [← hx, List.getElem?_take, if_pos (by omega)] at e
      simpa using e
    · have := h.ne j hj
      intro e; apply this; show some g = _; rw [e]
end
section
variable {ops : Array Oper} {rest : List Oper} {o : Oper} {a : Act} {w : World} {Q : Exit → Act → World → Prop}
theorem wpL_appI {s x : Operand} (hgd : o.guard = none) (ho : o.op = .call { callee := .builtin .append, args := #[s, x], argTypes := #[26, 26] }) {v : Value} {n base c : Nat} {xs : List Value} {ad : Addr} {z : Int}
    (hs : a.eval s = v) (hx : a.eval x = .slice (some ad) 1 c) (hown : w.ownsRow base 2 1 v n xs) (hc : w.cell? ad = some (.int .i64 z)) (hn : n ≤ 1000) (hbase : base ≤ w.heap.size)
    (h : ∀ g cap w', w'.ownsRow base 2 1 (.slice (some ⟨g, 0, none⟩) (n + 1) cap) (n + 1) (xs ++ [.int .i64 z]) → w.grownBy w' v.ownBlock → (v.ownBlock = some g ∨ g = w.heap.size) → g < w'.heap.size → wpList Try.prog ops Q rest (a.put o.dst (.slice (some ⟨g, 0, none⟩) (n + 1) cap)) w') : wpList Try.prog ops Q (o :: rest) a w := by
  obtain ⟨i, hi, hz, h1, h2⟩ := info_parts infoI
  refine wpList_append_lies w hgd s x 26 ho base 2 i (.int .i64 0) 1 8 Try.underlying26 hi hz h1 h2 rfl (by omega) v n xs hs hown ad 1 c [.int .i64 z] hx rfl (fun j u hj => ?_) (fun u hu => ?_) (by omega) (by unfold maxLen; omega) (by omega) hbase _ rfl h
  · cases j with
    | zero => simp at hj; subst hj; simpa [Addr.add] using hc
    | succ j => simp at hj
  · simp at hu; subst hu; rfl
theorem wpL_appS {s x : Operand} (hgd : o.guard = none) (ho : o.op = .call { callee := .builtin .append, args := #[s, x], argTypes := #[46, 46] }) {v : Value} {n base c : Nat} {xs : List Value} {ad : Addr} {p : Option Addr} {l k : Nat}
    (hs : a.eval s = v) (hx : a.eval x = .slice (some ad) 1 c) (hown : w.ownsRow base 26 1 v n xs) (hc : w.cell? ad = some (.slice p l k)) (hn : n ≤ 1000) (hbase : base ≤ w.heap.size)
    (h : ∀ g cap w', w'.ownsRow base 26 1 (.slice (some ⟨g, 0, none⟩) (n + 1) cap) (n + 1) (xs ++ [.slice p l k]) → w.grownBy w' v.ownBlock → (v.ownBlock = some g ∨ g = w.heap.size) → g < w'.heap.size → wpList Try.prog ops Q rest (a.put o.dst (.slice (some ⟨g, 0, none⟩) (n + 1) cap)) w') : wpList Try.prog ops Q (o :: rest) a w := by
  obtain ⟨i, hi, hz, h1, h2⟩ := info_parts infoS
  refine wpList_append_lies w hgd s x 46 ho base 26 i (.slice none 0 0) 1 24 Try.underlying46 hi hz h1 h2 rfl (by omega) v n xs hs hown ad 1 c [.slice p l k] hx rfl (fun j u hj => ?_) (fun u hu => ?_) (by omega) (by unfold maxLen; omega) (by omega) hbase _ rfl h
  · cases j with
    | zero => simp at hj; subst hj; simpa [Addr.add] using hc
    | succ j => simp at hj
  · simp at hu; subst hu; rfl
end
/-- What ListsOfSquare gives back: the rows of the square, in new memory. -/
def Got (N : Nat) (g : Nat → UInt8) (w : World) (e : Ending) (w' : World) : Prop := ∃ bo c b, e = .returned (.tuple #[.slice (some ⟨bo, 0, none⟩) N c, .int .i64 0]) ∧ Below w.heap.size w w' ∧ SS w' bo b N N (fun x y => ((g (x * 10 + y)).toNat : Int)) ∧ w.heap.size ≤ bo ∧ ∀ j, j < N → w.heap.size ≤ b j
end Go.Proofs.Ytbhjbllgmenbaaa
