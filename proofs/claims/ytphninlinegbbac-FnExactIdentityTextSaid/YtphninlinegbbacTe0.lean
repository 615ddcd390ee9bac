/- Proved: lemmas on terms as trees, on the stack that reads them, and on lists of bytes in memory. Conditions: those that each lemma names. -/
import Derived.Test.YtphninlinegbbacBase
import Derived.Laws.AppendOwn
namespace Go.Proofs.Ytphninlinegbbac
set_option linter.unusedVariables false
set_option linter.unusedSimpArgs false
open Go.RowKit
inductive Tr where
  | leaf (c : UInt8)
  | node (s : UInt8) (a b : Tr)
def isVar (c : UInt8) : Bool := c == 120 || c == 121 || c == 122 || c == 101
def isOp (c : UInt8) : Bool := c == 42 || c == 92 || c == 47
/-- What the stack is behind a letter. -/
def stp (l : List Tr) (c : UInt8) : Option (List Tr) :=
  if isVar c then some (l ++ [.leaf c]) else if isOp c && decide (2 ≤ l.length) then some (l.take (l.length - 2) ++ [.node c (l.getD (l.length - 2) (.leaf 0)) (l.getD (l.length - 1) (.leaf 0))]) else none
def runT (f : Nat → UInt8) : Nat → Option (List Tr)
  | 0 => some []
  | k + 1 => (runT f k).bind fun l => stp l (f k)
/-- The term that n bytes are, if they are one. -/
def termT (f : Nat → UInt8) (n : Nat) : Option Tr := if n ≤ 40 then (match runT f n with | some [t] => some t | _ => none) else none
theorem runT_var {f : Nat → UInt8} {k : Nat} {l : List Tr} (h : runT f k = some l) (hv : isVar (f k) = true) : runT f (k + 1) = some (l ++ [.leaf (f k)]) := by
  simp [runT, h, stp, hv]
theorem runT_op {f : Nat → UInt8} {k : Nat} {p : List Tr} {x y : Tr} (h : runT f k = some (p ++ [x, y])) (hv : isVar (f k) = false) (ho : isOp (f k) = true) : runT f (k + 1) = some (p ++ [.node (f k) x y]) := by
  have h1 : (p ++ [x, y]).length = p.length + 2 := by simp
  simp [runT, h, stp, hv, ho, List.getD]
theorem runT_few {f : Nat → UInt8} {k : Nat} {l : List Tr} (h : runT f k = some l) (hv : isVar (f k) = false) (hl : l.length < 2) : runT f (k + 1) = none := by
  simp [runT, h, stp, hv, Nat.not_le.2 hl]
theorem runT_bad {f : Nat → UInt8} {k : Nat} {l : List Tr} (h : runT f k = some l) (hv : isVar (f k) = false) (ho : isOp (f k) = false) : runT f (k + 1) = none := by
  simp [runT, h, stp, hv, ho]
theorem runT_dead {f : Nat → UInt8} {k : Nat} (h : runT f k = none) : ∀ j, runT f (k + j) = none
  | 0 => h
  | j + 1 => by show (runT f (k + j)).bind _ = none; rw [runT_dead h j]; rfl
theorem termT_dead {f : Nat → UInt8} {k n : Nat} (h : runT f k = none) (hk : k ≤ n) : termT f n = none := by
  have := runT_dead h (n - k)
  rw [show k + (n - k) = n by omega] at this
  simp [termT, this]
theorem termT_long {f : Nat → UInt8} {n : Nat} (h : 40 < n) : termT f n = none := by simp [termT, Nat.not_le.2 h]
theorem termT_many {f : Nat → UInt8} {n : Nat} {l : List Tr} (h : runT f n = some l) (hl : l.length ≠ 1) : termT f n = none := by
  unfold termT
  rw [h]
  split
  · match l, hl with
    | [], _ => rfl
    | [t], hl => exact absurd rfl hl
    | _ :: _ :: _, _ => rfl
  · rfl
theorem termT_yes {f : Nat → UInt8} {n : Nat} {t : Tr} (h : runT f n = some [t]) (hn : n ≤ 40) : termT f n = some t := by simp [termT, h, hn]
theorem two_last {l : List Tr} (h : 2 ≤ l.length) : ∃ p x y, l = p ++ [x, y] ∧ p.length + 2 = l.length := by
  refine ⟨l.take (l.length - 2), l[l.length - 2]'(by omega), l[l.length - 1]'(by omega), ?_, by simp; omega⟩
  apply List.ext_getElem?
  intro i
  by_cases h1 : i < l.length - 2
  · rw [List.getElem?_append_left (by simp; omega), List.getElem?_take, if_pos h1]
  · rw [List.getElem?_append_right (by simp; omega)]
    simp only [List.length_take, Nat.min_eq_left (Nat.sub_le l.length 2)]
    by_cases h2 : i = l.length - 2
    · subst h2; simp
    · by_cases h3 : i = l.length - 1
      · subst h3
        rw [show l.length - 1 - (l.length - 2) = 1 by omega]; simp
      · rw [List.getElem?_eq_none (by omega), List.getElem?_eq_none (by simp; omega)]
/-- Every letter is a variable or the constant, an operation, or none of them. -/
theorem letters (c : UInt8) : (c = 120 ∨ c = 121 ∨ c = 122 ∨ c = 101) ∨ (c = 42 ∨ c = 92 ∨ c = 47) ∨ ((((c.toNat : Int) == 120) = false ∧ ((c.toNat : Int) == 121) = false ∧ ((c.toNat : Int) == 122) = false ∧ ((c.toNat : Int) == 101) = false) ∧ (((c.toNat : Int) == 42) = false ∧ ((c.toNat : Int) == 92) = false ∧ ((c.toNat : Int) == 47) = false) ∧ isVar c = false ∧ isOp c = false) := by
  by_cases a1 : c = 120
  · exact .inl (.inl a1)
  by_cases a2 : c = 121
  · exact .inl (.inr (.inl a2))
  by_cases a3 : c = 122
  · exact .inl (.inr (.inr (.inl a3)))
  by_cases a4 : c = 101
  · exact .inl (.inr (.inr (.inr a4)))
  by_cases a5 : c = 42
  · exact .inr (.inl (.inl a5))
  by_cases a6 : c = 92
  · exact .inr (.inl (.inr (.inl a6)))
  by_cases a7 : c = 47
  · exact .inr (.inl (.inr (.inr a7)))
  have key : ∀ d : UInt8, c ≠ d → ((c.toNat : Int) == (d.toNat : Int)) = false := fun d hd => by
    rw [beq_eq_false_iff_ne]; exact fun e => hd (u8_eq.1 e)
  exact .inr (.inr ⟨⟨key 120 a1, key 121 a2, key 122 a3, key 101 a4⟩, ⟨key 42 a5, key 92 a6, key 47 a7⟩, by simp [isVar, a1, a2, a3, a4], by simp [isOp, a5, a6, a7]⟩)
theorem var_int {x : UInt8} (h : x = 120 ∨ x = 121 ∨ x = 122 ∨ x = 101) : ∃ z : Int, (x.toNat : Int) = z ∧ (z = 120 ∨ z = 121 ∨ z = 122 ∨ z = 101) := by
  rcases h with rfl | rfl | rfl | rfl
  · exact ⟨120, rfl, .inl rfl⟩
  · exact ⟨121, rfl, .inr (.inl rfl)⟩
  · exact ⟨122, rfl, .inr (.inr (.inl rfl))⟩
  · exact ⟨101, rfl, .inr (.inr (.inr rfl))⟩
theorem op_int {x : UInt8} (h : x = 42 ∨ x = 92 ∨ x = 47) : ∃ z : Int, (x.toNat : Int) = z ∧ (z = 42 ∨ z = 92 ∨ z = 47) := by
  rcases h with rfl | rfl | rfl
  · exact ⟨42, rfl, .inl rfl⟩
  · exact ⟨92, rfl, .inr (.inl rfl)⟩
  · exact ⟨47, rfl, .inr (.inr rfl)⟩
theorem var_yes {x : UInt8} (h : x = 120 ∨ x = 121 ∨ x = 122 ∨ x = 101) : isVar x = true := by rcases h with rfl | rfl | rfl | rfl <;> rfl
theorem op_yes {x : UInt8} (h : x = 42 ∨ x = 92 ∨ x = 47) : isOp x = true := by rcases h with rfl | rfl | rfl <;> rfl
theorem op_novar {x : UInt8} (h : x = 42 ∨ x = 92 ∨ x = 47) : isVar x = false := by rcases h with rfl | rfl | rfl <;> rfl
/-- Block b begins with the bytes f 0, f 1 .. f (n - 1). -/
def BRow (w : World) (b n : Nat) (f : Nat → UInt8) : Prop := ∃ cs, holds w b cs 5 ∧ n ≤ cs.size ∧ ∀ i, i < n → cs[i]? = some (.int .u8 (f i).toNat)
theorem BRow.lt {w : World} {b n : Nat} {f : Nat → UInt8} (h : BRow w b n f) : b < w.heap.size := by
  obtain ⟨cs, h1, _⟩ := h; exact holds_lt h1
theorem BRow.cell {w : World} {b n : Nat} {f : Nat → UInt8} (h : BRow w b n f) {i : Nat} (hi : i < n) : w.cell? ⟨b, i, none⟩ = some (.int .u8 (f i).toNat) := by
  obtain ⟨cs, h1, _, h2⟩ := h; rw [holds_cell h1]; exact h2 i hi
theorem BRow.block {w w' : World} {b n : Nat} {f : Nat → UInt8} (h : BRow w b n f) (e : w'.heap[b]? = w.heap[b]?) : BRow w' b n f := by
  obtain ⟨cs, h1, h2, h3⟩ := h
  exact ⟨cs, by show w'.heap[b]? = _; rw [e]; exact h1, h2, h3⟩
theorem BRow.below {w w' : World} {b n : Nat} {f : Nat → UInt8} (h : BRow w b n f) (hb : Below w.heap.size w w') : BRow w' b n f := h.block (hb.block b h.lt)
/-- v is a list of the bytes f 0 .. f (n - 1) that came in. -/
def BIn (w : World) (v : Value) (n : Nat) (f : Nat → UInt8) : Prop :=
  (v = .slice none 0 0 ∧ n = 0) ∨ ∃ (a : Addr) (cap : Nat), v = .slice (some a) n cap ∧ ∀ i, i < n → w.cell? (a.add i) = some (.int .u8 (f i).toNat)
theorem BIn.below {w w' : World} {v : Value} {n : Nat} {f : Nat → UInt8} (h : BIn w v n f) (hb : Below w.heap.size w w') : BIn w' v n f := by
  rcases h with h | ⟨a, cap, e, h⟩
  · exact .inl h
  · refine .inr ⟨a, cap, e, fun i hi => ?_⟩
    have hc := h i hi
    have hlt : (a.add i).block < w.heap.size := World.block_lt_of_cell? w _ hc
    rw [World.cell?_of_block (hb.block _ hlt)]; exact hc
end Go.Proofs.Ytphninlinegbbac
