/- Proved: stacks of terms in memory of their own, whatever a term is kept as, and what a run leaves on them. Conditions: those that each lemma names. -/
import Derived.Test.YtphninlinegbbacTe0
import Derived.Test.YtphninlinegbbacReg
import Derived.Deep.AppendLies
import Derived.OwnWalk
namespace Go.Proofs.Ytphninlinegbbac
set_option linter.unusedVariables false
set_option linter.unusedSimpArgs false
open Go.RowKit
theorem Below.cellAt {w w' : World} {a : Addr} {v : Value} (hb : Below w.heap.size w w') (h : w.cell? a = some v) : w'.cell? a = some v :=
  (hb.cell (World.block_lt_of_cell? w _ h)).trans h
/-- v is the stack l of things that are kept as E, in memory of its own behind B. -/
def OX {α : Type} (E : TypeId) (en : α → Value) (w : World) (B : Nat) (v : Value) (l : List α) : Prop := w.ownsRow B E 1 v l.length (l.map en)
section
variable {α : Type} {E : TypeId} {en : α → Value}
theorem OX.kept {w w' : World} {B : Nat} {v : Value} {l : List α} (h : OX E en w B v l) (e : ∀ k, k < w.heap.size → w'.heap[k]? = w.heap[k]?) : OX E en w' B v l := by
  refine ⟨h.1, ?_⟩
  rcases h.2 with hn | ⟨g, cap, cur, rfl, hb, hg, rest⟩
  · exact .inl hn
  · exact .inr ⟨g, cap, cur, rfl, hb, by rw [e g (Array.getElem?_eq_some_iff.1 hg).1]; exact hg, rest⟩
theorem OX.below {w w' : World} {B : Nat} {v : Value} {l : List α} (h : OX E en w B v l) (hb : Below w.heap.size w w') : OX E en w' B v l := h.kept hb.block
theorem OX.alloc {w : World} {B : Nat} {v : Value} {l : List α} (h : OX E en w B v l) (o : Obj) : OX E en (w.alloc o) B v l := h.kept fun k hk => heap_alloc_old w o hk
theorem OX.drew {w : World} {B : Nat} {v : Value} {l : List α} (h : OX E en w B v l) : OX E en w.drew B v l := h.kept fun _ _ => rfl
theorem OX.nil (w : World) (B : Nat) : OX E en w B (.slice none 0 0) [] := World.ownsRow_nil _ _ _ _
theorem OX.add {w' : World} {B g cap m : Nat} {l : List α} {t : α} (hm : l.length = m) (h : w'.ownsRow B E 1 (.slice (some ⟨g, 0, none⟩) (m + 1) cap) (m + 1) (l.map en ++ [en t])) : OX E en w' B (.slice (some ⟨g, 0, none⟩) (m + 1) cap) (l ++ [t]) := by
  subst hm
  unfold OX
  simpa using h
theorem OX.form {w : World} {B : Nat} {v : Value} {l : List α} (h : OX E en w B v l) : (v = .slice none 0 0 ∧ l = []) ∨ ∃ g cap, v = .slice (some ⟨g, 0, none⟩) l.length cap ∧ B ≤ g ∧ l.length ≤ cap ∧ ∀ i, i < l.length → w.cell? ⟨g, i, none⟩ = (l.map en)[i]? := by
  rcases h.2 with ⟨h1, h0⟩ | ⟨g, cap, cur, rfl, hb, hg, hc, _, hs, hx⟩
  · exact .inl ⟨h1, List.length_eq_zero_iff.1 h0⟩
  · refine .inr ⟨g, cap, rfl, hb, hc, fun i hi => ?_⟩
    rw [cell_of_row w g i cur _ (0, 0) hg, ← hx, List.getElem?_take, if_pos (by omega)]
    simp
theorem OX.one {w : World} {B : Nat} {v : Value} {t : α} (h : OX E en w B v [t]) : ∃ g cap, v = .slice (some ⟨g, 0, none⟩) 1 cap ∧ B ≤ g ∧ w.cell? ⟨g, 0, none⟩ = some (en t) := by
  rcases h.form with ⟨_, h0⟩ | ⟨g, cap, rfl, hb, _, hc⟩
  · cases h0
  · exact ⟨g, cap, rfl, hb, by simpa using hc 0 (by simp)⟩
theorem OX.two {w : World} {B : Nat} {v : Value} {p : List α} {x y : α} (h : OX E en w B v (p ++ [x, y])) : ∃ g cap, v = .slice (some ⟨g, 0, none⟩) (p.length + 2) cap ∧ B ≤ g ∧ p.length + 2 ≤ cap ∧ w.cell? ⟨g, p.length, none⟩ = some (en x) ∧ w.cell? ⟨g, p.length + 1, none⟩ = some (en y) ∧ OX E en w B (.slice (some ⟨g, 0, none⟩) p.length cap) p := by
  have hl : (p ++ [x, y]).length = p.length + 2 := by simp
  rcases h.form with ⟨_, h0⟩ | ⟨g, cap, rfl, hb, hc, hcell⟩
  · simp at h0
  · have e1 := hcell p.length (by omega)
    have e2 := hcell (p.length + 1) (by omega)
    simp at e1 e2
    refine ⟨g, cap, by rw [hl], hb, by omega, e1, by simpa using e2, ?_⟩
    have h1 : w.ownsRow B E 1 (.slice (some ⟨g, 0, none⟩) (p.length + 1 + 1) cap) (p.length + 1 + 1) ((p.map en ++ [en x]) ++ [en y]) := by
      have := h
      unfold OX at this
      rw [hl] at this
      simpa using this
    have h2 : w.ownsRow B E 1 (.slice (some ⟨g, 0, none⟩) (p.length + 1) cap) (p.length + 1) (p.map en ++ [en x]) := ownsRow_pop (by simp) h1
    exact ownsRow_pop (by simp) h2
theorem OX.grow {w w' : World} {B : Nat} {v : Value} {l : List α} {w0 : World} (h : OX E en w B v l) (hb : Below B w0 w) (hB : B ≤ w.heap.size) (hg : w.grownBy w' v.ownBlock) : Below B w0 w' :=
  hb.trans ⟨hg.os, hg.tape, hg.output, hg.size, fun k hk => hg.block k (by omega) (fun e => by have := (World.ownsRow.lt h k e.symm).1; omega)⟩
theorem OX.lt {w : World} {B : Nat} {v : Value} {l : List α} (h : OX E en w B v l) : ∀ x, v.ownBlock = some x → B ≤ x ∧ x < w.heap.size := World.ownsRow.lt h
end
/-- An append of one thing to a stack of one's own. -/
theorem wpL_appX {α : Type} {E : TypeId} {en : α → Value} {P : Program} {ops : Array Oper} {rest : List Oper} {o : Oper} {a : Act} {w : World} {Q : Exit → Act → World → Prop} {ST : TypeId} {z : Value} {size bytes : Nat}
    (hi : (P.info? E).map (fun i => (i.zero, i.size, i.bytes)) = some (some z, size, bytes)) (hz1 : size = 1) (hzb : bytes ≤ 64) (hzc : z.cells.size = 1) (hST : P.underlying ST = some (.slice E)) (hone : ∀ t, (en t).oneCell' = true)
    {s x : Operand} (hgd : o.guard = none) (ho : o.op = .call { callee := .builtin .append, args := #[s, x], argTypes := #[ST, ST] }) {v : Value} {n base c : Nat} {l : List α} {ad : Addr} (t : α)
    (hs : a.eval s = v) (hx : a.eval x = .slice (some ad) 1 c) (hn : l.length = n) (hown : OX E en w base v l) (hc : w.cell? ad = some (en t)) (hn1 : n ≤ 100000) (hbase : base ≤ w.heap.size)
    (h : ∀ g cap w', OX E en w' base (.slice (some ⟨g, 0, none⟩) (n + 1) cap) (l ++ [t]) → w.grownBy w' v.ownBlock → (v.ownBlock = some g ∨ g = w.heap.size) → wpList P ops Q rest (a.put o.dst (.slice (some ⟨g, 0, none⟩) (n + 1) cap)) w') : wpList P ops Q (o :: rest) a w := by
  subst hn
  subst hz1
  obtain ⟨i, hi', hz, h1, h2⟩ := info_parts hi
  have hb2 : (l.length + 1) * bytes ≤ 100001 * 64 := Nat.mul_le_mul (by omega) hzb
  refine wpList_append_lies w hgd s x ST ho base E i z 1 bytes hST hi' hz h1 h2 hzc (by omega) v l.length (l.map en) hs hown ad 1 c [en t] hx rfl (fun j u hj => ?_) (fun u hu => ?_) (by omega) (by unfold maxLen; omega) (by omega) hbase _ rfl (fun g cap w' h1 h2 h3 h4 => h g cap w' (OX.add rfl h1) h2 h3)
  · cases j with
    | zero => simp at hj; subst hj; simpa [Addr.add] using hc
    | succ j => simp at hj
  · simp at hu; subst hu; exact hone t
/-- How many letters a term has. -/
def ln : Tr → Nat
  | .leaf _ => 1
  | .node _ a b => ln a + ln b + 1
theorem ln_pos (t : Tr) : 1 ≤ ln t := by cases t <;> simp [ln]
def lns (l : List Tr) : Nat := (l.map ln).sum
theorem lns_app (p q : List Tr) : lns (p ++ q) = lns p + lns q := by simp [lns]
/-- Each step of a run that comes to an end. -/
theorem runT_back {f : Nat → UInt8} {k : Nat} {l' : List Tr} (h : runT f (k + 1) = some l') : ∃ l, runT f k = some l ∧ ((isVar (f k) = true ∧ l' = l ++ [.leaf (f k)]) ∨ (isVar (f k) = false ∧ isOp (f k) = true ∧ ∃ p x y, l = p ++ [x, y] ∧ l' = p ++ [.node (f k) x y])) := by
  cases hr : runT f k with
  | none => simp [runT, hr] at h
  | some l =>
    refine ⟨l, rfl, ?_⟩
    cases hv : isVar (f k) with
    | true =>
      rw [runT_var hr hv] at h
      exact .inl ⟨rfl, by simpa using h.symm⟩
    | false =>
      right
      cases ho : isOp (f k) with
      | false => rw [runT_bad hr hv ho] at h; cases h
      | true =>
        by_cases h2 : 2 ≤ l.length
        · obtain ⟨p, x, y, rfl, _⟩ := two_last h2
          rw [runT_op hr hv ho] at h
          exact ⟨rfl, rfl, p, x, y, rfl, by simpa using h.symm⟩
        · rw [runT_few hr hv (by omega)] at h; cases h
theorem runT_ln {f : Nat → UInt8} : ∀ {k : Nat} {l : List Tr}, runT f k = some l → lns l = k
  | 0, l, h => by simp [runT] at h; subst h; rfl
  | k + 1, l, h => by
    obtain ⟨l0, h0, h1⟩ := runT_back h
    have ih := runT_ln h0
    rcases h1 with ⟨_, rfl⟩ | ⟨_, _, p, x, y, rfl, rfl⟩
    · rw [lns_app, ih]; rfl
    · rw [lns_app] at ih ⊢
      simp [lns, ln] at ih ⊢
      omega
theorem termT_some {f : Nat → UInt8} {n : Nat} {t : Tr} (h : termT f n = some t) : n ≤ 40 ∧ runT f n = some [t] ∧ ln t = n := by
  unfold termT at h
  split at h
  · rename_i hn
    split at h
    · rename_i u hu
      cases h
      refine ⟨hn, hu, ?_⟩
      have := runT_ln hu
      simpa [lns] using this
    · cases h
  · cases h
/-- A run that comes to an end passes each place. -/
theorem runT_upto {f : Nat → UInt8} {n : Nat} {l : List Tr} (h : runT f n = some l) (k : Nat) (hk : k ≤ n) : ∃ m, runT f k = some m := by
  cases hr : runT f k with
  | some m => exact ⟨m, rfl⟩
  | none =>
    have := runT_dead hr (n - k)
    rw [show k + (n - k) = n by omega] at this
    rw [this] at h; cases h
end Go.Proofs.Ytphninlinegbbac
