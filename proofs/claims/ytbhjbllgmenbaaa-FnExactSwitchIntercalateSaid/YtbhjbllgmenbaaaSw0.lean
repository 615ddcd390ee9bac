/- Proved: lemmas on switching the cycles of two rows of a square, without any program. Conditions: those that each lemma names. -/
import Derived.Test.YtbhjbllgmenbaaaOc
import Derived.Test.YtbhjbllgmenbaaaIt
import Derived.Test.YtbhjbllgmenbaaaNu
namespace Go.Proofs.Ytbhjbllgmenbaaa
set_option linter.unusedVariables false
set_option linter.unusedSimpArgs false
open Go.RowKit
/-- From the column y to the column in which row a has what row b has in y. -/
def swC (g : Nat → UInt8) (N a b y : Nat) : Nat := (backF (rowF g a) N (g (b * 10 + y)).toNat).toNat
/-- From the entry v of row a to that of row b in the same column. -/
def swV (g : Nat → UInt8) (N a b v : Nat) : Nat := (g (b * 10 + (backF (rowF g a) N v).toNat)).toNat
section
variable {g : Nat → UInt8} {N a b c : Nat}
theorem sq_lt (h : IsSq N g) (ha : a < N) {y : Nat} (hy : y < N) : (g (a * 10 + y)).toNat < N := (h.rows a ha).lt y hy
theorem row_inj (h : IsSq N g) (ha : a < N) {y z : Nat} (hy : y < N) (hz : z < N) (e : (g (a * 10 + y)).toNat = (g (a * 10 + z)).toNat) : y = z := by
  have h1 := back_at (h.rows a ha) hy
  have h2 := back_at (h.rows a ha) hz
  have e1 : (rowF g a y).toNat = (rowF g a z).toNat := e
  rw [e1] at h1
  omega
theorem swC_pmt (h : IsSq N g) (ha : a < N) (hb : b < N) : Pmt N (swC g N a b) := by
  refine ⟨fun y hy => (back_lt (h.rows a ha) (sq_lt h hb hy)).1, fun x y hx hy e => ?_⟩
  have h1 := (back_lt (h.rows a ha) (sq_lt h hb hx)).2
  have h2 := (back_lt (h.rows a ha) (sq_lt h hb hy)).2
  unfold swC at e
  rw [e] at h1
  exact row_inj h hb hx hy (by omega)
theorem swV_pmt (h : IsSq N g) (ha : a < N) (hb : b < N) : Pmt N (swV g N a b) := by
  refine ⟨fun v hv => sq_lt h hb (back_lt (h.rows a ha) hv).1, fun x y hx hy e => ?_⟩
  have h1 := back_lt (h.rows a ha) hx
  have h2 := back_lt (h.rows a ha) hy
  have e2 := row_inj h hb h1.1 h2.1 e
  have h3 := h1.2
  have h4 := h2.2
  rw [e2] at h3
  omega
/-- The entries of the columns on the way are the entries on the way. -/
theorem sw_it (h : IsSq N g) (ha : a < N) (hb : b < N) (hc : c < N) : ∀ k, (g (a * 10 + it (swC g N a b) c k)).toNat = it (swV g N a b) (g (a * 10 + c)).toNat k
  | 0 => rfl
  | k + 1 => by
    have ih := sw_it h ha hb hc k
    have hl := it_lt (swC_pmt h ha hb) hc k
    show (g (a * 10 + swC g N a b (it (swC g N a b) c k))).toNat = swV g N a b (it (swV g N a b) (g (a * 10 + c)).toNat k)
    rw [← ih]
    generalize it (swC g N a b) c k = y at hl
    unfold swC swV
    have h1 := (back_lt (h.rows a ha) (sq_lt h hb hl)).2
    have h2 := back_at (h.rows a ha) hl
    have e1 : (g (a * 10 + (backF (rowF g a) N (g (b * 10 + y)).toNat).toNat)).toNat = (g (b * 10 + y)).toNat := h1
    have e2 : (backF (rowF g a) N (g (a * 10 + y)).toNat).toNat = y := h2
    rw [e1, e2]
theorem sw_cyc {t : Nat} (h : IsSq N g) (ha : a < N) (hb : b < N) (hc : c < N) (hC : Cyc N (swC g N a b) c t) : Cyc N (swV g N a b) (g (a * 10 + c)).toNat t := by
  refine ⟨hC.pos, hC.le, ?_, fun i h1 h2 e => hC.far i h1 h2 ?_⟩
  · rw [← sw_it h ha hb hc, hC.back]
  · rw [← sw_it h ha hb hc] at e
    exact row_inj h ha (it_lt (swC_pmt h ha hb) hc _) hc e
theorem sw_in {t y : Nat} (h : IsSq N g) (ha : a < N) (hb : b < N) (hc : c < N) (hy : y < N) : inO (swV g N a b) (g (a * 10 + c)).toNat t (g (a * 10 + y)).toNat = inO (swC g N a b) c t y := by
  have hh : inO (swV g N a b) (g (a * 10 + c)).toNat t (g (a * 10 + y)).toNat = true ↔ inO (swC g N a b) c t y = true := by
    rw [inO_iff, inO_iff]
    constructor
    · rintro ⟨i, hi, e⟩
      rw [← sw_it h ha hb hc] at e
      exact ⟨i, hi, row_inj h ha (it_lt (swC_pmt h ha hb) hc _) hy e⟩
    · rintro ⟨i, hi, e⟩
      exact ⟨i, hi, by rw [← sw_it h ha hb hc, e]⟩
  cases h1 : inO (swV g N a b) (g (a * 10 + c)).toNat t (g (a * 10 + y)).toNat <;> cases h2 : inO (swC g N a b) c t y <;> simp_all
/-- The rows a and b exchanged in the columns S. -/
def swF (g : Nat → UInt8) (a b : Nat) (S : Nat → Bool) : Nat → UInt8 := fun p =>
  if p / 10 = a ∧ S (p % 10) = true then g (b * 10 + p % 10) else if p / 10 = b ∧ S (p % 10) = true then g (a * 10 + p % 10) else g p
theorem swF_none (S : Nat → Bool) (h : ∀ y, S y = false) : swF g a b S = g := by
  funext p
  unfold swF
  rw [h, if_neg (by simp), if_neg (by simp)]
theorem swF_a {S : Nat → Bool} {y : Nat} (hy : y < 10) : swF g a b S (a * 10 + y) = if S y then g (b * 10 + y) else g (a * 10 + y) := by
  unfold swF
  rw [show (a * 10 + y) / 10 = a by omega, show (a * 10 + y) % 10 = y by omega]
  by_cases h : S y = true
  · simp [h]
  · simp [h]
theorem swF_b {S : Nat → Bool} {y : Nat} (hy : y < 10) (hne : a ≠ b) : swF g a b S (b * 10 + y) = if S y then g (a * 10 + y) else g (b * 10 + y) := by
  unfold swF
  rw [show (b * 10 + y) / 10 = b by omega, show (b * 10 + y) % 10 = y by omega]
  by_cases h : S y = true
  · simp [h, Ne.symm hne]
  · simp [h]
/-- The half of a step: row a has been written, row b has not. -/
def swH (g : Nat → UInt8) (a b : Nat) (S : Nat → Bool) (u : Nat) : Nat → UInt8 := fun p => if p = a * 10 + u then g (b * 10 + u) else swF g a b S p
theorem swH_step {S : Nat → Bool} {u : Nat} (j : Nat) : swH g a b S u j = if j = a * 10 + u then g (b * 10 + u) else swF g a b S j := rfl
theorem swF_step {S S' : Nat → Bool} {u : Nat} (hu : u < 10) (hne : a ≠ b) (hS : ∀ y, S' y = if y = u then true else S y) (j : Nat) : swF g a b S' j = if j = b * 10 + u then g (a * 10 + u) else swH g a b S u j := by
  unfold swH
  by_cases e1 : j = b * 10 + u
  · subst e1
    rw [if_pos rfl, swF_b hu hne, hS, if_pos rfl, if_pos rfl]
  · rw [if_neg e1]
    by_cases e2 : j = a * 10 + u
    · subst e2
      rw [if_pos rfl, swF_a hu, hS, if_pos rfl, if_pos rfl]
    · rw [if_neg e2]
      unfold swF
      by_cases e3 : j / 10 = a
      · rw [hS, if_neg (show ¬ j % 10 = u by omega)]
      · by_cases e4 : j / 10 = b
        · rw [hS, if_neg (show ¬ j % 10 = u by omega)]
        · rw [if_neg (fun h => e3 h.1), if_neg (fun h => e4 h.1), if_neg (fun h => e3 h.1), if_neg (fun h => e4 h.1)]
theorem swF_congr {S S' : Nat → Bool} (h : ∀ y, y < 10 → S y = S' y) : swF g a b S = swF g a b S' := by
  funext p
  unfold swF
  rw [h (p % 10) (by omega)]
/-- In each column both rows differ. -/
theorem rows_ne (h : IsSq N g) (ha : a < N) (hb : b < N) (hne : a ≠ b) {y : Nat} (hy : y < N) : (g (a * 10 + y)).toNat ≠ (g (b * 10 + y)).toNat := fun e => by
  have h1 := back_at (h.cols y hy) ha
  have h2 := back_at (h.cols y hy) hb
  have e1 : (colF g y a).toNat = (colF g y b).toNat := e
  rw [e1] at h1
  omega
end
end Go.Proofs.Ytbhjbllgmenbaaa
