/- Proved: lemmas on sums of numbers before k, by which pairs and triples are counted. Conditions: those that each lemma names. -/
import Derived.Test.YtbhjbllgmenbaaaLib
namespace Go.Proofs.Ytbhjbllgmenbaaa
set_option linter.unusedVariables false
set_option linter.unusedSimpArgs false
open Go.RowKit
/-- The sum of f over the numbers before k. -/
def sm (f : Nat → Nat) : Nat → Nat
  | 0 => 0
  | k + 1 => sm f k + f k
theorem sm_le {f : Nat → Nat} {B : Nat} (h : ∀ i, f i ≤ B) : ∀ k, sm f k ≤ k * B
  | 0 => by simp [sm]
  | k + 1 => by
    have := sm_le h k
    have := h k
    show sm f k + f k ≤ (k + 1) * B
    rw [Nat.succ_mul]; omega
theorem sm_le10 {f : Nat → Nat} {B : Nat} (h : ∀ i, f i ≤ B) {k : Nat} (hk : k ≤ 10) : sm f k ≤ 10 * B :=
  Nat.le_trans (sm_le h k) (Nat.mul_le_mul_right B hk)
theorem sm_congr {f f' : Nat → Nat} : ∀ {k : Nat}, (∀ i, i < k → f i = f' i) → sm f k = sm f' k
  | 0, _ => rfl
  | k + 1, h => by
    show sm f k + f k = sm f' k + f' k
    rw [sm_congr (k := k) (fun i hi => h i (by omega)), h k (by omega)]
/-- 1 for yes, 0 for no. -/
def ind (b : Bool) : Nat := bif b then 1 else 0
theorem ind_le (b : Bool) : ind b ≤ 1 := by cases b <;> simp [ind]
/-- How many pairs before (x, y) have p. -/
def c1 (p : Nat → Nat → Bool) (x y : Nat) : Nat := sm (fun b => ind (p x b)) y
def c2 (p : Nat → Nat → Bool) (N x : Nat) : Nat := sm (fun a => c1 p a N) x
theorem c1_le (p : Nat → Nat → Bool) (x : Nat) {y : Nat} (h : y ≤ 10) : c1 p x y ≤ 10 := sm_le10 (fun b => ind_le _) h
theorem c2_le (p : Nat → Nat → Bool) {N : Nat} (hN : N ≤ 10) {x : Nat} (h : x ≤ 10) : c2 p N x ≤ 100 := sm_le10 (fun a => c1_le p a hN) h
theorem c1_yes {p : Nat → Nat → Bool} {x y : Nat} (h : p x y = true) : c1 p x (y + 1) = c1 p x y + 1 := by
  show sm _ y + ind (p x y) = _
  rw [h]; rfl
theorem c1_no {p : Nat → Nat → Bool} {x y : Nat} (h : p x y = false) : c1 p x (y + 1) = c1 p x y := by
  show sm _ y + ind (p x y) = _
  rw [h]; rfl
theorem c2_step (p : Nat → Nat → Bool) (N x : Nat) : c2 p N (x + 1) = c2 p N x + c1 p x N := rfl
theorem c2_zero (p : Nat → Nat → Bool) (N : Nat) : c2 p N 0 = 0 := rfl
theorem c1_zero (p : Nat → Nat → Bool) (x : Nat) : c1 p x 0 = 0 := rfl
/-- How many triples before (x, y, z) have p. -/
def t1 (p : Nat → Nat → Nat → Bool) (x y z : Nat) : Nat := c1 (fun a c => p x a c) y z
def t2 (p : Nat → Nat → Nat → Bool) (N x y : Nat) : Nat := c2 (fun b c => p x b c) N y
def t3 (p : Nat → Nat → Nat → Bool) (N x : Nat) : Nat := sm (fun a => t2 p N a N) x
theorem t1_le (p : Nat → Nat → Nat → Bool) (x y : Nat) {z : Nat} (h : z ≤ 10) : t1 p x y z ≤ 10 := c1_le _ _ h
theorem t2_le (p : Nat → Nat → Nat → Bool) {N : Nat} (hN : N ≤ 10) (x : Nat) {y : Nat} (h : y ≤ 10) : t2 p N x y ≤ 100 := c2_le _ hN h
theorem t3_le (p : Nat → Nat → Nat → Bool) {N : Nat} (hN : N ≤ 10) {x : Nat} (h : x ≤ 10) : t3 p N x ≤ 1000 := sm_le10 (fun a => t2_le p hN a hN) h
theorem t1_yes {p : Nat → Nat → Nat → Bool} {x y z : Nat} (h : p x y z = true) : t1 p x y (z + 1) = t1 p x y z + 1 := c1_yes h
theorem t1_no {p : Nat → Nat → Nat → Bool} {x y z : Nat} (h : p x y z = false) : t1 p x y (z + 1) = t1 p x y z := c1_no h
theorem t2_step (p : Nat → Nat → Nat → Bool) (N x y : Nat) : t2 p N x (y + 1) = t2 p N x y + t1 p x y N := rfl
theorem t3_step (p : Nat → Nat → Nat → Bool) (N x : Nat) : t3 p N (x + 1) = t3 p N x + t2 p N x N := rfl
theorem c2_congr {p q : Nat → Nat → Bool} {N x : Nat} (hx : x ≤ N) (h : ∀ a b, a < N → b < N → p a b = q a b) : c2 p N x = c2 q N x :=
  sm_congr fun a ha => sm_congr fun b hb => by rw [h a b (by omega) hb]
theorem t3_congr {p q : Nat → Nat → Nat → Bool} {N x : Nat} (hx : x ≤ N) (h : ∀ a b c, a < N → b < N → c < N → p a b c = q a b c) : t3 p N x = t3 q N x :=
  sm_congr fun a ha => c2_congr (Nat.le_refl _) fun b c hb hc => h a b c (by omega) hb hc
end Go.Proofs.Ytbhjbllgmenbaaa
