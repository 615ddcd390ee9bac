/- Proved: lemmas on closures, sets and lists that come in, lists of permutations and lists of lists, and what the functions on them return. Conditions: those that each theorem names. -/
import Derived.Test.YtbdcbmennblcdabLib
import Derived.Test.YtbdcbmennblcdabNu
import Derived.Test.YtbdcbmennblcdabPm
import Derived.ScopeJumps
import Derived.Test.YtbdcbmennblcdabMl
import Derived.Test.YtbdcbmennblcdabPc0
import Derived.Test.YtbdcbmennblcdabReg
import Derived.Test.YtbdcbmennblcdabEq
import Derived.Test.YtbdcbmennblcdabSel
import Derived.Test.YtbdcbmennblcdabIa
import Derived.Test.YtbdcbmennblcdabLc
import Derived.IntWalk
import Derived.Test.YtbdcbmennblcdabLx
import Derived.Test.YtbdcbmennblcdabOl
import Derived.Test.YtbdcbmennblcdabPi2
import Derived.Test.YtbdcbmennblcdabEc
import Derived.Great.Walk
import Derived.Test.YtbdcbmennblcdabPl2
import Derived.Test.YtbdcbmennblcdabIl3
import Derived.Test.YtbdcbmennblcdabSq3b
import Derived.Test.YtbdcbmennblcdabSq5
import Derived.Test.YtbdcbmennblcdabQs
namespace Go.Proofs.Ytbdcbmennblcdab
set_option linter.unusedVariables false
set_option linter.unusedSimpArgs false
open Go.RowKit
/-- The sum of f over the numbers before k. -/
def sm (f : Nat → Nat) : Nat → Nat
  | 0 => 0
  | k + 1 => sm f k + f k
theorem sm_le {f : Nat → Nat} {B : Nat} (h : ∀ i, f i ≤ B) : ∀ k, sm f k ≤ k * B
  | 0 => by simp [sm]
  | k + 1 => by
    have := sm_le h k
    have := h k
    show sm f k + f k ≤ (k + 1) * B
    rw [Nat.succ_mul]; omega
theorem sm_le10 {f : Nat → Nat} {B : Nat} (h : ∀ i, f i ≤ B) {k : Nat} (hk : k ≤ 10) : sm f k ≤ 10 * B :=
  Nat.le_trans (sm_le h k) (Nat.mul_le_mul_right B hk)
theorem sm_congr {f f' : Nat → Nat} : ∀ {k : Nat}, (∀ i, i < k → f i = f' i) → sm f k = sm f' k
  | 0, _ => rfl
  | k + 1, h => by
    show sm f k + f k = sm f' k + f' k
    rw [sm_congr (k := k) (fun i hi => h i (by omega)), h k (by omega)]
/-- 1 for yes, 0 for no. -/
def ind (b : Bool) : Nat := bif b then 1 else 0
theorem ind_le (b : Bool) : ind b ≤ 1 := by cases b <;> simp [ind]
/-- How many pairs before (x, y) have p. -/
def c1 (p : Nat → Nat → Bool) (x y : Nat) : Nat := sm (fun b => ind (p x b)) y
def c2 (p : Nat → Nat → Bool) (N x : Nat) : Nat := sm (fun a => c1 p a N) x
theorem c1_le (p : Nat → Nat → Bool) (x : Nat) {y : Nat} (h : y ≤ 10) : c1 p x y ≤ 10 := sm_le10 (fun b => ind_le _) h
theorem c2_le (p : Nat → Nat → Bool) {N : Nat} (hN : N ≤ 10) {x : Nat} (h : x ≤ 10) : c2 p N x ≤ 100 := sm_le10 (fun a => c1_le p a hN) h
theorem c1_yes {p : Nat → Nat → Bool} {x y : Nat} (h : p x y = true) : c1 p x (y + 1) = c1 p x y + 1 := by
  show sm _ y + ind (p x y) = _
  rw [h]; rfl
theorem c1_no {p : Nat → Nat → Bool} {x y : Nat} (h : p x y = false) : c1 p x (y + 1) = c1 p x y := by
  show sm _ y + ind (p x y) = _
  rw [h]; rfl
theorem c2_step (p : Nat → Nat → Bool) (N x : Nat) : c2 p N (x + 1) = c2 p N x + c1 p x N := rfl
theorem c2_zero (p : Nat → Nat → Bool) (N : Nat) : c2 p N 0 = 0 := rfl
theorem c1_zero (p : Nat → Nat → Bool) (x : Nat) : c1 p x 0 = 0 := rfl
/-- How many triples before (x, y, z) have p. -/
def t1 (p : Nat → Nat → Nat → Bool) (x y z : Nat) : Nat := c1 (fun a c => p x a c) y z
def t2 (p : Nat → Nat → Nat → Bool) (N x y : Nat) : Nat := c2 (fun b c => p x b c) N y
def t3 (p : Nat → Nat → Nat → Bool) (N x : Nat) : Nat := sm (fun a => t2 p N a N) x
theorem t1_le (p : Nat → Nat → Nat → Bool) (x y : Nat) {z : Nat} (h : z ≤ 10) : t1 p x y z ≤ 10 := c1_le _ _ h
theorem t2_le (p : Nat → Nat → Nat → Bool) {N : Nat} (hN : N ≤ 10) (x : Nat) {y : Nat} (h : y ≤ 10) : t2 p N x y ≤ 100 := c2_le _ hN h
theorem t3_le (p : Nat → Nat → Nat → Bool) {N : Nat} (hN : N ≤ 10) {x : Nat} (h : x ≤ 10) : t3 p N x ≤ 1000 := sm_le10 (fun a => t2_le p hN a hN) h
theorem t1_yes {p : Nat → Nat → Nat → Bool} {x y z : Nat} (h : p x y z = true) : t1 p x y (z + 1) = t1 p x y z + 1 := c1_yes h
theorem t1_no {p : Nat → Nat → Nat → Bool} {x y z : Nat} (h : p x y z = false) : t1 p x y (z + 1) = t1 p x y z := c1_no h
theorem t2_step (p : Nat → Nat → Nat → Bool) (N x y : Nat) : t2 p N x (y + 1) = t2 p N x y + t1 p x y N := rfl
theorem t3_step (p : Nat → Nat → Nat → Bool) (N x : Nat) : t3 p N (x + 1) = t3 p N x + t2 p N x N := rfl
theorem c2_congr {p q : Nat → Nat → Bool} {N x : Nat} (hx : x ≤ N) (h : ∀ a b, a < N → b < N → p a b = q a b) : c2 p N x = c2 q N x :=
  sm_congr fun a ha => sm_congr fun b hb => by rw [h a b (by omega) hb]
theorem t3_congr {p q : Nat → Nat → Nat → Bool} {N x : Nat} (hx : x ≤ N) (h : ∀ a b c, a < N → b < N → c < N → p a b c = q a b c) : t3 p N x = t3 q N x :=
  sm_congr fun a ha => c2_congr (Nat.le_refl _) fun b c hb hc => h a b c (by omega) hb hc
end Go.Proofs.Ytbdcbmennblcdab
namespace Go.Proofs.Ytbdcbmennblcdab
set_option linter.unusedVariables false
set_option linter.unusedSimpArgs false
open Go.RowKit
/-- What z becomes when it is multiplied by x from the left k times. -/
def itL (g : Nat → UInt8) (x z : Nat) : Nat → Nat
  | 0 => z
  | k + 1 => mu g x (itL g x z k)
/-- The same from the right. -/
def itR (g : Nat → UInt8) (y z : Nat) : Nat → Nat
  | 0 => z
  | k + 1 => mu g (itR g y z k) y
theorem itL_lt {g : Nat → UInt8} {N x z : Nat} (h : IsSq N g) (hx : x < N) (hz : z < N) : ∀ k, itL g x z k < N
  | 0 => hz
  | k + 1 => mu_lt h hx (itL_lt h hx hz k)
theorem itR_lt {g : Nat → UInt8} {N y z : Nat} (h : IsSq N g) (hy : y < N) (hz : z < N) : ∀ k, itR g y z k < N
  | 0 => hz
  | k + 1 => mu_lt h (itR_lt h hy hz k) hy
theorem mu_inj {g : Nat → UInt8} {N x y z : Nat} (h : IsSq N g) (hx : x < N) (hy : y < N) (hz : z < N) (e : mu g x y = mu g x z) : y = z := (h.rows x hx).inj' hy hz e
theorem mu_injr {g : Nat → UInt8} {N x y z : Nat} (h : IsSq N g) (hx : x < N) (hy : y < N) (hz : z < N) (e : mu g y x = mu g z x) : y = z := (h.cols x hx).inj' hy hz e
theorem itL_cancel {g : Nat → UInt8} {N x z : Nat} (h : IsSq N g) (hx : x < N) (hz : z < N) (d : Nat) : ∀ i, itL g x z (i + d) = itL g x z i → itL g x z d = z
  | 0, e => by rw [Nat.zero_add] at e; exact e
  | i + 1, e => by
    rw [show i + 1 + d = (i + d) + 1 by omega] at e
    exact itL_cancel h hx hz d i (mu_inj h hx (itL_lt h hx hz _) (itL_lt h hx hz _) e)
theorem itR_cancel {g : Nat → UInt8} {N y z : Nat} (h : IsSq N g) (hy : y < N) (hz : z < N) (d : Nat) : ∀ i, itR g y z (i + d) = itR g y z i → itR g y z d = z
  | 0, e => by rw [Nat.zero_add] at e; exact e
  | i + 1, e => by
    rw [show i + 1 + d = (i + d) + 1 by omega] at e
    exact itR_cancel h hy hz d i (mu_injr h hy (itR_lt h hy hz _) (itR_lt h hy hz _) e)
theorem comes_back (N : Nat) (f : Nat → Nat) (h : ∀ i, f i < N) : ∃ i d, f (i + (d + 1)) = f i := by
  apply Classical.byContradiction
  intro hno
  have hne : ∀ i j, i < j → f i ≠ f j := fun i j hij e => hno ⟨i, j - i - 1, by rw [show i + (j - i - 1 + 1) = j by omega]; exact e.symm⟩
  obtain ⟨i, hi, e⟩ := pigeon N f (fun i _ => h i) (fun i j hij _ => hne i j hij) (f N) (h N)
  exact hne i N hi e
/-- S is closed under products of elements before N. -/
def MulCl (g : Nat → UInt8) (N : Nat) (S : Nat → Bool) : Prop := ∀ x y, x < N → y < N → S x = true → S y = true → S (mu g x y) = true
theorem MulCl.iterL {g : Nat → UInt8} {N : Nat} {S : Nat → Bool} (h : MulCl g N S) (hq : IsSq N g) {x z : Nat} (hx : x < N) (hz : z < N) (sx : S x = true) (sz : S z = true) : ∀ k, S (itL g x z k) = true
  | 0 => sz
  | k + 1 => h x _ hx (itL_lt hq hx hz k) sx (MulCl.iterL h hq hx hz sx sz k)
theorem MulCl.iterR {g : Nat → UInt8} {N : Nat} {S : Nat → Bool} (h : MulCl g N S) (hq : IsSq N g) {y z : Nat} (hy : y < N) (hz : z < N) (sy : S y = true) (sz : S z = true) : ∀ k, S (itR g y z k) = true
  | 0 => sz
  | k + 1 => h _ y (itR_lt hq hy hz k) hy (MulCl.iterR h hq hy hz sy sz k) sy
/-- The element by which z comes out of y by multiplication from the left. -/
def rd (g : Nat → UInt8) (N z y : Nat) : UInt8 := backF (colF g y) N z
theorem rd_lt {g : Nat → UInt8} {N z y : Nat} (h : IsSq N g) (hy : y < N) (hz : z < N) : (rd g N z y).toNat < N := (bk_lt (h.cols y hy) hz).1
theorem MulCl.left {g : Nat → UInt8} {N : Nat} {S : Nat → Bool} (h : MulCl g N S) (hq : IsSq N g) {x z : Nat} (hx : x < N) (hz : z < N) (sx : S x = true) (sz : S z = true) : S (ld g N x z).toNat = true := by
  obtain ⟨i, d, e⟩ := comes_back N (itL g x z) (itL_lt hq hx hz)
  have e1 := itL_cancel hq hx hz (d + 1) i e
  have e2 : mu g x (ld g N x z).toNat = z := (bk_lt (hq.rows x hx) hz).2
  have e3 : itL g x z d = (ld g N x z).toNat := mu_inj hq hx (itL_lt hq hx hz d) (ld_lt hq hx hz) (by rw [e2]; exact e1)
  rw [← e3]
  exact h.iterL hq hx hz sx sz d
theorem MulCl.right {g : Nat → UInt8} {N : Nat} {S : Nat → Bool} (h : MulCl g N S) (hq : IsSq N g) {y z : Nat} (hy : y < N) (hz : z < N) (sy : S y = true) (sz : S z = true) : S (rd g N z y).toNat = true := by
  obtain ⟨i, d, e⟩ := comes_back N (itR g y z) (itR_lt hq hy hz)
  have e1 := itR_cancel hq hy hz (d + 1) i e
  have e2 : mu g (rd g N z y).toNat y = z := (bk_lt (hq.cols y hy) hz).2
  have e3 : itR g y z d = (rd g N z y).toNat := mu_injr hq hy (itR_lt hq hy hz d) (rd_lt hq hy hz) (by rw [e2]; exact e1)
  rw [← e3]
  exact h.iterR hq hy hz sy sz d
/-- The least set with S and 0 that is closed under products. -/
noncomputable def clB (g : Nat → UInt8) (N : Nat) (S : Nat → Bool) : Nat → Bool := fun z => @decide (∀ T, MulCl g N T → T 0 = true → (∀ i, S i = true → T i = true) → T z = true) (Classical.propDecidable _)
theorem clB_iff {g : Nat → UInt8} {N : Nat} {S : Nat → Bool} {z : Nat} : clB g N S z = true ↔ ∀ T, MulCl g N T → T 0 = true → (∀ i, S i = true → T i = true) → T z = true := by
  unfold clB; exact @decide_eq_true_iff _ (Classical.propDecidable _)
/-- R lies between S with 0 and their closure. -/
structure Gen (g : Nat → UInt8) (N : Nat) (S R : Nat → Bool) : Prop where
  zero : R 0 = true
  has : ∀ i, S i = true → R i = true
  least : ∀ T, MulCl g N T → T 0 = true → (∀ i, S i = true → T i = true) → ∀ i, R i = true → T i = true
/-- R with z. -/
def withB (R : Nat → Bool) (z : Nat) : Nat → Bool := fun i => if i = z then true else R i
theorem withB_self (R : Nat → Bool) (z : Nat) : withB R z z = true := by simp [withB]
theorem withB_old {R : Nat → Bool} {z i : Nat} (h : R i = true) : withB R z i = true := by unfold withB; split; rfl; exact h
theorem withB_or {R : Nat → Bool} {z i : Nat} (h : withB R z i = true) : i = z ∨ R i = true := by
  unfold withB at h
  by_cases e : i = z
  · exact .inl e
  · rw [if_neg e] at h; exact .inr h
theorem Gen.start (g : Nat → UInt8) (N : Nat) (S : Nat → Bool) : Gen g N S (withB S 0) :=
  ⟨withB_self _ _, fun i h => withB_old h, fun T _ h0 hS i h => by
    rcases withB_or h with rfl | h
    · exact h0
    · exact hS i h⟩
theorem Gen.add {g : Nat → UInt8} {N : Nat} {S R : Nat → Bool} (h : Gen g N S R) {z : Nat} (hz : ∀ T, MulCl g N T → (∀ i, R i = true → T i = true) → T z = true) : Gen g N S (withB R z) :=
  ⟨withB_old h.zero, fun i hi => withB_old (h.has i hi), fun T hT h0 hS i hi => by
    rcases withB_or hi with rfl | hi
    · exact hz T hT (h.least T hT h0 hS)
    · exact h.least T hT h0 hS i hi⟩
theorem Gen.mul {g : Nat → UInt8} {N : Nat} {S R : Nat → Bool} (h : Gen g N S R) {x y : Nat} (hx : x < N) (hy : y < N) (rx : R x = true) (ry : R y = true) : Gen g N S (withB R (mu g x y)) :=
  h.add fun T hT hR => hT x y hx hy (hR x rx) (hR y ry)
theorem Gen.left {g : Nat → UInt8} {N : Nat} {S R : Nat → Bool} (h : Gen g N S R) (hq : IsSq N g) {x y : Nat} (hx : x < N) (hy : y < N) (rx : R x = true) (ry : R y = true) : Gen g N S (withB R (ld g N x y).toNat) :=
  h.add fun T hT hR => hT.left hq hx hy (hR x rx) (hR y ry)
theorem Gen.right {g : Nat → UInt8} {N : Nat} {S R : Nat → Bool} (h : Gen g N S R) (hq : IsSq N g) {x y : Nat} (hx : x < N) (hy : y < N) (rx : R x = true) (ry : R y = true) : Gen g N S (withB R (rd g N x y).toNat) :=
  h.add fun T hT hR => hT.right hq hy hx (hR y ry) (hR x rx)
theorem Gen.done {g : Nat → UInt8} {N : Nat} {S R : Nat → Bool} (h : Gen g N S R) (hR : MulCl g N R) : R = clB g N S := by
  funext z
  cases e : R z with
  | true => exact (clB_iff.2 fun T hT h0 hS => h.least T hT h0 hS z e).symm
  | false =>
    cases e2 : clB g N S z with
    | false => rfl
    | true => rw [clB_iff.1 e2 R hR h.zero h.has] at e; cases e
/-- What stands at N and behind it stays as it was. -/
theorem clB_out {g : Nat → UInt8} {N : Nat} {S : Nat → Bool} (hq : IsSq N g) (hS : ∀ i, N ≤ i → S i = false) {z : Nat} (hz : N ≤ z) : clB g N S z = false := by
  cases e : clB g N S z with
  | false => rfl
  | true =>
    have h1 := hq.lo
    have := clB_iff.1 e (fun i => decide (i < N)) (fun x y hx hy _ _ => decide_eq_true (mu_lt hq hx hy)) (decide_eq_true (by omega)) (fun i hi => by
      by_cases hl : i < N
      · simpa using hl
      · rw [hS i (by omega)] at hi; cases hi)
    simp at this; omega
/-- How many of the ten are in R. -/
def cntB (R : Nat → Bool) : Nat := sm (fun i => ind (R i)) 10
theorem cntB_le (R : Nat → Bool) : cntB R ≤ 10 := sm_le10 (B := 1) (fun _ => ind_le _) (Nat.le_refl _)
theorem sm_withB (R : Nat → Bool) (z : Nat) (h : R z = false) : ∀ k, sm (fun i => ind (withB R z i)) k = sm (fun i => ind (R i)) k + (if z < k then 1 else 0)
  | 0 => rfl
  | k + 1 => by
    show sm _ k + ind (withB R z k) = sm _ k + ind (R k) + _
    rw [sm_withB R z h k]
    by_cases e : k = z
    · subst e
      rw [withB_self, h, if_neg (Nat.lt_irrefl _), if_pos (Nat.lt_succ_self _)]; rfl
    · have : withB R z k = R k := by unfold withB; rw [if_neg e]
      rw [this]
      by_cases h2 : z < k
      · rw [if_pos h2, if_pos (by omega)]; omega
      · rw [if_neg h2, if_neg (by omega)]; omega
theorem cntB_with {R : Nat → Bool} {z : Nat} (h : R z = false) (hz : z < 10) : cntB (withB R z) = cntB R + 1 := by
  unfold cntB
  rw [sm_withB R z h 10, if_pos hz]
/-- All products of pairs before (x, y) are in R. -/
def MulTo (g : Nat → UInt8) (N x y : Nat) (R : Nat → Bool) : Prop := ∀ a b, a < N → b < N → (a < x ∨ (a = x ∧ b < y)) → R a = true → R b = true → R (mu g a b) = true
theorem MulTo.start (g : Nat → UInt8) (N : Nat) (R : Nat → Bool) : MulTo g N 0 0 R := fun a b _ _ h => by omega
theorem MulTo.stepy {g : Nat → UInt8} {N x y : Nat} {R : Nat → Bool} (h : MulTo g N x y R) (e : R x = true → R y = true → R (mu g x y) = true) : MulTo g N x (y + 1) R := fun a b ha hb h' ra rb => by
  by_cases q : a = x ∧ b = y
  · obtain ⟨rfl, rfl⟩ := q; exact e ra rb
  · exact h a b ha hb (by omega) ra rb
theorem MulTo.stepx {g : Nat → UInt8} {N x : Nat} {R : Nat → Bool} (h : MulTo g N x N R) : MulTo g N (x + 1) 0 R := fun a b ha hb h' => h a b ha hb (by omega)
theorem MulTo.done {g : Nat → UInt8} {N : Nat} {R : Nat → Bool} (h : MulTo g N N 0 R) : MulCl g N R := fun a b ha hb => h a b ha hb (by omega)
theorem MulTo.done' {g : Nat → UInt8} {N x y : Nat} {R : Nat → Bool} (h : MulTo g N x y R) (hx : N ≤ x) : MulCl g N R := fun a b ha hb => h a b ha hb (by omega)
end Go.Proofs.Ytbdcbmennblcdab
namespace Go.Proofs.Ytbdcbmennblcdab
set_option linter.unusedVariables false
set_option linter.unusedSimpArgs false
open Go.RowKit
/-- As Q; by a goto to a label: what J says at that label. -/
def jumpsQ (J : Nat → Act → World → Prop) (Q : Exit → Act → World → Prop) : Exit → Act → World → Prop
  | .goto l, a, w => J l a w
  | e, a, w => Q e a w
section
variable {P : Program} {a : Act} {w : World} {Q : Exit → Act → World → Prop}
theorem wp_scope_multi {c : Code} (J : Nat → Act → World → Prop) (μ : Nat → Act → World → Nat)
    (first : c.wp P (jumpsQ J Q) a w)
    (pass : ∀ l a w, J l a w → ∃ rest, findLabel c l = some rest ∧ rest.wp P (jumpsQ (fun l' a' w' => J l' a' w' ∧ μ l' a' w' < μ l a w) Q) a w) : (Code.scope c).wp P Q a w := by
  intro b k cs
  have key : ∀ n l a w rest, μ l a w = n → J l a w → findLabel c l = some rest → ∃ e a' w', Q e a' w' ∧ Arrives P (lone (b.at a (.code rest :: .inScope c :: k)) cs w) b k cs e a' w' := by
    intro n
    induction n using Nat.strongRecOn with
    | _ n ih =>
      intro l a w rest hn hJ hf
      obtain ⟨rest', hf', hp⟩ := pass l a w hJ
      obtain rfl : rest = rest' := Option.some.inj (hf.symm.trans hf')
      obtain ⟨e, a₁, w₁, hq, harr⟩ := hp b (.inScope c :: k) cs
      cases e with
      | normal => exact ⟨.normal, a₁, w₁, hq, Steps.trans harr (.one step_inScope)⟩
      | exit id => exact ⟨.exit id, a₁, w₁, hq, fun k' hk => harr k' (by simp [exitTo, hk])⟩
      | goto l' =>
        obtain ⟨hJ', hlt⟩ := hq
        obtain ⟨rest2, hf2, _⟩ := pass l' a₁ w₁ hJ'
        have hg : gotoIn l' (.inScope c :: k) = some (.code rest2 :: .inScope c :: k) := by simp [gotoIn, hf2]
        obtain ⟨e₂, a₂, w₂, hq₂, harr₂⟩ := ih _ (by omega) l' a₁ w₁ rest2 rfl hJ' hf2
        exact ⟨e₂, a₂, w₂, hq₂, .of_steps (harr _ hg) harr₂⟩
      | ret => exact ⟨_, a₁, w₁, hq, harr⟩
      | panic ch => exact ⟨_, a₁, w₁, hq, harr⟩
      | outgrown => exact ⟨_, a₁, w₁, hq, harr⟩
  obtain ⟨e, a₁, w₁, hq, harr⟩ := first b (.inScope c :: k) cs
  cases e with
  | normal => exact ⟨.normal, a₁, w₁, hq, .head step_scope (Steps.trans harr (.one step_inScope))⟩
  | exit id => exact ⟨.exit id, a₁, w₁, hq, fun k' hk => .head step_scope (harr k' (by simp [exitTo, hk]))⟩
  | goto l' =>
    have hJ' : J l' a₁ w₁ := hq
    obtain ⟨rest2, hf2, _⟩ := pass l' a₁ w₁ hJ'
    have hg : gotoIn l' (.inScope c :: k) = some (.code rest2 :: .inScope c :: k) := by simp [gotoIn, hf2]
    obtain ⟨e₂, a₂, w₂, hq₂, harr₂⟩ := key _ l' a₁ w₁ rest2 rfl hJ' hf2
    exact ⟨e₂, a₂, w₂, hq₂, .of_steps (.head step_scope (harr _ hg)) harr₂⟩
  | ret => exact ⟨_, a₁, w₁, hq, .of_steps (.one step_scope) harr⟩
  | panic ch => exact ⟨_, a₁, w₁, hq, .of_steps (.one step_scope) harr⟩
  | outgrown => exact ⟨_, a₁, w₁, hq, .of_steps (.one step_scope) harr⟩
end
end Go.Proofs.Ytbdcbmennblcdab
namespace Go.Proofs.Ytbdcbmennblcdab
set_option linter.unusedVariables false
set_option linter.unusedSimpArgs false
open Go.RowKit
/-- What holds at a jump to label l. -/
def clJ (w : World) (N : Nat) (g : Nat → UInt8) (S : Nat → Bool) (l : Nat) (a : Act) (wr : World) : Prop :=
  ∃ (x y : Nat) (R : Nat → Bool) (u7 u8 u9 u10 u11 u12 u13 u14 u15 u16 u17 u18 u19 u20 u21 u22 u23 u24 u25 u26 u27 u28 u29 u30 u31 u32 u33 u34 u35 u36 u37 u38 u39 u40 u41 u42 u43 : Value), a = { tmps := #[.agg (sqc N g), .agg (bls 10 S), .pointer (some ⟨w.heap.size, 0, none⟩), .pointer (some ⟨w.heap.size + 1, 0, none⟩), .pointer (some ⟨w.heap.size + 2, 0, none⟩), .int .i64 (x : Nat), .int .i64 (y : Nat), u7, u8, u9, u10, u11, u12, u13, u14, u15, u16, u17, u18, u19, u20, u21, u22, u23, u24, u25, u26, u27, u28, u29, u30, u31, u32, u33, u34, u35, u36, u37, u38, u39, u40, u41, u42, u43], defers := [] } ∧
    Has w wr [(sqc N g, 31), (bls 10 R, 75), (bls 10 fun _ => false, 75)] ∧ Gen g N S R ∧ x < N ∧ y < N ∧ (l = 0 ∨ (l = 1 ∧ MulTo g N x y R))
def cellB (w : World) (B : Nat) : Nat → Bool := fun i => match w.cell? ⟨B, i, none⟩ with
  | some (.bool b) => b
  | _ => false
theorem cellB_of {w : World} {B : Nat} {R : Nat → Bool} {t : TypeId} (h : holds w B (bls 10 R) t) : cntB (cellB w B) = cntB R := by
  unfold cntB
  refine sm_congr fun i hi => ?_
  have : cellB w B i = R i := by
    unfold cellB
    rw [holds_cell h, bls_get _ _ _ hi]
  rw [this]
def clM (w : World) (l : Nat) (a : Act) (wr : World) : Nat :=
  (11 - cntB (cellB wr (w.heap.size + 1))) * 1000 + (if l = 0 then 500 else 400 - (10 * (intOf (a.tmps.getD 5 undef)).toNat + (intOf (a.tmps.getD 6 undef)).toNat))
theorem meas_add {c x y m : Nat} {R R' : Nat → Bool} (h : cntB R' = cntB R + 1) (hc : cntB R' ≤ 10) (hm : (11 - cntB R) * 1000 + (400 - (10 * x + y)) ≤ m) : (11 - cntB R') * 1000 + 500 < m := by omega
set_option maxRecDepth 100000 in
set_option maxHeartbeats 8000000 in
theorem look_any (w : World) (N : Nat) (g : Nat → UInt8) (S : Nat → Bool) (hq : IsSq N g) (r0 c rest : Code) (hb : Try.f73.body = some (.seq r0 (.scope c))) (hf : findLabel c 1 = some (.seq .skip rest))
    (J' : Nat → Act → World → Prop) (Q : Exit → Act → World → Prop) (m : Nat) (hJ : Hid (∀ l a' w', clJ w N g S l a' w' → clM w l a' w' < m → J' l a' w'))
    (hQ : Hid (∀ a' w' R, a'.tmps[4]? = some (.pointer (some ⟨w.heap.size + 2, 0, none⟩)) → a'.defers = [] → Has w w' [(sqc N g, 31), (bls 10 R, 75), (bls 10 R, 75)] → Gen g N S R → MulCl g N R → Q .ret a' w'))
    (x y : Nat) (R : Nat → Bool) (u7 u8 u9 u10 u11 u12 u13 u14 u15 u16 u17 u18 u19 u20 u21 u22 u23 u24 u25 u26 u27 u28 u29 u30 u31 u32 u33 u34 u35 u36 u37 u38 u39 u40 u41 u42 u43 : Value) (wr : World) (hx : x < N) (hy : y < N) (hH : Has w wr [(sqc N g, 31), (bls 10 R, 75), (bls 10 fun _ => false, 75)]) (hG : Gen g N S R) (hT : MulTo g N x y R) (hm : (11 - cntB R) * 1000 + (400 - (10 * x + y)) ≤ m) :
    rest.wp Try.prog (jumpsQ J' Q) { tmps := #[.agg (sqc N g), .agg (bls 10 S), .pointer (some ⟨w.heap.size, 0, none⟩), .pointer (some ⟨w.heap.size + 1, 0, none⟩), .pointer (some ⟨w.heap.size + 2, 0, none⟩), .int .i64 (x : Nat), .int .i64 (y : Nat), u7, u8, u9, u10, u11, u12, u13, u14, u15, u16, u17, u18, u19, u20, u21, u22, u23, u24, u25, u26, u27, u28, u29, u30, u31, u32, u33, u34, u35, u36, u37, u38, u39, u40, u41, u42, u43], defers := [] } wr := by
  cases hb
  cases hf
  have h10 := hq.hi
  have hx10 : x < 10 := by omega
  have hy10 : y < 10 := by omega
  have hx1 : (x : Int) < 10 := by omega
  have hy1 : (y : Int) < 10 := by omega
  have HQ := hid hq
  clear hq
  obtain ⟨z, hz⟩ : ∃ z, g (x * 10 + y) = z := ⟨_, rfl⟩
  have hzl : z.toNat < N := by rw [← hz]; exact mu_lt HQ.out hx hy
  have hz10 : z.toNat < 10 := by omega
  have hz1 : (z.toNat : Int) < 10 := by omega
  have hmu : mu g x y = z.toNat := by unfold mu; rw [hz]
  have HZ := hid hz
  have HMU := hid hmu
  clear hz hmu
  have HM := hid hm
  have HG := hid hG
  have HT := hid hT
  clear hm hG hT
  have c0 : wr.cell? ⟨w.heap.size, 0, none⟩ = some (.int .i64 N) := by rw [hH.c0, sqc_get0]
  have ca : wr.cell? ⟨w.heap.size, 1 + x * 10 + y, none⟩ = some (.int .u8 z.toNat) := by rw [hH.c0, Nat.add_assoc, sqc_get _ _ _ (by omega), HZ.out]
  obtain ⟨rx, hrx⟩ : ∃ rx, R x = rx := ⟨_, rfl⟩
  obtain ⟨ry, hry⟩ : ∃ ry, R y = ry := ⟨_, rfl⟩
  obtain ⟨rz, hrz⟩ : ∃ rz, R z.toNat = rz := ⟨_, rfl⟩
  have cx : wr.cell? ⟨w.heap.size + 1, x, none⟩ = some (.bool rx) := by rw [hH.c1, bls_get _ _ _ hx10, hrx]
  have cy : wr.cell? ⟨w.heap.size + 1, y, none⟩ = some (.bool ry) := by rw [hH.c1, bls_get _ _ _ hy10, hry]
  have cz : wr.cell? ⟨w.heap.size + 1, z.toNat, none⟩ = some (.bool rz) := by rw [hH.c1, bls_get _ _ _ hz10, hrz]
  have f1 := hH.f1
  have HRX := hid hrx
  have HRY := hid hry
  have HRZ := hid hrz
  clear hrx hry hrz
  by_cases hadd : rx = true ∧ ry = true ∧ rz = false
  · obtain ⟨rfl, rfl, rfl⟩ := hadd
    go_wp2_with (first | fail | (refine wpL_guard rfl rfl ?_))
    go_step3
    refine hJ.out 0 _ _ ⟨x, y, withB R z.toNat, _, _, _, _, _, _, _, _, _, _, _, _, _, _, _, _, _, _, _, _, _, _, _, _, _, _, _, _, _, _, _, _, _, _, _, _, _, rfl, hH.s1 _ _ (bls_step 10 R (withB R z.toNat) z.toNat true (fun j _ => rfl)), by rw [← HMU.out]; exact HG.out.mul hx hy HRX.out HRY.out, hx, hy, .inl rfl⟩ ?_
    unfold clM
    rw [if_pos rfl, cellB_of (hH.s1 _ _ (bls_step 10 R (withB R z.toNat) z.toNat true (fun j _ => rfl))).h1]
    exact meas_add (c := 0) (cntB_with HRZ.out hz10) (cntB_le _) HM.out
  · have hE : R x = true → R y = true → R (mu g x y) = true := fun a b => by
      rw [HMU.out, HRZ.out]
      rw [HRX.out] at a
      rw [HRY.out] at b
      cases rz with
      | true => rfl
      | false => exact absurd ⟨a, b, rfl⟩ hadd
    have HTy := hid (HT.out.stepy hE)
    clear hE HT
    have hcase : rx = false ∨ (rx = true ∧ ry = false) ∨ (rx = true ∧ ry = true ∧ rz = true) := by
      cases rx <;> cases ry <;> cases rz <;> simp at hadd ⊢
    clear hadd HRX HRY HRZ
    by_cases hyN : y + 1 < N
    · have hyN' : (y : Int) + 1 < (N : Int) := by omega
      rcases hcase with rfl | ⟨rfl, rfl⟩ | ⟨rfl, rfl, rfl⟩
      all_goals
        go_wp2_with (first | fail | (refine wpL_guard rfl rfl ?_))
        go_step3
        refine hJ.out 1 _ _ ⟨x, y + 1, R, _, _, _, _, _, _, _, _, _, _, _, _, _, _, _, _, _, _, _, _, _, _, _, _, _, _, _, _, _, _, _, _, _, _, _, _, _, rfl, hH, HG.out, hx, hyN, .inr ⟨rfl, HTy.out⟩⟩ ?_
        unfold clM
        rw [if_neg (by decide), cellB_of hH.h1]
        have := HM.out
        simp [intOf]; omega
    · have hyN' : ¬ (y : Int) + 1 < (N : Int) := by omega
      obtain rfl : N = y + 1 := by omega
      have HTx := hid (HTy.out.stepx)
      clear HTy
      by_cases hxN : x + 1 < y + 1
      · have hxN' : (x : Int) + 1 < ((y + 1 : Nat) : Int) := by omega
        rcases hcase with rfl | ⟨rfl, rfl⟩ | ⟨rfl, rfl, rfl⟩
        all_goals
          go_wp2_with (first | fail | (refine wpL_guard rfl rfl ?_))
          go_step3
          refine hJ.out 1 _ _ ⟨x + 1, 0, R, _, _, _, _, _, _, _, _, _, _, _, _, _, _, _, _, _, _, _, _, _, _, _, _, _, _, _, _, _, _, _, _, _, _, _, _, _, rfl, hH, HG.out, hxN, by omega, .inr ⟨rfl, HTx.out⟩⟩ ?_
          unfold clM
          rw [if_neg (by decide), cellB_of hH.h1]
          have := HM.out
          simp [intOf]; omega
      · have hxN' : ¬ (x : Int) + 1 < ((y + 1 : Nat) : Int) := by omega
        have HC := hid (HTx.out.done' (by omega))
        rcases hcase with rfl | ⟨rfl, rfl⟩ | ⟨rfl, rfl, rfl⟩
        all_goals
          go_wp2_with (first | fail | (refine wpL_guard rfl rfl ?_) | (refine wpL_loadFull rfl rfl rfl rowMe hH.h1 (bls_size _ _) ?_) | (refine wpL_storeFull rfl rfl rfl rfl rowMe hH.h2 (bls_size _ _) (bls_ok _ _) ?_))
          exact hQ.out _ _ R rfl rfl hH.r2 HG.out HC.out
set_option maxRecDepth 100000 in
set_option maxHeartbeats 8000000 in
theorem closureOf_any (N : Nat) (g : Nat → UInt8) (S : Nat → Bool) (w : World) (hq : IsSq N g) :
    Calls Try.prog 73 #[.agg (sqc N g), .agg (bls 10 S)] w fun e w' => e = .returned (.agg (bls 10 (clB g N S))) ∧ Below w.heap.size w w' := by
  have h1 := hq.lo
  have e0 := bls_step 10 S (withB S 0) 0 true (fun j _ => rfl)
  have hH2 : Has w (((w.alloc (.cells (sqc N g) 31)).alloc (.cells ((bls 10 S).setIfInBounds 0 (.bool true)) 75)).alloc (.cells (bls 10 fun _ => false) 75)) [(sqc N g, 31), (bls 10 (withB S 0), 75), (bls 10 fun _ => false, 75)] := by
    have h := Has.start3 w (sqc N g) ((bls 10 S).setIfInBounds 0 (.bool true)) (bls 10 fun _ => false) 31 75 75
    rw [← e0]; exact h
  have HQ := hid hq
  clear hq e0
  obtain ⟨v1, c1⟩ : ∃ v, (((w.alloc (.cells (sqc N g) 31)).alloc (.cells (bls 10 S) 75)).alloc (.cells (bls 10 fun _ => false) 75)).cell? ⟨w.heap.size + 1, 0, none⟩ = some v := ⟨_, by rw [(Has.start3 w (sqc N g) (bls 10 S) (bls 10 fun _ => false) 31 75 75).c1, bls_get _ _ _ (by omega)]⟩
  go_enter Try.func73, Try.ntmps73
  go_wp2_with (first | fail | (refine wpL_alloc rfl rfl zeroMe ?_; intro g0 hg0; (try simp at hg0); subst hg0))
  refine wp_scope_multi (clJ w N g S) (clM w) ?_ ?_
  · go_wp2
    go_step3
    go_wp2
    go_step3
    rename_i hK
    refine hK _ _ (look_any w N g S HQ.out _ _ _ rfl rfl _ _ 20000 (hid fun l a' w' h _ => h) (hid fun a' w' R h4 hd hR hG hC => ?_) 0 0 (withB S 0) _ _ _ _ _ _ _ _ _ _ _ _ _ _ _ _ _ _ _ _ _ _ _ _ _ _ _ _ _ _ _ _ _ _ _ _ _ _ h1 h1 hH2 (Gen.start g N S) (MulTo.start _ _ _) (by omega))
    obtain ⟨tmps, defs⟩ := a'
    obtain rfl : defs = [] := hd
    exact ret_c rfl h4 hR.h2 rowMe (bls_size _ _) ⟨by rw [← hG.done hC], hR.below⟩
  · rintro l a' w' ⟨x, y, R, u7, u8, u9, u10, u11, u12, u13, u14, u15, u16, u17, u18, u19, u20, u21, u22, u23, u24, u25, u26, u27, u28, u29, u30, u31, u32, u33, u34, u35, u36, u37, u38, u39, u40, u41, u42, u43, rfl, hR, hG, hx, hy, hl⟩
    have hM := cellB_of hR.h1
    rcases hl with rfl | ⟨rfl, hT⟩
    · refine ⟨_, rfl, ?_⟩
      go_wp2
      go_step3
      rename_i hK
      refine hK _ _ (look_any w N g S HQ.out _ _ _ rfl rfl _ _ _ (hid fun l a' w' h h2 => ⟨h, h2⟩) (hid fun a' w' R h4 hd hR hG hC => ?_) 0 0 R _ _ _ _ _ _ _ _ _ _ _ _ _ _ _ _ _ _ _ _ _ _ _ _ _ _ _ _ _ _ _ _ _ _ _ _ _ _ h1 h1 hR hG (MulTo.start _ _ _) ?_)
      · obtain ⟨tmps, defs⟩ := a'
        obtain rfl : defs = [] := hd
        exact ret_c rfl h4 hR.h2 rowMe (bls_size _ _) ⟨by rw [← hG.done hC], hR.below⟩
      · unfold clM
        rw [if_pos rfl, hM]; omega
    · refine ⟨_, rfl, ?_⟩
      refine wp_seq (wp_skip (look_any w N g S HQ.out _ _ _ rfl rfl _ _ _ (hid fun l a' w' h h2 => ⟨h, h2⟩) (hid fun a' w' R h4 hd hR hG hC => ?_) x y R _ _ _ _ _ _ _ _ _ _ _ _ _ _ _ _ _ _ _ _ _ _ _ _ _ _ _ _ _ _ _ _ _ _ _ _ _ _ hx hy hR hG hT ?_))
      · obtain ⟨tmps, defs⟩ := a'
        obtain rfl : defs = [] := hd
        exact ret_c rfl h4 hR.h2 rowMe (bls_size _ _) ⟨by rw [← hG.done hC], hR.below⟩
      · unfold clM
        rw [if_neg (by decide), hM]
        simp [intOf]
end Go.Proofs.Ytbdcbmennblcdab
namespace Go.Proofs.Ytbdcbmennblcdab
set_option linter.unusedVariables false
set_option linter.unusedSimpArgs false
open Go.RowKit
def cellC (w : World) (B : Nat) : Nat → Bool := fun i => match w.cell? ⟨B, i, none⟩ with
  | some (.bool b) => b
  | _ => false
theorem cellC_of {w : World} {B : Nat} {R : Nat → Bool} {t : TypeId} (h : holds w B (bls 10 R) t) : cntB (cellC w B) = cntB R := by
  unfold cntB
  refine sm_congr fun i hi => ?_
  have : cellC w B i = R i := by
    unfold cellC
    rw [holds_cell h, bls_get _ _ _ hi]
  rw [this]
def bN : Value → Nat
  | .bool true => 1
  | _ => 0
/-- What has been found in one pass over the pairs before (x, y), from R on. -/
def Pass (g : Nat → UInt8) (N : Nat) (R : Nat → Bool) (c : Bool) (R' : Nat → Bool) (x y : Nat) : Prop := (c = true ∧ cntB R < cntB R') ∨ (c = false ∧ R' = R ∧ MulTo g N x y R)
theorem Pass.le {g : Nat → UInt8} {N : Nat} {R R' : Nat → Bool} {c : Bool} {x y : Nat} (h : Pass g N R c R' x y) : cntB R ≤ cntB R' := by
  rcases h with ⟨_, h⟩ | ⟨_, h, _⟩
  · omega
  · rw [h]; exact Nat.le_refl _
theorem Pass.add {g : Nat → UInt8} {N : Nat} {R R' : Nat → Bool} {c : Bool} {x y z : Nat} (h : Pass g N R c R' x y) (hz : R' z = false) (h10 : z < 10) : Pass g N R true (withB R' z) x y :=
  .inl ⟨rfl, by rw [cntB_with hz h10]; have := h.le; omega⟩
theorem Pass.stepy {g : Nat → UInt8} {N : Nat} {R R' : Nat → Bool} {c : Bool} {x y : Nat} (h : Pass g N R c R' x y) (e : R' x = true → R' y = true → c = true ∨ R' (mu g x y) = true) : Pass g N R c R' x (y + 1) := by
  rcases h with h | ⟨hc, hR, hT⟩
  · exact .inl h
  · refine .inr ⟨hc, hR, hT.stepy fun a b => ?_⟩
    subst hR
    rcases e a b with h1 | h1
    · rw [hc] at h1; cases h1
    · exact h1
theorem Pass.stepx {g : Nat → UInt8} {N : Nat} {R R' : Nat → Bool} {c : Bool} {x : Nat} (h : Pass g N R c R' x N) : Pass g N R c R' (x + 1) 0 := by
  rcases h with h | ⟨hc, hR, hT⟩
  · exact .inl h
  · exact .inr ⟨hc, hR, hT.stepx⟩
theorem Pass.start (g : Nat → UInt8) (N : Nat) (R : Nat → Bool) : Pass g N R false R 0 0 := .inr ⟨rfl, rfl, MulTo.start g N R⟩
theorem Pass.done {g : Nat → UInt8} {N : Nat} {R R' : Nat → Bool} {c : Bool} (h : Pass g N R c R' N 0) : c = false → MulCl g N R' := fun hc => by
  rcases h with ⟨h, _⟩ | ⟨_, hR, hT⟩
  · rw [hc] at h; cases h
  · rw [hR]; exact hT.done
theorem Pass.meas {g : Nat → UInt8} {N : Nat} {R R' : Nat → Bool} {c : Bool} {x y : Nat} (h : Pass g N R c R' x y) : (11 - cntB R') * 2 + bN (.bool c) < (11 - cntB R) * 2 + bN (.bool true) := by
  have := cntB_le R'
  rcases h with ⟨hc, h⟩ | ⟨hc, hR, _⟩
  · subst hc; show _ + 1 < _ + 1; omega
  · subst hc; rw [hR]; show _ + 0 < _ + 1; omega
set_option maxRecDepth 100000 in
set_option maxHeartbeats 8000000 in
theorem l05Close_any (N : Nat) (g : Nat → UInt8) (S : Nat → Bool) (w : World) (hq : IsSq N g) :
    Calls Try.prog 113 #[.agg (sqc N g), .agg (bls 10 S)] w fun e w' => e = .returned (.agg (bls 10 (clB g N S))) ∧ Below w.heap.size w w' := by
  have h1 := hq.lo
  have h10 := hq.hi
  have hN10 : (N : Int) ≤ 10 := by omega
  have e0 := bls_step 10 S (withB S 0) 0 true (fun j _ => rfl)
  have hH2 : Has w (((w.alloc (.cells (sqc N g) 31)).alloc (.cells ((bls 10 S).setIfInBounds 0 (.bool true)) 74)).alloc (.cells (bls 10 fun _ => false) 74)) [(sqc N g, 31), (bls 10 (withB S 0), 74), (bls 10 fun _ => false, 74)] := by
    have h := Has.start3 w (sqc N g) ((bls 10 S).setIfInBounds 0 (.bool true)) (bls 10 fun _ => false) 31 74 74
    rw [← e0]; exact h
  have HQ := hid hq
  clear hq e0
  obtain ⟨v1, c1⟩ : ∃ v, (((w.alloc (.cells (sqc N g) 31)).alloc (.cells (bls 10 S) 74)).alloc (.cells (bls 10 fun _ => false) 74)).cell? ⟨w.heap.size + 1, 0, none⟩ = some v := ⟨_, by rw [(Has.start3 w (sqc N g) (bls 10 S) (bls 10 fun _ => false) 31 74 74).c1, bls_get _ _ _ (by omega)]⟩
  go_enter Try.func113, Try.ntmps113
  go_wp2_with (first | fail | (refine wpL_alloc rfl rfl zeroBo ?_; intro g0 hg0; (try simp at hg0); subst hg0))
  clear c1
  go_loopw [6] (fun ch wr => ∃ (c : Bool) (R : Nat → Bool), ch = .bool c ∧ Has w wr [(sqc N g, 31), (bls 10 R, 74), (bls 10 fun _ => false, 74)] ∧ Hid (Gen g N S R) ∧ Hid (c = false → MulCl g N R)) (fun ch wr => (11 - cntB (cellC wr (w.heap.size + 1))) * 2 + bN ch)
  case atStart => exact ⟨true, withB S 0, rfl, hH2, hid (Gen.start g N S), hid (fun h => by cases h)⟩
  case round =>
    clear hH2
    obtain ⟨c, R, rfl, hH, HG, HC⟩ := hrel
    cases c with
    | false =>
      have HD := hid (HG.out.done (HC.out rfl))
      go_wp2_with (first | fail | (refine wpL_loadFull rfl rfl rfl rowBo hH.h1 (bls_size _ _) ?_) | (refine wpL_storeFull rfl rfl rfl rfl rowBo hH.h2 (bls_size _ _) (bls_ok _ _) ?_))
      exact ret_c rfl rfl hH.r2.h2 rowBo (bls_size _ _) ⟨by rw [← HD.out], hH.r2.below⟩
    | true =>
      clear HC
      have HK0 : Hid (cntB (cellC wr (w.heap.size + 1)) = cntB R) := hid (cellC_of hH.h1)
      go_wp2
      go_loopw [6, 7] (fun ch i wx => ∃ (x : Nat) (c : Bool) (R1 : Nat → Bool), x ≤ N ∧ i = .int .u8 x ∧ ch = .bool c ∧ Has w wx [(sqc N g, 31), (bls 10 R1, 74), (bls 10 fun _ => false, 74)] ∧ Hid (Gen g N S R1) ∧ Hid (Pass g N R c R1 x 0)) (fun _ i _ => 20 - (intOf i).toNat)
      case atStart => exact ⟨0, false, R, by omega, rfl, rfl, hH, HG, hid (Pass.start g N R)⟩
      case round =>
        clear HG hH
        obtain ⟨x, c, R1, hxN, rfl, rfl, hH, HG, HP⟩ := hrel
        by_cases hx : x < N
        · have hx1 : (x : Int) < N := by omega
          have hx10 : (x : Int) < 10 := by omega
          have hx10' : x < 10 := by omega
          go_wp2
          go_loopw [6, 8] (fun ch i wx => ∃ (y : Nat) (c : Bool) (R1 : Nat → Bool), y ≤ N ∧ i = .int .u8 y ∧ ch = .bool c ∧ Has w wx [(sqc N g, 31), (bls 10 R1, 74), (bls 10 fun _ => false, 74)] ∧ Hid (Gen g N S R1) ∧ Hid (Pass g N R c R1 x y)) (fun _ i _ => 20 - (intOf i).toNat)
          case atStart => exact ⟨0, c, R1, by omega, rfl, rfl, hH, HG, HP⟩
          case round =>
            clear HG hH HP
            obtain ⟨y, c, R1, hyN, rfl, rfl, hH, HG, HP⟩ := hrel
            by_cases hy : y < N
            · have hy1 : (y : Int) < N := by omega
              have hy10 : (y : Int) < 10 := by omega
              have hy10' : y < 10 := by omega
              by_cases hboth : R1 x = true ∧ R1 y = true
              · have HXY := hid hboth
                have cx : wr.cell? ⟨w.heap.size + 1, x, none⟩ = some (.bool true) := by rw [hH.c1, bls_get _ _ _ hx10', hboth.1]
                have cy : wr.cell? ⟨w.heap.size + 1, y, none⟩ = some (.bool true) := by rw [hH.c1, bls_get _ _ _ hy10', hboth.2]
                clear hboth
                go_wp2_with (first | fail | (refine wpL_guard rfl rfl ?_))
                clear cx cy
                go_loopw [6, 9] (fun ch i wx => ∃ (k : Nat) (c : Bool) (R2 : Nat → Bool), k ≤ 3 ∧ i = .int .i64 k ∧ ch = .bool c ∧ Has w wx [(sqc N g, 31), (bls 10 R2, 74), (bls 10 fun _ => false, 74)] ∧ Hid (Gen g N S R2) ∧ Hid (Pass g N R c R2 x y) ∧ Hid (R2 x = true ∧ R2 y = true) ∧ Hid (1 ≤ k → c = true ∨ R2 (mu g x y) = true)) (fun _ i _ => 20 - (intOf i).toNat)
                case atStart => exact ⟨0, c, R1, by omega, rfl, rfl, hH, HG, HP, HXY, hid (fun h => by omega)⟩
                case round =>
                  clear HG hH HP HXY
                  obtain ⟨k, c, R2, hk3, rfl, rfl, hH, HG, HP, HXY, HK⟩ := hrel
                  have hk4 : k = 0 ∨ k = 1 ∨ k = 2 ∨ k = 3 := by omega
                  clear hk3
                  rcases hk4 with rfl | rfl | rfl | rfl
                  · obtain ⟨z, hz⟩ : ∃ z, g (x * 10 + y) = z := ⟨_, rfl⟩
                    have hzl : z.toNat < N := by rw [← hz]; exact mu_lt HQ.out hx hy
                    have hz10 : z.toNat < 10 := by omega
                    have hz1 : (z.toNat : Int) < 10 := by omega
                    have HMU := hid (show mu g x y = z.toNat by unfold mu; rw [hz])
                    have HZ := hid hz
                    have HGz : Hid (Gen g N S (withB R2 z.toNat)) := hid (by rw [← hz]; exact HG.out.mul hx hy HXY.out.1 HXY.out.2)
                    obtain ⟨rz, hrz⟩ : ∃ rz, R2 z.toNat = rz := ⟨_, rfl⟩
                    have HRZ0 := hid hrz
                    clear hz hrz
                    go_wp2
                    refine wp_region_frame (X := Unit) (fun d _ => [(40, bif d 0 then .agg (sqc N g) else u40), (41, bif d 1 then .int .i64 0 else u41), (42, bif d 2 then .int .u8 42 else u42), (43, bif d 3 then .int .u8 x else u43), (44, bif d 4 then .int .u8 y else u44), (45, bif d 5 then .int .u8 z.toNat else u45), (10, bif d 6 then .int .u8 z.toNat else u10)])
                      (fun d _ w' => Has w w' [(sqc N g, 31), (bls 10 R2, 74), (bls 10 fun _ => false, 74)]) (by kernel_rfl) (by kernel_rfl) ?h0_k0 ?hs_k0 ?hq_k0
                    case h0_k0 => exact ⟨(), (by simp [lput]), hH.drew⟩
                    case hs_k0 =>
                      refine ⟨?_, ?_, ?_, ?_, ?_, ?_, ?_, trivial⟩
                      all_goals
                        clear hH
                        intro d _ w1 hd hn hJ
                        simp only [needs, Region.binds, reduceCtorEq, Bool.false_eq_true, false_implies, true_and, and_true, true_implies, forall_const] at hn
                        simp only [lput, List.set, hn, cond_true]
                        have hH := hJ; clear hJ
                        go_wp2_with (first | fail | (refine wpL_loadFull rfl rfl rfl rowSq hH.h0 (sqc_size _ _) ?_) | (go_at_call 142; refine (l03Apply_42 N x y g _ HQ.out hx hy).mono ?_; rintro e w3 ⟨rfl, hb⟩; rw [HZ.out]; replace hH := hH.call' hb; clear hb))
                        first
                          | (refine ⟨(), ?_, hH⟩; (simp [lput, done, hn]; done))
                          | (refine ⟨?_, hH⟩; (simp [lput, done, hn]; done))
                          | (refine ⟨(), ?_, hH⟩; (simp [lput, done, hn]; rfl))
                          | (refine ⟨?_, hH⟩; (simp [lput, done, hn]; rfl))
                          | (refine ⟨(), ?_, hH⟩; (simp [lput, done]; done))
                          | (refine ⟨?_, hH⟩; (simp [lput, done]; done))
                          | (refine ⟨(), ?_, hH⟩; (simp [lput, done]; rfl))
                          | (refine ⟨?_, hH⟩; (simp [lput, done]; rfl))
                    case hq_k0 =>
                      clear hH
                      intro d _ w1 hd hJ
                      simp only [allDone, List.length_cons, List.length_nil, Nat.reduceAdd, and_true] at hd
                      have hH := hJ; clear hJ
                      simp only [lput, List.set, hd, cond_true]
                      clear hd
                      have cz : w1.cell? ⟨w.heap.size + 1, z.toNat, none⟩ = some (.bool rz) := by rw [hH.c1, bls_get _ _ _ hz10, HRZ0.out]
                      have f1 := hH.f1
                      cases rz with
                      | true =>
                        have HRZ := hid HRZ0.out
                        clear HRZ0
                        go_wp2
                        go_roundw
                        case rel => exact ⟨0 + 1, c, R2, by omega, by go_num, rfl, hH, HG, HP, HXY, hid (fun _ => .inr (by rw [HMU.out]; exact HRZ.out))⟩
                        case measure => simp [intOf]
                      | false =>
                        have HRZ := hid HRZ0.out
                        clear HRZ0
                        go_wp2
                        go_roundw
                        case rel => exact ⟨0 + 1, true, withB R2 z.toNat, by omega, by go_num, rfl, hH.s1 _ _ (bls_step 10 R2 (withB R2 z.toNat) z.toNat true (fun j _ => rfl)), HGz, hid (HP.out.add HRZ.out hz10), hid ⟨withB_old HXY.out.1, withB_old HXY.out.2⟩, hid (fun _ => .inl rfl)⟩
                        case measure => simp [intOf]
                  · obtain ⟨z, hz⟩ : ∃ z, backF (rowF g x) N y = z := ⟨_, rfl⟩
                    have hzl : z.toNat < N := by rw [← hz]; exact ld_lt HQ.out hx hy
                    have hz10 : z.toNat < 10 := by omega
                    have hz1 : (z.toNat : Int) < 10 := by omega
                    have HZ := hid hz
                    have HGz : Hid (Gen g N S (withB R2 z.toNat)) := hid (by rw [← hz]; exact HG.out.left HQ.out hx hy HXY.out.1 HXY.out.2)
                    obtain ⟨rz, hrz⟩ : ∃ rz, R2 z.toNat = rz := ⟨_, rfl⟩
                    have HRZ0 := hid hrz
                    clear hz hrz
                    go_wp2
                    refine wp_region_frame (X := Unit) (fun d _ => [(40, bif d 0 then .agg (sqc N g) else u40), (41, bif d 1 then .int .i64 1 else u41), (42, bif d 2 then .int .u8 92 else u42), (43, bif d 3 then .int .u8 x else u43), (44, bif d 4 then .int .u8 y else u44), (45, bif d 5 then .int .u8 z.toNat else u45), (10, bif d 6 then .int .u8 z.toNat else u10)])
                      (fun d _ w' => Has w w' [(sqc N g, 31), (bls 10 R2, 74), (bls 10 fun _ => false, 74)]) (by kernel_rfl) (by kernel_rfl) ?h0_k1 ?hs_k1 ?hq_k1
                    case h0_k1 => exact ⟨(), (by simp [lput]), hH.drew⟩
                    case hs_k1 =>
                      refine ⟨?_, ?_, ?_, ?_, ?_, ?_, ?_, trivial⟩
                      all_goals
                        clear hH
                        intro d _ w1 hd hn hJ
                        simp only [needs, Region.binds, reduceCtorEq, Bool.false_eq_true, false_implies, true_and, and_true, true_implies, forall_const] at hn
                        simp only [lput, List.set, hn, cond_true]
                        have hH := hJ; clear hJ
                        go_wp2_with (first | fail | (refine wpL_loadFull rfl rfl rfl rowSq hH.h0 (sqc_size _ _) ?_) | (go_at_call 142; refine (l03Apply_92 N x y g _ HQ.out hx hy).mono ?_; rintro e w3 ⟨rfl, hb⟩; rw [HZ.out]; replace hH := hH.call' hb; clear hb))
                        first
                          | (refine ⟨(), ?_, hH⟩; (simp [lput, done, hn]; done))
                          | (refine ⟨?_, hH⟩; (simp [lput, done, hn]; done))
                          | (refine ⟨(), ?_, hH⟩; (simp [lput, done, hn]; rfl))
                          | (refine ⟨?_, hH⟩; (simp [lput, done, hn]; rfl))
                          | (refine ⟨(), ?_, hH⟩; (simp [lput, done]; done))
                          | (refine ⟨?_, hH⟩; (simp [lput, done]; done))
                          | (refine ⟨(), ?_, hH⟩; (simp [lput, done]; rfl))
                          | (refine ⟨?_, hH⟩; (simp [lput, done]; rfl))
                    case hq_k1 =>
                      clear hH
                      intro d _ w1 hd hJ
                      simp only [allDone, List.length_cons, List.length_nil, Nat.reduceAdd, and_true] at hd
                      have hH := hJ; clear hJ
                      simp only [lput, List.set, hd, cond_true]
                      clear hd
                      have cz : w1.cell? ⟨w.heap.size + 1, z.toNat, none⟩ = some (.bool rz) := by rw [hH.c1, bls_get _ _ _ hz10, HRZ0.out]
                      have f1 := hH.f1
                      cases rz with
                      | true =>
                        have HRZ := hid HRZ0.out
                        clear HRZ0
                        go_wp2
                        go_roundw
                        case rel => exact ⟨1 + 1, c, R2, by omega, by go_num, rfl, hH, HG, HP, HXY, hid (fun _ => HK.out (by omega))⟩
                        case measure => simp [intOf]
                      | false =>
                        have HRZ := hid HRZ0.out
                        clear HRZ0
                        go_wp2
                        go_roundw
                        case rel => exact ⟨1 + 1, true, withB R2 z.toNat, by omega, by go_num, rfl, hH.s1 _ _ (bls_step 10 R2 (withB R2 z.toNat) z.toNat true (fun j _ => rfl)), HGz, hid (HP.out.add HRZ.out hz10), hid ⟨withB_old HXY.out.1, withB_old HXY.out.2⟩, hid (fun _ => .inl rfl)⟩
                        case measure => simp [intOf]
                  · obtain ⟨z, hz⟩ : ∃ z, backF (colF g y) N x = z := ⟨_, rfl⟩
                    have hzl : z.toNat < N := by rw [← hz]; exact rd_lt HQ.out hy hx
                    have hz10 : z.toNat < 10 := by omega
                    have hz1 : (z.toNat : Int) < 10 := by omega
                    have HZ := hid hz
                    have HGz : Hid (Gen g N S (withB R2 z.toNat)) := hid (by rw [← hz]; exact HG.out.right HQ.out hx hy HXY.out.1 HXY.out.2)
                    obtain ⟨rz, hrz⟩ : ∃ rz, R2 z.toNat = rz := ⟨_, rfl⟩
                    have HRZ0 := hid hrz
                    clear hz hrz
                    go_wp2
                    refine wp_region_frame (X := Unit) (fun d _ => [(40, bif d 0 then .agg (sqc N g) else u40), (41, bif d 1 then .int .i64 2 else u41), (42, bif d 2 then .int .u8 47 else u42), (43, bif d 3 then .int .u8 x else u43), (44, bif d 4 then .int .u8 y else u44), (45, bif d 5 then .int .u8 z.toNat else u45), (10, bif d 6 then .int .u8 z.toNat else u10)])
                      (fun d _ w' => Has w w' [(sqc N g, 31), (bls 10 R2, 74), (bls 10 fun _ => false, 74)]) (by kernel_rfl) (by kernel_rfl) ?h0_k2 ?hs_k2 ?hq_k2
                    case h0_k2 => exact ⟨(), (by simp [lput]), hH.drew⟩
                    case hs_k2 =>
                      refine ⟨?_, ?_, ?_, ?_, ?_, ?_, ?_, trivial⟩
                      all_goals
                        clear hH
                        intro d _ w1 hd hn hJ
                        simp only [needs, Region.binds, reduceCtorEq, Bool.false_eq_true, false_implies, true_and, and_true, true_implies, forall_const] at hn
                        simp only [lput, List.set, hn, cond_true]
                        have hH := hJ; clear hJ
                        go_wp2_with (first | fail | (refine wpL_loadFull rfl rfl rfl rowSq hH.h0 (sqc_size _ _) ?_) | (go_at_call 142; refine (l03Apply_47 N x y g _ HQ.out hx hy).mono ?_; rintro e w3 ⟨rfl, hb⟩; rw [HZ.out]; replace hH := hH.call' hb; clear hb))
                        first
                          | (refine ⟨(), ?_, hH⟩; (simp [lput, done, hn]; done))
                          | (refine ⟨?_, hH⟩; (simp [lput, done, hn]; done))
                          | (refine ⟨(), ?_, hH⟩; (simp [lput, done, hn]; rfl))
                          | (refine ⟨?_, hH⟩; (simp [lput, done, hn]; rfl))
                          | (refine ⟨(), ?_, hH⟩; (simp [lput, done]; done))
                          | (refine ⟨?_, hH⟩; (simp [lput, done]; done))
                          | (refine ⟨(), ?_, hH⟩; (simp [lput, done]; rfl))
                          | (refine ⟨?_, hH⟩; (simp [lput, done]; rfl))
                    case hq_k2 =>
                      clear hH
                      intro d _ w1 hd hJ
                      simp only [allDone, List.length_cons, List.length_nil, Nat.reduceAdd, and_true] at hd
                      have hH := hJ; clear hJ
                      simp only [lput, List.set, hd, cond_true]
                      clear hd
                      have cz : w1.cell? ⟨w.heap.size + 1, z.toNat, none⟩ = some (.bool rz) := by rw [hH.c1, bls_get _ _ _ hz10, HRZ0.out]
                      have f1 := hH.f1
                      cases rz with
                      | true =>
                        have HRZ := hid HRZ0.out
                        clear HRZ0
                        go_wp2
                        go_roundw
                        case rel => exact ⟨2 + 1, c, R2, by omega, by go_num, rfl, hH, HG, HP, HXY, hid (fun _ => HK.out (by omega))⟩
                        case measure => simp [intOf]
                      | false =>
                        have HRZ := hid HRZ0.out
                        clear HRZ0
                        go_wp2
                        go_roundw
                        case rel => exact ⟨2 + 1, true, withB R2 z.toNat, by omega, by go_num, rfl, hH.s1 _ _ (bls_step 10 R2 (withB R2 z.toNat) z.toNat true (fun j _ => rfl)), HGz, hid (HP.out.add HRZ.out hz10), hid ⟨withB_old HXY.out.1, withB_old HXY.out.2⟩, hid (fun _ => .inl rfl)⟩
                        case measure => simp [intOf]
                  · have HP2 := hid (HP.out.stepy (fun _ _ => HK.out (by omega)))
                    clear HP
                    go_wp2
                    go_roundw
                    case rel => exact ⟨y + 1, c, R2, by omega, by go_num, rfl, hH, HG, HP2⟩
                    case measure => simp [intOf]; omega
              · have HP2 := hid (HP.out.stepy (fun a b => absurd ⟨a, b⟩ hboth))
                clear HP
                obtain ⟨rx, hrx⟩ : ∃ rx, R1 x = rx := ⟨_, rfl⟩
                obtain ⟨ry, hry⟩ : ∃ ry, R1 y = ry := ⟨_, rfl⟩
                have cx : wr.cell? ⟨w.heap.size + 1, x, none⟩ = some (.bool rx) := by rw [hH.c1, bls_get _ _ _ hx10', hrx]
                have cy : wr.cell? ⟨w.heap.size + 1, y, none⟩ = some (.bool ry) := by rw [hH.c1, bls_get _ _ _ hy10', hry]
                rw [hrx, hry] at hboth
                clear hrx hry
                have hcase : rx = false ∨ (rx = true ∧ ry = false) := by
                  cases rx <;> cases ry <;> simp at hboth ⊢
                clear hboth
                rcases hcase with rfl | ⟨rfl, rfl⟩
                all_goals
                  go_wp2_with (first | fail | (refine wpL_guard rfl rfl ?_))
                  go_roundw
                  case rel => exact ⟨y + 1, c, R1, by omega, by go_num, rfl, hH, HG, HP2⟩
                  case measure => simp [intOf]; omega
            · obtain rfl : y = N := by omega
              have HP2 := hid HP.out.stepx
              clear HP
              go_wp2
              go_roundw
              case rel => exact ⟨x + 1, c, R1, by omega, by go_num, rfl, hH, HG, HP2⟩
              case measure => simp [intOf]; omega
        · obtain rfl : x = N := by omega
          have HD := hid HP.out.done
          go_wp2
          go_roundw
          case rel => exact ⟨c, R1, rfl, hH, HG, HD⟩
          case measure =>
            rw [cellC_of hH.h1, HK0.out]
            exact HP.out.meas
end Go.Proofs.Ytbdcbmennblcdab
namespace Go.Proofs.Ytbdcbmennblcdab
set_option linter.unusedVariables false
set_option linter.unusedSimpArgs false
open Go.RowKit
/-- The number at i is an element, and greater than the one before it. -/
def OkAt (f : Nat → Int) (N i : Nat) : Prop := 0 ≤ f i ∧ f i < N ∧ (0 < i → f (i - 1) < f i)
/-- The first of the n numbers at which the list is none of elements in ascending order. -/
structure BadA (f : Nat → Int) (N n k0 : Nat) : Prop where
  lt : k0 < n
  lo : ∀ i, i < k0 → OkAt f N i
  bad : ¬ OkAt f N k0
theorem bad_or_ok (f : Nat → Int) (N : Nat) : ∀ n, (∃ k0, BadA f N n k0) ∨ ∀ i, i < n → OkAt f N i
  | 0 => .inr fun i hi => by omega
  | n + 1 => by
    rcases bad_or_ok f N n with ⟨k0, h⟩ | h
    · exact .inl ⟨k0, by have := h.lt; omega, h.lo, h.bad⟩
    · by_cases hn : OkAt f N n
      · refine .inr fun i hi => ?_
        by_cases e : i = n
        · subst e; exact hn
        · exact h i (by omega)
      · exact .inl ⟨n, by omega, h, hn⟩
theorem ok_ge {f : Nat → Int} {N n : Nat} (h : ∀ i, i < n → OkAt f N i) : ∀ i, i < n → (i : Int) ≤ f i
  | 0, hi => by have := (h 0 hi).1; omega
  | i + 1, hi => by
    have h1 := ok_ge h i (by omega)
    have h2 := (h (i + 1) hi).2.2 (by omega)
    simp only [Nat.add_sub_cancel] at h2
    omega
theorem ok_len {f : Nat → Int} {N n : Nat} (h : ∀ i, i < n → OkAt f N i) : n ≤ N := by
  by_cases h0 : n = 0
  · omega
  · have h1 := ok_ge h (n - 1) (by omega)
    have h2 := (h (n - 1) (by omega)).2.1
    omega
/-- The number before i, or -1. -/
def lastF (f : Nat → Int) (i : Nat) : Int := if i = 0 then -1 else f (i - 1)
theorem lastF_zero (f : Nat → Int) : lastF f 0 = -1 := rfl
theorem lastF_succ (f : Nat → Int) (i : Nat) : lastF f (i + 1) = f i := by unfold lastF; rw [if_neg (by omega), Nat.add_sub_cancel]
theorem okAt_last {f : Nat → Int} {N k : Nat} (h : ∀ i, i < k → OkAt f N i) : OkAt f N k ↔ lastF f k < f k ∧ f k < N := by
  unfold OkAt lastF
  by_cases h0 : k = 0
  · subst h0; simp only [if_true]
    constructor
    · rintro ⟨a, b, _⟩; exact ⟨by omega, b⟩
    · rintro ⟨a, b⟩; exact ⟨by omega, b, fun h => by omega⟩
  · have h1 := (h (k - 1) (by omega)).1
    rw [if_neg h0]
    constructor
    · rintro ⟨_, b, c⟩; exact ⟨c (by omega), b⟩
    · rintro ⟨a, b⟩; exact ⟨by omega, b, fun _ => a⟩
theorem lastF_lo {f : Nat → Int} {N k : Nat} (h : ∀ i, i < k → OkAt f N i) : -1 ≤ lastF f k := by
  unfold lastF
  by_cases h0 : k = 0
  · rw [if_pos h0]; omega
  · rw [if_neg h0]; have := (h (k - 1) (by omega)).1; omega
/-- j is one of the first k numbers. -/
def inL (f : Nat → Int) (k : Nat) : Nat → Bool := fun j => (List.range k).any fun i => decide (f i = (j : Int))
theorem inL_iff {f : Nat → Int} {k j : Nat} : inL f k j = true ↔ ∃ i, i < k ∧ f i = (j : Int) := by simp [inL]
theorem inL_zero (f : Nat → Int) : inL f 0 = fun _ => false := by funext j; simp [inL]
theorem inL_step {f : Nat → Int} {k z : Nat} (hz : f k = (z : Int)) (j : Nat) : inL f (k + 1) j = if j = z then true else inL f k j := by
  simp only [inL, List.range_succ, List.any_append, List.any_cons, List.any_nil, Bool.or_false]
  by_cases e : j = z
  · subst e; rw [if_pos rfl]; simp [hz]
  · rw [if_neg e, hz]
    have : decide ((z : Int) = (j : Int)) = false := by simp; omega
    rw [this, Bool.or_false]
theorem inL_out {f : Nat → Int} {N n : Nat} (h : ∀ i, i < n → OkAt f N i) {j : Nat} (hj : N ≤ j) : inL f n j = false := by
  cases e : inL f n j with
  | false => rfl
  | true =>
    obtain ⟨i, hi, h1⟩ := inL_iff.1 e
    have := (h i hi).2.1
    omega
theorem inL_congr {f f' : Nat → Int} {n : Nat} (h : ∀ i, i < n → f i = f' i) : inL f n = inL f' n := by
  funext j
  rw [Bool.eq_iff_iff, inL_iff, inL_iff]
  constructor
  · rintro ⟨i, hi, e⟩; exact ⟨i, hi, (h i hi).symm.trans e⟩
  · rintro ⟨i, hi, e⟩; exact ⟨i, hi, (h i hi).trans e⟩
/-- Are the ten the same? -/
def eqL (a b : Nat → Bool) : Bool := (List.range 10).all fun i => a i == b i
theorem eqL_iff {a b : Nat → Bool} : eqL a b = true ↔ ∀ i, i < 10 → a i = b i := by simp [eqL]
section
variable {P : Program}
theorem run_part_boolS (w : World) (E i : Nat) (cs : Array Value) (v : Value) (hE : P.underlying E = some .bool) (hv : cs[i]? = some v) : (part E cs i).run P w = .ok v w := by
  unfold part isAgg
  simp [Sem.run_bind, run_underlying hE, hv]
theorem run_equalIn_boolS (w : World) (d E : Nat) (a b : Bool) (hE : P.underlying E = some .bool) : (Op.equalIn (d + 1) E (.bool a) (.bool b)).run P w = .ok (a == b) w := by
  simp [Op.equalIn, Sem.run_bind, run_underlying hE]
theorem run_eq_bools (w : World) (d T E : Nat) (xs ys : Array Value) (a b : Nat → Bool) (hT : P.underlying T = some (.array 10 E)) (hE : P.underlying E = some .bool) (hs : (P.info? E).map (·.size) = some 1)
    (hx : xs = bls 10 a) (hy : ys = bls 10 b) : (Op.equalIn (d + 2) T (.agg xs) (.agg ys)).run P w = .ok (eqL a b) w := by
  subst hx; subst hy
  have hsz : (sizeOf E).run P w = .ok 1 w := by
    cases hq : P.info? E with
    | none => simp [hq] at hs
    | some i => have : i.size = 1 := by simpa [hq] using hs
                simp [sizeOf, typeInfo, hq, this]
  refine run_eq_arr w (d + 1) T E 10 1 _ _ _ hT hsz fun i hi => ?_
  refine ⟨.bool (a i), .bool (b i), ?_, ?_, ?_⟩
  · rw [Nat.mul_one]; exact run_part_boolS w E i _ _ hE (bls_get 10 a i hi)
  · rw [Nat.mul_one]; exact run_part_boolS w E i _ _ hE (bls_get 10 b i hi)
  · exact run_equalIn_boolS w d E _ _ hE
variable {ops : Array Oper} {rest : List Oper} {o : Oper} {a : Act} {w : World} {Q : Exit → Act → World → Prop}
theorem wpL_eqAgg {T T' : Nat} {x y : Operand} {xs ys : Array Value} {b : Bool} (hgd : o.guard = none) (ho : o.op = .binOp .eql T x y T') (hx : a.eval x = .agg xs) (hy : a.eval y = .agg ys) (hG : P.eqGuardType P.depth T = false)
    (he : (Op.equalIn Op.maxDepth T (.agg xs) (.agg ys)).run P w = .ok b w) (h : wpList P ops Q rest (a.put o.dst (.bool b)) w) : wpList P ops Q (o :: rest) a w :=
  wpList_plain hgd fun K hK => by
    have hrun : (do eqGuard .eql T x y (.agg xs) (.agg ys); binOp .eql T (.agg xs) (.agg ys) : Sem Value).run P w = .ok (.bool b) w := by
      simp [eqGuard, binOp, Op.equal, Sem.run_bind, hG, he]
    unfold Oper.wp execOp
    simp only [ho, hx, hy]
    rw [Sem.run_bind, hrun]
    exact hK _ _ h
end
end Go.Proofs.Ytbdcbmennblcdab
namespace Go.Proofs.Ytbdcbmennblcdab
set_option linter.unusedVariables false
set_option linter.unusedSimpArgs false
open Go.RowKit
theorem Row.drewS {w : World} {b n : Nat} {f : Nat → Int} (h : Row w b n f) (m : Nat) : Row (w.drewN m) b n f := h.block rfl
theorem Row.setOther {w : World} {b n gb i : Nat} {f : Nat → Int} {v : Value} (h : Row w b n f) (hne : b ≠ gb) : Row (w.setCell ⟨gb, i, none⟩ v) b n f := h.block (heap_setCell_other _ _ _ _ (by simpa using hne))
theorem builtMe : Try.prog.built 75 [] = some (bls 10 fun _ => false) := by kernel_rfl
theorem l01InM_yes (n : Int) (M : Nat) (h : 0 ≤ n ∧ n < M) (w : World) : Calls Try.prog 95 #[.int .i64 n, .int .i64 0, .int .i64 ((M : Int) - 1)] w fun e w' => e = .returned (.bool true) ∧ w' = w := by
  refine (l01In_any n 0 ((M : Int) - 1) w).mono ?_
  rintro e w' ⟨rfl, rfl⟩
  exact ⟨by rw [inB_true h.1 (by omega)], rfl⟩
theorem l01InM_no (n : Int) (M : Nat) (h : ¬ (0 ≤ n ∧ n < M)) (w : World) : Calls Try.prog 95 #[.int .i64 n, .int .i64 0, .int .i64 ((M : Int) - 1)] w fun e w' => e = .returned (.bool false) ∧ w' = w := by
  refine (l01In_any n 0 ((M : Int) - 1) w).mono ?_
  rintro e w' ⟨rfl, rfl⟩
  exact ⟨by rw [inB_false (by omega)], rfl⟩
set_option maxRecDepth 20000 in
set_option maxHeartbeats 4000000 in
theorem l05Set_any (N b n c : Nat) (f : Nat → Int) (w : World) (h10 : N ≤ 10) (hR : Row w b n f) (hok : ∀ i, i < n → OkAt f N i) :
    Calls Try.prog 112 #[.slice (some ⟨b, 0, none⟩) n c] w fun e w' => e = .returned (.agg (bls 10 (inL f n))) ∧ Below w.heap.size w w' := by
  have hn := ok_len hok
  have HO := hid hok
  clear hok
  have hbl := hR.lt
  have hH := Has.start2 w (bls 10 fun _ => false) (bls 10 fun _ => false) 74 74
  replace hR := hid ((hR.alloc (.cells (bls 10 fun _ => false) 74)).alloc (.cells (bls 10 fun _ => false) 74))
  go_enter Try.func112, Try.ntmps112
  go_wp2_with (first | fail | (refine wpL_alloc rfl rfl zeroBo ?_; intro g0 hg0; (try simp at hg0); subst hg0) | (refine wpL_build rfl rfl builtBo ?_) | (refine wpL_storeSame rfl rfl rfl rfl rowBo hH.h1 (bls_ok _ _) ?_))
  go_loopw [4] (fun i wr => ∃ k : Nat, k ≤ n ∧ i = .int .i64 k ∧ Has w wr [(bls 10 fun _ => false, 74), (bls 10 (inL f k), 74)] ∧ Hid (Row wr b n f)) (fun i _ => 20 - (intOf i).toNat)
  case atStart => exact ⟨0, by omega, rfl, by rw [inL_zero]; exact hH, hR⟩
  case round =>
    clear hH hR
    obtain ⟨k, hk, rfl, hH, hR⟩ := hrel
    by_cases hlt : k < n
    · obtain ⟨z, hz⟩ : ∃ z : Nat, f k = z := ⟨(f k).toNat, by have := (HO.out k hlt).1; omega⟩
      have hz10 : z < 10 := by have := (HO.out k hlt).2.1; omega
      have hz1 : (z : Int) < 10 := by omega
      have cl := hR.out.cell hlt
      rw [hz] at cl
      have HZ := hid hz
      clear hz
      have hkn : (k : Int) < n := by omega
      obtain ⟨v1, c1⟩ : ∃ v, wr.cell? ⟨w.heap.size + 1, z, none⟩ = some v := ⟨_, by rw [hH.c1, bls_get _ _ _ hz10]⟩
      have f1 := hH.f1
      go_wp2
      go_roundw
      case rel => exact ⟨k + 1, by omega, by go_num, hH.s1 _ _ (bls_step 10 _ _ z true (fun j _ => inL_step HZ.out j)), hid (hR.out.setOther (by omega))⟩
      case measure => simp [intOf]; omega
    · obtain rfl : k = n := by omega
      go_wp2_with (first | fail | (refine wpL_loadFull rfl rfl rfl rowBo hH.h1 (bls_size _ _) ?_) | (refine wpL_storeFull rfl rfl rfl rfl rowBo hH.h0 (bls_size _ _) (bls_ok _ _) ?_))
      exact ret_c rfl rfl hH.r0.h0 rowBo (bls_size _ _) ⟨rfl, hH.r0.below⟩
set_option maxRecDepth 20000 in
set_option maxHeartbeats 4000000 in
theorem l05Told_any (f : Nat → Bool) (w : World) :
    Calls Try.prog 114 #[.agg (bls 10 f)] w (GotV (selL f 10) w) := by
  have hH := Has.start1 w (bls 10 f) 74
  go_enter Try.func114, Try.ntmps114
  go_wp2
  go_loopw [3, 4] (fun v i wr => ∃ k : Nat, k ≤ 10 ∧ i = .int .i64 k ∧ Has w wr [(bls 10 f, 74)] ∧ Hid (OL wr (w.heap.size + 1) v (selL f k))) (fun _ i _ => 20 - (intOf i).toNat)
  case atStart => exact ⟨0, by omega, rfl, hH.alloc _, hid (by rw [show selL f 0 = [] from rfl]; exact OL.fresh _ (by simp) (by simp))⟩
  case round =>
    clear hH
    obtain ⟨k, hk, rfl, hH, hO⟩ := hrel
    have hsz := hH.size
    simp only [List.length_cons, List.length_nil] at hsz
    have hlen := selL_len f k
    by_cases hlt : k < 10
    · have hk1 : (k : Int) < 10 := by omega
      obtain ⟨fk, hfk⟩ : ∃ fk, f k = fk := ⟨_, rfl⟩
      have c0 : wr.cell? ⟨w.heap.size, k, none⟩ = some (.bool fk) := by rw [hH.c0, bls_get _ _ _ hlt, hfk]
      have HE := hid hfk
      clear hfk
      cases fk with
      | true =>
        go_wp2_with (first | fail | (refine wpL_appI (v := u3) (n := (selL f k).length) (base := w.heap.size + 1) (z := (k : Int)) rfl (by rfl) (by rfl) (by rfl) (World.ownsRow.alloc hO.out _) (by simp) (by omega) (by simp; omega) ?_; intro r cap w2 how hg hor hlt3; have hO2 := hid (OL.add how); replace hH := (hH.alloc _).grown hg (fun x hx => by have := (World.ownsRow.lt hO.out x hx).1; simp; omega); rw [← selL_yes HE.out] at hO2; clear how hg hor hlt3))
        go_roundw
        case rel => exact ⟨k + 1, by omega, by go_num, hH, hO2⟩
        case measure => simp [intOf]; omega
      | false =>
        go_wp2
        go_roundw
        case rel => exact ⟨k + 1, by omega, by go_num, hH, by rw [selL_no HE.out]; exact hO⟩
        case measure => simp [intOf]; omega
    · obtain rfl : k = 10 := by omega
      go_wp2
      go_ret
      exact ⟨_, rfl, hH.below, hO.out.lower (by omega)⟩
set_option maxRecDepth 20000 in
set_option maxHeartbeats 4000000 in
theorem l05List_ok (N b n c : Nat) (g : Nat → UInt8) (f : Nat → Int) (w : World) (h1 : 1 ≤ N) (h10 : N ≤ 10) (hnl : n ≤ 1048576) (hR : Row w b n f) (hok : ∀ i, i < n → OkAt f N i) :
    Calls Try.prog 111 #[.agg (sqc N g), .slice (some ⟨b, 0, none⟩) n c] w fun e w' => e = .returned (.bool true) ∧ Below w.heap.size w w' := by
  have HO := hid hok
  have hn := ok_len hok
  clear hok
  have hN10 : (N : Int) ≤ 10 := by omega
  have hN1 : 1 ≤ (N : Int) := by omega
  have hnl' : (n : Int) ≤ 1048576 := by omega
  have hH := Has.start1 w (sqc N g) 31
  replace hR := hid (hR.alloc (.cells (sqc N g) 31))
  go_enter Try.func111, Try.ntmps111
  go_wp2
  go_loopw [5] (fun i wr => ∃ k : Nat, k ≤ n ∧ i = .int .i64 k ∧ Has w wr [(sqc N g, 31)] ∧ Hid (Row wr b n f)) (fun i _ => 1048580 - (intOf i).toNat)
  case atStart => exact ⟨0, by omega, rfl, hH, hR⟩
  case round =>
    clear hH hR
    obtain ⟨k, hk, rfl, hH, hR⟩ := hrel
    by_cases hlt : k < n
    · have hkn : k < n := by omega
      have hn0 : 0 < n := by omega
      have hkn' : (k : Int) < n := by omega
      by_cases hk00 : k = 0
      · obtain rfl : k = 0 := hk00
        have hC := l01InM_yes (f 0) N ⟨(HO.out 0 hlt).1, (HO.out 0 hlt).2.1⟩
        have cl := hR.out.cell (i := 0) hn0
        have cz : wr.cell? ⟨w.heap.size, 0, none⟩ = some (.int .i64 N) := by rw [hH.c0, sqc_get0]
        go_wp2
        go_quiet ((go_at_call 95; exact Calls.quiet_of_same (hC _)))
        go_wp2
        go_roundw
        case rel => exact ⟨0 + 1, by omega, by first | rfl | go_num, hH.drewN _, hid (hR.out.drewS _)⟩
        case measure => simp [intOf]
      · obtain ⟨j, rfl⟩ : ∃ j, k = j + 1 := ⟨k - 1, by omega⟩
        have hC := l01InM_yes (f (j + 1)) N ⟨(HO.out (j + 1) hlt).1, (HO.out (j + 1) hlt).2.1⟩
        have cl := hR.out.cell (i := j + 1) hkn
        have cp := hR.out.cell (i := j) (by omega)
        have cz : wr.cell? ⟨w.heap.size, 0, none⟩ = some (.int .i64 N) := by rw [hH.c0, sqc_get0]
        have hord : f j < f (j + 1) := by have := (HO.out (j + 1) hlt).2.2 (by omega); simpa using this
        obtain ⟨p, hp⟩ : ∃ p, f j = p := ⟨_, rfl⟩
        obtain ⟨q, hqq⟩ : ∃ q, f (j + 1) = q := ⟨_, rfl⟩
        rw [hp] at cp
        rw [hqq] at cl hC
        rw [hp, hqq] at hord
        clear hp hqq
        have hord2 : ¬ q ≤ p := by omega
        have e1 : IntKind.i64.wrap (((j + 1 : Nat) : Int) - 1) = (j : Int) := by rw [IntWalk.i64_in _ (by omega)]; first | done | omega
        have e2 : IntKind.i64.wrap ((N : Int) - 1) = (N : Int) - 1 := IntWalk.i64_in _ (by omega)
        have e3 : (((j + 1 : Nat) : Int)) > 0 := by omega
        go_wp2
        go_quiet ((go_at_call 95; exact Calls.quiet_of_same (hC _)))
        go_wp2
        go_roundw
        case rel => exact ⟨j + 1 + 1, by omega, by go_num, hH.drewN _, hid (hR.out.drewS _)⟩
        case measure => simp [intOf]; omega
    · obtain rfl : k = n := by omega
      go_wp2
      go_ret
      exact ⟨rfl, hH.below⟩
set_option maxRecDepth 20000 in
set_option maxHeartbeats 4000000 in
theorem l05List_bad (N b n c k0 : Nat) (g : Nat → UInt8) (f : Nat → Int) (w : World) (h1 : 1 ≤ N) (h10 : N ≤ 10) (hnl : n ≤ 1048576) (hR : Row w b n f) (hB : BadA f N n k0) :
    Calls Try.prog 111 #[.agg (sqc N g), .slice (some ⟨b, 0, none⟩) n c] w fun e w' => e = .returned (.bool false) ∧ Below w.heap.size w w' := by
  have HO := hid hB.lo
  have HBad := hid hB.bad
  have hk0 := hB.lt
  clear hB
  have hN10 : (N : Int) ≤ 10 := by omega
  have hN1 : 1 ≤ (N : Int) := by omega
  have hnl' : (n : Int) ≤ 1048576 := by omega
  have hH := Has.start1 w (sqc N g) 31
  replace hR := hid (hR.alloc (.cells (sqc N g) 31))
  go_enter Try.func111, Try.ntmps111
  go_wp2
  go_loopw [5] (fun i wr => ∃ k : Nat, k ≤ k0 ∧ i = .int .i64 k ∧ Has w wr [(sqc N g, 31)] ∧ Hid (Row wr b n f)) (fun i _ => 1048580 - (intOf i).toNat)
  case atStart => exact ⟨0, by omega, rfl, hH, hR⟩
  case round =>
    clear hH hR
    obtain ⟨k, hk, rfl, hH, hR⟩ := hrel
    by_cases hlt : k < k0
    · have hkn : k < n := by omega
      have hn0 : 0 < n := by omega
      have hkn' : (k : Int) < n := by omega
      by_cases hk00 : k = 0
      · obtain rfl : k = 0 := hk00
        have hC := l01InM_yes (f 0) N ⟨(HO.out 0 hlt).1, (HO.out 0 hlt).2.1⟩
        have cl := hR.out.cell (i := 0) hn0
        have cz : wr.cell? ⟨w.heap.size, 0, none⟩ = some (.int .i64 N) := by rw [hH.c0, sqc_get0]
        go_wp2
        go_quiet ((go_at_call 95; exact Calls.quiet_of_same (hC _)))
        go_wp2
        go_roundw
        case rel => exact ⟨0 + 1, by omega, by first | rfl | go_num, hH.drewN _, hid (hR.out.drewS _)⟩
        case measure => simp [intOf]
      · obtain ⟨j, rfl⟩ : ∃ j, k = j + 1 := ⟨k - 1, by omega⟩
        have hC := l01InM_yes (f (j + 1)) N ⟨(HO.out (j + 1) hlt).1, (HO.out (j + 1) hlt).2.1⟩
        have cl := hR.out.cell (i := j + 1) hkn
        have cp := hR.out.cell (i := j) (by omega)
        have cz : wr.cell? ⟨w.heap.size, 0, none⟩ = some (.int .i64 N) := by rw [hH.c0, sqc_get0]
        have hord : f j < f (j + 1) := by have := (HO.out (j + 1) hlt).2.2 (by omega); simpa using this
        obtain ⟨p, hp⟩ : ∃ p, f j = p := ⟨_, rfl⟩
        obtain ⟨q, hqq⟩ : ∃ q, f (j + 1) = q := ⟨_, rfl⟩
        rw [hp] at cp
        rw [hqq] at cl hC
        rw [hp, hqq] at hord
        clear hp hqq
        have hord2 : ¬ q ≤ p := by omega
        have e1 : IntKind.i64.wrap (((j + 1 : Nat) : Int) - 1) = (j : Int) := by rw [IntWalk.i64_in _ (by omega)]; first | done | omega
        have e2 : IntKind.i64.wrap ((N : Int) - 1) = (N : Int) - 1 := IntWalk.i64_in _ (by omega)
        have e3 : (((j + 1 : Nat) : Int)) > 0 := by omega
        go_wp2
        go_quiet ((go_at_call 95; exact Calls.quiet_of_same (hC _)))
        go_wp2
        go_roundw
        case rel => exact ⟨j + 1 + 1, by omega, by go_num, hH.drewN _, hid (hR.out.drewS _)⟩
        case measure => simp [intOf]; omega
    · obtain rfl : k = k0 := by omega
      have hkn : k < n := by omega
      have hn0 : 0 < n := by omega
      have hkn' : (k : Int) < n := by omega
      have cz : wr.cell? ⟨w.heap.size, 0, none⟩ = some (.int .i64 N) := by rw [hH.c0, sqc_get0]
      have e2 : IntKind.i64.wrap ((N : Int) - 1) = (N : Int) - 1 := IntWalk.i64_in _ (by omega)
      by_cases hin : 0 ≤ f k ∧ f k < N
      · have hk1 : 0 < k := by
          rcases Nat.eq_zero_or_pos k with e | e
          · exact absurd ⟨hin.1, hin.2, fun h => by omega⟩ HBad.out
          · exact e
        have hle : f k ≤ f (k - 1) := by
          by_cases e : f k ≤ f (k - 1)
          · exact e
          · exact absurd ⟨hin.1, hin.2, fun _ => by omega⟩ HBad.out
        clear HBad HO
        obtain ⟨j, rfl⟩ : ∃ j, k = j + 1 := ⟨k - 1, by omega⟩
        simp only [Nat.add_sub_cancel] at hle
        have hC := l01InM_yes (f (j + 1)) N hin
        have cl := hR.out.cell (i := j + 1) hkn
        have cp := hR.out.cell (i := j) (by omega)
        obtain ⟨p, hp⟩ : ∃ p, f j = p := ⟨_, rfl⟩
        obtain ⟨q, hqq⟩ : ∃ q, f (j + 1) = q := ⟨_, rfl⟩
        rw [hp] at cp
        rw [hqq] at cl hC hin
        rw [hp, hqq] at hle
        clear hp hqq hin
        have e1 : IntKind.i64.wrap (((j + 1 : Nat) : Int) - 1) = (j : Int) := by rw [IntWalk.i64_in _ (by omega)]; first | done | omega
        have e3 : (((j + 1 : Nat) : Int)) > 0 := by omega
        go_wp2
        go_quiet ((go_at_call 95; exact Calls.quiet_of_same (hC _)))
        go_wp2
        go_ret
        exact ⟨rfl, (hH.drewN _).below⟩
      · have hC := l01InM_no (f k) N hin
        have cl := hR.out.cell hkn
        clear hin HBad HO
        go_wp2
        go_quiet ((go_at_call 95; exact Calls.quiet_of_same (hC _)))
        go_wp2
        go_ret
        exact ⟨rfl, (hH.drewN _).below⟩
set_option maxRecDepth 20000 in
set_option maxHeartbeats 1000000 in
theorem l05Both_no (o : Int) (g : Nat → UInt8) (v : Value) (w : World) (hs : loopB o g = false) :
    Calls Try.prog 70 #[.agg (sqc o g), v] w fun e w' => e = .returned (.int .i64 1) ∧ Below w.heap.size w w' := by
  have hH := Has.start1 w (sqc o g) 31
  go_enter Try.func70, Try.ntmps70
  go_wp2_with (first | fail | (refine wpL_loadFull rfl rfl rfl rowSq hH.h0 (sqc_size _ _) ?_) | (go_at_call 65; refine (l01Loop_any o g _).mono ?_; rintro e w2 ⟨rfl, hb⟩; replace hH := hH.call' hb; clear hb; rw [hs]))
  go_ret
  exact ⟨rfl, hH.below⟩
set_option maxRecDepth 20000 in
set_option maxHeartbeats 1000000 in
theorem l05Both_by (N b n c : Nat) (g : Nat → UInt8) (f : Nat → Int) (r : Bool) (w : World) (hl : loopB (N : Int) g = true) (hR : Row w b n f)
    (hC : Hid (∀ w, Row w b n f → Calls Try.prog 111 #[.agg (sqc N g), .slice (some ⟨b, 0, none⟩) n c] w fun e w' => e = .returned (.bool r) ∧ Below w.heap.size w w')) :
    Calls Try.prog 70 #[.agg (sqc N g), .slice (some ⟨b, 0, none⟩) n c] w fun e w' => e = .returned (.int .i64 (bif r then 0 else 2)) ∧ Below w.heap.size w w' := by
  have hH := Has.start1 w (sqc N g) 31
  replace hR := hid (hR.alloc (.cells (sqc N g) 31))
  cases r
  all_goals
    go_enter Try.func70, Try.ntmps70
    go_wp2_with (first | fail | (refine wpL_loadFull rfl rfl rfl rowSq hH.h0 (sqc_size _ _) ?_) | (go_at_call 65; refine (l01Loop_any N g _).mono ?_; rintro e w2 ⟨rfl, hb⟩; replace hH := hH.call' hb; replace hR := hid (hR.out.below hb); clear hb; rw [hl]) | (go_at_call 111; refine (hC.out _ hR.out).mono ?_; rintro e w3 ⟨rfl, hb⟩; replace hH := hH.call' hb; clear hb))
    go_ret
    exact ⟨rfl, hH.below⟩
set_option maxRecDepth 20000 in
set_option maxHeartbeats 1000000 in
theorem setOf_no (o : Int) (g : Nat → UInt8) (v : Value) (w : World) (hs : loopB o g = false) :
    Calls Try.prog 61 #[.agg (sqc o g), v] w fun e w' => e = .returned (.tuple #[.agg (bls 10 fun _ => false), .int .i64 1]) ∧ Below w.heap.size w w' := by
  have hH := Has.start2 w (sqc o g) (bls 10 fun _ => false) 31 75
  go_enter Try.func61, Try.ntmps61
  go_wp2_with (first | fail | (refine wpL_alloc rfl rfl zeroMe ?_; intro g0 hg0; (try simp at hg0); subst hg0) | (refine wpL_loadFull rfl rfl rfl rowSq hH.h0 (sqc_size _ _) ?_) | (go_at_call 93; refine (IsLoop_any o g _).mono ?_; rintro e w2 ⟨rfl, hb⟩; replace hH := hH.call' hb; clear hb; rw [hs]) | (refine wpL_build rfl rfl builtMe ?_) | (refine wpL_storeSame rfl rfl rfl rfl rowMe hH.h1 (bls_ok _ _) ?_))
  exact ret_ct rfl rfl rfl hH.h1 rowMe (bls_size _ _) ⟨rfl, hH.below⟩
set_option maxRecDepth 20000 in
set_option maxHeartbeats 4000000 in
theorem setOf_ok (N b n c : Nat) (g : Nat → UInt8) (f : Nat → Int) (w : World) (hL : IsLp N g) (hlp : loopB (N : Int) g = true) (hnl : n ≤ 1048576) (hR : Row w b n f) (hok : ∀ i, i < n → OkAt f N i) :
    Calls Try.prog 61 #[.agg (sqc N g), .slice (some ⟨b, 0, none⟩) n c] w fun e w' => e = .returned (.tuple #[.agg (bls 10 (inL f n)), .int .i64 0]) ∧ Below w.heap.size w w' := by
  have HO := hid hok
  clear hok
  have h1 := hL.sq.lo
  have h10 := hL.sq.hi
  have hN10 : (N : Int) ≤ 10 := by omega
  have hnl' : (n : Int) ≤ 1048576 := by omega
  clear hL
  have hH := Has.start2 w (sqc N g) (bls 10 fun _ => false) 31 75
  replace hR := hid ((hR.alloc (.cells (sqc N g) 31)).alloc (.cells (bls 10 fun _ => false) 75))
  go_enter Try.func61, Try.ntmps61
  go_wp2_with (first | fail | (refine wpL_allocN (o := ⟨some 6, _, _, _, _, _⟩) rfl rfl zeroMe ?_; intro gb w4 hgb hl4 hb; have hlo : w.heap.size + 2 ≤ gb := (by have := hH.size; simp only [List.length_cons, List.length_nil] at this; omega); have hbb : b < gb := (by have := hR.out.lt; omega); replace hH := hH.call' hb; replace hR := hid (hR.out.below hb); clear hb hl4) | (refine wpL_alloc rfl rfl zeroMe ?_; intro g0 hg0; (try simp at hg0); subst hg0) | (refine wpL_loadFull rfl rfl rfl rowSq hH.h0 (sqc_size _ _) ?_) | (go_at_call 93; refine (IsLoop_any N g _).mono ?_; rintro e w2 ⟨rfl, hb⟩; replace hH := hH.call' hb; replace hR := hid (hR.out.below hb); clear hb; rw [hlp]))
  go_loopw [7, 16] (fun l i wr => ∃ k : Nat, k ≤ n ∧ i = .int .i64 k ∧ l = .int .i64 (lastF f k) ∧ Has w wr [(sqc N g, 31), (bls 10 fun _ => false, 75)] ∧ holds wr gb (bls 10 (inL f k)) 75 ∧ Hid (Row wr b n f)) (fun _ i _ => 1048580 - (intOf i).toNat)
  case atStart => exact ⟨0, by omega, rfl, rfl, hH, by rw [inL_zero]; exact hgb, hR⟩
  case round =>
    clear hH hR hgb
    obtain ⟨k, hk, rfl, rfl, hH, hgb, hR⟩ := hrel
    have cz : wr.cell? ⟨w.heap.size, 0, none⟩ = some (.int .i64 N) := by rw [hH.c0, sqc_get0]
    by_cases hlt : k < n
    · have hkn : k < n := by omega
      have hkn' : (k : Int) < n := by omega
      have hpre : ∀ i, i < k → OkAt f N i := fun i hi => HO.out i (by omega)
      obtain ⟨hz1, hz2⟩ := (okAt_last hpre).1 (HO.out k hlt)
      have hz0 := (HO.out k hlt).1
      obtain ⟨lv, hlv⟩ : ∃ lv, lastF f k = lv := ⟨_, rfl⟩
      rw [hlv] at hz1 ⊢
      clear hlv hpre
      have cl := hR.out.cell hkn
      have hs : lastF f (k + 1) = f k := lastF_succ f k
      have hin := fun (j : Nat) => inL_step (f := f) (k := k) (z := (f k).toNat) (by omega) j
      obtain ⟨z, hz⟩ : ∃ z : Nat, f k = z := ⟨(f k).toNat, by omega⟩
      rw [hz] at cl hz1 hz2 hz0 hs
      rw [hz, Int.toNat_natCast] at hin
      have HI := hid hin
      have HS := hid hs
      clear hz hin hs
      have hz10 : z < 10 := by omega
      have hz10' : (z : Int) < 10 := by omega
      have hn1 : ¬ (z : Int) ≤ lv := by omega
      have hn2 : ¬ (N : Int) ≤ (z : Int) := by omega
      obtain ⟨v1, c1⟩ : ∃ v, wr.cell? ⟨gb, z, none⟩ = some v := ⟨_, by rw [holds_cell hgb, bls_get _ _ _ hz10]⟩
      have f1 := holds_frozen hgb
      go_wp2_with (first | fail | (refine wpL_guard rfl rfl ?_))
      have hgb2 := holds_set hgb z (.bool true)
      rw [bls_step 10 _ (inL f (k + 1)) z true (fun j _ => HI.out j)] at hgb2
      go_roundw
      case rel => exact ⟨k + 1, by omega, by go_num, by rw [HS.out], hH.setCellAbove hlo z (.bool true), hgb2, hid (hR.out.setOther (by omega))⟩
      case measure => simp [intOf]; omega
    · obtain rfl : k = n := by omega
      go_wp2_with (first | fail | (refine wpL_loadFull rfl rfl rfl rowMe hgb (bls_size _ _) ?_) | (refine wpL_storeFull rfl rfl rfl rfl rowMe hH.h1 (bls_size _ _) (bls_ok _ _) ?_))
      exact ret_ct rfl rfl rfl hH.r1.h1 rowMe (bls_size _ _) ⟨rfl, hH.r1.below⟩
set_option maxRecDepth 20000 in
set_option maxHeartbeats 4000000 in
theorem setOf_bad (N b n c k0 : Nat) (g : Nat → UInt8) (f : Nat → Int) (w : World) (hL : IsLp N g) (hlp : loopB (N : Int) g = true) (hnl : n ≤ 1048576) (hR : Row w b n f) (hB : BadA f N n k0) :
    Calls Try.prog 61 #[.agg (sqc N g), .slice (some ⟨b, 0, none⟩) n c] w fun e w' => e = .returned (.tuple #[.agg (bls 10 fun _ => false), .int .i64 2]) ∧ Below w.heap.size w w' := by
  have HO := hid hB.lo
  have HBad := hid hB.bad
  have hk0 := hB.lt
  clear hB
  have h1 := hL.sq.lo
  have h10 := hL.sq.hi
  have hN10 : (N : Int) ≤ 10 := by omega
  have hnl' : (n : Int) ≤ 1048576 := by omega
  clear hL
  have hH := Has.start2 w (sqc N g) (bls 10 fun _ => false) 31 75
  replace hR := hid ((hR.alloc (.cells (sqc N g) 31)).alloc (.cells (bls 10 fun _ => false) 75))
  go_enter Try.func61, Try.ntmps61
  go_wp2_with (first | fail | (refine wpL_allocN (o := ⟨some 6, _, _, _, _, _⟩) rfl rfl zeroMe ?_; intro gb w4 hgb hl4 hb; have hlo : w.heap.size + 2 ≤ gb := (by have := hH.size; simp only [List.length_cons, List.length_nil] at this; omega); have hbb : b < gb := (by have := hR.out.lt; omega); replace hH := hH.call' hb; replace hR := hid (hR.out.below hb); clear hb hl4) | (refine wpL_alloc rfl rfl zeroMe ?_; intro g0 hg0; (try simp at hg0); subst hg0) | (refine wpL_loadFull rfl rfl rfl rowSq hH.h0 (sqc_size _ _) ?_) | (go_at_call 93; refine (IsLoop_any N g _).mono ?_; rintro e w2 ⟨rfl, hb⟩; replace hH := hH.call' hb; replace hR := hid (hR.out.below hb); clear hb; rw [hlp]))
  go_loopw [7, 16] (fun l i wr => ∃ k : Nat, k ≤ k0 ∧ i = .int .i64 k ∧ l = .int .i64 (lastF f k) ∧ Has w wr [(sqc N g, 31), (bls 10 fun _ => false, 75)] ∧ holds wr gb (bls 10 (inL f k)) 75 ∧ Hid (Row wr b n f)) (fun _ i _ => 1048580 - (intOf i).toNat)
  case atStart => exact ⟨0, by omega, rfl, rfl, hH, by rw [inL_zero]; exact hgb, hR⟩
  case round =>
    clear hH hR hgb
    obtain ⟨k, hk, rfl, rfl, hH, hgb, hR⟩ := hrel
    have cz : wr.cell? ⟨w.heap.size, 0, none⟩ = some (.int .i64 N) := by rw [hH.c0, sqc_get0]
    by_cases hlt : k < k0
    · have hkn : k < n := by omega
      have hkn' : (k : Int) < n := by omega
      have hpre : ∀ i, i < k → OkAt f N i := fun i hi => HO.out i (by omega)
      obtain ⟨hz1, hz2⟩ := (okAt_last hpre).1 (HO.out k hlt)
      have hz0 := (HO.out k hlt).1
      obtain ⟨lv, hlv⟩ : ∃ lv, lastF f k = lv := ⟨_, rfl⟩
      rw [hlv] at hz1 ⊢
      clear hlv hpre
      have cl := hR.out.cell hkn
      have hs : lastF f (k + 1) = f k := lastF_succ f k
      have hin := fun (j : Nat) => inL_step (f := f) (k := k) (z := (f k).toNat) (by omega) j
      obtain ⟨z, hz⟩ : ∃ z : Nat, f k = z := ⟨(f k).toNat, by omega⟩
      rw [hz] at cl hz1 hz2 hz0 hs
      rw [hz, Int.toNat_natCast] at hin
      have HI := hid hin
      have HS := hid hs
      clear hz hin hs
      have hz10 : z < 10 := by omega
      have hz10' : (z : Int) < 10 := by omega
      have hn1 : ¬ (z : Int) ≤ lv := by omega
      have hn2 : ¬ (N : Int) ≤ (z : Int) := by omega
      obtain ⟨v1, c1⟩ : ∃ v, wr.cell? ⟨gb, z, none⟩ = some v := ⟨_, by rw [holds_cell hgb, bls_get _ _ _ hz10]⟩
      have f1 := holds_frozen hgb
      go_wp2_with (first | fail | (refine wpL_guard rfl rfl ?_))
      have hgb2 := holds_set hgb z (.bool true)
      rw [bls_step 10 _ (inL f (k + 1)) z true (fun j _ => HI.out j)] at hgb2
      go_roundw
      case rel => exact ⟨k + 1, by omega, by go_num, by rw [HS.out], hH.setCellAbove hlo z (.bool true), hgb2, hid (hR.out.setOther (by omega))⟩
      case measure => simp [intOf]; omega
    · obtain rfl : k = k0 := by omega
      have hkn' : (k : Int) < n := by omega
      have cl := hR.out.cell hk0
      have hbad : ¬ (lastF f k < f k ∧ f k < N) := fun h => HBad.out ((okAt_last HO.out).2 h)
      obtain ⟨lv, hlv⟩ : ∃ lv, lastF f k = lv := ⟨_, rfl⟩
      obtain ⟨z, hz⟩ : ∃ z, f k = z := ⟨_, rfl⟩
      rw [hlv, hz] at hbad
      rw [hz] at cl
      rw [hlv]
      clear hlv hz
      by_cases hle : z ≤ lv
      · clear hbad
        go_wp2_with (first | fail | (refine wpL_guard rfl rfl ?_) | (refine wpL_build rfl rfl builtMe ?_) | (refine wpL_storeSame rfl rfl rfl rfl rowMe hH.h1 (bls_ok _ _) ?_))
        exact ret_ct rfl rfl rfl hH.h1 rowMe (bls_size _ _) ⟨rfl, hH.below⟩
      · have hge : (N : Int) ≤ z := by omega
        clear hbad
        go_wp2_with (first | fail | (refine wpL_guard rfl rfl ?_) | (refine wpL_build rfl rfl builtMe ?_) | (refine wpL_storeSame rfl rfl rfl rfl rowMe hH.h1 (bls_ok _ _) ?_))
        exact ret_ct rfl rfl rfl hH.h1 rowMe (bls_size _ _) ⟨rfl, hH.below⟩
end Go.Proofs.Ytbdcbmennblcdab
namespace Go.Proofs.Ytbdcbmennblcdab
set_option linter.unusedVariables false
set_option linter.unusedSimpArgs false
open Go.RowKit
theorem gdMe : Try.prog.eqGuardType Try.prog.depth 75 = false := by kernel_rfl
theorem gdBo : Try.prog.eqGuardType Try.prog.depth 74 = false := by kernel_rfl
theorem szBool : (Try.prog.info? 4).map (·.size) = some 1 := by kernel_rfl
theorem eqMe (a b : Nat → Bool) (w : World) : (Op.equalIn Op.maxDepth 75 (.agg (bls 10 a)) (.agg (bls 10 b))).run Try.prog w = .ok (eqL a b) w :=
  run_eq_bools w _ 75 4 _ _ a b Try.underlying75 Try.underlying4 szBool rfl rfl
theorem eqBo (a b : Nat → Bool) (w : World) : (Op.equalIn Op.maxDepth 74 (.agg (bls 10 a)) (.agg (bls 10 b))).run Try.prog w = .ok (eqL a b) w :=
  run_eq_bools w _ 74 4 _ _ a b Try.underlying74 Try.underlying4 szBool rfl rfl
set_option maxRecDepth 20000 in
set_option maxHeartbeats 4000000 in
theorem l05Sub_any (N b n c : Nat) (g : Nat → UInt8) (f : Nat → Int) (w : World) (hq : IsSq N g) (hR : Row w b n f) (hok : ∀ i, i < n → OkAt f N i) :
    Calls Try.prog 71 #[.agg (sqc N g), .slice (some ⟨b, 0, none⟩) n c] w fun e w' => e = .returned (.bool (eqL (clB g N (inL f n)) (inL f n))) ∧ Below w.heap.size w w' := by
  have HQ := hid hq
  have HO := hid hok
  have h10 := hq.hi
  clear hq hok
  have hH := Has.start1 w (sqc N g) 31
  replace hR := hid (hR.alloc (.cells (sqc N g) 31))
  go_enter Try.func71, Try.ntmps71
  go_wp2_with (first | fail | (go_at_call 112; refine (l05Set_any N b n c f _ h10 hR.out HO.out).mono ?_; rintro e w2 ⟨rfl, hb⟩; replace hH := hH.call' hb; clear hb hR) | (refine wpL_allocN (o := ⟨some 5, _, _, _, _, _⟩) rfl rfl zeroBo ?_; intro gb w4 hgb hl4 hb; have hlo : w.heap.size + 1 ≤ gb := (by have := hH.size; simp only [List.length_cons, List.length_nil] at this; omega); replace hH := hH.call' hb; clear hb hl4) | (refine wpL_storeN (x := .tmp 5) rfl rfl rfl rfl rowBo hgb (bls_size _ _) (bls_ok _ _) ?_; intro w5 hz hOo hT; replace hgb := hz; replace hH := hT _ _ hH hlo; clear hz hOo hT))
  refine wp_region_frame (X := Unit) (fun d _ => [(8, bif d 0 then .agg (sqc N g) else undef), (9, bif d 1 then .agg (bls 10 (inL f n)) else undef), (10, bif d 2 then .agg (bls 10 (clB g N (inL f n))) else undef), (11, bif d 3 then .agg (bls 10 (inL f n)) else undef), (12, bif d 4 then .bool (eqL (clB g N (inL f n)) (inL f n)) else undef), (4, bif d 5 then .bool (eqL (clB g N (inL f n)) (inL f n)) else .bool false)])
    (fun d _ w' => Has w w' [(sqc N g, 31)] ∧ holds w' gb (bls 10 (inL f n)) 74) (by kernel_rfl) (by kernel_rfl) ?h0_sb ?hs_sb ?hq_sb
  case h0_sb => exact ⟨(), (by simp [lput]), hH.drew, (show _ from hgb)⟩
  case hs_sb =>
    refine ⟨?_, ?_, ?_, ?_, ?_, ?_, trivial⟩
    all_goals
      clear hH hgb
      intro d _ w1 hd hn hJ
      simp only [needs, Region.binds, reduceCtorEq, Bool.false_eq_true, false_implies, true_and, and_true, true_implies, forall_const] at hn
      simp only [lput, List.set, hn, cond_true]
      obtain ⟨hH, hgb⟩ := hJ
      go_wp2_with (first | fail | (refine wpL_loadFull rfl rfl rfl rowSq hH.h0 (sqc_size _ _) ?_) | (refine wpL_loadFull (x := .tmp 5) rfl rfl rfl rowBo hgb (bls_size _ _) ?_) | (go_at_call 113; refine (l05Close_any N g (inL f n) _ HQ.out).mono ?_; rintro e w6 ⟨rfl, hb⟩; replace hH := hH.call' hb; replace hgb := holds_below hgb hb (holds_lt hgb); clear hb) | (refine wpL_eqAgg rfl rfl rfl rfl gdBo (eqBo _ _ _) ?_))
      first
        | (refine ⟨(), ?_, hH, hgb⟩; (simp [lput, done, hn]; done))
        | (refine ⟨?_, hH, hgb⟩; (simp [lput, done, hn]; done))
        | (refine ⟨(), ?_, hH, hgb⟩; (simp [lput, done, hn]; rfl))
        | (refine ⟨?_, hH, hgb⟩; (simp [lput, done, hn]; rfl))
        | (refine ⟨(), ?_, hH, hgb⟩; (simp [lput, done]; done))
        | (refine ⟨?_, hH, hgb⟩; (simp [lput, done]; done))
        | (refine ⟨(), ?_, hH, hgb⟩; (simp [lput, done]; rfl))
        | (refine ⟨?_, hH, hgb⟩; (simp [lput, done]; rfl))
  case hq_sb =>
    clear hH hgb
    intro d _ w1 hd hJ
    simp only [allDone, List.length_cons, List.length_nil, Nat.reduceAdd, and_true] at hd
    obtain ⟨hH, hgb⟩ := hJ
    simp only [lput, List.set, hd, cond_true]
    clear hd
    go_wp2
    go_ret
    exact ⟨rfl, hH.below⟩
end Go.Proofs.Ytbdcbmennblcdab
namespace Go.Proofs.Ytbdcbmennblcdab
set_option linter.unusedVariables false
set_option linter.unusedSimpArgs false
open Go.RowKit
theorem infoP : (Try.prog.info? 94).map (fun i => (i.zero, i.size, i.bytes)) = some (some (.agg (u8s 10 fun _ => 0)), 10, 10) := by kernel_rfl
theorem u8s_app (n m : Nat) (F F' f : Nat → UInt8) (hF : ∀ i, i < n → F' i = F i) (hf : ∀ j, j < m → F' (n + j) = f j) : (u8s n F).toList ++ (u8s m f).toList = (u8s (n + m) F').toList := by
  unfold u8s
  simp only [List.range_add, List.map_append, List.map_map]
  congr 1
  · exact List.map_congr_left fun i hi => by rw [hF i (List.mem_range.1 hi)]
  · exact List.map_congr_left fun i hi => by
      show Value.int .u8 _ = Value.int .u8 _
      rw [hf i (List.mem_range.1 hi)]
/-- v is a list of its own, made behind B, of n permutations, ten bytes each: the bytes F. -/
def OP (w : World) (B : Nat) (v : Value) (n : Nat) (F : Nat → UInt8) : Prop := w.ownsRow B 94 10 v n (u8s (n * 10) F).toList
theorem OP.kept {w w' : World} {B n : Nat} {v : Value} {F : Nat → UInt8} (h : OP w B v n F) (e : ∀ k, k < w.heap.size → w'.heap[k]? = w.heap[k]?) : OP w' B v n F := by
  refine ⟨h.1, ?_⟩
  rcases h.2 with h2 | ⟨g, cap, cur, hv, hB, hg, hr⟩
  · exact .inl h2
  · exact .inr ⟨g, cap, cur, hv, hB, by rw [e g (Array.getElem?_eq_some_iff.1 hg).1]; exact hg, hr⟩
theorem OP.below {w w' : World} {B n : Nat} {v : Value} {F : Nat → UInt8} (h : OP w B v n F) (hb : Below w.heap.size w w') : OP w' B v n F := h.kept hb.block
theorem OP.alloc {w : World} {B n : Nat} {v : Value} {F : Nat → UInt8} (h : OP w B v n F) (o : Obj) : OP (w.alloc o) B v n F := h.kept fun k hk => heap_alloc_old w o hk
theorem OP.nil (w : World) (B : Nat) (F : Nat → UInt8) : OP w B (.slice none 0 0) 0 F := World.ownsRow_nil _ _ _ _
theorem OP.congr {w : World} {B n : Nat} {v : Value} {F F' : Nat → UInt8} (h : OP w B v n F) (e : ∀ i, i < n * 10 → F i = F' i) : OP w B v n F' := by
  unfold OP at *
  rw [← u8s_congr (n * 10) F F' e]; exact h
/-- Block g begins with n permutations, the bytes F. -/
def PRow (w : World) (g n : Nat) (F : Nat → UInt8) : Prop := ∃ cur, holds w g cur 94 ∧ n * 10 ≤ cur.size ∧ ∀ i, i < n * 10 → cur[i]? = some (.int .u8 (F i).toNat)
theorem PRow.lt {w : World} {g n : Nat} {F : Nat → UInt8} (h : PRow w g n F) : g < w.heap.size := by
  obtain ⟨cur, h1, _⟩ := h; exact holds_lt h1
theorem PRow.block {w w' : World} {g n : Nat} {F : Nat → UInt8} (h : PRow w g n F) (e : w'.heap[g]? = w.heap[g]?) : PRow w' g n F := by
  obtain ⟨cur, h1, h2⟩ := h; exact ⟨cur, by show w'.heap[g]? = _; rw [e]; exact h1, h2⟩
theorem PRow.below {w w' : World} {g n : Nat} {F : Nat → UInt8} (h : PRow w g n F) (hb : Below w.heap.size w w') : PRow w' g n F := h.block (hb.block g h.lt)
theorem OP.form {w : World} {B n : Nat} {v : Value} {F : Nat → UInt8} (h : OP w B v n F) (hn : 0 < n) : ∃ g cap, v = .slice (some ⟨g, 0, none⟩) n cap ∧ B ≤ g ∧ PRow w g n F := by
  rcases h.2 with ⟨_, h0⟩ | ⟨g, cap, cur, hv, hB, hg, hc, _, hs, hx⟩
  · omega
  · refine ⟨g, cap, hv, hB, cur, hg, by rw [hs]; omega, fun i hi => ?_⟩
    have := u8s_get (n * 10) F i hi
    rw [← Array.getElem?_toList, ← hx, List.getElem?_take, if_pos hi] at this
    simpa using this
theorem PRow.sub {w : World} {g n : Nat} {F f : Nat → UInt8} (h : PRow w g n F) {k : Nat} (hk : k < n) (hf : ∀ j, j < 10 → F (k * 10 + j) = f j) : ∃ cur, holds w g cur 94 ∧ k * 10 + 10 ≤ cur.size ∧ cur.extract (k * 10) (k * 10 + 10) = u8s 10 f := by
  obtain ⟨cur, h1, h2, h3⟩ := h
  refine ⟨cur, h1, by omega, ?_⟩
  apply u8s_ext
  · simp; omega
  · intro i hi
    rw [Array.getElem?_extract]
    simp
    exact ⟨by omega, by rw [h3 _ (by omega), hf i hi]⟩
theorem builtP1 (f : Nat → UInt8) : (Try.prog).builtSlice 94 1 [(0, Value.agg (u8s 10 f))] = some (u8s 10 f) := by kernel_rfl
section
variable {ops : Array Oper} {rest : List Oper} {o : Oper} {a : Act} {w : World} {Q : Exit → Act → World → Prop}
theorem wpL_loadPr {x : Operand} {g n k : Nat} {F f : Nat → UInt8} (hgd : o.guard = none) (ho : o.op = .load 94 x) (hx : a.eval x = .pointer (some ⟨g, k * 10, none⟩)) (hp : PRow w g n F) (hk : k < n) (hf : ∀ j, j < 10 → F (k * 10 + j) = f j)
    (h : wpList Try.prog ops Q rest (a.put o.dst (.agg (u8s 10 f))) w) : wpList Try.prog ops Q (o :: rest) a w := by
  obtain ⟨cur, h1, h2, h3⟩ := hp.sub hk hf
  exact wpL_loadSub hgd ho hx rowPl h1 h2 h3 h
theorem wpL_makeP {l c : Operand} (hgd : o.guard = none) (ho : o.op = .makeSlice 52 l c) {n base : Nat} (F : Nat → UInt8) (hl : a.eval l = .int .i64 0) (hc : a.eval c = .int .i64 n) (hn : n ≤ 1000) (hbase : base ≤ w.heap.size)
    (h : ∀ w', OP w' base (.slice (some ⟨w.heap.size, 0, none⟩) 0 n) 0 F → w.grownBy w' none → wpList Try.prog ops Q rest (a.put o.dst (.slice (some ⟨w.heap.size, 0, none⟩) 0 n)) w') : wpList Try.prog ops Q (o :: rest) a w := by
  obtain ⟨i, hi, hz, h1, h2⟩ := info_parts infoP
  exact wpList_make_own w hgd l c 52 ho base 94 i (.agg (u8s 10 fun _ => 0)) 10 Try.underlying52 hi hz h1 .i64 .i64 n n hl hc rfl (by rw [h2]; omega) (by unfold maxLen; omega) hbase h
theorem wpL_sliceP {p : Operand} {f : Nat → UInt8} (hgd : o.guard = none) (ho : o.op = .buildSlice 52 1 #[(0, p)]) (hx : a.eval p = .agg (u8s 10 f))
    (h : wpList Try.prog ops Q rest (a.put o.dst (.slice (some ⟨w.heap.size, 0, none⟩) 1 1)) (w.alloc (.cells (u8s 10 f) 94))) : wpList Try.prog ops Q (o :: rest) a w := by
  refine Great.wpList_buildSliceTo hgd 52 94 1 _ ho _ rfl o.dst rfl Try.underlying52 (u8s 10 f) ?_ h
  have hp : ((#[(0, p)] : Array (Nat × Operand)).map fun (i, x) => (i, a.eval x)).toList = [(0, Value.agg (u8s 10 f))] := by simp [hx]
  rw [hp]
  exact builtP1 f
theorem wpL_appP {s x : Operand} (hgd : o.guard = none) (ho : o.op = .call { callee := .builtin .append, args := #[s, x], argTypes := #[52, 52] }) {v : Value} {n base c g : Nat} {F f : Nat → UInt8} (F' : Nat → UInt8)
    (hs : a.eval s = v) (hx : a.eval x = .slice (some ⟨g, 0, none⟩) 1 c) (hown : OP w base v n F) (hg : holds w g (u8s 10 f) 94) (hn : n ≤ 1000) (hbase : base ≤ w.heap.size) (hF : ∀ i, i < n * 10 → F' i = F i) (hf : ∀ j, j < 10 → F' (n * 10 + j) = f j)
    (h : ∀ g cap w', OP w' base (.slice (some ⟨g, 0, none⟩) (n + 1) cap) (n + 1) F' → w.grownBy w' v.ownBlock → (v.ownBlock = some g ∨ g = w.heap.size) → g < w'.heap.size → wpList Try.prog ops Q rest (a.put o.dst (.slice (some ⟨g, 0, none⟩) (n + 1) cap)) w') : wpList Try.prog ops Q (o :: rest) a w := by
  obtain ⟨i, hi, hz, h1, h2⟩ := info_parts infoP
  refine wpList_append_lies w hgd s x 52 ho base 94 i (.agg (u8s 10 fun _ => 0)) 10 10 Try.underlying52 hi hz h1 h2 (by simp [Value.cells]) (by omega) v n _ hs hown ⟨g, 0, none⟩ 1 c (u8s 10 f).toList hx (by simp) (fun j u hj => ?_) (fun u hu => ?_) (by omega) (by unfold maxLen; omega) (by omega) hbase _ rfl (fun g cap w' ho2 hg2 hor hlt => h g cap w' ?_ hg2 hor hlt)
  · have hadd : (⟨g, 0, none⟩ : Addr).add j = ⟨g, j, none⟩ := by unfold Addr.add; split <;> simp_all
    rw [hadd, holds_cell hg, ← Array.getElem?_toList]; exact hj
  · exact (Array.all_eq_true_iff_forall_mem.1 (u8s_one 10 f)) u (by simpa using hu)
  · unfold OP
    rw [show (n + 1) * 10 = n * 10 + 10 by omega, ← u8s_app (n * 10) 10 F F' f hF hf]
    exact ho2
end
/-- What a function hands back that makes a list of permutations alone. -/
def GotP (n : Nat) (F : Nat → UInt8) (w : World) (e : Ending) (w' : World) : Prop :=
  ∃ v, e = .returned v ∧ Below w.heap.size w w' ∧ OP w' w.heap.size v n F
theorem OP.lower {w : World} {B B' n : Nat} {v : Value} {F : Nat → UInt8} (h : OP w B v n F) (hb : B' ≤ B) : OP w B' v n F := by
  refine ⟨h.1, ?_⟩
  rcases h.2 with h2 | ⟨g, cap, cur, e, hB, hr⟩
  · exact .inl h2
  · exact .inr ⟨g, cap, cur, e, by omega, hr⟩
theorem turn_col (g : Nat → UInt8) (k j : Nat) (hj : j < 10) : turn g (k * 10 + j) = colF g k j := by
  unfold turn colF
  rw [show (k * 10 + j) % 10 = j by omega, show (k * 10 + j) / 10 = k by omega]
set_option maxRecDepth 20000 in
set_option maxHeartbeats 4000000 in
theorem columnMapsOf_any (N : Nat) (g : Nat → UInt8) (w : World) (h1 : 1 ≤ N) (h10 : N ≤ 10) :
    Calls Try.prog 102 #[.agg (sqc N g)] w (GotP N (turn g) w) := by
  have hN2 : (N : Int) ≤ 10 := by omega
  have hH := Has.start1 w (sqc N g) 31
  have c0 := hH.c0 0
  rw [sqc_get0] at c0
  go_enter Try.func102, Try.ntmps102
  go_wp2_with (refine wpL_makeP (n := N) (base := w.heap.size + 1) rfl (by rfl) (turn g) (by rfl) (by rfl) (by omega) hH.size ?_; intro w3 hown hgm; replace hH := hH.grown hgm (fun x hx => by cases hx); clear c0; have c0 := hH.c0 0; rw [sqc_get0] at c0)
  clear c0
  go_loopw [3, 10] (fun v i wr => ∃ k : Nat, k ≤ N ∧ i = .int .i64 k ∧ Has w wr [(sqc N g, 31)] ∧ Hid (OP wr (w.heap.size + 1) v k (turn g))) (fun _ i _ => 10 - (intOf i).toNat)
  case atStart => exact ⟨0, by omega, rfl, hH, hid (by simpa using hown)⟩
  case round =>
    clear hH hown hgm
    obtain ⟨k, hk, rfl, hH, hO⟩ := hrel
    have hsz := hH.size
    simp only [List.length_cons, List.length_nil] at hsz
    by_cases hlt : k < N
    · have hk10 : k < 10 := by omega
      have hk10' : (k : Int) < 10 := by omega
      go_wp2_with (first | fail | (refine wpL_loadTab rfl rfl rfl rowTa hH.h0 ?_) | (go_at_call 137; refine (columnOf_any g k _ hk10).mono ?_; rintro e w3 ⟨rfl, hb⟩; replace hH := hH.call' hb; replace hO := hid (hO.out.below hb); have hs3 := hb.size; clear hb) | (refine wpL_sliceP (f := colF g k) rfl (by rfl) (by rfl) ?_) | (refine wpL_appP (v := u3) (n := k) (base := w.heap.size + 1) (f := colF g k) rfl (by rfl) (turn g) (by rfl) (by rfl) (hO.out.alloc _) (holds_new _ _ _) (by omega) (by simp; omega) (fun i _ => rfl) (fun j hj => turn_col g k j hj) ?_; intro r cap w2 how hg hor hlt3))
      have hO2 := hid how
      replace hH := (hH.alloc _).grown hg (fun x hx => by have := (World.ownsRow.lt hO.out x hx).1; simp; omega)
      clear how hg hor hlt3 hO
      go_wp2
      go_roundw
      case rel => exact ⟨k + 1, by omega, by go_num, hH, hO2⟩
      case measure => simp [intOf]; omega
    · obtain rfl : k = N := by omega
      go_wp2
      go_ret
      exact ⟨_, rfl, hH.below, hO.out.lower (by omega)⟩
end Go.Proofs.Ytbdcbmennblcdab
namespace Go.Proofs.Ytbdcbmennblcdab
set_option linter.unusedVariables false
set_option linter.unusedSimpArgs false
open Go.RowKit
theorem PRow.cell {w : World} {g n i : Nat} {F : Nat → UInt8} (h : PRow w g n F) (hi : i < n * 10) : w.cell? ⟨g, i, none⟩ = some (.int .u8 (F i).toNat) := by
  obtain ⟨cur, h1, h2, h3⟩ := h; rw [holds_cell h1]; exact h3 i hi
theorem PRow.frozen {w : World} {g n : Nat} {F : Nat → UInt8} (h : PRow w g n F) (i : Nat) : w.frozen? ⟨g, i, none⟩ = false := by
  obtain ⟨cur, h1, _⟩ := h; exact holds_frozen h1 i
theorem PRow.set {w : World} {g n : Nat} {F F' : Nat → UInt8} (h : PRow w g n F) (k t : Nat) (ht : t < 256) (e : ∀ i, i < n * 10 → F' i = if i = k then UInt8.ofNat t else F i) : PRow (w.setCell ⟨g, k, none⟩ (.int .u8 t)) g n F' := by
  obtain ⟨cur, h1, h2, h3⟩ := h
  refine ⟨cur.setIfInBounds k (.int .u8 t), holds_set h1 k _, by simpa using h2, fun i hi => ?_⟩
  rw [Array.getElem?_setIfInBounds, e i hi]
  by_cases ek : k = i
  · subst ek; rw [if_pos rfl, if_pos (by omega), if_pos rfl, u8_of t ht]
  · rw [if_neg ek, if_neg (Ne.symm ek)]; exact h3 i hi
theorem PRow.congr {w : World} {g n : Nat} {F F' : Nat → UInt8} (h : PRow w g n F) (e : ∀ i, i < n * 10 → F i = F' i) : PRow w g n F' := by
  obtain ⟨cur, h1, h2, h3⟩ := h; exact ⟨cur, h1, h2, fun i hi => by rw [← e i hi]; exact h3 i hi⟩
/-- The first t bytes are 1, 2, .. -/
def mixF (F : Nat → UInt8) (t : Nat) : Nat → UInt8 := fun i => if i < t then UInt8.ofNat (1 + i) else F i
def mrkF : Nat → UInt8 := fun i => UInt8.ofNat (1 + i)
set_option maxRecDepth 20000 in
set_option maxHeartbeats 2000000 in
theorem eqPlacesS_same (b1 b2 n c1 c2 : Nat) (F : Nat → UInt8) (w : World) (hn : n ≤ 1000) (h1 : PRow w b1 n F) (h2 : PRow w b2 n F) :
    Calls Try.prog 43 #[.slice (some ⟨b1, 0, none⟩) n c1, .slice (some ⟨b2, 0, none⟩) n c2] w fun e w' => e = .returned (.bool true) ∧ Below w.heap.size w w' := by
  have hH := Has.nil w
  go_enter Try.func43, Try.ntmps43
  go_wp2
  go_loopw [5] (fun i wr => ∃ k : Nat, k ≤ n ∧ i = .int .i64 k ∧ Has w wr [] ∧ Hid (PRow wr b1 n F) ∧ Hid (PRow wr b2 n F)) (fun i _ => n - (intOf i).toNat)
  case atStart => exact ⟨0, by omega, rfl, hH, hid h1, hid h2⟩
  case round =>
    clear hH h1 h2
    obtain ⟨k, hk, rfl, hH, h1, h2⟩ := hrel
    by_cases hlt : k < n
    · have hlt' : (k : Int) < (n : Int) := by omega
      obtain ⟨f, hf⟩ : ∃ f : Nat → UInt8, ∀ j, j < 10 → F (k * 10 + j) = f j := ⟨fun j => F (k * 10 + j), fun j _ => rfl⟩
      have HF := hid hf
      clear hf
      go_wp2
      refine wp_region_frame (X := Unit) (fun d _ => [(17, bif d 0 then .slice (some ⟨b1, 0, none⟩) n c1 else u17), (18, bif d 1 then .int .i64 k else u18), (19, bif d 2 then .pointer (some ⟨b1, k * 10, none⟩) else u19), (20, bif d 3 then .agg (u8s 10 f) else u20), (21, bif d 4 then .slice (some ⟨b2, 0, none⟩) n c2 else u21), (22, bif d 5 then .int .i64 k else u22), (23, bif d 6 then .pointer (some ⟨b2, k * 10, none⟩) else u23), (24, bif d 7 then .agg (u8s 10 f) else u24), (25, bif d 8 then .bool true else u25), (26, bif d 9 then .bool false else u26)])
        (fun d _ w' => Has w w' [] ∧ Hid (PRow w' b1 n F) ∧ Hid (PRow w' b2 n F)) (by kernel_rfl) (by kernel_rfl) ?h0_ep ?hs_ep ?hq_ep
      case h0_ep => exact ⟨(), (by simp [lput]), hH.drew, (show _ from h1), (show _ from h2)⟩
      case hs_ep =>
        refine ⟨?_, ?_, ?_, ?_, ?_, ?_, ?_, ?_, ?_, ?_, trivial⟩
        all_goals
          clear hH h1 h2
          intro d _ w1 hd hn hJ
          simp only [needs, Region.binds, reduceCtorEq, Bool.false_eq_true, false_implies, true_and, and_true, true_implies, forall_const] at hn
          simp only [lput, List.set, hn, cond_true]
          obtain ⟨hH, h1, h2⟩ := hJ
          go_wp2_with (first | fail | (refine wpL_loadPr (g := b1) (k := k) (f := f) rfl rfl rfl h1.out hlt HF.out ?_) | (refine wpL_loadPr (g := b2) (k := k) (f := f) rfl rfl rfl h2.out hlt HF.out ?_) | (go_at_call 88; refine (eqPlaces_self f _).mono ?_; rintro e w3 ⟨rfl, hb⟩; replace hH := hH.call' hb; replace h1 := hid (h1.out.below hb); replace h2 := hid (h2.out.below hb); clear hb))
          first
            | (refine ⟨(), ?_, hH, h1, h2⟩; (simp [lput, done, hn]; done))
            | (refine ⟨?_, hH, h1, h2⟩; (simp [lput, done, hn]; done))
            | (refine ⟨(), ?_, hH, h1, h2⟩; (simp [lput, done, hn]; rfl))
            | (refine ⟨?_, hH, h1, h2⟩; (simp [lput, done, hn]; rfl))
            | (refine ⟨(), ?_, hH, h1, h2⟩; (simp [lput, done]; done))
            | (refine ⟨?_, hH, h1, h2⟩; (simp [lput, done]; done))
            | (refine ⟨(), ?_, hH, h1, h2⟩; (simp [lput, done]; rfl))
            | (refine ⟨?_, hH, h1, h2⟩; (simp [lput, done]; rfl))
      case hq_ep =>
        clear hH h1 h2
        intro d _ w1 hd hJ
        simp only [allDone, List.length_cons, List.length_nil, Nat.reduceAdd, and_true] at hd
        obtain ⟨hH, h1, h2⟩ := hJ
        simp only [lput, List.set, hd, cond_true]
        clear hd
        go_wp2
        go_roundw
        case rel => exact ⟨k + 1, by omega, by go_num, hH, h1, h2⟩
        case measure => simp [intOf]; omega
    · go_wp2
      go_ret
      exact ⟨rfl, hH.below⟩
set_option maxHeartbeats 1000000 in
theorem eqPlacesS_zero (p q : Option Addr) (c d : Nat) (w : World) : Calls Try.prog 43 #[.slice p 0 c, .slice q 0 d] w fun e w' => e = .returned (.bool true) ∧ Below w.heap.size w w' := by
  go_enter Try.func43, Try.ntmps43
  go_wp2
  go_loopw [5] (fun i wr => i = .int .i64 0 ∧ Below w.heap.size w wr) (fun _ _ => 0)
  case atStart => exact ⟨rfl, Below.refl _ _⟩
  case round =>
    obtain ⟨rfl, hB⟩ := hrel
    go_wp2
    go_ret
    exact ⟨rfl, hB⟩
set_option maxRecDepth 20000 in
set_option maxHeartbeats 2000000 in
theorem markPlacesS_any (b n c M : Nat) (F : Nat → UInt8) (w : World) (hn : n ≤ 10) (hM : 1 + n * 10 = M) (h : PRow w b n F) :
    Calls Try.prog 44 #[.slice (some ⟨b, 0, none⟩) n c, .int .i64 1] w fun e w' => e = .returned (.int .i64 M) ∧ w.grownBy w' (some b) ∧ PRow w' b n mrkF := by
  have HM := hid hM
  clear hM
  go_enter Try.func44, Try.ntmps44
  go_wp2
  go_loopw [1, 5] (fun m i wr => ∃ k t : Nat, k ≤ n ∧ Hid (1 + k * 10 = t) ∧ m = .int .i64 t ∧ i = .int .i64 k ∧ Hid (w.grownBy wr (some b)) ∧ Hid (PRow wr b n (mixF F (k * 10)))) (fun _ i _ => 20 - (intOf i).toNat)
  case atStart => exact ⟨0, 1, by omega, rfl, rfl, rfl, hid (grown_refl _ _), hid (h.congr fun i _ => by unfold mixF; rw [if_neg (by omega)])⟩
  case round =>
    clear h
    obtain ⟨k, t, hk, HT, rfl, rfl, hg, hP⟩ := hrel
    by_cases hlt : k < n
    · have hk1 : (k : Int) < n := by omega
      go_wp2
      go_loopw [1, 6] (fun m i wx => ∃ j t : Nat, j ≤ 10 ∧ Hid (1 + k * 10 + j = t) ∧ m = .int .i64 t ∧ i = .int .i64 j ∧ Hid (w.grownBy wx (some b)) ∧ Hid (PRow wx b n (mixF F (k * 10 + j)))) (fun _ i _ => 20 - (intOf i).toNat)
      case atStart => exact ⟨0, t, by omega, HT, rfl, rfl, hg, hP⟩
      case round =>
        clear hg hP HT
        obtain ⟨j, t, hj, HT, rfl, rfl, hg, hP⟩ := hrel
        by_cases hlt2 : j < 10
        · have hj1 : (j : Int) < 10 := by omega
          have ht : t ≤ 200 := by have := HT.out; omega
          have ht1 : (t : Int) ≤ 200 := by omega
          have cc := hP.out.cell (i := k * 10 + j) (by omega)
          have fr := hP.out.frozen (k * 10 + j)
          go_wp2
          go_roundw
          case rel => exact ⟨j + 1, t + 1, by omega, hid (by have := HT.out; omega), by go_num, by go_num, hid (grown_set hg.out _ _), hid (hP.out.set (k * 10 + j) t (by omega) (fun i _ => by
            have hT := HT.out
            unfold mixF
            by_cases e : i = k * 10 + j
            · rw [if_pos (by omega), if_pos e]; congr 1; omega
            · rw [if_neg e]
              by_cases e2 : i < k * 10 + j
              · rw [if_pos e2, if_pos (by omega)]
              · rw [if_neg e2, if_neg (by omega)]))⟩
          case measure => simp [intOf]; omega
        · obtain rfl : j = 10 := by omega
          go_wp2
          go_roundw
          case rel => exact ⟨k + 1, t, by omega, hid (by have := HT.out; omega), rfl, by go_num, hg, by rw [show (k + 1) * 10 = k * 10 + 10 by omega]; exact hP⟩
          case measure => simp [intOf]; omega
    · obtain rfl : k = n := by omega
      obtain rfl : t = M := by have := HT.out; have := HM.out; omega
      go_wp2
      go_ret
      exact ⟨rfl, hg.out, hP.out.congr fun i hi => by unfold mixF mrkF; rw [if_pos hi]⟩
set_option maxHeartbeats 1000000 in
theorem markPlacesS_zero (p : Option Addr) (c : Nat) (w : World) : Calls Try.prog 44 #[.slice p 0 c, .int .i64 1] w fun e w' => e = .returned (.int .i64 1) ∧ w = w' := by
  go_enter Try.func44, Try.ntmps44
  go_wp2
  go_loop [1, 5] (fun m i => m = .int .i64 1 ∧ i = .int .i64 0) (fun _ _ => 0)
  case atStart => exact ⟨rfl, rfl⟩
  case round =>
    obtain ⟨rfl, rfl⟩ := hrel
    go_wp2
    go_ret
    exact ⟨rfl, rfl⟩
/-- v is the list of n permutations with the bytes F: no block, or a block between lo and hi. -/
def IP (w : World) (lo hi : Nat) (v : Value) (n : Nat) (F : Nat → UInt8) : Prop :=
  (v = .slice none 0 0 ∧ n = 0) ∨ ∃ g cap, v = .slice (some ⟨g, 0, none⟩) n cap ∧ lo ≤ g ∧ g < hi ∧ PRow w g n F
def GotPP (n : Nat) (F : Nat → UInt8) (z : Int) (w : World) (e : Ending) (w' : World) : Prop :=
  ∃ v, e = .returned (.tuple #[v, .int .i64 z]) ∧ Below w.heap.size w w' ∧ IP w' w.heap.size w'.heap.size v n F
theorem IP.below {w w' : World} {lo hi B n : Nat} {v : Value} {F : Nat → UInt8} (h : IP w lo hi v n F) (hb : Below B w w') (hB : hi ≤ B) : IP w' lo hi v n F := by
  rcases h with h | ⟨g, cap, e, h1, h2, h3⟩
  · exact .inl h
  · exact .inr ⟨g, cap, e, h1, h2, h3.block (hb.block g (by omega))⟩
theorem OP.got {w w' : World} {B n : Nat} {v : Value} {F : Nat → UInt8} (h : OP w' B v n F) (hn : 0 < n) (hb : Below w.heap.size w w') (hB : w.heap.size ≤ B) : GotPP n F 0 w (.returned (.tuple #[v, .int .i64 0])) w' := by
  obtain ⟨g, cap, e, h1, h2⟩ := h.form hn
  exact ⟨v, rfl, hb, .inr ⟨g, cap, e, by omega, h2.lt, h2⟩⟩
theorem GotPP.err {z : Int} {w w' : World} {e : Ending} (F : Nat → UInt8) (h : e = .returned (.tuple #[.slice none 0 0, .int .i64 z]) ∧ Below w.heap.size w w') : GotPP 0 F z w e w' := ⟨_, h.1, h.2, .inl ⟨rfl, rfl⟩⟩
theorem eqIP {w : World} {lo hi lo' hi' n : Nat} {v v' : Value} {F : Nat → UInt8} (h : IP w lo hi v n F) (h' : IP w lo' hi' v' n F) (hn : n ≤ 1000) :
    Calls Try.prog 43 #[v, v'] w fun e w' => e = .returned (.bool true) ∧ Below w.heap.size w w' := by
  rcases h with ⟨rfl, rfl⟩ | ⟨g, cap, rfl, h1, h2, h3⟩
  · rcases h' with ⟨rfl, _⟩ | ⟨g', cap', rfl, h1', h2', h3'⟩
    · exact eqPlacesS_zero _ _ _ _ _
    · exact eqPlacesS_zero _ _ _ _ _
  · rcases h' with ⟨rfl, rfl⟩ | ⟨g', cap', rfl, h1', h2', h3'⟩
    · exact eqPlacesS_zero _ _ _ _ _
    · exact eqPlacesS_same g g' _ cap cap' F w hn h3 h3'
theorem markIP {w : World} {lo hi n M : Nat} {v : Value} {F : Nat → UInt8} (h : IP w lo hi v n F) (hn : n ≤ 10) (hM : 1 + n * 10 = M) (hlo : lo ≤ w.heap.size) :
    Calls Try.prog 44 #[v, .int .i64 1] w fun e w' => e = .returned (.int .i64 M) ∧ Below lo w w' ∧ IP w' lo hi v n mrkF := by
  rcases h with ⟨rfl, rfl⟩ | ⟨g, cap, rfl, h1, h2, h3⟩
  · refine (markPlacesS_zero none 0 w).mono ?_
    rintro e w' ⟨rfl, rfl⟩
    exact ⟨by rw [← hM]; rfl, Below.refl _ _, .inl ⟨rfl, rfl⟩⟩
  · refine (markPlacesS_any g _ cap M F w hn hM h3).mono ?_
    rintro e w' ⟨rfl, hg, hr⟩
    exact ⟨rfl, ⟨hg.os, hg.tape, hg.output, hg.size, fun x hx => hg.block x (by omega) (by simp; omega)⟩, .inr ⟨g, cap, rfl, h1, h2, hr⟩⟩
end Go.Proofs.Ytbdcbmennblcdab
namespace Go.Proofs.Ytbdcbmennblcdab
set_option linter.unusedVariables false
set_option linter.unusedSimpArgs false
open Go.RowKit
/-- The state at the head of a round: k lists have been made. -/
structure Mid (w wr : World) (N k : Nat) (g : Nat → UInt8) (v : Value) : Prop where
  has : Has w wr [(sqc N g, 31)]
  ps : ∃ b, PS wr (w.heap.size + 1) v k N (fun x y => ((g (x * 10 + y)).toNat : Int)) b
/-- The state at the head of an inner round: j numbers of the next list have been put into row; ws is the world at the outer round's head. -/
structure Sub (w ws wr : World) (N k j : Nat) (g : Nat → UInt8) (row : Value) : Prop where
  has : Has w wr [(sqc N g, 31)]
  bel : Below ws.heap.size ws wr
  own : wr.ownsRow ws.heap.size 2 1 row j (ints j fun y => ((g (k * 10 + y)).toNat : Int))
theorem Sub.next {w ws wr w' : World} {N k j : Nat} {g : Nat → UInt8} {row : Value} {o : Obj} {r cap : Nat} (h : Sub w ws wr N k j g row) (hw : w.heap.size + 1 ≤ ws.heap.size)
    (how : w'.ownsRow ws.heap.size 2 1 (.slice (some ⟨r, 0, none⟩) (j + 1) cap) (j + 1) (ints j (fun y => ((g (k * 10 + y)).toNat : Int)) ++ [.int .i64 (g (k * 10 + j)).toNat])) (hg : (wr.alloc o).grownBy w' row.ownBlock) :
    Sub w ws w' N k (j + 1) g (.slice (some ⟨r, 0, none⟩) (j + 1) cap) :=
  ⟨(h.has.alloc o).grown hg (fun x hx => by have := (h.own.lt x hx).1; simp; omega),
   Below.grown (h.bel.alloc h.bel.size o) hg (fun x hx => (h.own.lt x hx).1) (Nat.le_refl _),
   by rw [← ints_succ]; exact how⟩
theorem Mid.next {w ws wr w' : World} {N k : Nat} {g : Nat → UInt8} {v row : Value} {o : Obj} {r cap g2 cap2 : Nat} {xs : List Value} (hM : Mid w ws N k g v) (h : Sub w ws wr N k N g row) (hN : 0 < N) (hrow : row = .slice (some ⟨r, 0, none⟩) N cap)
    {b : Nat → Nat} (hp : PS ws (w.heap.size + 1) v k N (fun x y => ((g (x * 10 + y)).toNat : Int)) b) (hx : ∀ j, j < k → ∃ cap, xs[j]? = some (.slice (some ⟨b j, 0, none⟩) N cap)) (hl : xs.length = k)
    (how : w'.ownsRow (w.heap.size + 1) 36 1 (.slice (some ⟨g2, 0, none⟩) (k + 1) cap2) (k + 1) (xs ++ [.slice (some ⟨r, 0, none⟩) N cap])) (hg : (wr.alloc o).grownBy w' v.ownBlock) (hor : v.ownBlock = some g2 ∨ g2 = (wr.alloc o).heap.size) :
    Mid w w' N (k + 1) g (.slice (some ⟨g2, 0, none⟩) (k + 1) cap2) := by
  have hs := hM.has.size
  simp at hs
  obtain ⟨r', cap', e, hb, hR⟩ := own_row h.own hN
  rw [hrow] at e
  obtain ⟨rfl, rfl⟩ : r = r' ∧ cap = cap' := by simpa using e
  exact ⟨(h.has.alloc o).grown hg (fun x hx => by have := (hp.lt x hx).1; simp; omega), _, hp.push hx hl h.bel hR hb hs how hg hor⟩
theorem Mid.parts {w ws : World} {N k : Nat} {g : Nat → UInt8} {v : Value} (h : Mid w ws N k g v) : ∃ b xs, PS ws (w.heap.size + 1) v k N (fun x y => ((g (x * 10 + y)).toNat : Int)) b ∧ ws.ownsRow (w.heap.size + 1) 36 1 v k xs ∧ (∀ j, j < k → ∃ cap, xs[j]? = some (.slice (some ⟨b j, 0, none⟩) N cap)) ∧ xs.length = k := by
  obtain ⟨b, hp⟩ := h.ps
  obtain ⟨xs, h1, h2⟩ := hp.own
  exact ⟨b, xs, hp, h1, h2, by have := h1.1; omega⟩
theorem Mid.got {w wr : World} {N : Nat} {g : Nat → UInt8} {v : Value} (h : Mid w wr N N g v) (hN : 0 < N) : Got N g w (.returned (.tuple #[v, .int .i64 0])) wr := by
  obtain ⟨b, hp⟩ := h.ps
  obtain ⟨bo, c, rfl, hb, hS⟩ := hp.done hN
  exact ⟨bo, c, b, rfl, h.has.below, hS, by omega, fun j hj => by have := hp.lo j hj; omega⟩
end Go.Proofs.Ytbdcbmennblcdab
namespace Go.Proofs.Ytbdcbmennblcdab
set_option linter.unusedVariables false
set_option linter.unusedSimpArgs false
open Go.RowKit
section
variable {ops : Array Oper} {rest : List Oper} {o : Oper} {a : Act} {w : World} {Q : Exit → Act → World → Prop}
theorem wpL_makeI {l c : Operand} (hgd : o.guard = none) (ho : o.op = .makeSlice 36 l c) {n base : Nat} (hl : a.eval l = .int .i64 0) (hc : a.eval c = .int .i64 n) (hn : n ≤ 1000) (hbase : base ≤ w.heap.size)
    (h : ∀ w', w'.ownsRow base 2 1 (.slice (some ⟨w.heap.size, 0, none⟩) 0 n) 0 [] → w.grownBy w' none → wpList Try.prog ops Q rest (a.put o.dst (.slice (some ⟨w.heap.size, 0, none⟩) 0 n)) w') : wpList Try.prog ops Q (o :: rest) a w := by
  obtain ⟨i, hi, hz, h1, h2⟩ := info_parts infoI
  exact wpList_make_own w hgd l c 36 ho base 2 i (.int .i64 0) 1 Try.underlying36 hi hz h1 .i64 .i64 n n hl hc rfl (by rw [h2]; omega) (by unfold maxLen; omega) hbase h
theorem wpL_makeS {l c : Operand} (hgd : o.guard = none) (ho : o.op = .makeSlice 26 l c) {n base : Nat} (hl : a.eval l = .int .i64 0) (hc : a.eval c = .int .i64 n) (hn : n ≤ 1000) (hbase : base ≤ w.heap.size)
    (h : ∀ w', w'.ownsRow base 36 1 (.slice (some ⟨w.heap.size, 0, none⟩) 0 n) 0 [] → w.grownBy w' none → wpList Try.prog ops Q rest (a.put o.dst (.slice (some ⟨w.heap.size, 0, none⟩) 0 n)) w') : wpList Try.prog ops Q (o :: rest) a w := by
  obtain ⟨i, hi, hz, h1, h2⟩ := info_parts infoS
  exact wpList_make_own w hgd l c 26 ho base 36 i (.slice none 0 0) 1 Try.underlying26 hi hz h1 .i64 .i64 n n hl hc rfl (by rw [h2]; omega) (by unfold maxLen; omega) hbase h
end
theorem holds_grown {w w' : World} {b : Nat} {cs : Array Value} {t : TypeId} {r : Option Nat} (h : holds w b cs t) (hg : w.grownBy w' r) (hne : r ≠ some b) : holds w' b cs t := by
  show w'.heap[b]? = _
  rw [hg.block b (holds_lt h) (fun e => hne e.symm)]; exact h
/-- What rowListsOf gives back. -/
def GotR (N : Nat) (g : Nat → UInt8) (w : World) (e : Ending) (w' : World) : Prop := ∃ bo c b, e = .returned (.slice (some ⟨bo, 0, none⟩) N c) ∧ Below w.heap.size w w' ∧ SS w' bo b N N (fun x y => ((g (x * 10 + y)).toNat : Int)) ∧ w.heap.size ≤ bo ∧ ∀ j, j < N → w.heap.size ≤ b j
theorem Mid.gotR {w wr : World} {N : Nat} {g : Nat → UInt8} {v : Value} (h : Mid w wr N N g v) (hN : 0 < N) : GotR N g w (.returned v) wr := by
  obtain ⟨b, hp⟩ := h.ps
  obtain ⟨bo, c, rfl, hb, hS⟩ := hp.done hN
  exact ⟨bo, c, b, rfl, h.has.below, hS, by omega, fun j hj => by have := hp.lo j hj; omega⟩
end Go.Proofs.Ytbdcbmennblcdab
namespace Go.Proofs.Ytbdcbmennblcdab
set_option linter.unusedVariables false
set_option linter.unusedSimpArgs false
open Go.RowKit
theorem OP.hold {w w' : World} {B n gr : Nat} {v : Value} {F : Nat → UInt8} (h : OP w B v n F) (hgr : w.heap.size ≤ gr ∨ v.ownBlock ≠ some gr) (hO : ∀ b c u, b ≠ gr → holds w b c u → holds w' b c u) : OP w' B v n F := by
  refine ⟨h.1, ?_⟩
  rcases h.2 with h2 | ⟨g, cap, cur, hv, hB, hg, hr⟩
  · exact .inl h2
  · refine .inr ⟨g, cap, cur, hv, hB, hO g cur _ ?_ hg, hr⟩
    intro e
    subst e
    rcases hgr with h1 | h1
    · have := (Array.getElem?_eq_some_iff.1 hg).1; omega
    · exact h1 (by rw [hv]; rfl)
theorem OP.fresh (w : World) {B n : Nat} (F : Nat → UInt8) (h : B ≤ w.heap.size) (hn : w.heap.size = n) : OP (w.alloc (.cells #[] 94)) B (.slice (some ⟨n, 0, none⟩) 0 0) 0 F := by
  subst hn
  exact ⟨rfl, .inr ⟨w.heap.size, 0, #[], rfl, h, heap_alloc_new w _, Nat.le_refl _, by unfold maxLen; omega, rfl, rfl⟩⟩
theorem l01Row_nat (N k : Nat) (g : Nat → UInt8) (w : World) (hk : k < 10) :
    Calls Try.prog 144 #[.agg (sqc N g), .int .u8 k] w fun e w' => e = .returned (.agg (u8s 10 (rowF g k))) ∧ Below w.heap.size w w' := by
  have := l01Row_any N g (UInt8.ofNat k) w (by rw [u8_of k (by omega)]; exact hk)
  rw [u8_of k (by omega)] at this
  exact this
theorem l01Column_nat (N k : Nat) (g : Nat → UInt8) (w : World) (hq : IsSq N g) (hk : k < 10) :
    Calls Try.prog 146 #[.agg (sqc N g), .int .u8 k] w fun e w' => e = .returned (.agg (u8s 10 (colF g k))) ∧ Below w.heap.size w w' := by
  have := l01Column_any N g (UInt8.ofNat k) w hq (by rw [u8_of k (by omega)]; exact hk)
  rw [u8_of k (by omega)] at this
  exact this
set_option maxRecDepth 20000 in
set_option maxHeartbeats 4000000 in
theorem rowMapsOf_any (N : Nat) (g : Nat → UInt8) (w : World) (h1 : 1 ≤ N) (h10 : N ≤ 10) :
    Calls Try.prog 101 #[.agg (sqc N g)] w (GotP N g w) := by
  have hN2 : (N : Int) ≤ 10 := by omega
  have hH := Has.start1 w (sqc N g) 31
  have c0 := hH.c0 0
  rw [sqc_get0] at c0
  go_enter Try.func101, Try.ntmps101
  go_wp2_with (refine wpL_makeP (n := N) (base := w.heap.size + 1) rfl (by rfl) g (by rfl) (by rfl) (by omega) hH.size ?_; intro w3 hown hgm; replace hH := hH.grown hgm (fun x hx => by cases hx); clear c0; have c0 := hH.c0 0; rw [sqc_get0] at c0)
  clear c0
  go_loopw [3, 14] (fun v i wr => ∃ k : Nat, k ≤ N ∧ i = .int .i64 k ∧ Has w wr [(sqc N g, 31)] ∧ Hid (OP wr (w.heap.size + 1) v k g)) (fun _ i _ => 20 - (intOf i).toNat)
  case atStart => exact ⟨0, by omega, rfl, hH, hid (by simpa using hown)⟩
  case round =>
    clear hH hown hgm
    obtain ⟨k, hk, rfl, hH, hO⟩ := hrel
    have hsz := hH.size
    simp only [List.length_cons, List.length_nil] at hsz
    by_cases hlt : k < N
    · have hk10 : k < 10 := by omega
      have hk10' : (k : Int) < 10 := by omega
      have hoff : k * 10 + 10 ≤ 100 := by omega
      have har := arr10
      go_wp2_with (first | fail | (refine wpL_loadRowSq rfl rfl rfl rowB10 hH.h0 hoff ?_) | (refine wpL_allocN (o := ⟨some 5, _, _, _, _, _⟩) rfl rfl zeroB10 ?_; intro gr w4 hgr hl hb; have hlo : w.heap.size + 1 ≤ gr := (by omega); have hne : u3.ownBlock ≠ some gr := (fun e => by have := (World.ownsRow.lt hO.out gr e).2; omega); replace hH := hH.call' hb; replace hO := hid (hO.out.below hb); have hs4 := hb.size; clear hb) | (refine wpL_storeN (x := .tmp 5) rfl rfl rfl rfl rowB10 hgr (u8s_size _ _) (u8s_ok _ _) ?_; intro w5 hz hOo hT; replace hgr := hz; replace hH := hT _ _ hH hlo; replace hO := hid (hO.out.hold (.inr hne) hOo); clear hz hOo hT) | (refine wpL_loadFull (x := .tmp 20) rfl rfl rfl rowPl hgr (u8s_size _ _) ?_) | (refine wpL_sliceP (f := rowF g k) rfl (by rfl) (by rfl) ?_) | (refine wpL_appP (v := u3) (n := k) (base := w.heap.size + 1) (f := rowF g k) rfl (by rfl) g (by rfl) (by rfl) (hO.out.alloc _) (holds_new _ _ _) (by omega) (by have := hH.size; simp at this; simp; omega) (fun i _ => rfl) (fun j hj => rfl) ?_; intro r cap w6 how hg hor hlt3))
      have hO2 := hid how
      replace hH := (hH.alloc _).grown hg (fun x hx => by have := (World.ownsRow.lt hO.out x hx).1; simp; omega)
      clear how hg hor hlt3 hO hgr
      go_wp2
      go_roundw
      case rel => exact ⟨k + 1, by omega, by go_num, hH, hO2⟩
      case measure => simp [intOf]; omega
    · obtain rfl : k = N := by omega
      go_wp2
      go_ret
      exact ⟨_, rfl, hH.below, hO.out.lower (by omega)⟩
end Go.Proofs.Ytbdcbmennblcdab
namespace Go.Proofs.Ytbdcbmennblcdab
set_option linter.unusedVariables false
set_option linter.unusedSimpArgs false
open Go.RowKit
/-- How many numbers the lists before j have. -/
def offF (l : Nat → List Int) : Nat → Nat
  | 0 => 0
  | j + 1 => offF l j + (l j).length
theorem offF_le {l : Nat → List Int} {n : Nat} (h : ∀ j, j < n → (l j).length ≤ 1000) : ∀ j, j ≤ n → offF l j ≤ j * 1000
  | 0, _ => by simp [offF]
  | j + 1, hj => by have := offF_le h j (by omega); have := h j (by omega); simp only [offF]; omega
theorem IL.form {w : World} {lo hi : Nat} {v : Value} {l : List Int} (h : IL w lo hi v l) : ∃ a c, v = .slice a l.length c := by
  rcases h with ⟨rfl, rfl⟩ | ⟨g, cap, e, _⟩
  · exact ⟨none, 0, rfl⟩
  · exact ⟨_, cap, e⟩
theorem IL.kept {w w' : World} {lo hi : Nat} {v : Value} {l : List Int} (h : IL w lo hi v l) (e : ∀ b, lo ≤ b → b < hi → b < w.heap.size → w'.heap[b]? = w.heap[b]?) : IL w' lo hi v l := by
  rcases h with h | ⟨g, cap, ev, h1, h2, h3⟩
  · exact .inl h
  · exact .inr ⟨g, cap, ev, h1, h2, h3.block (e g h1 h2 h3.lt)⟩
theorem IL.upper {w : World} {lo hi hi' : Nat} {v : Value} {l : List Int} (h : IL w lo hi v l) (hl : hi ≤ hi') : IL w lo hi' v l := by
  rcases h with h | ⟨g, cap, e, h1, h2, h3⟩
  · exact .inl h
  · exact .inr ⟨g, cap, e, h1, by omega, h3⟩
/-- Blocks outside lo .. hi are left alone. -/
structure Outs (lo hi : Nat) (w w' : World) : Prop where
  os : w'.os = w.os
  tape : w'.tape = w.tape
  output : w'.output = w.output
  size : w.heap.size ≤ w'.heap.size
  block : ∀ k, k < w.heap.size → (k < lo ∨ hi ≤ k) → w'.heap[k]? = w.heap[k]?
theorem markOut {w : World} {lo hi : Nat} {v : Value} {l : List Int} {k : Int} (h : IL w lo hi v l) (hn : l.length ≤ 1048576) (hk0 : 0 ≤ k) (hk1 : k ≤ 1000000000) :
    Calls Try.prog 27 #[v, .int .i64 k] w fun e w' => e = .returned (.int .i64 (k + l.length)) ∧ Outs lo hi w w' ∧ IL w' lo hi v (marks l k) := by
  rcases h with ⟨rfl, rfl⟩ | ⟨g, cap, rfl, h1, h2, h3⟩
  · refine (markInt64S_zero none 0 k w).mono ?_
    rintro e w' ⟨rfl, rfl⟩
    exact ⟨by simp, ⟨rfl, rfl, rfl, Nat.le_refl _, fun _ _ _ => rfl⟩, .inl ⟨rfl, rfl⟩⟩
  · refine (markInt64S_any g _ cap k _ w hn hk0 hk1 h3).mono ?_
    rintro e w' ⟨rfl, hg, hr⟩
    refine ⟨rfl, ⟨hg.os, hg.tape, hg.output, hg.size, fun x hx hxo => hg.block x (by omega) (by simp; omega)⟩, .inr ⟨g, cap, by rw [marks_length], h1, h2, ?_⟩⟩
    rw [marks_length]
    exact hr.congr fun i hi => marks_get l k hi
/-- Block bo begins with n lists: X j is the list l j of numbers, in a block between p j and q j. -/
structure LLn (w : World) (lo hi bo n : Nat) (X : Nat → Value) (p q : Nat → Nat) (l : Nat → List Int) : Prop where
  outer : ∃ cs, holds w bo cs 36 ∧ ∀ j, j < n → cs[j]? = some (X j)
  inner : ∀ j, j < n → IL w (p j) (q j) (X j) (l j)
  away : ∀ j, j < n → bo < p j ∨ q j ≤ bo
  sep : ∀ i j, i < j → j < n → q i ≤ p j
  plo : ∀ j, j < n → lo ≤ p j
  qhi : ∀ j, j < n → q j ≤ hi
  blo : lo ≤ bo
  bhi : bo < hi
section
variable {w w' : World} {lo hi bo n : Nat} {X : Nat → Value} {p q : Nat → Nat} {l l' : Nat → List Int}
theorem LLn.lt (h : LLn w lo hi bo n X p q l) : bo < w.heap.size := by
  obtain ⟨cs, h1, _⟩ := h.outer; exact holds_lt h1
theorem LLn.cell (h : LLn w lo hi bo n X p q l) {j : Nat} (hj : j < n) : ∃ a c, w.cell? ⟨bo, j, none⟩ = some (.slice a (l j).length c) ∧ X j = .slice a (l j).length c := by
  obtain ⟨cs, h1, h2⟩ := h.outer
  obtain ⟨a, c, e⟩ := (h.inner j hj).form
  exact ⟨a, c, by rw [holds_cell h1, h2 j hj, e], e⟩
theorem LLn.kept (h : LLn w lo hi bo n X p q l) (e : ∀ k, lo ≤ k → k < hi → k < w.heap.size → w'.heap[k]? = w.heap[k]?) : LLn w' lo hi bo n X p q l := by
  obtain ⟨cs, h1, h2⟩ := h.outer
  refine ⟨⟨cs, by show w'.heap[bo]? = _; rw [e bo h.blo h.bhi (holds_lt h1)]; exact h1, h2⟩, fun j hj => (h.inner j hj).kept fun b h3 h4 h5 => e b ?_ ?_ h5, h.away, h.sep, h.plo, h.qhi, h.blo, h.bhi⟩
  · have := h.plo j hj; omega
  · have := h.qhi j hj; omega
theorem LLn.below (h : LLn w lo hi bo n X p q l) (hb : Below w.heap.size w w') : LLn w' lo hi bo n X p q l := h.kept fun k _ _ hk => hb.block k hk
theorem LLn.under {B : Nat} (h : LLn w lo hi bo n X p q l) (hb : Below B w w') (hB : hi ≤ B) : LLn w' lo hi bo n X p q l := h.kept fun k _ h2 _ => hb.block k (by omega)
theorem LLn.drew (h : LLn w lo hi bo n X p q l) : LLn w.drew lo hi bo n X p q l := h.kept fun _ _ _ _ => rfl
theorem LLn.congr (h : LLn w lo hi bo n X p q l) (e : ∀ j, j < n → l' j = l j) : LLn w lo hi bo n X p q l' := ⟨h.outer, fun j hj => by rw [e j hj]; exact h.inner j hj, h.away, h.sep, h.plo, h.qhi, h.blo, h.bhi⟩
theorem LLn.step (h : LLn w lo hi bo n X p q l) {j : Nat} (hj : j < n) (ho : Outs (p j) (q j) w w') (hr : IL w' (p j) (q j) (X j) (l' j)) (e : ∀ i, i < n → i ≠ j → l' i = l i) : LLn w' lo hi bo n X p q l' := by
  obtain ⟨cs, h1, h2⟩ := h.outer
  refine ⟨⟨cs, by show w'.heap[bo]? = _; rw [ho.block bo (holds_lt h1) (h.away j hj)]; exact h1, h2⟩, fun i hi => ?_, h.away, h.sep, h.plo, h.qhi, h.blo, h.bhi⟩
  by_cases c : i = j
  · subst c; exact hr
  · rw [e i hi c]
    refine (h.inner i hi).kept fun b h3 h4 h5 => ho.block b h5 ?_
    by_cases d : i < j
    · have := h.sep i j d hj; omega
    · have := h.sep j i (by omega) hi; omega
end
set_option maxHeartbeats 2000000 in
theorem eqLLn (bo1 bo2 n d1 d2 lo1 hi1 lo2 hi2 : Nat) (X1 X2 : Nat → Value) (p1 q1 p2 q2 : Nat → Nat) (l : Nat → List Int) (w : World) (hn : n ≤ 1000) (hL : ∀ j, j < n → (l j).length ≤ 1000) (h1 : LLn w lo1 hi1 bo1 n X1 p1 q1 l) (h2 : LLn w lo2 hi2 bo2 n X2 p2 q2 l) :
    Calls Try.prog 18 #[.slice (some ⟨bo1, 0, none⟩) n d1, .slice (some ⟨bo2, 0, none⟩) n d2] w fun e w' => e = .returned (.bool true) ∧ Below w.heap.size w w' := by
  have HLn := hid hL
  clear hL
  go_enter Try.func18, Try.ntmps18
  go_wp2
  go_loopw [5] (fun i wr => ∃ k : Nat, k ≤ n ∧ i = .int .i64 k ∧ Has w wr [] ∧ Hid (LLn wr lo1 hi1 bo1 n X1 p1 q1 l) ∧ Hid (LLn wr lo2 hi2 bo2 n X2 p2 q2 l)) (fun i _ => n - (intOf i).toNat)
  case atStart => exact ⟨0, by omega, rfl, Has.nil w, h1, h2⟩
  case round =>
    clear h1 h2
    obtain ⟨k, hk, rfl, hH, h1, h2⟩ := hrel
    by_cases hlt : k < n
    · obtain ⟨a1, e1, c1, x1⟩ := h1.out.cell hlt
      obtain ⟨a2, e2, c2, x2⟩ := h2.out.cell hlt
      have HM1 := hid x1
      have HM2 := hid x2
      clear x1 x2
      have hm := HLn.out k hlt
      obtain ⟨m, hme⟩ : ∃ m, (l k).length = m := ⟨_, rfl⟩
      have HME := hid hme
      rw [hme] at c1 c2 HM1 HM2 hm
      clear hme
      have hlt' : (k : Int) < (n : Int) := by omega
      go_wp2
      refine wp_region_frame (X := Unit) (fun d _ => [(17, bif d 0 then .slice (some ⟨bo1, 0, none⟩) n d1 else u17), (18, bif d 1 then .int .i64 k else u18), (19, bif d 2 then .pointer (some ⟨bo1, k, none⟩) else u19), (20, bif d 3 then .slice a1 m e1 else u20), (21, bif d 4 then .slice (some ⟨bo2, 0, none⟩) n d2 else u21), (22, bif d 5 then .int .i64 k else u22), (23, bif d 6 then .pointer (some ⟨bo2, k, none⟩) else u23), (24, bif d 7 then .slice a2 m e2 else u24), (25, bif d 8 then .bool true else u25), (26, bif d 9 then .bool false else u26)])
        (fun d _ w' => Has w w' [] ∧ Hid (LLn w' lo1 hi1 bo1 n X1 p1 q1 l) ∧ Hid (LLn w' lo2 hi2 bo2 n X2 p2 q2 l) ∧ w'.cell? ⟨bo1, k, none⟩ = some (.slice a1 m e1) ∧ w'.cell? ⟨bo2, k, none⟩ = some (.slice a2 m e2)) (by kernel_rfl) (by kernel_rfl) ?h0_eqs ?hs_eqs ?hq_eqs
      case h0_eqs => exact ⟨(), (by simp [lput]), hH.drew, hid h1.out.drew, hid h2.out.drew, (show _ from c1), (show _ from c2)⟩
      case hs_eqs =>
        refine ⟨?_, ?_, ?_, ?_, ?_, ?_, ?_, ?_, ?_, ?_, trivial⟩
        all_goals
          clear hH h1 h2 c1 c2
          intro d _ w1 hd hn hJ
          simp only [needs, Region.binds, reduceCtorEq, Bool.false_eq_true, false_implies, true_and, and_true, true_implies, forall_const] at hn
          simp only [lput, List.set, hn, cond_true]
          obtain ⟨hH, h1, h2, c1, c2⟩ := hJ
          go_wp2_with (first | fail | (go_at_call 24; refine (eqIL (by have := h1.out.inner k hlt; rw [HM1.out] at this; exact this) (by have := h2.out.inner k hlt; rw [HM2.out] at this; exact this) (by rw [HME.out]; omega)).mono ?_; rintro e w2 ⟨rfl, hb⟩; replace hH := hH.call' hb; replace c1 := (hb.cell (p := ⟨bo1, k, none⟩) h1.out.lt).trans c1; replace c2 := (hb.cell (p := ⟨bo2, k, none⟩) h2.out.lt).trans c2; replace h1 := hid (h1.out.below hb); replace h2 := hid (h2.out.below hb); clear hb))
          first
            | (refine ⟨(), ?_, hH, h1, h2, c1, c2⟩; (simp [lput, done, hn]; done))
            | (refine ⟨?_, hH, h1, h2, c1, c2⟩; (simp [lput, done, hn]; done))
            | (refine ⟨(), ?_, hH, h1, h2, c1, c2⟩; (simp [lput, done, hn]; rfl))
            | (refine ⟨?_, hH, h1, h2, c1, c2⟩; (simp [lput, done, hn]; rfl))
            | (refine ⟨(), ?_, hH, h1, h2, c1, c2⟩; (simp [lput, done]; done))
            | (refine ⟨?_, hH, h1, h2, c1, c2⟩; (simp [lput, done]; done))
            | (refine ⟨(), ?_, hH, h1, h2, c1, c2⟩; (simp [lput, done]; rfl))
            | (refine ⟨?_, hH, h1, h2, c1, c2⟩; (simp [lput, done]; rfl))
      case hq_eqs =>
        clear hH h1 h2 c1 c2
        intro d _ w1 hd hJ
        simp only [allDone, List.length_cons, List.length_nil, Nat.reduceAdd, and_true] at hd
        obtain ⟨hH, h1, h2, c1, c2⟩ := hJ
        simp only [lput, List.set, hd, cond_true]
        clear hd
        go_wp2
        go_roundw
        case rel => exact ⟨k + 1, by omega, by go_num, hH, h1, h2⟩
        case measure => simp [intOf]; omega
    · go_wp2
      go_ret
      exact ⟨rfl, hH.below⟩
/-- What the lists read when their numbers have been replaced by k, k + 1, .. -/
def marksF (l : Nat → List Int) (k : Int) : Nat → List Int := fun j => marks (l j) (k + (offF l j : Nat))
set_option maxHeartbeats 2000000 in
theorem heldLLn (bo n c lo hi : Nat) (X : Nat → Value) (p q : Nat → Nat) (k : Int) (l : Nat → List Int) (w : World) (hn : n ≤ 1000) (hL : ∀ j, j < n → (l j).length ≤ 1000) (hk0 : 0 ≤ k) (hk1 : k ≤ 1000000) (h : LLn w lo hi bo n X p q (marksF l k)) :
    Calls Try.prog 20 #[.slice (some ⟨bo, 0, none⟩) n c, .int .i64 k] w fun e w' => e = .returned (.int .i64 (k + (offF l n : Nat))) ∧ w = w' := by
  have HA := hid (offF_le hL)
  have HLn := hid hL
  have HO0 := hid (show offF l 0 = 0 from rfl)
  clear hL
  go_enter Try.func20, Try.ntmps20
  go_wp2
  go_loop [1, 5] (fun m i => ∃ j : Nat, j ≤ n ∧ i = .int .i64 j ∧ m = .int .i64 (k + ((offF l j : Nat) : Int))) (fun _ i => n - (intOf i).toNat)
  case atStart => exact ⟨0, by omega, rfl, by rw [HO0.out]; simp⟩
  case round =>
    obtain ⟨j, hj, rfl, rfl⟩ := hrel
    have ha := HA.out j hj
    obtain ⟨o, ho⟩ : ∃ o, offF l j = o := ⟨_, rfl⟩
    have HQ := hid ho
    rw [ho] at ha ⊢
    clear ho
    by_cases hlt : j < n
    · obtain ⟨a1, e1, c1, x1⟩ := h.cell hlt
      have hR := h.inner j hlt
      have hm := HLn.out j hlt
      obtain ⟨m, hme⟩ : ∃ m, (l j).length = m := ⟨_, rfl⟩
      have hml : (marksF l k j).length = m := by unfold marksF; rw [marks_length, hme]
      rw [hml] at c1 x1
      rw [x1] at hR
      unfold marksF at hR
      rw [HQ.out] at hR
      have HR := hid hR
      have HME := hid hme
      rw [hme] at hm
      clear hR x1 hme hml
      have hlt' : (j : Int) < (n : Int) := by omega
      have hq1 : 0 ≤ k + (o : Int) + (m : Int) := by omega
      have HOS := hid (show offF l (j + 1) = o + m by simp only [offF]; rw [HQ.out, HME.out])
      have HC : Hid (Calls Try.prog 28 #[.slice a1 m e1, .int .i64 (k + (o : Int))] w fun e w' => e = .returned (.int .i64 (k + (o : Int) + (m : Int))) ∧ w = w') := hid (by
        have := heldIL (k := k + (o : Int)) HR.out (by rw [HME.out]; omega) (by omega) (by omega)
        rw [HME.out] at this; exact this)
      go_wp2_with (go_at_call 28; refine HC.out.mono ?_; rintro e w' ⟨rfl, rfl⟩)
      go_round
      case rel => exact ⟨j + 1, by omega, by go_num, by congr 1; rw [HOS.out]; omega⟩
      case measure => simp [intOf]; omega
    · obtain rfl : j = n := by omega
      go_wp2
      go_ret
      exact ⟨by rw [← HQ.out]; first | rfl | (simp; done), rfl⟩
set_option maxHeartbeats 2000000 in
theorem markLLn (bo n c lo hi : Nat) (X : Nat → Value) (p q : Nat → Nat) (k : Int) (l : Nat → List Int) (w : World) (hn : n ≤ 1000) (hL : ∀ j, j < n → (l j).length ≤ 1000) (hk0 : 0 ≤ k) (hk1 : k ≤ 1000000) (h : LLn w lo hi bo n X p q l) (hS : lo ≤ w.heap.size) :
    Calls Try.prog 19 #[.slice (some ⟨bo, 0, none⟩) n c, .int .i64 k] w fun e w' => e = .returned (.int .i64 (k + (offF l n : Nat))) ∧ Below lo w w' ∧ LLn w' lo hi bo n X p q (marksF l k) := by
  have HA := hid (offF_le hL)
  have HLn := hid hL
  have HO0 := hid (show offF l 0 = 0 from rfl)
  clear hL
  go_enter Try.func19, Try.ntmps19
  go_wp2
  go_loopw [1, 5] (fun m i wr => ∃ j : Nat, j ≤ n ∧ i = .int .i64 j ∧ m = .int .i64 (k + ((offF l j : Nat) : Int)) ∧ Hid (Below lo w wr) ∧ Hid (LLn wr lo hi bo n X p q (fun x => if x < j then marksF l k x else l x))) (fun _ i _ => n - (intOf i).toNat)
  case atStart => exact ⟨0, by omega, rfl, by rw [HO0.out]; simp, Below.refl _ _, h.congr fun j hj => by simp⟩
  case round =>
    clear h
    obtain ⟨j, hj, rfl, rfl, hG, h⟩ := hrel
    have ha := HA.out j hj
    obtain ⟨o, ho⟩ : ∃ o, offF l j = o := ⟨_, rfl⟩
    have HQ := hid ho
    rw [ho] at ha ⊢
    clear ho
    by_cases hlt : j < n
    · obtain ⟨a1, e1, c1, x1⟩ := h.out.cell hlt
      have hR := h.out.inner j hlt
      have hm := HLn.out j hlt
      obtain ⟨m, hme⟩ : ∃ m, (l j).length = m := ⟨_, rfl⟩
      simp only [Nat.lt_irrefl, if_false] at hR c1 x1
      rw [hme] at c1 x1 hm
      have HX := hid x1
      rw [x1] at hR
      have HR := hid hR
      have HME := hid hme
      clear hR x1 hme
      have hlt' : (j : Int) < (n : Int) := by omega
      have hq1 : 0 ≤ k + (o : Int) + (m : Int) := by omega
      have HOS := hid (show offF l (j + 1) = o + m by simp only [offF]; rw [HQ.out, HME.out])
      have HC : Hid (Calls Try.prog 27 #[.slice a1 m e1, .int .i64 (k + (o : Int))] wr fun e w' => e = .returned (.int .i64 (k + (o : Int) + (m : Int))) ∧ Outs (p j) (q j) wr w' ∧ IL w' (p j) (q j) (.slice a1 m e1) (marks (l j) (k + (o : Int)))) := hid (by
        have := markOut (k := k + (o : Int)) HR.out (by rw [HME.out]; omega) (by omega) (by omega)
        rw [HME.out] at this; exact this)
      go_wp2_with (go_at_call 27; refine HC.out.mono ?_; rintro e w' ⟨rfl, hg, hr⟩; have HG := hid hg; have HI := hid hr; clear hg hr)
      go_roundw
      case rel => exact ⟨j + 1, by omega, by go_num, by congr 1; rw [HOS.out]; omega, hid (by
          have g := HG.out
          exact hG.out.trans ⟨g.os, g.tape, g.output, g.size, fun x hx => g.block x (by have := hG.out.size; omega) (by have := h.out.plo j hlt; omega)⟩), hid (h.out.step (l' := fun x => if x < j + 1 then marksF l k x else l x) hlt HG.out (by
            have := HI.out
            rw [if_pos (by omega), HX.out]
            unfold marksF
            rw [HQ.out]; exact this) (fun x hx hne => by simp [show x < j + 1 ↔ x < j by omega]))⟩
      case measure => simp [intOf]; omega
    · obtain rfl : j = n := by omega
      have HH := hid (h.out.congr (l' := marksF l k) (fun x hx => by simp [hx]))
      go_wp2
      go_ret
      exact ⟨by rw [← HQ.out]; first | rfl | (simp; done), hG.out, HH.out⟩
/-- v is the list of the n lists l: no block, or blocks between lo and hi. -/
def LL (w : World) (lo hi : Nat) (v : Value) (n : Nat) (l : Nat → List Int) : Prop :=
  (v = .slice none 0 0 ∧ n = 0) ∨ ∃ bo c X p q, v = .slice (some ⟨bo, 0, none⟩) n c ∧ LLn w lo hi bo n X p q l
theorem LL.below {w w' : World} {lo hi B n : Nat} {v : Value} {l : Nat → List Int} (h : LL w lo hi v n l) (hb : Below B w w') (hB : hi ≤ B) : LL w' lo hi v n l := by
  rcases h with h | ⟨bo, c, X, p, q, e, h⟩
  · exact .inl h
  · exact .inr ⟨bo, c, X, p, q, e, h.under hb hB⟩
theorem eqInt64SS_none (w : World) (p q : Option Addr) (c d : Nat) : Calls Try.prog 18 #[.slice p 0 c, .slice q 0 d] w fun e w' => e = .returned (.bool true) ∧ Below w.heap.size w w' := by
  go_enter Try.func18, Try.ntmps18
  go_wp2
  go_loopw [5] (fun i wr => i = .int .i64 0 ∧ Below w.heap.size w wr) (fun _ _ => 0)
  case atStart => exact ⟨rfl, Below.refl _ _⟩
  case round =>
    obtain ⟨rfl, hB⟩ := hrel
    go_wp2
    go_ret
    exact ⟨rfl, hB⟩
theorem markInt64SS_none (w : World) (p : Option Addr) (c : Nat) (k : Int) : Calls Try.prog 19 #[.slice p 0 c, .int .i64 k] w fun e w' => e = .returned (.int .i64 k) ∧ w = w' := by
  go_enter Try.func19, Try.ntmps19
  go_wp2
  go_loop [1, 5] (fun m i => m = .int .i64 k ∧ i = .int .i64 0) (fun _ _ => 0)
  case atStart => exact ⟨rfl, rfl⟩
  case round =>
    obtain ⟨rfl, rfl⟩ := hrel
    go_wp2
    go_ret
    exact ⟨rfl, rfl⟩
theorem heldInt64SS_none (w : World) (p : Option Addr) (c : Nat) (k : Int) : Calls Try.prog 20 #[.slice p 0 c, .int .i64 k] w fun e w' => e = .returned (.int .i64 k) ∧ w = w' := by
  go_enter Try.func20, Try.ntmps20
  go_wp2
  go_loop [1, 5] (fun m i => m = .int .i64 k ∧ i = .int .i64 0) (fun _ _ => 0)
  case atStart => exact ⟨rfl, rfl⟩
  case round =>
    obtain ⟨rfl, rfl⟩ := hrel
    go_wp2
    go_ret
    exact ⟨rfl, rfl⟩
theorem eqLL {w : World} {lo hi lo' hi' n : Nat} {v v' : Value} {l : Nat → List Int} (h : LL w lo hi v n l) (h' : LL w lo' hi' v' n l) (hn : n ≤ 1000) (hL : ∀ j, j < n → (l j).length ≤ 1000) :
    Calls Try.prog 18 #[v, v'] w fun e w' => e = .returned (.bool true) ∧ Below w.heap.size w w' := by
  rcases h with ⟨rfl, rfl⟩ | ⟨bo, c, X, p, q, rfl, h⟩
  · rcases h' with ⟨rfl, _⟩ | ⟨bo', c', X', p', q', rfl, h'⟩
    · exact eqInt64SS_none _ _ _ _ _
    · exact eqInt64SS_none _ _ _ _ _
  · rcases h' with ⟨rfl, rfl⟩ | ⟨bo', c', X', p', q', rfl, h'⟩
    · exact eqInt64SS_none _ _ _ _ _
    · exact eqLLn bo bo' n c c' lo hi lo' hi' X X' p q p' q' l w hn hL h h'
theorem markLL {w : World} {lo hi n : Nat} {v : Value} {l : Nat → List Int} {k : Int} (h : LL w lo hi v n l) (hn : n ≤ 1000) (hL : ∀ j, j < n → (l j).length ≤ 1000) (hk0 : 0 ≤ k) (hk1 : k ≤ 1000000) (hlo : lo ≤ w.heap.size) :
    Calls Try.prog 19 #[v, .int .i64 k] w fun e w' => e = .returned (.int .i64 (k + (offF l n : Nat))) ∧ Below lo w w' ∧ LL w' lo hi v n (marksF l k) := by
  rcases h with ⟨rfl, rfl⟩ | ⟨bo, c, X, p, q, rfl, h⟩
  · refine (markInt64SS_none w none 0 k).mono ?_
    rintro e w' ⟨rfl, rfl⟩
    exact ⟨by simp [offF], Below.refl _ _, .inl ⟨rfl, rfl⟩⟩
  · refine (markLLn bo n c lo hi X p q k l w hn hL hk0 hk1 h hlo).mono ?_
    rintro e w' ⟨rfl, hb, h2⟩
    exact ⟨rfl, hb, .inr ⟨bo, c, X, p, q, rfl, h2⟩⟩
theorem heldLL {w : World} {lo hi n : Nat} {v : Value} {l : Nat → List Int} {k : Int} (h : LL w lo hi v n (marksF l k)) (hn : n ≤ 1000) (hL : ∀ j, j < n → (l j).length ≤ 1000) (hk0 : 0 ≤ k) (hk1 : k ≤ 1000000) :
    Calls Try.prog 20 #[v, .int .i64 k] w fun e w' => e = .returned (.int .i64 (k + (offF l n : Nat))) ∧ w = w' := by
  rcases h with ⟨rfl, rfl⟩ | ⟨bo, c, X, p, q, rfl, h⟩
  · refine (heldInt64SS_none w none 0 k).mono ?_
    rintro e w' ⟨rfl, rfl⟩
    exact ⟨by simp [offF], rfl⟩
  · exact heldLLn bo n c lo hi X p q k l w hn hL hk0 hk1 h
/-- What a function hands back that makes a list of lists, and a code. -/
def GotLL (n : Nat) (l : Nat → List Int) (z : Int) (w : World) (e : Ending) (w' : World) : Prop :=
  ∃ v, e = .returned (.tuple #[v, .int .i64 z]) ∧ Below w.heap.size w w' ∧ LL w' w.heap.size w'.heap.size v n l
theorem GotLL.err {z : Int} {l : Nat → List Int} {w w' : World} {e : Ending} (h : e = .returned (.tuple #[.slice none 0 0, .int .i64 z]) ∧ Below w.heap.size w w') : GotLL 0 l z w e w' := ⟨_, h.1, h.2, .inl ⟨rfl, rfl⟩⟩
/-- A list of lists that is being made behind B: the cells xs of v are the lists l. -/
structure LPx (w : World) (B : Nat) (v : Value) (n : Nat) (xs : List Value) (X : Nat → Value) (p q : Nat → Nat) (l : Nat → List Int) : Prop where
  own : w.ownsRow B 36 1 v n xs
  len : xs.length = n
  at' : ∀ j, j < n → xs[j]? = some (X j)
  inner : ∀ j, j < n → IL w (p j) (q j) (X j) (l j)
  away : ∀ b, v.ownBlock = some b → ∀ j, j < n → b < p j ∨ q j ≤ b
  sep : ∀ i j, i < j → j < n → q i ≤ p j
  lo : ∀ j, j < n → B ≤ p j
  hi : ∀ j, j < n → q j ≤ w.heap.size
def LP (w : World) (B : Nat) (v : Value) (n : Nat) (l : Nat → List Int) : Prop := ∃ xs X p q, LPx w B v n xs X p q l
section
variable {w w' w1 w2 : World} {B n : Nat} {v : Value} {xs : List Value} {X : Nat → Value} {p q : Nat → Nat} {l : Nat → List Int}
theorem LPx.kept (h : LPx w B v n xs X p q l) (hs : w.heap.size ≤ w'.heap.size) (e : ∀ k, k < w.heap.size → w'.heap[k]? = w.heap[k]?) : LPx w' B v n xs X p q l :=
  ⟨own_kept h.own e, h.len, h.at', fun j hj => (h.inner j hj).kept fun b _ _ hb => e b hb, h.away, h.sep, h.lo, fun j hj => Nat.le_trans (h.hi j hj) hs⟩
theorem LP.below (h : LP w B v n l) (hb : Below w.heap.size w w') : LP w' B v n l := by
  obtain ⟨xs, X, p, q, h⟩ := h
  exact ⟨xs, X, p, q, h.kept hb.size hb.block⟩
theorem LP.drew (h : LP w B v n l) : LP w.drew B v n l := by
  obtain ⟨xs, X, p, q, h⟩ := h
  exact ⟨xs, X, p, q, h.kept (Nat.le_refl _) fun _ _ => rfl⟩
theorem LP.alloc (h : LP w B v n l) (o : Obj) : LP (w.alloc o) B v n l := by
  obtain ⟨xs, X, p, q, h⟩ := h
  exact ⟨xs, X, p, q, h.kept (by simp) fun k hk => heap_alloc_old w o hk⟩
theorem LP.start (h : w.ownsRow B 36 1 v 0 []) : LP w B v 0 l :=
  ⟨[], fun _ => v, fun _ => 0, fun _ => 0, h, rfl, fun j hj => by omega, fun j hj => by omega, fun b _ j hj => by omega, fun i j _ hj => by omega, fun j hj => by omega, fun j hj => by omega⟩
theorem LP.nil (w : World) (B : Nat) (l : Nat → List Int) : LP w B (.slice none 0 0) 0 l := LP.start (World.ownsRow_nil _ _ _ _)
/-- The first list, built with the block of the lists. -/
theorem LP.one {x : Value} {lo hi : Nat} (hx : IL w lo hi x (l 0)) (hlo : B ≤ lo) (hhi : hi ≤ w.heap.size) (hB : B ≤ w.heap.size) : LP (w.alloc (.cells #[x] 36)) B (.slice (some ⟨w.heap.size, 0, none⟩) 1 1) 1 l := by
  refine ⟨[x], fun _ => x, fun _ => lo, fun _ => hi, ⟨rfl, .inr ⟨w.heap.size, 1, #[x], rfl, hB, heap_alloc_new w _, by omega, by unfold maxLen; omega, rfl, rfl⟩⟩, rfl, fun j hj => ?_, fun j hj => ?_, fun b hb j hj => ?_, fun i j hi hj => by omega, fun j hj => hlo, fun j hj => ?_⟩
  · obtain rfl : j = 0 := by omega
    rfl
  · obtain rfl : j = 0 := by omega
    exact hx.kept fun b _ _ hb => heap_alloc_old w _ hb
  · have : w.heap.size = b := by simpa [Value.ownBlock] using hb
    right; omega
  · simp; omega
/-- One list more. -/
theorem LPx.push' {x : Value} {g2 cap2 : Nat} {o : Obj} (h : LPx w B v n xs X p q l) (hB : B ≤ w.heap.size) (hb : Below w.heap.size w w1) (hr : IL w1 w.heap.size w1.heap.size x (l n))
    (how : w2.ownsRow B 36 1 (.slice (some ⟨g2, 0, none⟩) (n + 1) cap2) (n + 1) (xs ++ [x]))
    (hgr : (w1.alloc o).grownBy w2 v.ownBlock) (hor : v.ownBlock = some g2 ∨ g2 = (w1.alloc o).heap.size) : LPx w2 B (.slice (some ⟨g2, 0, none⟩) (n + 1) cap2) (n + 1) (xs ++ [x]) (fun j => if j = n then x else X j) (fun j => if j = n then w.heap.size else p j) (fun j => if j = n then w1.heap.size else q j) l := by
  have hlt := h.own.lt
  have hs := hb.size
  have hsz : (w1.alloc o).heap.size = w1.heap.size + 1 := by simp
  have hs2 := hgr.size
  refine ⟨how, by simp [h.len], fun j hj => ?_, fun j hj => ?_, fun b hbe j hj => ?_, fun i j hij hj => ?_, fun j hj => ?_, fun j hj => ?_⟩
  · by_cases e : j = n
    · subst e; simp [h.len]
    · simp only [if_neg e]; rw [List.getElem?_append_left (by have := h.len; omega)]; exact h.at' j (by omega)
  · by_cases e : j = n
    · subst e
      simp only [if_pos]
      refine hr.kept fun b h1 h2 h3 => ?_
      rw [hgr.block b (by omega) (fun e => by have := (hlt b e.symm).2; omega)]
      exact heap_alloc_old w1 o h3
    · simp only [if_neg e]
      refine (h.inner j (by omega)).kept fun b h1 h2 h3 => ?_
      rw [hgr.block b (by omega) (fun e => by have := h.away b e.symm j (by omega); omega), heap_alloc_old w1 o (by omega)]
      exact hb.block b h3
  · obtain rfl : g2 = b := by simpa [Value.ownBlock] using hbe
    by_cases e : j = n
    · simp only [if_pos e]
      rcases hor with e2 | e2
      · have := (hlt g2 e2).2; omega
      · omega
    · simp only [if_neg e]
      rcases hor with e2 | e2
      · exact h.away g2 e2 j (by omega)
      · have := h.hi j (by omega); omega
  · by_cases e : j = n
    · simp only [if_pos e, if_neg (show i ≠ n by omega)]; exact h.hi i (by omega)
    · simp only [if_neg e, if_neg (show i ≠ n by omega)]; exact h.sep i j hij (by omega)
  · by_cases e : j = n
    · simp only [if_pos e]; exact hB
    · simp only [if_neg e]; exact h.lo j (by omega)
  · by_cases e : j = n
    · simp only [if_pos e]; omega
    · simp only [if_neg e]; have := h.hi j (by omega); omega
theorem LPx.push {x : Value} {g2 cap2 : Nat} {o : Obj} (h : LPx w B v n xs X p q l) (hB : B ≤ w.heap.size) (hb : Below w.heap.size w w1) (hr : IL w1 w.heap.size w1.heap.size x (l n))
    (how : w2.ownsRow B 36 1 (.slice (some ⟨g2, 0, none⟩) (n + 1) cap2) (n + 1) (xs ++ [x]))
    (hgr : (w1.alloc o).grownBy w2 v.ownBlock) (hor : v.ownBlock = some g2 ∨ g2 = (w1.alloc o).heap.size) : LP w2 B (.slice (some ⟨g2, 0, none⟩) (n + 1) cap2) (n + 1) l := ⟨_, _, _, _, h.push' hB hb hr how hgr hor⟩
theorem LP.done (h : LP w B v n l) : LL w B w.heap.size v n l := by
  obtain ⟨xs, X, p, q, h⟩ := h
  rcases h.own.2 with ⟨h1, h0⟩ | ⟨g, cap, cur, rfl, hb, hg, hc, _, hs, hx⟩
  · exact .inl ⟨h1, h0⟩
  · refine .inr ⟨g, cap, X, p, q, rfl, ⟨cur, hg, fun j hj => ?_⟩, h.inner, fun j hj => h.away g rfl j hj, h.sep, h.lo, h.hi, hb, (Array.getElem?_eq_some_iff.1 hg).1⟩
    have e := h.at' j hj
    rw [← hx, List.getElem?_take, if_pos (by omega)] at e
    simpa using e
theorem LP.lower {B' : Nat} (h : LP w B v n l) (hb : B' ≤ B) : LP w B' v n l := by
  obtain ⟨xs, X, p, q, h⟩ := h
  refine ⟨xs, X, p, q, ⟨h.own.1, ?_⟩, h.len, h.at', h.inner, h.away, h.sep, fun j hj => by have := h.lo j hj; omega, h.hi⟩
  rcases h.own.2 with h2 | ⟨g, cap, cur, e, hB, hr⟩
  · exact .inl h2
  · exact .inr ⟨g, cap, cur, e, by omega, hr⟩
theorem LP.got (h : LP w' B v n l) (hb : Below w.heap.size w w') (hB : w.heap.size ≤ B) : GotLL n l 0 w (.returned (.tuple #[v, .int .i64 0])) w' := ⟨v, rfl, hb, (h.lower hB).done⟩
theorem LP.congr {l' : Nat → List Int} (h : LP w B v n l) (e : ∀ j, j < n → l' j = l j) : LP w B v n l' := by
  obtain ⟨xs, X, p, q, h⟩ := h
  exact ⟨xs, X, p, q, h.own, h.len, h.at', fun j hj => by rw [e j hj]; exact h.inner j hj, h.away, h.sep, h.lo, h.hi⟩
end
/-- What a function hands back that makes a list of lists alone. -/
def GotLP (n : Nat) (l : Nat → List Int) (w : World) (e : Ending) (w' : World) : Prop := ∃ v, e = .returned v ∧ Below w.heap.size w w' ∧ LP w' w.heap.size v n l
end Go.Proofs.Ytbdcbmennblcdab
