/- Proved: lemmas on the least set with some elements of a loop, and 0, that is closed under products, without any program. Conditions: those that each lemma names. -/
import Derived.Test.YtbhjbllgmenbaaaNu
import Derived.Test.YtbhjbllgmenbaaaPm
import Derived.Test.YtbhjbllgmenbaaaSm
namespace Go.Proofs.Ytbhjbllgmenbaaa
set_option linter.unusedVariables false
set_option linter.unusedSimpArgs false
open Go.RowKit
/-- What z becomes when it is multiplied by x from the left k times. -/
def itL (g : Nat → UInt8) (x z : Nat) : Nat → Nat
  | 0 => z
  | k + 1 => mu g x (itL g x z k)
/-- The same from the right. -/
def itR (g : Nat → UInt8) (y z : Nat) : Nat → Nat
  | 0 => z
  | k + 1 => mu g (itR g y z k) y
theorem itL_lt {g : Nat → UInt8} {N x z : Nat} (h : IsSq N g) (hx : x < N) (hz : z < N) : ∀ k, itL g x z k < N
  | 0 => hz
  | k + 1 => mu_lt h hx (itL_lt h hx hz k)
theorem itR_lt {g : Nat → UInt8} {N y z : Nat} (h : IsSq N g) (hy : y < N) (hz : z < N) : ∀ k, itR g y z k < N
  | 0 => hz
  | k + 1 => mu_lt h (itR_lt h hy hz k) hy
theorem mu_inj {g : Nat → UInt8} {N x y z : Nat} (h : IsSq N g) (hx : x < N) (hy : y < N) (hz : z < N) (e : mu g x y = mu g x z) : y = z := (h.rows x hx).inj' hy hz e
theorem mu_injr {g : Nat → UInt8} {N x y z : Nat} (h : IsSq N g) (hx : x < N) (hy : y < N) (hz : z < N) (e : mu g y x = mu g z x) : y = z := (h.cols x hx).inj' hy hz e
theorem itL_cancel {g : Nat → UInt8} {N x z : Nat} (h : IsSq N g) (hx : x < N) (hz : z < N) (d : Nat) : ∀ i, itL g x z (i + d) = itL g x z i → itL g x z d = z
  | 0, e => by rw [Nat.zero_add] at e; exact e
  | i + 1, e => by
    rw [show i + 1 + d = (i + d) + 1 by omega] at e
    exact itL_cancel h hx hz d i (mu_inj h hx (itL_lt h hx hz _) (itL_lt h hx hz _) e)
theorem itR_cancel {g : Nat → UInt8} {N y z : Nat} (h : IsSq N g) (hy : y < N) (hz : z < N) (d : Nat) : ∀ i, itR g y z (i + d) = itR g y z i → itR g y z d = z
  | 0, e => by rw [Nat.zero_add] at e; exact e
  | i + 1, e => by
    rw [show i + 1 + d = (i + d) + 1 by omega] at e
    exact itR_cancel h hy hz d i (mu_injr h hy (itR_lt h hy hz _) (itR_lt h hy hz _) e)
theorem comes_back (N : Nat) (f : Nat → Nat) (h : ∀ i, f i < N) : ∃ i d, f (i + (d + 1)) = f i := by
  apply Classical.byContradiction
  intro hno
  have hne : ∀ i j, i < j → f i ≠ f j := fun i j hij e => hno ⟨i, j - i - 1, by rw [show i + (j - i - 1 + 1) = j by omega]; exact e.symm⟩
  obtain ⟨i, hi, e⟩ := pigeon N f (fun i _ => h i) (fun i j hij _ => hne i j hij) (f N) (h N)
  exact hne i N hi e
/-- S is closed under products of elements before N. -/
def MulCl (g : Nat → UInt8) (N : Nat) (S : Nat → Bool) : Prop := ∀ x y, x < N → y < N → S x = true → S y = true → S (mu g x y) = true
theorem MulCl.iterL {g : Nat → UInt8} {N : Nat} {S : Nat → Bool} (h : MulCl g N S) (hq : IsSq N g) {x z : Nat} (hx : x < N) (hz : z < N) (sx : S x = true) (sz : S z = true) : ∀ k, S (itL g x z k) = true
  | 0 => sz
  | k + 1 => h x _ hx (itL_lt hq hx hz k) sx (MulCl.iterL h hq hx hz sx sz k)
theorem MulCl.iterR {g : Nat → UInt8} {N : Nat} {S : Nat → Bool} (h : MulCl g N S) (hq : IsSq N g) {y z : Nat} (hy : y < N) (hz : z < N) (sy : S y = true) (sz : S z = true) : ∀ k, S (itR g y z k) = true
  | 0 => sz
  | k + 1 => h _ y (itR_lt hq hy hz k) hy (MulCl.iterR h hq hy hz sy sz k) sy
/-- The element by which z comes out of y by multiplication from the left. -/
def rd (g : Nat → UInt8) (N z y : Nat) : UInt8 := backF (colF g y) N z
theorem rd_lt {g : Nat → UInt8} {N z y : Nat} (h : IsSq N g) (hy : y < N) (hz : z < N) : (rd g N z y).toNat < N := (bk_lt (h.cols y hy) hz).1
theorem MulCl.left {g : Nat → UInt8} {N : Nat} {S : Nat → Bool} (h : MulCl g N S) (hq : IsSq N g) {x z : Nat} (hx : x < N) (hz : z < N) (sx : S x = true) (sz : S z = true) : S (ld g N x z).toNat = true := by
  obtain ⟨i, d, e⟩ := comes_back N (itL g x z) (itL_lt hq hx hz)
  have e1 := itL_cancel hq hx hz (d + 1) i e
  have e2 : mu g x (ld g N x z).toNat = z := (bk_lt (hq.rows x hx) hz).2
  have e3 : itL g x z d = (ld g N x z).toNat := mu_inj hq hx (itL_lt hq hx hz d) (ld_lt hq hx hz) (by rw [e2]; exact e1)
  rw [← e3]
  exact h.iterL hq hx hz sx sz d
theorem MulCl.right {g : Nat → UInt8} {N : Nat} {S : Nat → Bool} (h : MulCl g N S) (hq : IsSq N g) {y z : Nat} (hy : y < N) (hz : z < N) (sy : S y = true) (sz : S z = true) : S (rd g N z y).toNat = true := by
  obtain ⟨i, d, e⟩ := comes_back N (itR g y z) (itR_lt hq hy hz)
  have e1 := itR_cancel hq hy hz (d + 1) i e
  have e2 : mu g (rd g N z y).toNat y = z := (bk_lt (hq.cols y hy) hz).2
  have e3 : itR g y z d = (rd g N z y).toNat := mu_injr hq hy (itR_lt hq hy hz d) (rd_lt hq hy hz) (by rw [e2]; exact e1)
  rw [← e3]
  exact h.iterR hq hy hz sy sz d
/-- The least set with S and 0 that is closed under products. -/
noncomputable def clB (g : Nat → UInt8) (N : Nat) (S : Nat → Bool) : Nat → Bool := fun z => @decide (∀ T, MulCl g N T → T 0 = true → (∀ i, S i = true → T i = true) → T z = true) (Classical.propDecidable _)
theorem clB_iff {g : Nat → UInt8} {N : Nat} {S : Nat → Bool} {z : Nat} : clB g N S z = true ↔ ∀ T, MulCl g N T → T 0 = true → (∀ i, S i = true → T i = true) → T z = true := by
  unfold clB; exact @decide_eq_true_iff _ (Classical.propDecidable _)
/-- R lies between S with 0 and their closure. -/
structure Gen (g : Nat → UInt8) (N : Nat) (S R : Nat → Bool) : Prop where
  zero : R 0 = true
  has : ∀ i, S i = true → R i = true
  least : ∀ T, MulCl g N T → T 0 = true → (∀ i, S i = true → T i = true) → ∀ i, R i = true → T i = true
/-- R with z. -/
def withB (R : Nat → Bool) (z : Nat) : Nat → Bool := fun i => if i = z then true else R i
theorem withB_self (R : Nat → Bool) (z : Nat) : withB R z z = true := by simp [withB]
theorem withB_old {R : Nat → Bool} {z i : Nat} (h : R i = true) : withB R z i = true := by unfold withB; split; rfl; exact h
theorem withB_or {R : Nat → Bool} {z i : Nat} (h : withB R z i = true) : i = z ∨ R i = true := by
  unfold withB at h
  by_cases e : i = z
  · exact .inl e
  · rw [if_neg e] at h; exact .inr h
theorem Gen.start (g : Nat → UInt8) (N : Nat) (S : Nat → Bool) : Gen g N S (withB S 0) :=
  ⟨withB_self _ _, fun i h => withB_old h, fun T _ h0 hS i h => by
    rcases withB_or h with rfl | h
    · exact h0
    · exact hS i h⟩
theorem Gen.add {g : Nat → UInt8} {N : Nat} {S R : Nat → Bool} (h : Gen g N S R) {z : Nat} (hz : ∀ T, MulCl g N T → (∀ i, R i = true → T i = true) → T z = true) : Gen g N S (withB R z) :=
  ⟨withB_old h.zero, fun i hi => withB_old (h.has i hi), fun T hT h0 hS i hi => by
    rcases withB_or hi with rfl | hi
    · exact hz T hT (h.least T hT h0 hS)
    · exact h.least T hT h0 hS i hi⟩
theorem Gen.mul {g : Nat → UInt8} {N : Nat} {S R : Nat → Bool} (h : Gen g N S R) {x y : Nat} (hx : x < N) (hy : y < N) (rx : R x = true) (ry : R y = true) : Gen g N S (withB R (mu g x y)) :=
  h.add fun T hT hR => hT x y hx hy (hR x rx) (hR y ry)
theorem Gen.left {g : Nat → UInt8} {N : Nat} {S R : Nat → Bool} (h : Gen g N S R) (hq : IsSq N g) {x y : Nat} (hx : x < N) (hy : y < N) (rx : R x = true) (ry : R y = true) : Gen g N S (withB R (ld g N x y).toNat) :=
  h.add fun T hT hR => hT.left hq hx hy (hR x rx) (hR y ry)
theorem Gen.right {g : Nat → UInt8} {N : Nat} {S R : Nat → Bool} (h : Gen g N S R) (hq : IsSq N g) {x y : Nat} (hx : x < N) (hy : y < N) (rx : R x = true) (ry : R y = true) : Gen g N S (withB R (rd g N x y).toNat) :=
  h.add fun T hT hR => hT.right hq hy hx (hR y ry) (hR x rx)
theorem Gen.done {g : Nat → UInt8} {N : Nat} {S R : Nat → Bool} (h : Gen g N S R) (hR : MulCl g N R) : R = clB g N S := by
  funext z
  cases e : R z with
  | true => exact (clB_iff.2 fun T hT h0 hS => h.least T hT h0 hS z e).symm
  | false =>
    cases e2 : clB g N S z with
    | false => rfl
    | true => rw [clB_iff.1 e2 R hR h.zero h.has] at e; cases e
/-- What stands at N and behind it stays as it was. -/
theorem clB_out {g : Nat → UInt8} {N : Nat} {S : Nat → Bool} (hq : IsSq N g) (hS : ∀ i, N ≤ i → S i = false) {z : Nat} (hz : N ≤ z) : clB g N S z = false := by
  cases e : clB g N S z with
  | false => rfl
  | true =>
    have h1 := hq.lo
    have := clB_iff.1 e (fun i => decide (i < N)) (fun x y hx hy _ _ => decide_eq_true (mu_lt hq hx hy)) (decide_eq_true (by omega)) (fun i hi => by
      by_cases hl : i < N
      · simpa using hl
      · rw [hS i (by omega)] at hi; cases hi)
    simp at this; omega
/-- How many of the ten are in R. -/
def cntB (R : Nat → Bool) : Nat := sm (fun i => ind (R i)) 10
theorem cntB_le (R : Nat → Bool) : cntB R ≤ 10 := sm_le10 (B := 1) (fun _ => ind_le _) (Nat.le_refl _)
theorem sm_withB (R : Nat → Bool) (z : Nat) (h : R z = false) : ∀ k, sm (fun i => ind (withB R z i)) k = sm (fun i => ind (R i)) k + (if z < k then 1 else 0)
  | 0 => rfl
  | k + 1 => by
    show sm _ k + ind (withB R z k) = sm _ k + ind (R k) + _
    rw [sm_withB R z h k]
    by_cases e : k = z
    · subst e
      rw [withB_self, h, if_neg (Nat.lt_irrefl _), if_pos (Nat.lt_succ_self _)]; rfl
    · have : withB R z k = R k := by unfold withB; rw [if_neg e]
      rw [this]
      by_cases h2 : z < k
      · rw [if_pos h2, if_pos (by omega)]; omega
      · rw [if_neg h2, if_neg (by omega)]; omega
theorem cntB_with {R : Nat → Bool} {z : Nat} (h : R z = false) (hz : z < 10) : cntB (withB R z) = cntB R + 1 := by
  unfold cntB
  rw [sm_withB R z h 10, if_pos hz]
/-- All products of pairs before (x, y) are in R. -/
def MulTo (g : Nat → UInt8) (N x y : Nat) (R : Nat → Bool) : Prop := ∀ a b, a < N → b < N → (a < x ∨ (a = x ∧ b < y)) → R a = true → R b = true → R (mu g a b) = true
theorem MulTo.start (g : Nat → UInt8) (N : Nat) (R : Nat → Bool) : MulTo g N 0 0 R := fun a b _ _ h => by omega
theorem MulTo.stepy {g : Nat → UInt8} {N x y : Nat} {R : Nat → Bool} (h : MulTo g N x y R) (e : R x = true → R y = true → R (mu g x y) = true) : MulTo g N x (y + 1) R := fun a b ha hb h' ra rb => by
  by_cases q : a = x ∧ b = y
  · obtain ⟨rfl, rfl⟩ := q; exact e ra rb
  · exact h a b ha hb (by omega) ra rb
theorem MulTo.stepx {g : Nat → UInt8} {N x : Nat} {R : Nat → Bool} (h : MulTo g N x N R) : MulTo g N (x + 1) 0 R := fun a b ha hb h' => h a b ha hb (by omega)
theorem MulTo.done {g : Nat → UInt8} {N : Nat} {R : Nat → Bool} (h : MulTo g N N 0 R) : MulCl g N R := fun a b ha hb => h a b ha hb (by omega)
theorem MulTo.done' {g : Nat → UInt8} {N x y : Nat} {R : Nat → Bool} (h : MulTo g N x y R) (hx : N ≤ x) : MulCl g N R := fun a b ha hb => h a b ha hb (by omega)
end Go.Proofs.Ytbhjbllgmenbaaa
