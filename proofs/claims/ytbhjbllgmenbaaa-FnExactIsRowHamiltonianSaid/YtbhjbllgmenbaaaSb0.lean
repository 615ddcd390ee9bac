/- Proved: lemmas on strictly ascending lists of elements and their sets, and on equality of sets, without any program. Conditions: those that each lemma names. -/
import Derived.Test.YtbhjbllgmenbaaaEq
import Derived.Test.YtbhjbllgmenbaaaCl
import Derived.Test.YtbhjbllgmenbaaaSel
namespace Go.Proofs.Ytbhjbllgmenbaaa
set_option linter.unusedVariables false
set_option linter.unusedSimpArgs false
open Go.RowKit
/-- The number at i is an element, and greater than the one before it. -/
def OkAt (f : Nat → Int) (N i : Nat) : Prop := 0 ≤ f i ∧ f i < N ∧ (0 < i → f (i - 1) < f i)
/-- The first of the n numbers at which the list is none of elements in ascending order. -/
structure BadA (f : Nat → Int) (N n k0 : Nat) : Prop where
  lt : k0 < n
  lo : ∀ i, i < k0 → OkAt f N i
  bad : ¬ OkAt f N k0
theorem bad_or_ok (f : Nat → Int) (N : Nat) : ∀ n, (∃ k0, BadA f N n k0) ∨ ∀ i, i < n → OkAt f N i
  | 0 => .inr fun i hi => by omega
  | n + 1 => by
    rcases bad_or_ok f N n with ⟨k0, h⟩ | h
    · exact .inl ⟨k0, by have := h.lt; omega, h.lo, h.bad⟩
    · by_cases hn : OkAt f N n
      · refine .inr fun i hi => ?_
        by_cases e : i = n
        · subst e; exact hn
        · exact h i (by omega)
      · exact .inl ⟨n, by omega, h, hn⟩
theorem ok_ge {f : Nat → Int} {N n : Nat} (h : ∀ i, i < n → OkAt f N i) : ∀ i, i < n → (i : Int) ≤ f i
  | 0, hi => by have := (h 0 hi).1; omega
  | i + 1, hi => by
    have h1 := ok_ge h i (by omega)
    have h2 := (h (i + 1) hi).2.2 (by omega)
    simp only [Nat.add_sub_cancel] at h2
    omega
theorem ok_len {f : Nat → Int} {N n : Nat} (h : ∀ i, i < n → OkAt f N i) : n ≤ N := by
  by_cases h0 : n = 0
  · omega
  · have h1 := ok_ge h (n - 1) (by omega)
    have h2 := (h (n - 1) (by omega)).2.1
    omega
/-- The number before i, or -1. -/
def lastF (f : Nat → Int) (i : Nat) : Int := if i = 0 then -1 else f (i - 1)
theorem lastF_zero (f : Nat → Int) : lastF f 0 = -1 := rfl
theorem lastF_succ (f : Nat → Int) (i : Nat) : lastF f (i + 1) = f i := by unfold lastF; rw [if_neg (by omega), Nat.add_sub_cancel]
theorem okAt_last {f : Nat → Int} {N k : Nat} (h : ∀ i, i < k → OkAt f N i) : OkAt f N k ↔ lastF f k < f k ∧ f k < N := by
  unfold OkAt lastF
  by_cases h0 : k = 0
  · subst h0; simp only [if_true]
    constructor
    · rintro ⟨a, b, _⟩; exact ⟨by omega, b⟩
    · rintro ⟨a, b⟩; exact ⟨by omega, b, fun h => by omega⟩
  · have h1 := (h (k - 1) (by omega)).1
    rw [if_neg h0]
    constructor
    · rintro ⟨_, b, c⟩; exact ⟨c (by omega), b⟩
    · rintro ⟨a, b⟩; exact ⟨by omega, b, fun _ => a⟩
theorem lastF_lo {f : Nat → Int} {N k : Nat} (h : ∀ i, i < k → OkAt f N i) : -1 ≤ lastF f k := by
  unfold lastF
  by_cases h0 : k = 0
  · rw [if_pos h0]; omega
  · rw [if_neg h0]; have := (h (k - 1) (by omega)).1; omega
/-- j is one of the first k numbers. -/
def inL (f : Nat → Int) (k : Nat) : Nat → Bool := fun j => (List.range k).any fun i => decide (f i = (j : Int))
theorem inL_iff {f : Nat → Int} {k j : Nat} : inL f k j = true ↔ ∃ i, i < k ∧ f i = (j : Int) := by simp [inL]
theorem inL_zero (f : Nat → Int) : inL f 0 = fun _ => false := by funext j; simp [inL]
theorem inL_step {f : Nat → Int} {k z : Nat} (hz : f k = (z : Int)) (j : Nat) : inL f (k + 1) j = if j = z then true else inL f k j := by
  simp only [inL, List.range_succ, List.any_append, List.any_cons, List.any_nil, Bool.or_false]
  by_cases e : j = z
  · subst e; rw [if_pos rfl]; simp [hz]
  · rw [if_neg e, hz]
    have : decide ((z : Int) = (j : Int)) = false := by simp; omega
    rw [this, Bool.or_false]
theorem inL_out {f : Nat → Int} {N n : Nat} (h : ∀ i, i < n → OkAt f N i) {j : Nat} (hj : N ≤ j) : inL f n j = false := by
  cases e : inL f n j with
  | false => rfl
  | true =>
    obtain ⟨i, hi, h1⟩ := inL_iff.1 e
    have := (h i hi).2.1
    omega
theorem inL_congr {f f' : Nat → Int} {n : Nat} (h : ∀ i, i < n → f i = f' i) : inL f n = inL f' n := by
  funext j
  rw [Bool.eq_iff_iff, inL_iff, inL_iff]
  constructor
  · rintro ⟨i, hi, e⟩; exact ⟨i, hi, (h i hi).symm.trans e⟩
  · rintro ⟨i, hi, e⟩; exact ⟨i, hi, (h i hi).trans e⟩
/-- Are the ten the same? -/
def eqL (a b : Nat → Bool) : Bool := (List.range 10).all fun i => a i == b i
theorem eqL_iff {a b : Nat → Bool} : eqL a b = true ↔ ∀ i, i < 10 → a i = b i := by simp [eqL]
section
variable {P : Program}
theorem run_part_boolS (w : World) (E i : Nat) (cs : Array Value) (v : Value) (hE : P.underlying E = some .bool) (hv : cs[i]? = some v) : (part E cs i).run P w = .ok v w := by
  unfold part isAgg
  simp [Sem.run_bind, run_underlying hE, hv]
theorem run_equalIn_boolS (w : World) (d E : Nat) (a b : Bool) (hE : P.underlying E = some .bool) : (Op.equalIn (d + 1) E (.bool a) (.bool b)).run P w = .ok (a == b) w := by
  simp [Op.equalIn, Sem.run_bind, run_underlying hE]
theorem run_eq_bools (w : World) (d T E : Nat) (xs ys : Array Value) (a b : Nat → Bool) (hT : P.underlying T = some (.array 10 E)) (hE : P.underlying E = some .bool) (hs : (P.info? E).map (·.size) = some 1)
    (hx : xs = bls 10 a) (hy : ys = bls 10 b) : (Op.equalIn (d + 2) T (.agg xs) (.agg ys)).run P w = .ok (eqL a b) w := by
  subst hx; subst hy
  have hsz : (sizeOf E).run P w = .ok 1 w := by
    cases hq : P.info? E with
    | none => simp [hq] at hs
    | some i => have : i.size = 1 := by simpa [hq] using hs
                simp [sizeOf, typeInfo, hq, this]
  refine run_eq_arr w (d + 1) T E 10 1 _ _ _ hT hsz fun i hi => ?_
  refine ⟨.bool (a i), .bool (b i), ?_, ?_, ?_⟩
  · rw [Nat.mul_one]; exact run_part_boolS w E i _ _ hE (bls_get 10 a i hi)
  · rw [Nat.mul_one]; exact run_part_boolS w E i _ _ hE (bls_get 10 b i hi)
  · exact run_equalIn_boolS w d E _ _ hE
variable {ops : Array Oper} {rest : List Oper} {o : Oper} {a : Act} {w : World} {Q : Exit → Act → World → Prop}
theorem wpL_eqAgg {T T' : Nat} {x y : Operand} {xs ys : Array Value} {b : Bool} (hgd : o.guard = none) (ho : o.op = .binOp .eql T x y T') (hx : a.eval x = .agg xs) (hy : a.eval y = .agg ys) (hG : P.eqGuardType P.depth T = false)
    (he : (Op.equalIn Op.maxDepth T (.agg xs) (.agg ys)).run P w = .ok b w) (h : wpList P ops Q rest (a.put o.dst (.bool b)) w) : wpList P ops Q (o :: rest) a w :=
  wpList_plain hgd fun K hK => by
    have hrun : (do eqGuard .eql T x y (.agg xs) (.agg ys); binOp .eql T (.agg xs) (.agg ys) : Sem Value).run P w = .ok (.bool b) w := by
      simp [eqGuard, binOp, Op.equal, Sem.run_bind, hG, he]
    unfold Oper.wp execOp
    simp only [ho, hx, hy]
    rw [Sem.run_bind, hrun]
    exact hK _ _ h
end
end Go.Proofs.Ytbhjbllgmenbaaa
