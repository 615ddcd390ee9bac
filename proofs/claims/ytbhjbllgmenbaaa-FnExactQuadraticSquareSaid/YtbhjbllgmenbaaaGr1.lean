/- Proved: what the program's IsGroup and the model's return: the same. Conditions: none. -/
import Derived.Test.YtbhjbllgmenbaaaLo
namespace Go.Proofs.Ytbhjbllgmenbaaa
set_option linter.unusedVariables false
set_option linter.unusedSimpArgs false
open Go.RowKit
def asg (g : Nat → UInt8) (x y z : Nat) : Prop := g ((g (x * 10 + y)).toNat * 10 + z) = g (x * 10 + (g (y * 10 + z)).toNat)
/-- The associative law at every triple ahead of (x, y, z). -/
def ascTo (g : Nat → UInt8) (N x y z : Nat) : Prop := ∀ a b c, a < N → b < N → c < N → (a < x ∨ (a = x ∧ (b < y ∨ (b = y ∧ c < z)))) → asg g a b c
theorem ascTo.start (g : Nat → UInt8) (N : Nat) : ascTo g N 0 0 0 := fun a b c _ _ _ h => by omega
theorem ascTo.stepz {g : Nat → UInt8} {N x y z : Nat} (h : ascTo g N x y z) (e : asg g x y z) : ascTo g N x y (z + 1) := fun a b c ha hb hc h' => by
  by_cases q : a = x ∧ b = y ∧ c = z
  · obtain ⟨rfl, rfl, rfl⟩ := q; exact e
  · exact h a b c ha hb hc (by omega)
theorem ascTo.stepy {g : Nat → UInt8} {N x y : Nat} (h : ascTo g N x y N) : ascTo g N x (y + 1) 0 := fun a b c ha hb hc h' => h a b c ha hb hc (by omega)
theorem ascTo.stepx {g : Nat → UInt8} {N x : Nat} (h : ascTo g N x N 0) : ascTo g N (x + 1) 0 0 := fun a b c ha hb hc h' => h a b c ha hb hc (by omega)
noncomputable def ascB (o : Int) (g : Nat → UInt8) : Bool := @decide (ascTo g o.toNat o.toNat 0 0) (Classical.propDecidable _)
theorem ascB_yes {N : Nat} {g : Nat → UInt8} (h : ascTo g N N 0 0) : ascB (N : Int) g = true := by
  unfold ascB
  exact @decide_eq_true _ (Classical.propDecidable _) h
theorem ascB_no {N x y z : Nat} {g : Nat → UInt8} (hx : x < N) (hy : y < N) (hz : z < N) (h : ¬ asg g x y z) : ascB (N : Int) g = false := by
  unfold ascB
  exact @decide_eq_false _ (Classical.propDecidable _) (fun hu => h (hu x y z hx hy hz (by simp only [Int.toNat_natCast]; omega)))
noncomputable def groupB (o : Int) (g : Nat → UInt8) : Bool := loopB o g && ascB o g
theorem loopB_sq {o : Int} {g : Nat → UInt8} (h : loopB o g = true) : sqB o g = true := by
  cases e : sqB o g with
  | true => rfl
  | false => rw [loopB_nosq e] at h; cases h
theorem sq_lt {N : Nat} {g : Nat → UInt8} (h : sqB (N : Int) g = true) {x y : Nat} (hx : x < N) (hy : y < N) : (g (x * 10 + y)).toNat < N :=
  ((sqB_nat.1 h).rows x hx).lt y hy
end Go.Proofs.Ytbhjbllgmenbaaa
