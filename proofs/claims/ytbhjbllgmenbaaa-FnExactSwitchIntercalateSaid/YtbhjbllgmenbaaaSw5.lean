/- Proved: what the program's SwitchCycle returns; the codes of model and program are the same. Conditions: those that each theorem names. -/
import Derived.Test.YtbhjbllgmenbaaaSw4
import Derived.Test.YtbhjbllgmenbaaaRc
namespace Go.Proofs.Ytbhjbllgmenbaaa
set_option linter.unusedVariables false
set_option linter.unusedSimpArgs false
open Go.RowKit
theorem bsw_one {w : World} {x : UInt8} : BsW (w.alloc (.cells (u8s 1 (oneF x)) 5)) (some ⟨w.heap.size, 0, none⟩) 1 (oneF x) := .inr ⟨_, rfl, holds_new _ _ _⟩
theorem bsw_two {w : World} {x : UInt8} {c1 c2 : Array Value} {t1 t2 : TypeId} : BsW (((w.alloc (.cells c1 t1)).alloc (.cells c2 t2)).alloc (.cells (u8s 1 (oneF x)) 5)) (some ⟨w.heap.size + 2, 0, none⟩) 1 (oneF x) := by
  have h := bsw_one (w := (w.alloc (.cells c1 t1)).alloc (.cells c2 t2)) (x := x)
  have e : ((w.alloc (.cells c1 t1)).alloc (.cells c2 t2)).heap.size = w.heap.size + 2 := by simp
  rwa [e] at h
/-- The code for three bytes, as the program tells it. -/
theorem rowsC_no {o : Int} {g : Nat → UInt8} (n : Nat) (f : Nat → UInt8) (a b : UInt8) (h : sqB o g = false) : rowsC o g n f a b = 1 := by simp [rowsC, elC, h]
theorem addF1 {c a b : UInt8} {N : Nat} : (∀ i, i < 1 + 2 → (addF 1 (oneF c) a b i).toNat < N) ↔ c.toNat < N ∧ a.toNat < N ∧ b.toNat < N := by
  constructor
  · intro h
    exact ⟨h 0 (by omega), h 1 (by omega), h 2 (by omega)⟩
  · rintro ⟨h0, h1, h2⟩ i hi
    match i, hi with
    | 0, _ => exact h0
    | 1, _ => exact h1
    | 2, _ => exact h2
theorem rowsC1 {N : Nat} {g : Nat → UInt8} (c a b : UInt8) (h : sqB (N : Int) g = true) : rowsC N g 1 (oneF c) a b = if c.toNat < N ∧ a.toNat < N ∧ b.toNat < N ∧ a ≠ b then 0 else 2 := by
  have hE : elC N g (1 + 2) (addF 1 (oneF c) a b) = if c.toNat < N ∧ a.toNat < N ∧ b.toNat < N then 0 else 2 := by
    unfold elC
    rw [if_neg (by rw [h]; simp)]
    by_cases h3 : c.toNat < N ∧ a.toNat < N ∧ b.toNat < N
    · rw [if_pos h3, if_pos (show ∀ i, i < 1 + 2 → (addF 1 (oneF c) a b i).toNat < (N : Int).toNat from addF1.2 h3)]
    · rw [if_neg h3, if_neg (show ¬ ∀ i, i < 1 + 2 → (addF 1 (oneF c) a b i).toNat < (N : Int).toNat from fun q => h3 (addF1.1 q))]
  unfold rowsC
  rw [hE]
  by_cases h3 : c.toNat < N ∧ a.toNat < N ∧ b.toNat < N
  · rw [if_pos h3]
    by_cases hab : a = b
    · rw [if_pos ⟨rfl, hab⟩, if_neg (fun q => q.2.2.2 hab)]
    · rw [if_neg (fun q => hab q.2), if_pos ⟨h3.1, h3.2.1, h3.2.2, hab⟩]
  · rw [if_neg h3, if_neg (by simp), if_neg (fun q => h3 ⟨q.1, q.2.1, q.2.2.1⟩)]
end Go.Proofs.Ytbhjbllgmenbaaa
