/- Proved: what the functions that tell triples, convert and compare them return, of program, model and laws alike. Conditions: none. -/
import Derived.Test.YtbhjbllgmenbaabPl2
namespace Go.Proofs.Ytbhjbllgmenbaab
set_option linter.unusedVariables false
set_option linter.unusedSimpArgs false
open Go.RowKit
theorem rowTr : IsRow Try.prog 101 30 := ⟨.inl ⟨_, Try.underlying101⟩, by kernel_rfl⟩
theorem zeroTr : ZeroIs Try.prog 101 (u8s 30 fun _ => 0) := by unfold ZeroIs; kernel_rfl
theorem builtTr : Try.prog.built 101 [] = some (u8s 30 fun _ => 0) := by kernel_rfl
/-- The part of a triple that begins at off. -/
def tri (t : Nat → UInt8) (off : Nat) : Nat → UInt8 := fun j => t (off + j)
section
variable {P : Program} {ops : Array Oper} {rest : List Oper} {o : Oper} {a : Act} {w : World} {Q : Exit → Act → World → Prop}
theorem wpL_loadTri {T : Nat} {x : Operand} {g off : Nat} {f : Nat → UInt8} {t : TypeId} (hgd : o.guard = none) (ho : o.op = .load T x) (hx : a.eval x = .pointer (some ⟨g, off, none⟩)) (hR : IsRow P T 10)
    (hg : holds w g (u8s 30 f) t) (hb : off + 10 ≤ 30) (h : wpList P ops Q rest (a.put o.dst (.agg (u8s 10 (tri f off)))) w) : wpList P ops Q (o :: rest) a w :=
  wpL_loadSub hgd ho hx hR hg (by rw [u8s_size]; exact hb) (u8s_sub 30 10 off f hb) h
theorem over_tri (f r f' : Nat → UInt8) (off : Nat) (hb : off + 10 ≤ 30) (he : ∀ i, i < 30 → f' i = if off ≤ i ∧ i < off + 10 then r (i - off) else f i) : over (u8s 30 f) off (u8s 10 r) = u8s 30 f' := by
  apply u8s_ext
  · rw [over_size _ _ _ (by simp; omega)]; simp
  · intro i hi
    rw [over_get _ _ _ (by simp; omega), he i hi]
    simp only [u8s_size]
    by_cases h : off ≤ i ∧ i < off + 10
    · rw [if_pos h, if_pos h, u8s_get 10 r _ (by omega)]
    · rw [if_neg h, if_neg h, u8s_get 30 f i hi]
theorem wpL_storeTri {T : Nat} {x y : Operand} {g off : Nat} {f r f' : Nat → UInt8} {t : TypeId} (hgd : o.guard = none) (ho : o.op = .store T x y) (hx : a.eval x = .pointer (some ⟨g, off, none⟩)) (hy : a.eval y = .agg (u8s 10 r)) (hR : IsRow P T 10)
    (hg : holds w g (u8s 30 f) t) (hb : off + 10 ≤ 30) (he : ∀ i, i < 30 → f' i = if off ≤ i ∧ i < off + 10 then r (i - off) else f i) (h : wpList P ops Q rest (a.put o.dst undef) (w.setRow g (u8s 30 f'))) : wpList P ops Q (o :: rest) a w :=
  wpL_storeSub hgd ho hx hy hR hg (u8s_ok _ _) (by rw [u8s_size]; exact hb) (over_tri f r f' off hb he) h
end
def triUp (t : Nat → UInt8) (k : Nat) : Nat → UInt8 := fun i => if i < k then t i else 0
theorem triUp_step (t : Nat → UInt8) (off i : Nat) : triUp t (off + 10) i = if off ≤ i ∧ i < off + 10 then tri t off (i - off) else triUp t off i := by
  unfold triUp tri
  by_cases h : off ≤ i ∧ i < off + 10
  · rw [if_pos h, if_pos (by omega), show off + (i - off) = i by omega]
  · rw [if_neg h]
    by_cases h2 : i < off
    · rw [if_pos h2, if_pos (by omega)]
    · rw [if_neg h2, if_neg (by omega)]
theorem triUp_all (t : Nat → UInt8) : u8s 30 (triUp t 30) = u8s 30 t := u8s_congr 30 _ _ fun i hi => by unfold triUp; rw [if_pos hi]
theorem triUp_none (t : Nat → UInt8) : u8s 30 (triUp t 0) = u8s 30 (fun _ => 0) := u8s_congr 30 _ _ fun i hi => by unfold triUp; rw [if_neg (by omega)]
/-- Is it a triple for n? -/
noncomputable def triB (t : Nat → UInt8) (n : Int) : Bool := permB (tri t 0) n && (permB (tri t 10) n && permB (tri t 20) n)
end Go.Proofs.Ytbhjbllgmenbaab
