/- Proved: what the program's elementCode returns for two bytes. Conditions: those that each theorem names. -/
import Derived.Test.YtbhjbllgmenbaabPi
import Derived.Great.BuildSlice
namespace Go.Proofs.Ytbhjbllgmenbaab
set_option linter.unusedVariables false
set_option linter.unusedSimpArgs false
open Go.RowKit
/-- The two bytes that an argument list of two lays. -/
def pairF (x y : UInt8) : Nat → UInt8 := fun i => if i = 0 then x else y
theorem zero5 : ((Try.prog.info? 5).bind (·.zero)).isSome = true := by kernel_rfl
section
variable {ops : Array Oper} {rest : List Oper} {o : Oper} {a : Act} {w : World} {Q : Exit → Act → World → Prop}
theorem wpL_slice2 {p q : Operand} {x y : UInt8} (hgd : o.guard = none) (ho : o.op = .buildSlice 59 2 #[(0, p), (1, q)]) (hx : a.eval p = .int .u8 x.toNat) (hy : a.eval q = .int .u8 y.toNat)
    (h : wpList Try.prog ops Q rest (a.put o.dst (.slice (some ⟨w.heap.size, 0, none⟩) 2 2)) (w.alloc (.cells (u8s 2 (pairF x y)) 5))) : wpList Try.prog ops Q (o :: rest) a w := by
  have hsz := sz5
  have hz := zero5
  cases hie : (Try.prog.info? 5) with
  | none => simp [hie] at hsz
  | some ie =>
    simp only [hie, Option.map_some, Option.some.injEq, Option.bind_some] at hsz hz
    obtain ⟨z, hzz⟩ := Option.isSome_iff_exists.1 hz
    refine wpList_buildSlice hgd 59 5 2 _ ho _ ie z Try.underlying59 hie hzz (by rw [hsz]; omega) (by rw [hsz]; omega) ?_ h
    rw [hsz]
    have hp : ((#[(0, p), (1, q)] : Array (Nat × Operand)).map fun (i, x) => (i, a.eval x)).toList = (([Value.int .u8 x.toNat, Value.int .u8 y.toNat] : List Value).zipIdx 0).map fun x => (x.2, x.1) := by simp [hx, hy]
    rw [hp]
    refine (Great.fill_flat _ _ (fun v hv => ?_) (by simp)).trans ?_
    · simp only [List.mem_cons, List.not_mem_nil, or_false] at hv
      rcases hv with rfl | rfl <;> rfl
    · congr 1
end
end Go.Proofs.Ytbhjbllgmenbaab
