/- Proved: how arguments that are lists of numbers are read. Conditions: those that each lemma names. -/
import Derived.Test.YtbhjbllgmenbaaaFin
import Derived.Test.YtbhjbllgmenbaaaIa
import Derived.ChangeSlices
namespace Go.Proofs.Ytbhjbllgmenbaaa
set_option linter.unusedVariables false
set_option linter.unusedSimpArgs false
open Go.ChangeShapes Go.WideShapes Go.ChangeAt Go.RowKit
section
variable {H : Type} {enc : TypeId × Value → H} {P : Program} {w : World} {base : Nat} {spare : Nat → Bool} {held : Bool}
theorem open_isl {T E : Nat} {v : Value} {d : DataW H} {p : List MemPlace} {r : Reach} {b0 : Nat} {W : World} (hT : P.underlying T = some (.slice E)) (hE : P.underlying E = some (.int .i64)) (hc : P.cellsOf E = 1)
    (hv : Value.okWide P W r b0 T v) (h : DataW.Trod enc P w base spare held T v d p) : ∃ (n : Nat) (f : Nat → Int), NIn w v n f := by
  obtain ⟨a, len, cap, rfl⟩ := okWide_slice hT hv
  obtain ⟨fuel, hf⟩ := h
  rcases Go.ChangeShapes.open_ints hT hE hc (by simpa [Value.cells] using hf) with ⟨hcs, _⟩ | ⟨a2, len2, cap2, zs, hcs, _, hl, hm, hz, _, hcell, hwz⟩
  · have e : Value.slice a len cap = .slice none 0 0 := by simpa using hcs
    exact ⟨0, fun _ => 0, .inl ⟨e, rfl⟩⟩
  · have e : Value.slice a len cap = .slice (some a2) len2 cap2 := by simpa using hcs
    have hlz : len2 ≤ zs.length := by rw [hz]; split <;> omega
    rw [e]
    exact ⟨len2, fun i => zs.getD i 0, .inr ⟨a2, cap2, rfl, fun i hi => hcell i (by omega)⟩⟩
end
end Go.Proofs.Ytbhjbllgmenbaaa
