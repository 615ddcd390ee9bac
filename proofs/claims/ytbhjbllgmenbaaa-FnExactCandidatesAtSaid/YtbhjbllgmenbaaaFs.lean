/- Proved: how arguments that are lists of lists of numbers are read. Conditions: those that each lemma names. -/
import Derived.Test.YtbhjbllgmenbaaaFin
import Derived.Test.YtbhjbllgmenbaaaSn0
import Derived.ChangeSlices
namespace Go.Proofs.Ytbhjbllgmenbaaa
set_option linter.unusedVariables false
set_option linter.unusedSimpArgs false
open Go.ChangeShapes Go.WideShapes Go.ChangeAt Go.RowKit
section
variable {H : Type} {enc : TypeId × Value → H} {P : Program} {w : World} {base : Nat} {spare : Nat → Bool} {held : Bool}
theorem ints_in {t e : TypeId} {fuel : Nat} {v : Value} {x : DataW H × List MemPlace} (ht : P.underlying t = some (.slice e)) (he : P.underlying e = some (.int .i64)) (hc : P.cellsOf e = 1)
    (h : DataW.trod enc P w base spare held fuel t [v] = some x) : ∃ (n : Nat) (f : Nat → Int), NIn w v n f ∧ n ≤ maxLen := by
  rcases Go.ChangeShapes.open_ints ht he hc h with ⟨hcs, _⟩ | ⟨a2, len2, cap2, zs, hcs, _, hl, hm, hz, _, hcell, hwz⟩
  · have e : v = .slice none 0 0 := by simpa using hcs
    exact ⟨0, fun _ => 0, .inl ⟨e, rfl⟩, by omega⟩
  · have e : v = .slice (some a2) len2 cap2 := by simpa using hcs
    have hlz : len2 ≤ zs.length := by rw [hz]; split <;> omega
    exact ⟨len2, fun i => zs.getD i 0, .inr ⟨a2, cap2, e, fun i hi => hcell i (by omega)⟩, by omega⟩
theorem open_ssl {T t E : Nat} {v : Value} {d : DataW H} {p : List MemPlace} {r : Reach} {b0 : Nat} {W : World} (hT : P.underlying T = some (.slice t)) (ht : P.underlying t = some (.slice E)) (hE : P.underlying E = some (.int .i64)) (hct : P.cellsOf t = 1) (hc : P.cellsOf E = 1)
    (hv : Value.okWide P W r b0 T v) (h : DataW.Trod enc P w base spare held T v d p) : ∃ (n : Nat) (m : Nat → Nat) (f : Nat → Nat → Int), SIn w v n m f ∧ n ≤ maxLen ∧ ∀ i, i < n → m i ≤ maxLen := by
  obtain ⟨A, len, cap, rfl⟩ := okWide_slice hT hv
  obtain ⟨fuel, hf⟩ := h
  rcases DataW.trod_slice hT (by simpa [Value.cells] using hf) with ⟨h0, _⟩ | ⟨a, len2, cap2, elems, rest, n, _, hcs, hx, hb, hl, hm, hlen, hel, hsp, hns⟩
  · have e : Value.slice A len cap = .slice none 0 0 := by simpa using h0
    exact ⟨0, fun _ => 0, fun _ _ => 0, .inl ⟨e, rfl⟩, by omega, fun i hi => absurd hi (Nat.not_lt_zero i)⟩
  · have e : Value.slice A len cap = .slice (some a) len2 cap2 := by simpa using hcs
    rw [e]
    have each : ∀ i, ∃ kg : Nat × (Nat → Int), i < len2 → ∃ rv, w.cell? (a.add i) = some rv ∧ NIn w rv kg.1 kg.2 ∧ kg.1 ≤ maxLen := by
      intro i
      by_cases hi : i < len2
      · have hE2 := hel i hi
        rw [hct, Nat.mul_one] at hE2
        have hy : elems[i]? = some (elems[i]'(by omega)) := List.getElem?_eq_getElem _
        rw [hy, Option.bind_eq_some_iff] at hE2
        obtain ⟨cs', hcs', hy'⟩ := hE2
        obtain ⟨c, rfl⟩ : ∃ c, cs' = [c] := by
          have h1 := (World.cells?_some hcs').2.1
          cases cs' with
          | nil => simp at h1
          | cons c t =>
            cases t with
            | nil => exact ⟨c, rfl⟩
            | cons _ _ => simp at h1
        obtain ⟨k, g, hN, hk⟩ := ints_in ht hE hc hy'
        exact ⟨⟨k, g⟩, fun _ => ⟨c, cell_of_cells?_one hcs', hN, hk⟩⟩
      · exact ⟨⟨0, fun _ => 0⟩, fun h => absurd h hi⟩
    obtain ⟨F, hF⟩ := Classical.axiomOfChoice each
    refine ⟨len2, fun i => (F i).1, fun i => (F i).2, .inr ⟨a, cap2, rfl, fun i hi => ?_⟩, by omega, fun i hi => ?_⟩
    · obtain ⟨rv, h1, h2, _⟩ := hF i hi
      exact ⟨rv, h1, h2⟩
    · obtain ⟨rv, _, _, h3⟩ := hF i hi
      exact h3
end
end Go.Proofs.Ytbhjbllgmenbaaa
