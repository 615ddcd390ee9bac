/- Proved: how arguments that are lists of bytes, and identities, are read. Conditions: those that each lemma names. -/
import Derived.Test.YtphninlinegbbacFin
import Derived.Test.YtphninlinegbbacTe0
import Derived.ChangeSlices
namespace Go.Proofs.Ytphninlinegbbac
set_option linter.unusedVariables false
set_option linter.unusedSimpArgs false
open Go.ChangeShapes Go.WideShapes Go.ChangeAt Go.RowKit
section
variable {H : Type} {enc : TypeId × Value → H} {P : Program} {w : World} {base : Nat} {spare : Nat → Bool} {held : Bool}
theorem u8_back {n : Int} (h : (Lit.int .u8 n).wf = true) : ((UInt8.ofNat n.toNat).toNat : Int) = n := by
  have hb := bounds_u8 h
  rw [u8_of _ (by omega)]; omega
theorem trod_bsl {T E : Nat} {fuel : Nat} {v : Value} {x : DataW H × List MemPlace} (hT : P.underlying T = some (.slice E)) (hE : P.underlying E = some (.int .u8)) (hc : P.cellsOf E = 1)
    (h : DataW.trod enc P w base spare held fuel T [v] = some x) : ∃ (n : Nat) (f : Nat → UInt8), BIn w v n f ∧ n ≤ 9223372036854775807 := by
  rcases Go.ChangeShapes.open_ints hT hE hc h with ⟨hcs, _⟩ | ⟨a, len, cap, zs, hcs, _, hl, hm, hz, _, hcell, hwz⟩
  · obtain rfl : v = .slice none 0 0 := by simpa using hcs
    exact ⟨0, fun _ => 0, .inl ⟨rfl, rfl⟩, by omega⟩
  · obtain rfl : v = .slice (some a) len cap := by simpa using hcs
    have hlz : len ≤ zs.length := by rw [hz]; split <;> omega
    refine ⟨len, fun i => UInt8.ofNat (zs.getD i 0).toNat, .inr ⟨a, cap, rfl, fun i hi => ?_⟩, by unfold maxLen at hm; omega⟩
    have hm : zs.getD i 0 ∈ zs := by
      have h1 : i < zs.length := by omega
      simp [List.getD, h1]
    rw [hcell i (by omega), u8_back (hwz _ hm)]
theorem open_bsl {T E : Nat} {v : Value} {d : DataW H} {p : List MemPlace} {r : Reach} {b0 : Nat} {W : World} (hT : P.underlying T = some (.slice E)) (hE : P.underlying E = some (.int .u8)) (hc : P.cellsOf E = 1)
    (hv : Value.okWide P W r b0 T v) (h : DataW.Trod enc P w base spare held T v d p) : ∃ (n : Nat) (f : Nat → UInt8), BIn w v n f := by
  obtain ⟨a, len, cap, rfl⟩ := okWide_slice hT hv
  obtain ⟨fuel, hf⟩ := h
  obtain ⟨n, f, h, _⟩ := trod_bsl hT hE hc (v := .slice a len cap) (by simpa [Value.cells] using hf)
  exact ⟨n, f, h⟩
theorem open_iden {T TS E : Nat} {fs : Array Field} {f0 f1 : Field} {v : Value} {d : DataW H} {p : List MemPlace} (hS : P.underlying T = some (.struct fs)) (hfs : fs = #[f0, f1])
    (h0 : f0.type = TS ∧ f0.offset = 0) (h1 : f1.type = TS ∧ f1.offset = 1) (hT : P.underlying TS = some (.slice E)) (hE : P.underlying E = some (.int .u8)) (hc : P.cellsOf E = 1) (hcT : P.cellsOf TS = 1) (hcS : P.cellsOf T = 2)
    {r : Reach} {b0 : Nat} {W : World} (hv : Value.okWide P W r b0 T v) (h : DataW.Trod enc P w base spare held T v d p) :
    ∃ (v1 v2 : Value) (n m : Nat) (f g : Nat → UInt8), v = .agg #[v1, v2] ∧ (BIn w v1 n f ∧ n ≤ 9223372036854775807) ∧ (BIn w v2 m g ∧ m ≤ 9223372036854775807) := by
  subst hfs
  obtain ⟨cs, rfl, hsz⟩ := okWide_struct hS hv
  obtain ⟨fuel, hf⟩ := h
  obtain ⟨xs, k, _, _, hlen, hxs, hel⟩ := DataW.trod_struct hS hf
  have e0 := hel 0 f0 rfl
  have e1 := hel 1 f1 rfl
  rw [h0.1, h0.2, hcT] at e0
  rw [h1.1, h1.2, hcT] at e1
  obtain ⟨y0, hy0⟩ : ∃ y, xs[0]? = some y := ⟨xs[0]'(by simp at hxs; omega), by simp⟩
  obtain ⟨y1, hy1⟩ : ∃ y, xs[1]? = some y := ⟨xs[1]'(by simp at hxs; omega), by simp⟩
  rw [hy0] at e0
  rw [hy1] at e1
  have hl : cs.size = 2 := by simpa [hcS] using hsz
  obtain ⟨v1, v2, rfl⟩ : ∃ v1 v2, cs = #[v1, v2] := ⟨cs[0], cs[1], by
    apply Array.ext_getElem?
    intro i
    match i with
    | 0 => simp [hl]
    | 1 => simp [hl]
    | i + 2 => simp [hl]⟩
  obtain ⟨n, f, hb⟩ := trod_bsl hT hE hc (v := v1) (by simpa [Value.cells] using e0)
  obtain ⟨m, g, hb2⟩ := trod_bsl hT hE hc (v := v2) (by simpa [Value.cells] using e1)
  exact ⟨v1, v2, n, m, f, g, rfl, hb, hb2⟩
end
end Go.Proofs.Ytphninlinegbbac
