/- Proved: what products and left quotients in the divided square are. Conditions: those that each theorem names. -/
import Derived.Test.YtbhjbllgmenbaaaNu
import Derived.Test.YtbhjbllgmenbaaaPa
namespace Go.Proofs.Ytbhjbllgmenbaaa
set_option linter.unusedVariables false
set_option linter.unusedSimpArgs false
open Go.RowKit
/-- The divided square of a square stands in block gb. -/
abbrev Dv (w : World) (gb N : Nat) (g : Nat → UInt8) : Prop := holds w gb (dvc N g (unF g N) (ovF g N)) 140
theorem Dv.below {w w' : World} {gb N : Nat} {g : Nat → UInt8} (h : Dv w gb N g) (hb : Below w.heap.size w w') : Dv w' gb N g := holds_below h hb (holds_lt h)
set_option maxRecDepth 20000 in
set_option maxHeartbeats 1000000 in
theorem product_any (N gb : Nat) (g : Nat → UInt8) (x y : UInt8) (w : World) (h10 : N ≤ 10) (hx : x.toNat < N) (hy : y.toNat < N) (hg : Dv w gb N g) :
    Calls Try.prog 139 #[.pointer (some ⟨gb, 0, none⟩), .int .u8 x.toNat, .int .u8 y.toNat] w fun e w' => e = .returned (.int .u8 (g (x.toNat * 10 + y.toNat)).toNat) ∧ Below w.heap.size w w' := by
  have hx' : (x.toNat : Int) < 10 := by omega
  have hy' : (y.toNat : Int) < 10 := by omega
  have ca : w.cell? ⟨gb, 1 + x.toNat * 10 + y.toNat, none⟩ = some (.int .u8 (g (x.toNat * 10 + y.toNat)).toNat) := by rw [holds_cell hg, dvc_get0 _ _ _ _ _ (by omega), Nat.add_assoc, sqc_get _ _ _ (by omega)]
  go_enter Try.func139, Try.ntmps139
  go_wp2
  go_ret
  exact ⟨rfl, Below.refl _ _⟩
set_option maxRecDepth 20000 in
set_option maxHeartbeats 1000000 in
theorem leftQuotient_any (N gb : Nat) (g : Nat → UInt8) (x y : UInt8) (w : World) (h10 : N ≤ 10) (hx : x.toNat < N) (hy : y.toNat < N) (hg : Dv w gb N g) :
    Calls Try.prog 125 #[.pointer (some ⟨gb, 0, none⟩), .int .u8 x.toNat, .int .u8 y.toNat] w fun e w' => e = .returned (.int .u8 (ld g N x.toNat y.toNat).toNat) ∧ Below w.heap.size w w' := by
  have hx' : (x.toNat : Int) < 10 := by omega
  have hy' : (y.toNat : Int) < 10 := by omega
  have hv : unF g N (x.toNat * 10 + y.toNat) = ld g N x.toNat y.toNat := unF_get h10 hx hy
  have ca : w.cell? ⟨gb, 102 + x.toNat * 10 + y.toNat, none⟩ = some (.int .u8 (ld g N x.toNat y.toNat).toNat) := by rw [holds_cell hg, Nat.add_assoc, dvc_byte1 _ _ _ _ _ (by omega), hv]
  clear hv
  go_enter Try.func125, Try.ntmps125
  go_wp2
  go_ret
  exact ⟨rfl, Below.refl _ _⟩
end Go.Proofs.Ytbhjbllgmenbaaa
