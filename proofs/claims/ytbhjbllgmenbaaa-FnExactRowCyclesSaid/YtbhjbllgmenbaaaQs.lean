/- Proved: what the model's RowMap, ColumnMap, LeftQuotient and RightQuotient return. Conditions: those that each theorem names. -/
import Derived.Test.YtbhjbllgmenbaaaPi
import Derived.Test.YtbhjbllgmenbaaaPm
import Derived.Test.YtbhjbllgmenbaaaPl3
namespace Go.Proofs.Ytbhjbllgmenbaaa
set_option linter.unusedVariables false
set_option linter.unusedSimpArgs false
open Go.RowKit
theorem backF_at {p : Nat → UInt8} {N : Nat} (h : IsPerm p N) (y : Nat) (hy : y < N) : ∀ k, y < k → k ≤ N → backF p k (p y).toNat = UInt8.ofNat y
  | 0, h0, _ => by omega
  | k + 1, h0, hk => by
    show (if (p y).toNat = (p k).toNat then UInt8.ofNat k else backF p k (p y).toNat) = _
    by_cases e : (p y).toNat = (p k).toNat
    · rw [if_pos e]
      have : y = k := h.inj' hy (by omega) e
      rw [this]
    · rw [if_neg e]
      have : y ≠ k := fun e' => e (by rw [e'])
      exact backF_at h y hy k (by omega) (by omega)
theorem backF_of {p : Nat → UInt8} {N : Nat} (h : IsPerm p N) (z : Nat) (hz : z < N) : ∃ y, y < N ∧ (p y).toNat = z ∧ (backF p N z).toNat = y := by
  obtain ⟨y, hy, e⟩ := h.onto z hz
  refine ⟨y, hy, e, ?_⟩
  have := backF_at h y hy N hy (Nat.le_refl _)
  rw [e] at this
  rw [this, u8_of _ (by have := h.hi; omega)]
theorem l01Two0_no (o : Int) (g : Nat → UInt8) (x : UInt8) (w : World) (hs : sqB o g = false) :
    Calls Try.prog 100 #[.agg (sqc o g), .int .u8 x.toNat, .int .u8 0] w fun e w' => e = .returned (.int .i64 1) ∧ Below w.heap.size w w' := l01Two_no o g x 0 w hs
theorem l01Two0_far (N : Nat) (g : Nat → UInt8) (x : UInt8) (w : World) (hs : sqB (N : Int) g = true) (h : N ≤ x.toNat) :
    Calls Try.prog 100 #[.agg (sqc N g), .int .u8 x.toNat, .int .u8 0] w fun e w' => e = .returned (.int .i64 2) ∧ Below w.heap.size w w' := l01Two_far N g x 0 w hs (.inl h)
theorem l01Two0_in (N : Nat) (g : Nat → UInt8) (x : UInt8) (w : World) (hs : sqB (N : Int) g = true) (hx : x.toNat < N) :
    Calls Try.prog 100 #[.agg (sqc N g), .int .u8 x.toNat, .int .u8 0] w fun e w' => e = .returned (.int .i64 0) ∧ Below w.heap.size w w' := l01Two_in N g x 0 w hs hx (by show 0 < N; omega)
theorem l01Two1_no (o : Int) (g : Nat → UInt8) (x : UInt8) (w : World) (hs : sqB o g = false) :
    Calls Try.prog 100 #[.agg (sqc o g), .int .u8 0, .int .u8 x.toNat] w fun e w' => e = .returned (.int .i64 1) ∧ Below w.heap.size w w' := l01Two_no o g 0 x w hs
theorem l01Two1_far (N : Nat) (g : Nat → UInt8) (x : UInt8) (w : World) (hs : sqB (N : Int) g = true) (h : N ≤ x.toNat) :
    Calls Try.prog 100 #[.agg (sqc N g), .int .u8 0, .int .u8 x.toNat] w fun e w' => e = .returned (.int .i64 2) ∧ Below w.heap.size w w' := l01Two_far N g 0 x w hs (.inr h)
theorem l01Two1_in (N : Nat) (g : Nat → UInt8) (x : UInt8) (w : World) (hs : sqB (N : Int) g = true) (hx : x.toNat < N) :
    Calls Try.prog 100 #[.agg (sqc N g), .int .u8 0, .int .u8 x.toNat] w fun e w' => e = .returned (.int .i64 0) ∧ Below w.heap.size w w' := l01Two_in N g 0 x w hs (by show 0 < N; omega) hx
theorem colT_sq {N : Nat} {g : Nat → UInt8} (h : IsSq N g) (y : Nat) (hy : y < 10) : u8s 10 (colT g y N) = u8s 10 (colF g y) :=
  u8s_congr 10 _ _ fun i hi => by
    unfold colT colF
    by_cases e : i < N
    · rw [if_pos e]
    · rw [if_neg e]; exact (h.zero i y hi hy (.inl (by omega))).symm
end Go.Proofs.Ytbhjbllgmenbaaa
