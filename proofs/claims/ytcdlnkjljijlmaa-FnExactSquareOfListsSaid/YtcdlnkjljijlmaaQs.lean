/- Proved: what the model's RowMap, ColumnMap, LeftQuotient and RightQuotient return. Conditions: those that each theorem names. -/
import Derived.Test.YtcdlnkjljijlmaaPi
import Derived.Test.YtcdlnkjljijlmaaPm
import Derived.Test.YtcdlnkjljijlmaaPl3
namespace Go.Proofs.Ytcdlnkjljijlmaa
set_option linter.unusedVariables false
set_option linter.unusedSimpArgs false
open Go.RowKit
theorem backF_at {p : Nat → UInt8} {N : Nat} (h : IsPerm p N) (y : Nat) (hy : y < N) : ∀ k, y < k → k ≤ N → backF p k (p y).toNat = UInt8.ofNat y
  | 0, h0, _ => by omega
  | k + 1, h0, hk => by
    show (if (p y).toNat = (p k).toNat then UInt8.ofNat k else backF p k (p y).toNat) = _
    by_cases e : (p y).toNat = (p k).toNat
    · rw [if_pos e]
      have : y = k := h.inj' hy (by omega) e
      rw [this]
    · rw [if_neg e]
      have : y ≠ k := fun e' => e (by rw [e'])
      exact backF_at h y hy k (by omega) (by omega)
theorem backF_of {p : Nat → UInt8} {N : Nat} (h : IsPerm p N) (z : Nat) (hz : z < N) : ∃ y, y < N ∧ (p y).toNat = z ∧ (backF p N z).toNat = y := by
  obtain ⟨y, hy, e⟩ := h.onto z hz
  refine ⟨y, hy, e, ?_⟩
  have := backF_at h y hy N hy (Nat.le_refl _)
  rw [e] at this
  rw [this, u8_of _ (by have := h.hi; omega)]
theorem colT_sq {N : Nat} {g : Nat → UInt8} (h : IsSq N g) (y : Nat) (hy : y < 10) : u8s 10 (colT g y N) = u8s 10 (colF g y) :=
  u8s_congr 10 _ _ fun i hi => by
    unfold colT colF
    by_cases e : i < N
    · rw [if_pos e]
    · rw [if_neg e]; exact (h.zero i y hi hy (.inl (by omega))).symm
set_option maxRecDepth 20000 in
set_option maxHeartbeats 2000000 in
theorem l01Right_any (N : Nat) (g : Nat → UInt8) (z y : UInt8) (w : World) (hq : IsSq N g) (hy : y.toNat < N) (hz : z.toNat < N) :
    Calls Try.prog 93 #[.agg (sqc N g), .int .u8 z.toNat, .int .u8 y.toNat] w fun e w' => e = .returned (.int .u8 (backF (colF g y.toNat) N z.toNat).toNat) ∧ Below w.heap.size w w' := by
  have h10 := hq.hi
  obtain ⟨x, hx, he, hb⟩ := backF_of (hq.cols y.toNat hy) z.toNat hz
  have HE := hid he
  have HP := hid (hq.cols y.toNat hy)
  rw [hb]
  clear he hb hq
  have hy' : (y.toNat : Int) < 10 := by omega
  go_enter Try.func93, Try.ntmps93
  go_wp2
  go_loopw [7] (fun i wr => ∃ k : Nat, k ≤ x ∧ i = .int .u8 k ∧ Has w wr [(sqc N g, 28)]) (fun i _ => 10 - (intOf i).toNat)
  case atStart => exact ⟨0, by omega, rfl, Has.start1 w _ _⟩
  case round =>
    obtain ⟨k, hk, rfl, hH⟩ := hrel
    have hk10 : (k : Int) < 10 := by omega
    have ca : wr.cell? ⟨w.heap.size, 1 + k * 10 + y.toNat, none⟩ = some (.int .u8 (colF g y.toNat k).toNat) := by rw [hH.c0, Nat.add_assoc, sqc_get _ _ _ (by omega)]; rfl
    by_cases hlt : k < x
    · have hne : (((colF g y.toNat k).toNat : Int) != (z.toNat : Int)) = true := by
        have := HP.out.inj k x hlt hx
        have := HE.out
        simp; omega
      have hne2 : (((colF g y.toNat k).toNat : Int) == (z.toNat : Int)) = false := by
        have := HP.out.inj k x hlt hx
        have := HE.out
        simp; omega
      go_wp2
      go_roundw
      case rel => exact ⟨k + 1, by omega, by go_num, hH⟩
      case measure => simp [intOf]; omega
    · obtain rfl : k = x := by omega
      have hne : (((colF g y.toNat k).toNat : Int) != (z.toNat : Int)) = false := by
        have := HE.out
        simp; omega
      have hne2 : (((colF g y.toNat k).toNat : Int) == (z.toNat : Int)) = true := by
        have := HE.out
        simp; omega
      go_wp2
      go_ret
      exact ⟨rfl, hH.below⟩
end Go.Proofs.Ytcdlnkjljijlmaa
