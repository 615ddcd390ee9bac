/- Proved: what the functions that reckon the order of an element return, and what OrderOf returns, of program and model alike. Conditions: those that each theorem names. -/
import Derived.Test.YtpfhjbcmlebejaaLc
import Derived.Test.YtpfhjbcmlebejaaPw
namespace Go.Proofs.Ytpfhjbcmlebejaa
set_option linter.unusedVariables false
set_option linter.unusedSimpArgs false
open Go.RowKit
theorem pw_one {g : Nat → UInt8} {N : Nat} {x : UInt8} (h : IsLp N g) (hx : x.toNat < N) : pw g x.toNat 1 = x := by
  apply UInt8.toNat_inj.1
  show (g (x.toNat * 10 + 0)).toNat = _
  exact h.col x.toNat hx
set_option maxRecDepth 20000 in
set_option maxHeartbeats 2000000 in
theorem l05Order_any (N m : Nat) (g : Nat → UInt8) (x : UInt8) (w : World) (hL : IsLp N g) (hx : x.toNat < N) (hO : IsOrd g N x.toNat m) :
    Calls Try.prog 49 #[.agg (sqc N g), .int .u8 x.toNat] w fun e w' => e = .returned (.int .i64 m) ∧ Below w.heap.size w w' := by
  have h10 := hL.sq.hi
  have hm1 := hO.pos
  have hmN := hO.le
  have HL := hid hL
  have HO := hid hO
  clear hL hO
  have hx10 : x.toNat < 10 := by omega
  have hx' : (x.toNat : Int) < 10 := by omega
  have hH := Has.start1 w (sqc N g) 30
  go_enter Try.func49, Try.ntmps49
  go_wp2
  go_loopw [5, 6] (fun v i wr => ∃ k : Nat, 1 ≤ k ∧ k ≤ m ∧ v = .int .u8 (pw g x.toNat k).toNat ∧ i = .int .i64 k ∧ Has w wr [(sqc N g, 30)]) (fun _ i _ => 20 - (intOf i).toNat)
  case atStart => exact ⟨1, by omega, by omega, by rw [pw_one HL.out hx], rfl, hH⟩
  case round =>
    clear hH
    obtain ⟨k, hk1, hk, rfl, rfl, hH⟩ := hrel
    obtain ⟨p, hp⟩ : ∃ p, pw g x.toNat k = p := ⟨_, rfl⟩
    have hplt : p.toNat < N := by rw [← hp]; exact pw_lt HL.out.sq hx k
    have hp' : (p.toNat : Int) < 10 := by omega
    have ca : wr.cell? ⟨w.heap.size, 1 + x.toNat * 10 + p.toNat, none⟩ = some (.int .u8 (g (x.toNat * 10 + p.toNat)).toNat) := by rw [hH.c0, Nat.add_assoc, sqc_get _ _ _ (by omega)]
    by_cases hlt : k < m
    · have hne := HO.out.ne k hk1 hlt
      rw [hp] at hne ⊢
      have hne' : ¬ ((p.toNat : Int) = 0) := by omega
      have HP := hid hp
      clear hp
      go_wp2
      go_roundw
      case rel => exact ⟨k + 1, by omega, by omega, by show _ = Value.int .u8 (g (x.toNat * 10 + (pw g x.toNat k).toNat)).toNat; rw [HP.out], by go_num, hH⟩
      case measure => simp [intOf]; omega
    · obtain rfl : k = m := by omega
      have hz := HO.out.zero
      rw [hp] at hz ⊢
      have hz' : (p.toNat : Int) = 0 := by omega
      clear hp
      go_wp2
      go_ret
      exact ⟨rfl, hH.below⟩
set_option maxRecDepth 20000 in
set_option maxHeartbeats 2000000 in
theorem orderOf_any (N m : Nat) (g : Nat → UInt8) (x : UInt8) (w : World) (hL : IsLp N g) (hx : x.toNat < N) (hO : IsOrd g N x.toNat m) :
    Calls Try.prog 50 #[.agg (sqc N g), .int .u8 x.toNat] w fun e w' => e = .returned (.int .i64 m) ∧ Below w.heap.size w w' := by
  have h10 := hL.sq.hi
  have hm1 := hO.pos
  have hmN := hO.le
  have HL := hid hL
  have HO := hid hO
  clear hL hO
  have hx10 : x.toNat < 10 := by omega
  have hx' : (x.toNat : Int) < 10 := by omega
  have hH := Has.start1 w (sqc N g) 30
  go_enter Try.func50, Try.ntmps50
  go_wp2
  go_loopw [6, 5] (fun v i wr => ∃ k : Nat, 1 ≤ k ∧ k ≤ m ∧ v = .int .u8 (pw g x.toNat k).toNat ∧ i = .int .i64 k ∧ Has w wr [(sqc N g, 30)]) (fun _ i _ => 20 - (intOf i).toNat)
  case atStart => exact ⟨1, by omega, by omega, by rw [pw_one HL.out hx], rfl, hH⟩
  case round =>
    clear hH
    obtain ⟨k, hk1, hk, rfl, rfl, hH⟩ := hrel
    obtain ⟨p, hp⟩ : ∃ p, pw g x.toNat k = p := ⟨_, rfl⟩
    have hplt : p.toNat < N := by rw [← hp]; exact pw_lt HL.out.sq hx k
    have hp' : (p.toNat : Int) < 10 := by omega
    have ca : wr.cell? ⟨w.heap.size, 1 + x.toNat * 10 + p.toNat, none⟩ = some (.int .u8 (g (x.toNat * 10 + p.toNat)).toNat) := by rw [hH.c0, Nat.add_assoc, sqc_get _ _ _ (by omega)]
    by_cases hlt : k < m
    · have hne := HO.out.ne k hk1 hlt
      rw [hp] at hne ⊢
      have hne' : ¬ ((p.toNat : Int) = 0) := by omega
      have HP := hid hp
      clear hp
      go_wp2
      go_roundw
      case rel => exact ⟨k + 1, by omega, by omega, by show _ = Value.int .u8 (g (x.toNat * 10 + (pw g x.toNat k).toNat)).toNat; rw [HP.out], by go_num, hH⟩
      case measure => simp [intOf]; omega
    · obtain rfl : k = m := by omega
      have hz := HO.out.zero
      rw [hp] at hz ⊢
      have hz' : (p.toNat : Int) = 0 := by omega
      clear hp
      go_wp2
      go_ret
      exact ⟨rfl, hH.below⟩
end Go.Proofs.Ytpfhjbcmlebejaa
