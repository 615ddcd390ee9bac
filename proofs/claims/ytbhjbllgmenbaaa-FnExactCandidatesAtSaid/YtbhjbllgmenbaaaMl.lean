/- Proved: what the list of a set of elements is. Conditions: those that each theorem names. -/
import Derived.Test.YtbhjbllgmenbaaaSel
import Derived.Test.YtbhjbllgmenbaaaReg
import Derived.Test.YtbhjbllgmenbaaaEq
namespace Go.Proofs.Ytbhjbllgmenbaaa
set_option linter.unusedVariables false
set_option linter.unusedSimpArgs false
open Go.RowKit
theorem rowMe : IsRow Try.prog 78 10 := ⟨.inr ⟨_, _, Try.underlying78⟩, by kernel_rfl⟩
theorem zeroMe : ZeroIs Try.prog 78 (bls 10 fun _ => false) := by unfold ZeroIs; kernel_rfl
theorem run_part_bool {P : Program} (w : World) (E i : Nat) (cs : Array Value) (v : Value) (hE : P.underlying E = some .bool) (hv : cs[i]? = some v) : (part E cs i).run P w = .ok v w := by
  have hagg : (isAgg E).run P w = .ok false w := by
    unfold isAgg
    rw [Sem.run_bind, run_underlying hE w]; rfl
  simp [part, Sem.run_bind, hagg, hv]
theorem szB1 : (Try.prog.info? 4).map (·.size) = some 1 := by kernel_rfl
theorem ixMe (f : Nat → Bool) (k : Nat) (hk : k < 10) (w : World) : (Instr.index 78 (.agg (bls 10 f)) (.int .i64 k)).run Try.prog w = .ok (.bool (f k)) w := by
  have hp := run_part_bool (P := Try.prog) w 4 (k * 1) (bls 10 f) (.bool (f k)) Try.underlying4 (by rw [Nat.mul_one]; exact bls_get 10 f k hk)
  have hsz : (sizeOf 4).run Try.prog w = .ok 1 w := by
    have hs := szB1
    cases hq : (Try.prog.info? 4) with
    | none => simp [hq] at hs
    | some i => have : i.size = 1 := by simpa [hq] using hs
                simp [sizeOf, typeInfo, hq, this]
  have h1 : (0 : Int) ≤ (k : Int) ∧ (k : Int) < (10 : Nat) := by omega
  simp only [Instr.index, asIntOf, Sem.run_bind, Sem.run_pure, Result.andThen_ok, run_underlying Try.underlying78, Sem.run_ite, if_pos h1, hsz, Int.toNat_natCast]
  exact hp
set_option maxRecDepth 20000 in
set_option maxHeartbeats 2000000 in
theorem membersList_any (f : Nat → Bool) (w : World) :
    Calls Try.prog 111 #[.agg (bls 10 f)] w (GotV (selL f 10) w) := by
  have hH := Has.start1 w (bls 10 f) 78
  go_enter Try.func111, Try.ntmps111
  go_wp2_with (first | fail | (refine wpL_loadFull rfl rfl rfl rowMe hH.h0 (bls_size _ _) ?_))
  go_loopw [3, 7] (fun v i wr => ∃ k : Nat, k ≤ 10 ∧ i = .int .i64 k ∧ Has w wr [(bls 10 f, 78)] ∧ Hid (OL wr (w.heap.size + 1) v (selL f k))) (fun _ i _ => 20 - (intOf i).toNat)
  case atStart => exact ⟨0, by omega, rfl, hH, hid (by rw [show selL f 0 = [] from rfl]; exact OL.nil _ _)⟩
  case round =>
    clear hH
    obtain ⟨k, hk, rfl, hH, hO⟩ := hrel
    have hsz := hH.size
    simp only [List.length_cons, List.length_nil] at hsz
    have hlen := selL_len f k
    by_cases hlt : k < 10
    · have hix := ixMe f k hlt
      have hk1 : (k : Int) < 10 := by omega
      cases he : f k with
      | true =>
        rw [he] at hix
        have HE := hid he
        clear he
        go_wp2_with (first | fail | (refine wpL_appI (v := u3) (n := (selL f k).length) (base := w.heap.size + 1) (z := (k : Int)) rfl (by rfl) (by rfl) (by rfl) (World.ownsRow.alloc hO.out _) (by simp) (by omega) (by simp; omega) ?_; intro r cap w2 how hg hor hlt3; have hO2 := hid (OL.add how); replace hH := (hH.alloc _).grown hg (fun x hx => by have := (World.ownsRow.lt hO.out x hx).1; simp; omega); rw [← selL_yes HE.out] at hO2; clear how hg hor hlt3))
        go_roundw
        case rel => exact ⟨k + 1, by omega, by go_num, hH, hO2⟩
        case measure => simp [intOf]; omega
      | false =>
        rw [he] at hix
        have HE := hid he
        clear he
        go_wp2
        go_roundw
        case rel => exact ⟨k + 1, by omega, by go_num, hH, by rw [selL_no HE.out]; exact hO⟩
        case measure => simp [intOf]; omega
    · obtain rfl : k = 10 := by omega
      go_wp2
      go_ret
      exact ⟨_, rfl, hH.below, hO.out.lower (by omega)⟩
end Go.Proofs.Ytbhjbllgmenbaaa
