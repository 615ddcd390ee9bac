/- Proved: what the helpers of the laws on squares return: conversions give the same cells, and what is compared with itself is equal. Conditions: none. -/
import Derived.Test.YtbhjbllgmenbaaaBase
import Derived.Test.YtbhjbllgmenbaaaSq0
import Derived.Test.YtbhjbllgmenbaaaReg
namespace Go.Proofs.Ytbhjbllgmenbaaa
set_option linter.unusedVariables false
set_option linter.unusedSimpArgs false
open Go.RowKit
theorem builtSqO (n : Int) : Try.prog.built 29 [(0, .int .i64 n)] = some (sqc n fun _ => 0) := by kernel_rfl
set_option maxHeartbeats 1000000 in
theorem eqByteA10_self (p : Nat → UInt8) (w : World) :
    Calls Try.prog 97 #[.agg (u8s 10 p), .agg (u8s 10 p)] w fun e w' => e = .returned (.bool true) ∧ Below w.heap.size w w' := by
  go_enter Try.func97, Try.ntmps97
  go_wp2
  go_loopw [5] (fun i wr => ∃ k : Nat, k ≤ 10 ∧ i = .int .i64 k ∧ Has w wr [(u8s 10 p, 22), (u8s 10 p, 22)]) (fun i _ => 10 - (intOf i).toNat)
  case atStart => exact ⟨0, by omega, rfl, Has.start2 _ _ _ _ _⟩
  case round =>
    obtain ⟨k, hk, rfl, hH⟩ := hrel
    have c0 := hH.c0
    have c1 := hH.c1
    by_cases hlt : k < 10
    · go_wp2
      go_quiet (fail)
      go_wp2
      go_roundw
      case rel => exact ⟨k + 1, by omega, by go_num, hH.drewN _⟩
      case measure => simp [intOf]; omega
    · go_wp2
      go_ret
      exact ⟨rfl, hH.below⟩
set_option maxHeartbeats 1000000 in
theorem eqTable_self (f : Nat → UInt8) (w : World) :
    Calls Try.prog 60 #[.agg (u8s 100 f), .agg (u8s 100 f)] w fun e w' => e = .returned (.bool true) ∧ Below w.heap.size w w' := by
  go_enter Try.func60, Try.ntmps60
  go_wp2
  go_loopw [5] (fun i wr => ∃ k : Nat, k ≤ 10 ∧ i = .int .i64 k ∧ Has w wr [(u8s 100 f, 27), (u8s 100 f, 27)]) (fun i _ => 10 - (intOf i).toNat)
  case atStart => exact ⟨0, by omega, rfl, Has.start2 _ _ _ _ _⟩
  case round =>
    obtain ⟨k, hk, rfl, hH⟩ := hrel
    by_cases hlt : k < 10
    · have hoff : k * 10 + 10 ≤ 100 := by omega
      have hk1 : (k : Int) < 10 := by omega
      go_wp2
      refine wp_region_frame (X := Unit) (fun d _ => [(10, bif d 0 then .int .i64 k else u10), (11, bif d 1 then .pointer (some ⟨w.heap.size, k * 10, none⟩) else u11), (12, bif d 2 then .agg (u8s 10 fun j => f (k * 10 + j)) else u12), (13, bif d 3 then .int .i64 k else u13),
          (14, bif d 4 then .pointer (some ⟨w.heap.size + 1, k * 10, none⟩) else u14), (15, bif d 5 then .agg (u8s 10 fun j => f (k * 10 + j)) else u15), (16, bif d 6 then .bool true else u16), (17, bif d 7 then .bool false else u17)])
        (fun _ _ w' => Has w w' [(u8s 100 f, 27), (u8s 100 f, 27)]) (by kernel_rfl) (by kernel_rfl) ?h0 ?hs ?hq
      case h0 => exact ⟨(), rfl, hH.drew⟩
      case hs =>
        refine ⟨?_, ?_, ?_, ?_, ?_, ?_, ?_, ?_, trivial⟩
        all_goals
          clear hH
          intro d _ w1 hd hn hH
          simp only [needs, Region.binds, reduceCtorEq, Bool.false_eq_true, false_implies, true_and, and_true, true_implies, forall_const] at hn
          simp only [lput, List.set, hn, cond_true]
          go_wp2_with (first | (refine wpL_loadRow rfl rfl rfl rowB10 hH.h0 hoff ?_) | (refine wpL_loadRow rfl rfl rfl rowB10 hH.h1 hoff ?_) | (go_at_call 97; refine (eqByteA10_self _ _).mono ?_; rintro e w2 ⟨rfl, hb⟩; replace hH := hH.call' hb))
          first | exact ⟨(), (by simp [lput, done, hn]), hH⟩ | exact ⟨(by simp [lput, done, hn]), hH⟩
      case hq =>
        clear hH
        intro d _ w1 hd hH
        simp only [allDone, List.length_cons, List.length_nil, Nat.reduceAdd, and_true] at hd
        simp only [lput, List.set, hd, cond_true]
        go_wp2
        go_roundw
        case rel => exact ⟨k + 1, by omega, by go_num, hH⟩
        case measure => simp [intOf]; omega
    · go_wp2
      go_ret
      exact ⟨rfl, hH.below⟩
set_option maxRecDepth 10000 in
set_option maxHeartbeats 1000000 in
theorem eqSquare_self (z : Int) (f : Nat → UInt8) (w : World) :
    Calls Try.prog 19 #[.agg (sqc z f), .agg (sqc z f)] w fun e w' => e = .returned (.bool true) ∧ Below w.heap.size w w' := by
  have hH := Has.start2 w (sqc z f) (sqc z f) 29 29
  have c0 := hH.c0
  have c1 := hH.c1
  go_enter Try.func19, Try.ntmps19
  go_wp2_with (first | (refine wpL_loadTab rfl rfl rfl rowTa hH.h0 ?_) | (refine wpL_loadTab rfl rfl rfl rowTa hH.h1 ?_) | (go_at_call 60; refine (eqTable_self _ _).mono ?_; rintro e w2 ⟨rfl, hb⟩; replace hH := hH.call' hb))
  go_ret
  exact ⟨rfl, hH.below⟩
end Go.Proofs.Ytbhjbllgmenbaaa
