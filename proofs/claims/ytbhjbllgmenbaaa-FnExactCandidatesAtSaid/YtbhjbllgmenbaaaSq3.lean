/- Proved: what the model's functions that tell squares return. Conditions: those that each theorem names. -/
import Derived.Test.YtbhjbllgmenbaaaSqm
import Derived.Test.YtbhjbllgmenbaaaSq1
import Derived.Test.YtbhjbllgmenbaaaPl1
import Derived.BigRegion
namespace Go.Proofs.Ytbhjbllgmenbaaa
set_option linter.unusedVariables false
set_option linter.unusedSimpArgs false
open Go.RowKit
def tpF (g : Nat → UInt8) (k j : Nat) : Nat → UInt8 := fun i => if i % 10 < k ∨ (i % 10 = k ∧ i / 10 < j) then turn g i else 0
theorem tpF_zero (g : Nat → UInt8) : tpF g 0 0 = fun _ => 0 := by funext i; simp [tpF]
theorem tpF_step (g : Nat → UInt8) (k j : Nat) (hk : k < 10) (i : Nat) : tpF g k (j + 1) i = if i = j * 10 + k then g (k * 10 + j) else tpF g k j i := by
  unfold tpF
  by_cases e : i = j * 10 + k
  · subst e
    have h1 : (j * 10 + k) / 10 = j := by omega
    have h2 : (j * 10 + k) % 10 = k := by omega
    rw [h1, h2, if_pos (Or.inr ⟨rfl, by omega⟩), if_pos rfl]
    unfold turn
    rw [h1, h2]
  · rw [if_neg e]
    have : (i % 10 < k ∨ (i % 10 = k ∧ i / 10 < j + 1)) ↔ (i % 10 < k ∨ (i % 10 = k ∧ i / 10 < j)) := by omega
    simp only [this]
theorem tpF_row (g : Nat → UInt8) (k : Nat) : u8s 100 (tpF g (k + 1) 0) = u8s 100 (tpF g k 10) :=
  u8s_congr 100 _ _ fun i hi => by
    unfold tpF
    have : (i % 10 < k + 1 ∨ (i % 10 = k + 1 ∧ i / 10 < 0)) ↔ (i % 10 < k ∨ (i % 10 = k ∧ i / 10 < 10)) := by omega
    simp only [this]
theorem tpF_done (g : Nat → UInt8) : u8s 100 (tpF g 10 0) = u8s 100 (turn g) :=
  u8s_congr 100 _ _ fun i hi => by unfold tpF; rw [if_pos (by omega)]
set_option maxRecDepth 20000 in
set_option maxHeartbeats 1000000 in
theorem l01Turned_any (g : Nat → UInt8) (w : World) :
    Calls Try.prog 108 #[.agg (u8s 100 g)] w fun e w' => e = .returned (.agg (u8s 100 (turn g))) ∧ Below w.heap.size w w' := by
  go_enter Try.func108, Try.ntmps108
  go_wp2_with (first | (refine wpL_alloc rfl rfl zeroTa ?_; intro g hg; (try simp at hg); subst hg) | (refine wpL_build rfl rfl builtTa ?_) | (refine wpL_storeSame rfl rfl rfl rfl rowTa (Has.start3 _ _ _ _ _ _ _).h2 (u8s_ok _ _) ?_))
  go_loopw [4] (fun i wr => ∃ k : Nat, k ≤ 10 ∧ i = .int .i64 k ∧ Has w wr [(u8s 100 g, 27), (u8s 100 (fun _ => 0), 27), (u8s 100 (tpF g k 0), 27)]) (fun i _ => 10 - (intOf i).toNat)
  case atStart => exact ⟨0, by omega, rfl, by rw [tpF_zero]; exact Has.start3 _ _ _ _ _ _ _⟩
  case round =>
    obtain ⟨k, hk, rfl, hH⟩ := hrel
    by_cases hlt : k < 10
    · obtain ⟨wo, hwo⟩ : ∃ wo : World, wo = wr := ⟨_, rfl⟩
      subst hwo
      go_wp2
      go_loopw [5] (fun i wr => ∃ j : Nat, j ≤ 10 ∧ i = .int .i64 j ∧ Has w wr [(u8s 100 g, 27), (u8s 100 (fun _ => 0), 27), (u8s 100 (tpF g k j), 27)]) (fun i _ => 10 - (intOf i).toNat)
      case atStart => exact ⟨0, by omega, rfl, hH⟩
      case round =>
        clear hH
        obtain ⟨j, hj, rfl, hH⟩ := hrel
        by_cases hlt2 : j < 10
        · have c0' : wr.drew.cell? ⟨w.heap.size, k * 10 + j, none⟩ = some (.int .u8 (g (k * 10 + j)).toNat) := by
            show wr.cell? _ = _
            rw [hH.c0, u8s_get _ _ _ (by omega)]
          have c2' : wr.drew.cell? ⟨w.heap.size + 1 + 1, j * 10 + k, none⟩ = some (.int .u8 (tpF g k j (j * 10 + k)).toNat) := by
            show wr.cell? _ = _
            rw [hH.c2, u8s_get _ _ _ (by omega)]
          have f2' : wr.drew.frozen? ⟨w.heap.size + 1 + 1, j * 10 + k, none⟩ = false := hH.f2 _
          go_wp2
          go_region
          all_goals
            go_wp2
            go_roundw
            case rel => exact ⟨j + 1, by omega, by go_num, (hH.s2 _ _ (u8s_step 100 _ _ _ _ (fun i _ => tpF_step g k j hlt i))).drew⟩
            case measure => simp [intOf]; omega
        · obtain rfl : j = 10 := by omega
          go_wp2
          go_roundw
          case rel => exact ⟨k + 1, by omega, by go_num, by rw [tpF_row]; exact hH⟩
          case measure => simp [intOf]; omega
    · obtain rfl : k = 10 := by omega
      rw [tpF_done] at hH
      go_wp2_with (first | (refine wpL_loadFull rfl rfl rfl rowTa hH.h2 (u8s_size _ _) ?_) | (refine wpL_storeFull rfl rfl rfl rfl rowTa hH.h1 (u8s_size _ _) (u8s_ok _ _) ?_))
      exact ret_c rfl rfl hH.r1.h1 rowTa (u8s_size _ _) ⟨rfl, hH.r1.below⟩
theorem gdB10 : Try.prog.eqGuardType Try.prog.depth 22 = false := by kernel_rfl
theorem gdSq : Try.prog.eqGuardType Try.prog.depth 29 = false := by kernel_rfl
theorem sz5 : (Try.prog.info? 5).map (·.size) = some 1 := by kernel_rfl
theorem eqB10 (a b : Nat → UInt8) (w : World) : (Op.equalIn Op.maxDepth 22 (.agg (u8s 10 a)) (.agg (u8s 10 b))).run Try.prog w = .ok (eqU 10 a b) w :=
  run_eq_bytes w 9998 22 5 10 _ _ a b Try.underlying22 Try.underlying5 sz5 rfl rfl
theorem eqSq (z y : Int) (a b : Nat → UInt8) (w : World) : (Op.equalIn Op.maxDepth 29 (.agg (sqc z a)) (.agg (sqc y b))).run Try.prog w = .ok (eqS z y a b) w :=
  run_eq_square w 9996 29 2 27 22 5 _ _ z y a b Try.underlying29 (by kernel_rfl) ⟨rfl, rfl, by decide⟩ ⟨rfl, rfl, by decide⟩ Try.underlying2 Try.underlying27 rowTa Try.underlying22 rowB10 Try.underlying5 sz5
set_option maxRecDepth 20000 in
set_option maxHeartbeats 1000000 in
theorem l01Rows_any (g : Nat → UInt8) (N : Nat) (w : World) (h1 : 1 ≤ N) (h10 : N ≤ 10) :
    Calls Try.prog 107 #[.agg (u8s 100 g), .int .i64 N] w fun e w' => e = .returned (.bool (rowsB g N)) ∧ Below w.heap.size w w' := by
  go_enter Try.func107, Try.ntmps107
  go_wp2
  go_loopw [5] (fun i wr => ∃ k : Nat, k ≤ 10 ∧ i = .int .i64 k ∧ Has w wr [(u8s 100 g, 27)] ∧ Hid (RowsTo g N k)) (fun i _ => 10 - (intOf i).toNat)
  case atStart => exact ⟨0, by omega, rfl, Has.start1 _ _ _, RowsTo.start g N⟩
  case round =>
    obtain ⟨k, hk, rfl, hH, hR⟩ := hrel
    by_cases hlt : k < 10
    · have hoff : k * 10 + 10 ≤ 100 := by omega
      by_cases hN : k < N
      · cases hp : permB (rowF g k) (N : Int) with
        | true =>
          have hR' := hid (hR.out.step1 hN hp)
          go_wp2_with (first | (refine wpL_guard rfl rfl ?_) | (refine wpL_loadRow rfl rfl rfl rowB10 hH.h0 hoff ?_) | (go_at_call 127; refine (l01Perm_any (rowF g k) _ _).mono ?_; rintro e w2 ⟨rfl, hb⟩; replace hH := hH.call' hb; clear hb))
          go_roundw
          case rel => exact ⟨k + 1, by omega, by go_num, hH, hR'⟩
          case measure => simp [intOf]; omega
        | false =>
          have hq := hid (rowsB_no1 hN hlt hp)
          go_wp2_with (first | (refine wpL_guard rfl rfl ?_) | (refine wpL_loadRow rfl rfl rfl rowB10 hH.h0 hoff ?_) | (go_at_call 127; refine (l01Perm_any (rowF g k) _ _).mono ?_; rintro e w2 ⟨rfl, hb⟩; replace hH := hH.call' hb; clear hb))
          go_ret
          exact ⟨by rw [hq.out]; rfl, hH.below⟩
      · have hN' : N ≤ k := by omega
        cases hp : eqU 10 (rowF g k) (fun _ => 0) with
        | true =>
          have hR' := hid (hR.out.step2 hN' hp)
          go_wp2_with (first | (refine wpL_guard rfl rfl ?_) | (refine wpL_loadRow rfl rfl rfl rowB10 hH.h0 hoff ?_) | (refine wpL_build rfl rfl builtB10 ?_) | (refine wpL_neqAgg rfl rfl rfl rfl gdB10 (eqB10 (rowF g k) (fun _ => 0) _) ?_))
          go_roundw
          case rel => exact ⟨k + 1, by omega, by go_num, hH, hR'⟩
          case measure => simp [intOf]; omega
        | false =>
          have hq := hid (rowsB_no2 hN' hlt hp)
          go_wp2_with (first | (refine wpL_guard rfl rfl ?_) | (refine wpL_loadRow rfl rfl rfl rowB10 hH.h0 hoff ?_) | (refine wpL_build rfl rfl builtB10 ?_) | (refine wpL_neqAgg rfl rfl rfl rfl gdB10 (eqB10 (rowF g k) (fun _ => 0) _) ?_))
          go_ret
          exact ⟨by rw [hq.out]; rfl, hH.below⟩
    · obtain rfl : k = 10 := by omega
      have hq := hid (rowsB_iff.2 hR.out)
      go_wp2
      go_ret
      exact ⟨by rw [hq.out]; rfl, hH.below⟩
end Go.Proofs.Ytbhjbllgmenbaaa
