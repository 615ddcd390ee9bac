/- Proved: what the laws' conversion and comparison of triples return. Conditions: none. -/
import Derived.Test.YtcmedefgpiegbabTr
namespace Go.Proofs.Ytcmedefgpiegbab
set_option linter.unusedVariables false
set_option linter.unusedSimpArgs false
open Go.RowKit
set_option maxRecDepth 20000 in
set_option maxHeartbeats 1000000 in
theorem toTriple_any (t : Nat → UInt8) (w : World) :
    Calls Try.prog 16 #[.agg (u8s 30 t)] w fun e w' => e = .returned (.agg (u8s 30 t)) ∧ Below w.heap.size w w' := by
  have hH : Has w (((w.alloc (.cells (u8s 30 t) 24)).alloc (.cells (u8s 30 fun _ => 0) 28)).alloc (.cells (u8s 30 fun _ => 0) 28)) [(u8s 30 t, 24), (u8s 30 fun _ => 0, 28), (u8s 30 (triUp t 0), 28)] := by
    rw [triUp_none]; exact Has.start3 _ _ _ _ _ _ _
  have hall := hid (triUp_all t)
  go_enter Try.func16, Try.ntmps16
  go_wp2_with (first | (refine wpL_alloc rfl rfl zeroTr ?_; intro g hg; (try simp at hg); subst hg) | (refine wpL_loadTri rfl rfl rfl rowB10 hH.h0 (by omega) ?_) | (go_at_call 54; refine (toPlaces_any _ _).mono ?_; rintro e w2 ⟨rfl, hb⟩; replace hH := hH.call' hb; clear hb) | (refine wpL_storeTri (off := 0) rfl rfl rfl rfl rowPl hH.h2 (by omega) (fun i _ => triUp_step t 0 i) ?_; replace hH := hH.r2 (cs' := u8s 30 (triUp t (0 + 10)))) | (refine wpL_storeTri (off := 10) rfl rfl rfl rfl rowPl hH.h2 (by omega) (fun i _ => triUp_step t 10 i) ?_; replace hH := hH.r2 (cs' := u8s 30 (triUp t (10 + 10)))) | (refine wpL_storeTri (off := 20) rfl rfl rfl rfl rowPl hH.h2 (by omega) (fun i _ => triUp_step t 20 i) ?_; replace hH := hH.r2 (cs' := u8s 30 (triUp t (20 + 10))); rw [hall.out] at hH) | (refine wpL_loadFull rfl rfl rfl rowTr hH.h2 (u8s_size _ _) ?_) | (refine wpL_storeFull rfl rfl rfl rfl rowTr hH.h1 (u8s_size _ _) (u8s_ok _ _) ?_))
  exact ret_c rfl rfl hH.r1.h1 rowTr (u8s_size _ _) ⟨rfl, hH.r1.below⟩
set_option maxHeartbeats 1000000 in
theorem eqTriple_self (t : Nat → UInt8) (w : World) :
    Calls Try.prog 20 #[.agg (u8s 30 t), .agg (u8s 30 t)] w fun e w' => e = .returned (.bool true) ∧ Below w.heap.size w w' := by
  have hH := Has.start2 w (u8s 30 t) (u8s 30 t) 28 28
  go_enter Try.func20, Try.ntmps20
  go_wp2_with (first | (refine wpL_loadTri rfl rfl rfl rowPl hH.h0 (by omega) ?_) | (refine wpL_loadTri rfl rfl rfl rowPl hH.h1 (by omega) ?_) | (go_at_call 45; refine (eqPlaces_self _ _).mono ?_; rintro e w2 ⟨rfl, hb⟩; replace hH := hH.call' hb; clear hb))
  go_ret
  exact ⟨rfl, hH.below⟩
end Go.Proofs.Ytcmedefgpiegbab
