/- Proved: what the laws' conversion of a square returns: the same square. Conditions: none. -/
import Derived.Test.YtbhjbllgmenbaabTo
namespace Go.Proofs.Ytbhjbllgmenbaab
set_option linter.unusedVariables false
set_option linter.unusedSimpArgs false
open Go.RowKit
set_option maxRecDepth 20000 in
set_option maxHeartbeats 1000000 in
theorem toSquare_any (o : Int) (g : Nat → UInt8) (w : World) :
    Calls Try.prog 16 #[.agg (sqc o g)] w fun e w' => e = .returned (.agg (sqc o g)) ∧ Below w.heap.size w w' := by
  have hS := Has.start3 w (sqc o g) (sqc 0 fun _ => 0) (sqc 0 fun _ => 0) 25 32 32
  have hH := Has.start3 w (sqc o g) (sqc 0 fun _ => 0) ((sqc 0 fun _ => 0).setIfInBounds 0 (.int .i64 o)) 25 32 32
  have c0 := hS.c0
  have c2 := hS.c2
  have f2 := hS.f2
  clear hS
  go_enter Try.func16, Try.ntmps16
  go_wp2_with (first | (refine wpL_alloc rfl rfl zeroSq ?_; intro g hg; (try simp at hg); subst hg) | (refine wpL_loadTab rfl rfl rfl rowTb hH.h0 ?_) | (go_at_call 62; refine (toTable_any _ _).mono ?_; rintro e w2 ⟨rfl, hb⟩; replace hH := hH.call' hb; rw [sqc_set0] at hH) | (refine wpL_storeTab rfl rfl rfl rfl rowTa hH.h2 ?_; replace hH := hH.r2 (cs' := sqc o g)) | (refine wpL_loadFull rfl rfl rfl rowSq hH.h2 (sqc_size _ _) ?_) | (refine wpL_storeFull rfl rfl rfl rfl rowSq hH.h1 (sqc_size _ _) (sqc_ok _ _) ?_))
  exact ret_c rfl rfl hH.r1.h1 rowSq (sqc_size _ _) ⟨rfl, hH.r1.below⟩
end Go.Proofs.Ytbhjbllgmenbaab
