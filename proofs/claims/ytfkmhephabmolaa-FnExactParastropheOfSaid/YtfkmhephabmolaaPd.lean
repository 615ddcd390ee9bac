/- Proved: what the model's ParastropheOf returns. Conditions: those that each theorem names. -/
import Derived.Test.YtfkmhephabmolaaPc
import Derived.Test.YtfkmhephabmolaaPl1
namespace Go.Proofs.Ytfkmhephabmolaa
set_option linter.unusedVariables false
set_option linter.unusedSimpArgs false
open Go.RowKit
set_option maxRecDepth 20000 in
theorem specParastropheOf_no (o k : Int) (g : Nat → UInt8) (w : World) (hs : sqB o g = false) :
    Calls Try.prog 17 #[.agg (sqc o g), .int .i64 k] w fun e w' => e = .returned (.tuple #[.agg (sqc 0 fun _ => 0), .int .i64 1]) ∧ Below w.heap.size w w' := by
  have hH := Has.start2 w (sqc o g) (sqc 0 fun _ => 0) 30 30
  go_enter Try.func17, Try.ntmps17
  go_wp2_with (first | (refine wpL_alloc rfl rfl zeroSq ?_; intro g hg; (try simp at hg); subst hg) | (refine wpL_loadFull rfl rfl rfl rowSq hH.h0 (sqc_size _ _) ?_) | (go_at_call 45; refine (l01Is_any o g _).mono ?_; rintro e w2 ⟨rfl, hb⟩; replace hH := hH.call' hb; rw [hs]) | (refine wpL_build rfl rfl builtSq ?_) | (refine wpL_storeSame rfl rfl rfl rfl rowSq hH.h1 (sqc_ok _ _) ?_))
  exact ret_ct rfl rfl rfl hH.h1 rowSq (sqc_size _ _) ⟨rfl, hH.below⟩
set_option maxRecDepth 20000 in
theorem specParastropheOf_far (o k : Int) (g : Nat → UInt8) (w : World) (hs : sqB o g = true) (hk : ¬ (0 ≤ k ∧ k ≤ 5)) :
    Calls Try.prog 17 #[.agg (sqc o g), .int .i64 k] w fun e w' => e = .returned (.tuple #[.agg (sqc 0 fun _ => 0), .int .i64 2]) ∧ Below w.heap.size w w' := by
  have hH := Has.start2 w (sqc o g) (sqc 0 fun _ => 0) 30 30
  have hf := inB_false hk
  clear hk
  go_enter Try.func17, Try.ntmps17
  go_wp2_with (first | (refine wpL_alloc rfl rfl zeroSq ?_; intro g hg; (try simp at hg); subst hg) | (refine wpL_loadFull rfl rfl rfl rowSq hH.h0 (sqc_size _ _) ?_) | (go_at_call 45; refine (l01Is_any o g _).mono ?_; rintro e w2 ⟨rfl, hb⟩; replace hH := hH.call' hb; clear hb; rw [hs]) | (go_at_call 48; refine (l01In_any _ _ _ _).mono ?_; rintro e w2 ⟨rfl, rfl⟩; rw [hf]) | (refine wpL_build rfl rfl builtSq ?_) | (refine wpL_storeSame rfl rfl rfl rfl rowSq hH.h1 (sqc_ok _ _) ?_))
  exact ret_ct rfl rfl rfl hH.h1 rowSq (sqc_size _ _) ⟨rfl, hH.below⟩
set_option maxRecDepth 20000 in
theorem specParastropheOf_in (N k : Nat) (g : Nat → UInt8) (w : World) (hs : sqB (N : Int) g = true) (hQ : IsSq N g) (hk : k < 6) :
    Calls Try.prog 17 #[.agg (sqc N g), .int .i64 k] w fun e w' => e = .returned (.tuple #[.agg (sqc N (paF g N k)), .int .i64 0]) ∧ Below w.heap.size w w' := by
  have HQ := hid hQ
  clear hQ
  have hf : inB (k : Int) 0 5 = true := inB_true (by omega) (by omega)
  have hH := Has.start2 w (sqc N g) (sqc 0 fun _ => 0) 30 30
  go_enter Try.func17, Try.ntmps17
  go_wp2_with (first | (refine wpL_alloc rfl rfl zeroSq ?_; intro g hg; (try simp at hg); subst hg) | (refine wpL_loadFull rfl rfl rfl rowSq hH.h0 (sqc_size _ _) ?_) | (go_at_call 45; refine (l01Is_any N g _).mono ?_; rintro e w2 ⟨rfl, hb⟩; replace hH := hH.call' hb; clear hb; rw [hs]) | (go_at_call 48; refine (l01In_any _ _ _ _).mono ?_; rintro e w2 ⟨rfl, rfl⟩; rw [hf]) | (go_at_call 49; refine (l03Parastrophe_any N k g _ HQ.out hk).mono ?_; rintro e w3 ⟨rfl, hb⟩; replace hH := hH.call' hb; clear hb) | (refine wpL_storeFull rfl rfl rfl rfl rowSq hH.h1 (sqc_size _ _) (sqc_ok _ _) ?_))
  exact ret_ct rfl rfl rfl hH.r1.h1 rowSq (sqc_size _ _) ⟨rfl, hH.r1.below⟩
end Go.Proofs.Ytfkmhephabmolaa
