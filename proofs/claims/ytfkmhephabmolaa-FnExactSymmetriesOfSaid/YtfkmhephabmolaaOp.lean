/- Proved: what the program's OppositeOf and the model's return: the same. Conditions: none. -/
import Derived.Test.YtfkmhephabmolaaSq5
import Derived.Test.YtfkmhephabmolaaSq3b
import Derived.Test.YtfkmhephabmolaaTo
import Derived.Test.YtfkmhephabmolaaSr
namespace Go.Proofs.Ytfkmhephabmolaa
set_option linter.unusedVariables false
set_option linter.unusedSimpArgs false
open Go.RowKit
theorem builtSqT (n : Int) (t : Nat → UInt8) : Try.prog.built 30 [(0, .int .i64 n), (1, .agg (u8s 100 t))] = some (sqc n t) := by kernel_rfl
theorem upTo_col (g : Nat → UInt8) (k i : Nat) : upTo (turn g) (k + 1) i = if k * 10 ≤ i ∧ i < k * 10 + 10 then colF g k (i - k * 10) else upTo (turn g) k i := by
  rw [upTo_row]
  by_cases h : k * 10 ≤ i ∧ i < k * 10 + 10
  · rw [if_pos h, if_pos h, ← rowF_turn g k (i - k * 10) (by omega)]; rfl
  · rw [if_neg h, if_neg h]
theorem upTo_turn {g : Nat → UInt8} {N : Nat} (h : IsSq N g) (o : Int) : sqc o (upTo (turn g) N) = sqc o (turn g) :=
  sqc_congr o _ _ fun i hi => by
    unfold upTo
    by_cases e : i / 10 < N
    · rw [if_pos e]
    · rw [if_neg e]
      exact (h.zero (i % 10) (i / 10) (by omega) (by omega) (.inr (by omega))).symm
theorem implOppositeOf_no (o : Int) (g : Nat → UInt8) (w : World) (hs : sqB o g = false) :
    Calls Try.prog 73 #[.agg (sqc o g)] w fun e w' => e = .returned (.tuple #[.agg (sqc 0 fun _ => 0), .int .i64 1]) ∧ Below w.heap.size w w' := by
  have hH := Has.start2 w (sqc o g) (sqc 0 fun _ => 0) 30 30
  go_enter Try.func73, Try.ntmps73
  go_wp2_with (first | (refine wpL_alloc rfl rfl zeroSq ?_; intro g hg; (try simp at hg); subst hg) | (refine wpL_loadFull rfl rfl rfl rowSq hH.h0 (sqc_size _ _) ?_) | (go_at_call 47; refine (IsSquare_any o g _).mono ?_; rintro e w2 ⟨rfl, hb⟩; replace hH := hH.call' hb; rw [hs]) | (refine wpL_build rfl rfl builtSq ?_) | (refine wpL_storeSame rfl rfl rfl rfl rowSq hH.h1 (sqc_ok _ _) ?_))
  exact ret_ct rfl rfl rfl hH.h1 rowSq (sqc_size _ _) ⟨rfl, hH.below⟩
set_option maxRecDepth 20000 in
set_option maxHeartbeats 2000000 in
theorem implOppositeOf_yes (N : Nat) (g : Nat → UInt8) (w : World) (h1 : 1 ≤ N) (h10 : N ≤ 10) (hq : IsSq N g) (hs : sqB (N : Int) g = true) :
    Calls Try.prog 73 #[.agg (sqc N g)] w fun e w' => e = .returned (.tuple #[.agg (sqc N (turn g)), .int .i64 0]) ∧ Below w.heap.size w w' := by
  have hN1 : 1 ≤ (N : Int) := by omega
  have hN2 : (N : Int) ≤ 10 := by omega
  have hz := hid (upTo_turn hq N)
  have hH := Has.start2 w (sqc N g) (sqc 0 fun _ => 0) 30 30
  go_enter Try.func73, Try.ntmps73
  go_wp2_with (first | (refine wpL_allocN (o := ⟨some 4, _, _, _, _, _⟩) rfl rfl zeroSq ?_; intro gb w2 hg hl hb; have hlo : w.heap.size + 2 ≤ gb := (by have := hH.size; simp only [List.length_cons, List.length_nil] at this; omega); replace hH := hH.call' hb; clear hb hl) | (refine wpL_alloc rfl rfl zeroSq ?_; intro g hg; (try simp at hg); subst hg) | (refine wpL_loadFull rfl rfl rfl rowSq hH.h0 (sqc_size _ _) ?_) | (go_at_call 47; refine (IsSquare_any N g _).mono ?_; rintro e w2 ⟨rfl, hb⟩; replace hH := hH.call' hb; clear hb; rw [hs]; have c0 := hH.c0) | (refine wpL_build1 rfl rfl rfl (builtSqO _) ?_) | (refine wpL_storeN (x := .tmp 4) rfl rfl rfl rfl rowSq hg (sqc_size _ _) (sqc_ok _ _) ?_; intro w2 hz hO hT; replace hg := hz; replace hH := hT _ _ hH hlo; clear hz hO hT; clear c0; have c0 := hH.c0))
  clear c0
  go_loopw [15] (fun i wr => ∃ k : Nat, k ≤ N ∧ i = .int .i64 k ∧ Has w wr [(sqc N g, 30), (sqc 0 (fun _ => 0), 30)] ∧ holds wr gb (sqc N (upTo (turn g) k)) 30) (fun i _ => 10 - (intOf i).toNat)
  case atStart => exact ⟨0, by omega, rfl, hH, by rw [upTo_zero]; exact hg⟩
  case round =>
    clear hH hg
    obtain ⟨k, hk, rfl, hH, hg⟩ := hrel
    by_cases hlt : k < N
    · have hk10 : k < 10 := by omega
      have hk1 : (k : Int) < 10 := by omega
      have hoff : k * 10 + 10 ≤ 100 := by omega
      go_wp2_with (first | (refine wpL_loadTab rfl rfl rfl rowTa hH.h0 ?_) | (go_at_call 70; refine (columnOf_any g k _ hk10).mono ?_; rintro e w2 ⟨rfl, hb⟩; replace hH := hH.call' hb; replace hg := holds_below hg hb (holds_lt hg)) | (refine wpL_storeRowSq rfl rfl rfl rfl rowPl hg hoff (fun i _ => upTo_col g k i) ?_; replace hH := hH.setRowAbove hlo (sqc N (upTo (turn g) (k + 1))); replace hg := holds_row (cs' := sqc N (upTo (turn g) (k + 1))) hg))
      go_roundw
      case rel => exact ⟨k + 1, by omega, by go_num, hH, hg⟩
      case measure => simp [intOf]; omega
    · obtain rfl : k = N := by omega
      rw [hz.out] at hg
      go_wp2_with (first | (refine wpL_loadFull rfl rfl rfl rowSq hg (sqc_size _ _) ?_) | (refine wpL_storeFull rfl rfl rfl rfl rowSq hH.h1 (sqc_size _ _) (sqc_ok _ _) ?_))
      exact ret_ct rfl rfl rfl hH.r1.h1 rowSq (sqc_size _ _) ⟨rfl, hH.r1.below⟩
end Go.Proofs.Ytfkmhephabmolaa
