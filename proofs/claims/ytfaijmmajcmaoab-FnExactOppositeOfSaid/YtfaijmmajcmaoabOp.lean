/- Proved: what the program's OppositeOf and the model's return: the same. Conditions: none. -/
import Derived.Test.YtfaijmmajcmaoabSq5
import Derived.Test.YtfaijmmajcmaoabSq3b
import Derived.Test.YtfaijmmajcmaoabTo
namespace Go.Proofs.Ytfaijmmajcmaoab
open Go.RowKit
section
variable {P : Program} {ops : Array Oper} {rest : List Oper} {o : Oper} {a : Act} {w : World} {Q : Exit → Act → World → Prop}
theorem wpL_build2 {T : Nat} {x y : Operand} {v u : Value} {Z : Array Value} (hgd : o.guard = none) (ho : o.op = .build T #[(0, x), (1, y)]) (hx : a.eval x = v) (hy : a.eval y = u) (hz : P.built T [(0, v), (1, u)] = some Z)
    (h : wpList P ops Q rest (a.put o.dst (.agg Z)) w) : wpList P ops Q (o :: rest) a w := by
  refine wpList_build hgd T #[(0, x), (1, y)] ho ?_ ?_
  · simp [hx, hy, hz]
  · simpa [hx, hy, hz] using h
theorem over_rowSq (z : Int) (f r f' : Nat → UInt8) (off : Nat) (hb : off + 10 ≤ 100) (he : ∀ i, i < 100 → f' i = if off ≤ i ∧ i < off + 10 then r (i - off) else f i) : over (sqc z f) (1 + off) (u8s 10 r) = sqc z f' := by
  apply sqc_ext
  · rw [over_size _ _ _ (by simp; omega)]; simp
  · rw [over_get _ _ _ (by simp; omega), if_neg (by omega)]; exact sqc_get0 z f
  · intro i hi
    rw [over_get _ _ _ (by simp; omega), he i hi]
    simp only [u8s_size]
    by_cases h : off ≤ i ∧ i < off + 10
    · rw [if_pos h, if_pos (by omega), show 1 + i - (1 + off) = i - off by omega, u8s_get 10 r _ (by omega)]
    · rw [if_neg h, if_neg (by omega), sqc_get z f i hi]
theorem wpL_storeRowSq {T : Nat} {x y : Operand} {g off : Nat} {z : Int} {f r f' : Nat → UInt8} {t : TypeId} (hgd : o.guard = none) (ho : o.op = .store T x y) (hx : a.eval x = .pointer (some ⟨g, 1 + off, none⟩)) (hy : a.eval y = .agg (u8s 10 r)) (hR : IsRow P T 10)
    (hg : holds w g (sqc z f) t) (hb : off + 10 ≤ 100) (he : ∀ i, i < 100 → f' i = if off ≤ i ∧ i < off + 10 then r (i - off) else f i) (h : wpList P ops Q rest (a.put o.dst undef) (w.setRow g (sqc z f'))) : wpList P ops Q (o :: rest) a w :=
  wpL_storeSub hgd ho hx hy hR hg (u8s_ok _ _) (by rw [sqc_size]; omega) (over_rowSq z f r f' off hb he) h
end
theorem builtSqT (n : Int) (t : Nat → UInt8) : Try.prog.built 28 [(0, .int .i64 n), (1, .agg (u8s 100 t))] = some (sqc n t) := by kernel_rfl
theorem upTo_col (g : Nat → UInt8) (k i : Nat) : upTo (turn g) (k + 1) i = if k * 10 ≤ i ∧ i < k * 10 + 10 then colF g k (i - k * 10) else upTo (turn g) k i := by
  rw [upTo_row]
  by_cases h : k * 10 ≤ i ∧ i < k * 10 + 10
  · rw [if_pos h, if_pos h, ← rowF_turn g k (i - k * 10) (by omega)]; rfl
  · rw [if_neg h, if_neg h]
theorem upTo_turn {g : Nat → UInt8} {N : Nat} (h : IsSq N g) (o : Int) : sqc o (upTo (turn g) N) = sqc o (turn g) :=
  sqc_congr o _ _ fun i hi => by
    unfold upTo
    by_cases e : i / 10 < N
    · rw [if_pos e]
    · rw [if_neg e]
      exact (h.zero (i % 10) (i / 10) (by omega) (by omega) (.inr (by omega))).symm
set_option maxRecDepth 20000 in
set_option maxHeartbeats 2000000 in
theorem l01Opposite_any (o : Int) (g : Nat → UInt8) (w : World) :
    Calls Try.prog 35 #[.agg (sqc o g)] w fun e w' => e = .returned (.agg (sqc o (turn g))) ∧ Below w.heap.size w w' := by
  have hH := Has.start2 w (sqc o g) (sqc 0 fun _ => 0) 28 28
  go_enter Try.func35, Try.ntmps35
  go_wp2_with (first | (refine wpL_alloc rfl rfl zeroSq ?_; intro g hg; (try simp at hg); subst hg))
  refine wp_region_frame (X := Unit) (fun d _ => [(3, bif d 0 then .pointer (some ⟨w.heap.size, 0, none⟩) else undef), (4, bif d 1 then .int .i64 o else undef), (5, bif d 2 then .pointer (some ⟨w.heap.size, 1, none⟩) else undef), (6, bif d 3 then .agg (u8s 100 g) else undef), (7, bif d 4 then .agg (u8s 100 (turn g)) else undef), (8, bif d 5 then .agg (sqc o (turn g)) else undef)])
    (fun d _ w' => Has w w' [(sqc o g, 28), (bif d 6 then sqc o (turn g) else sqc 0 (fun _ => 0), 28)]) (by kernel_rfl) (by kernel_rfl) ?h0 ?hs ?hq
  case h0 => exact ⟨(), (by simp [lput]), hH.drew⟩
  case hs =>
    refine ⟨?_, ?_, ?_, ?_, ?_, ?_, ?_, trivial⟩
    all_goals
      clear hH
      intro d _ w1 hd hn hH
      simp only [needs, Region.binds, reduceCtorEq, Bool.false_eq_true, false_implies, true_and, and_true, true_implies, forall_const] at hn
      simp only [lput, List.set, hn, cond_true]
      have c0 := hH.c0
      go_wp2_with (first | (refine wpL_loadTab rfl rfl rfl rowTa hH.h0 ?_) | (go_at_call 54; refine (l01Turned_any g _).mono ?_; rintro e w2 ⟨rfl, hb⟩; replace hH := hH.call' hb) | (refine wpL_build2 rfl rfl rfl rfl (builtSqT _ _) ?_) | (refine wpL_storeFull rfl rfl rfl rfl rowSq hH.h1 (bif_size (sqc_size _ _) (sqc_size _ _)) (sqc_ok _ _) ?_; replace hH := hH.r1 (cs' := sqc o (turn g))))
      first
        | (refine ⟨(), ?_, hH⟩; (simp [lput, done, hn]; done))
        | (refine ⟨?_, hH⟩; (simp [lput, done, hn]; done))
  case hq =>
    clear hH
    intro d _ w1 hd hH
    simp only [allDone, List.length_cons, List.length_nil, Nat.reduceAdd, and_true] at hd
    simp only [hd, cond_true] at hH
    simp only [lput, List.set, hd, cond_true]
    clear hd
    go_wp2
    exact ret_c rfl rfl hH.h1 rowSq (sqc_size _ _) ⟨rfl, hH.below⟩
theorem specOppositeOf_no (o : Int) (g : Nat → UInt8) (w : World) (hs : sqB o g = false) :
    Calls Try.prog 12 #[.agg (sqc o g)] w fun e w' => e = .returned (.tuple #[.agg (sqc 0 fun _ => 0), .int .i64 1]) ∧ Below w.heap.size w w' := by
  have hH := Has.start2 w (sqc o g) (sqc 0 fun _ => 0) 28 28
  go_enter Try.func12, Try.ntmps12
  go_wp2_with (first | (refine wpL_alloc rfl rfl zeroSq ?_; intro g hg; (try simp at hg); subst hg) | (refine wpL_loadFull rfl rfl rfl rowSq hH.h0 (sqc_size _ _) ?_) | (go_at_call 34; refine (l01Is_any o g _).mono ?_; rintro e w2 ⟨rfl, hb⟩; replace hH := hH.call' hb; rw [hs]) | (refine wpL_build rfl rfl builtSq ?_) | (refine wpL_storeSame rfl rfl rfl rfl rowSq hH.h1 (sqc_ok _ _) ?_))
  exact ret_ct rfl rfl rfl hH.h1 rowSq (sqc_size _ _) ⟨rfl, hH.below⟩
theorem specOppositeOf_yes (o : Int) (g : Nat → UInt8) (w : World) (hs : sqB o g = true) :
    Calls Try.prog 12 #[.agg (sqc o g)] w fun e w' => e = .returned (.tuple #[.agg (sqc o (turn g)), .int .i64 0]) ∧ Below w.heap.size w w' := by
  have hH := Has.start2 w (sqc o g) (sqc 0 fun _ => 0) 28 28
  go_enter Try.func12, Try.ntmps12
  go_wp2_with (first | (refine wpL_alloc rfl rfl zeroSq ?_; intro g hg; (try simp at hg); subst hg) | (refine wpL_loadFull rfl rfl rfl rowSq hH.h0 (sqc_size _ _) ?_) | (go_at_call 34; refine (l01Is_any o g _).mono ?_; rintro e w2 ⟨rfl, hb⟩; replace hH := hH.call' hb; rw [hs]) | (go_at_call 35; refine (l01Opposite_any o g _).mono ?_; rintro e w2 ⟨rfl, hb⟩; replace hH := hH.call' hb) | (refine wpL_storeFull rfl rfl rfl rfl rowSq hH.h1 (sqc_size _ _) (sqc_ok _ _) ?_))
  exact ret_ct rfl rfl rfl hH.r1.h1 rowSq (sqc_size _ _) ⟨rfl, hH.r1.below⟩
theorem implOppositeOf_no (o : Int) (g : Nat → UInt8) (w : World) (hs : sqB o g = false) :
    Calls Try.prog 14 #[.agg (sqc o g)] w fun e w' => e = .returned (.tuple #[.agg (sqc 0 fun _ => 0), .int .i64 1]) ∧ Below w.heap.size w w' := by
  have hH := Has.start2 w (sqc o g) (sqc 0 fun _ => 0) 28 28
  go_enter Try.func14, Try.ntmps14
  go_wp2_with (first | (refine wpL_alloc rfl rfl zeroSq ?_; intro g hg; (try simp at hg); subst hg) | (refine wpL_loadFull rfl rfl rfl rowSq hH.h0 (sqc_size _ _) ?_) | (go_at_call 37; refine (IsSquare_any o g _).mono ?_; rintro e w2 ⟨rfl, hb⟩; replace hH := hH.call' hb; rw [hs]) | (refine wpL_build rfl rfl builtSq ?_) | (refine wpL_storeSame rfl rfl rfl rfl rowSq hH.h1 (sqc_ok _ _) ?_))
  exact ret_ct rfl rfl rfl hH.h1 rowSq (sqc_size _ _) ⟨rfl, hH.below⟩
set_option maxRecDepth 20000 in
set_option maxHeartbeats 2000000 in
theorem implOppositeOf_yes (N : Nat) (g : Nat → UInt8) (w : World) (h1 : 1 ≤ N) (h10 : N ≤ 10) (hq : IsSq N g) (hs : sqB (N : Int) g = true) :
    Calls Try.prog 14 #[.agg (sqc N g)] w fun e w' => e = .returned (.tuple #[.agg (sqc N (turn g)), .int .i64 0]) ∧ Below w.heap.size w w' := by
  have hN1 : 1 ≤ (N : Int) := by omega
  have hN2 : (N : Int) ≤ 10 := by omega
  have hz := hid (upTo_turn hq N)
  have hH := Has.start2 w (sqc N g) (sqc 0 fun _ => 0) 28 28
  go_enter Try.func14, Try.ntmps14
  go_wp2_with (first | (refine wpL_allocN (o := ⟨some 4, _, _, _, _, _⟩) rfl rfl zeroSq ?_; intro gb w2 hg hl hb; have hlo : w.heap.size + 2 ≤ gb := (by have := hH.size; simp only [List.length_cons, List.length_nil] at this; omega); replace hH := hH.call' hb; clear hb hl) | (refine wpL_alloc rfl rfl zeroSq ?_; intro g hg; (try simp at hg); subst hg) | (refine wpL_loadFull rfl rfl rfl rowSq hH.h0 (sqc_size _ _) ?_) | (go_at_call 37; refine (IsSquare_any N g _).mono ?_; rintro e w2 ⟨rfl, hb⟩; replace hH := hH.call' hb; clear hb; rw [hs]; have c0 := hH.c0) | (refine wpL_build1 rfl rfl rfl (builtSqO _) ?_) | (refine wpL_storeN (x := .tmp 4) rfl rfl rfl rfl rowSq hg (sqc_size _ _) (sqc_ok _ _) ?_; intro w2 hz hO hT; replace hg := hz; replace hH := hT _ _ hH hlo; clear hz hO hT; clear c0; have c0 := hH.c0))
  clear c0
  go_loopw [15] (fun i wr => ∃ k : Nat, k ≤ N ∧ i = .int .i64 k ∧ Has w wr [(sqc N g, 28), (sqc 0 (fun _ => 0), 28)] ∧ holds wr gb (sqc N (upTo (turn g) k)) 28) (fun i _ => 10 - (intOf i).toNat)
  case atStart => exact ⟨0, by omega, rfl, hH, by rw [upTo_zero]; exact hg⟩
  case round =>
    clear hH hg
    obtain ⟨k, hk, rfl, hH, hg⟩ := hrel
    by_cases hlt : k < N
    · have hk10 : k < 10 := by omega
      have hk1 : (k : Int) < 10 := by omega
      have hoff : k * 10 + 10 ≤ 100 := by omega
      go_wp2_with (first | (refine wpL_loadTab rfl rfl rfl rowTa hH.h0 ?_) | (go_at_call 38; refine (columnOf_any g k _ hk10).mono ?_; rintro e w2 ⟨rfl, hb⟩; replace hH := hH.call' hb; replace hg := holds_below hg hb (holds_lt hg)) | (refine wpL_storeRowSq rfl rfl rfl rfl rowPl hg hoff (fun i _ => upTo_col g k i) ?_; replace hH := hH.setRowAbove hlo (sqc N (upTo (turn g) (k + 1))); replace hg := holds_row (cs' := sqc N (upTo (turn g) (k + 1))) hg))
      go_roundw
      case rel => exact ⟨k + 1, by omega, by go_num, hH, hg⟩
      case measure => simp [intOf]; omega
    · obtain rfl : k = N := by omega
      rw [hz.out] at hg
      go_wp2_with (first | (refine wpL_loadFull rfl rfl rfl rowSq hg (sqc_size _ _) ?_) | (refine wpL_storeFull rfl rfl rfl rfl rowSq hH.h1 (sqc_size _ _) (sqc_ok _ _) ?_))
      exact ret_ct rfl rfl rfl hH.r1.h1 rowSq (sqc_size _ _) ⟨rfl, hH.r1.below⟩
end Go.Proofs.Ytfaijmmajcmaoab
