/- Proved: what the model's RowMap and ColumnMap return, and what LeftQuotient and RightQuotient return, of program and model alike. Conditions: those that each theorem names. -/
import Derived.Test.YtpfhjbcmlebejaaQs
import Derived.Test.YtpfhjbcmlebejaaEc
namespace Go.Proofs.Ytpfhjbcmlebejaa
set_option linter.unusedVariables false
set_option linter.unusedSimpArgs false
open Go.RowKit
theorem ixPl (f : Nat → UInt8) (z : UInt8) (hz : z.toNat < 10) (w : World) : (Instr.index 73 (.agg (u8s 10 f)) (.int .u8 z.toNat)).run Try.prog w = .ok (.int .u8 (f z.toNat).toNat) w := by
  have hp := run_part_scalar (P := Try.prog) w 5 (z.toNat * 1) (u8s 10 f) (.int .u8 (f z.toNat).toNat) Try.underlying5 (by rw [Nat.mul_one]; exact u8s_get 10 f z.toNat hz)
  have hsz : (sizeOf 5).run Try.prog w = .ok 1 w := by
    have hs := sz5
    cases hq : (Try.prog.info? 5) with
    | none => simp [hq] at hs
    | some i => have : i.size = 1 := by simpa [hq] using hs
                simp [sizeOf, typeInfo, hq, this]
  have h1 : (0 : Int) ≤ (z.toNat : Int) ∧ (z.toNat : Int) < (10 : Nat) := by omega
  simp only [Instr.index, asIntOf, Sem.run_bind, Sem.run_pure, Result.andThen_ok, run_underlying Try.underlying73, Sem.run_ite, if_pos h1, hsz, Int.toNat_natCast]
  exact hp
set_option maxRecDepth 20000 in
set_option maxHeartbeats 1000000 in
theorem implLeftQuotient_no (o : Int) (g : Nat → UInt8) (x y : UInt8) (w : World) (hs : sqB o g = false) :
    Calls Try.prog 42 #[.agg (sqc o g), .int .u8 x.toNat, .int .u8 y.toNat] w fun e w' => e = .returned (.tuple #[.int .u8 (0 : UInt8).toNat, .int .i64 1]) ∧ Below w.heap.size w w' := by
  have hH := Has.start2 w (sqc o g) (u8s 2 (pairF x y)) 30 5
  have h0 := Has.start1 w (sqc o g) 30
  go_enter Try.func42, Try.ntmps42
  go_wp2_with (first | (refine wpL_loadFull rfl rfl rfl rowSq h0.h0 (sqc_size _ _) ?_) | (refine wpL_slice2 (x := x) (y := y) rfl rfl rfl rfl ?_) | (go_at_call 65; refine (elementCode_no o g 2 _ _ hs).mono ?_; rintro e w2 ⟨rfl, hb⟩; replace hH := hH.call' hb))
  go_ret2
  exact ⟨rfl, hH.below⟩
set_option maxRecDepth 20000 in
set_option maxHeartbeats 1000000 in
theorem implLeftQuotient_far (N : Nat) (g : Nat → UInt8) (x y : UInt8) (w : World) (hs : sqB (N : Int) g = true) (h : N ≤ x.toNat ∨ N ≤ y.toNat) :
    Calls Try.prog 42 #[.agg (sqc N g), .int .u8 x.toNat, .int .u8 y.toNat] w fun e w' => e = .returned (.tuple #[.int .u8 (0 : UInt8).toNat, .int .i64 2]) ∧ Below w.heap.size w w' := by
  obtain ⟨k0, hf⟩ := pairF_far h
  have HF := hid hf; clear hf h
  have hH := Has.start2 w (sqc N g) (u8s 2 (pairF x y)) 30 5
  have h0 := Has.start1 w (sqc N g) 30
  go_enter Try.func42, Try.ntmps42
  go_wp2_with (first | (refine wpL_loadFull rfl rfl rfl rowSq h0.h0 (sqc_size _ _) ?_) | (refine wpL_slice2 (x := x) (y := y) rfl rfl rfl rfl ?_) | (go_at_call 65; refine (elementCode_far N g (pairF x y) 2 _ k0 _ (by omega) hs hH.h1 HF.out).mono ?_; rintro e w2 ⟨rfl, hb⟩; replace hH := hH.call' hb))
  go_ret2
  exact ⟨rfl, hH.below⟩
set_option maxRecDepth 20000 in
set_option maxHeartbeats 1000000 in
theorem implLeftQuotient_in (N : Nat) (g : Nat → UInt8) (x y : UInt8) (w : World) (hs : sqB (N : Int) g = true) (hx : x.toNat < N) (hy : y.toNat < N) :
    Calls Try.prog 42 #[.agg (sqc N g), .int .u8 x.toNat, .int .u8 y.toNat] w fun e w' => e = .returned (.tuple #[.int .u8 (backF (rowF g x.toNat) N y.toNat).toNat, .int .i64 0]) ∧ Below w.heap.size w w' := by
  have HF := hid (pairF_lt hx hy)
  have hH := Has.start2 w (sqc N g) (u8s 2 (pairF x y)) 30 5
  have h0 := Has.start1 w (sqc N g) 30
  have HP := hid ((sqB_nat.1 hs).rows x.toNat hx)
  have h10 : N ≤ 10 := HP.out.hi
  have hx' : (x.toNat : Int) < 10 := by omega
  have hy' : y.toNat < 10 := by omega
  have hoff : x.toNat * 10 + 10 ≤ 100 := by omega
  go_enter Try.func42, Try.ntmps42
  go_wp2_with (first | (refine wpL_loadFull rfl rfl rfl rowSq h0.h0 (sqc_size _ _) ?_) | (refine wpL_slice2 (x := x) (y := y) rfl rfl rfl rfl ?_) | (go_at_call 65; refine (elementCode_in N g (pairF x y) 2 _ _ (by omega) hs hH.h1 HF.out).mono ?_; rintro e w2 ⟨rfl, hb⟩; replace hH := hH.call' hb; clear hb))
  clear h0
  refine wp_region_frame (X := Unit) (fun d _ => [(17, bif d 0 then .int .u8 x.toNat else undef), (18, bif d 1 then .pointer (some ⟨w.heap.size, 1, none⟩) else undef), (19, bif d 2 then .pointer (some ⟨w.heap.size, 1 + x.toNat * 10, none⟩) else undef), (20, bif d 3 then .agg (u8s 10 (rowF g x.toNat)) else undef), (21, bif d 4 then .pointer (some ⟨w.heap.size, 0, none⟩) else undef), (22, bif d 5 then .int .i64 N else undef), (23, bif d 6 then .agg (u8s 10 (backF (rowF g x.toNat) N)) else undef), (24, bif d 7 then .int .u8 y.toNat else undef), (25, bif d 8 then .int .u8 (backF (rowF g x.toNat) N y.toNat).toNat else undef), (6, bif d 9 then .int .u8 (backF (rowF g x.toNat) N y.toNat).toNat else .int .u8 0), (7, bif d 10 then .int .i64 0 else .int .i64 0)])
    (fun d _ w' => Has w w' [(sqc N g, 30), (u8s 2 (pairF x y), 5)]) (by kernel_rfl) (by kernel_rfl) ?h0_lq ?hs_lq ?hq_lq
  case h0_lq => exact ⟨(), (by simp [lput]), hH.drew⟩
  case hs_lq =>
    refine ⟨?_, ?_, ?_, ?_, ?_, ?_, ?_, ?_, ?_, ?_, ?_, trivial⟩
    all_goals
      clear hH
      intro d _ w1 hd hn hJ
      simp only [needs, Region.binds, reduceCtorEq, Bool.false_eq_true, false_implies, true_and, and_true, true_implies, forall_const] at hn
      simp only [lput, List.set, hn, cond_true]
      have hH := hJ; clear hJ
      have c0 : w1.cell? ⟨w.heap.size, 0, none⟩ = some (.int .i64 N) := by rw [hH.c0, sqc_get0]
      have hix := ixPl (backF (rowF g x.toNat) N) y hy'
      go_wp2_with (first | fail | (refine wpL_loadRowSq rfl rfl rfl rowB10 hH.h0 hoff ?_) | (go_at_call 66; refine (backOf_any (rowF g x.toNat) N _ h10 (fun i hi => by have := HP.out.lt i hi; omega)).mono ?_; rintro e w3 ⟨rfl, hb⟩; replace hH := hH.call' hb; clear hb))
      first
        | (refine ⟨(), ?_, hH⟩; (simp [lput, done, hn]; done))
        | (refine ⟨?_, hH⟩; (simp [lput, done, hn]; done))
        | (refine ⟨(), ?_, hH⟩; (simp [lput, done, hn]; rfl))
        | (refine ⟨?_, hH⟩; (simp [lput, done, hn]; rfl))
        | (refine ⟨(), ?_, hH⟩; (simp [lput, done]; done))
        | (refine ⟨?_, hH⟩; (simp [lput, done]; done))
        | (refine ⟨(), ?_, hH⟩; (simp [lput, done]; rfl))
        | (refine ⟨?_, hH⟩; (simp [lput, done]; rfl))
  case hq_lq =>
    clear hH
    intro d _ w1 hd hJ
    simp only [allDone, List.length_cons, List.length_nil, Nat.reduceAdd, and_true] at hd
    have hH := hJ; clear hJ
    simp only [lput, List.set, hd, cond_true]
    clear hd
    go_wp2
    go_ret2
    exact ⟨rfl, hH.below⟩
set_option maxRecDepth 20000 in
set_option maxHeartbeats 1000000 in
theorem implRightQuotient_no (o : Int) (g : Nat → UInt8) (x y : UInt8) (w : World) (hs : sqB o g = false) :
    Calls Try.prog 40 #[.agg (sqc o g), .int .u8 x.toNat, .int .u8 y.toNat] w fun e w' => e = .returned (.tuple #[.int .u8 (0 : UInt8).toNat, .int .i64 1]) ∧ Below w.heap.size w w' := by
  have hH := Has.start2 w (sqc o g) (u8s 2 (pairF x y)) 30 5
  have h0 := Has.start1 w (sqc o g) 30
  go_enter Try.func40, Try.ntmps40
  go_wp2_with (first | (refine wpL_loadFull rfl rfl rfl rowSq h0.h0 (sqc_size _ _) ?_) | (refine wpL_slice2 (x := x) (y := y) rfl rfl rfl rfl ?_) | (go_at_call 65; refine (elementCode_no o g 2 _ _ hs).mono ?_; rintro e w2 ⟨rfl, hb⟩; replace hH := hH.call' hb))
  go_ret2
  exact ⟨rfl, hH.below⟩
set_option maxRecDepth 20000 in
set_option maxHeartbeats 1000000 in
theorem implRightQuotient_far (N : Nat) (g : Nat → UInt8) (x y : UInt8) (w : World) (hs : sqB (N : Int) g = true) (h : N ≤ x.toNat ∨ N ≤ y.toNat) :
    Calls Try.prog 40 #[.agg (sqc N g), .int .u8 x.toNat, .int .u8 y.toNat] w fun e w' => e = .returned (.tuple #[.int .u8 (0 : UInt8).toNat, .int .i64 2]) ∧ Below w.heap.size w w' := by
  obtain ⟨k0, hf⟩ := pairF_far h
  have HF := hid hf; clear hf h
  have hH := Has.start2 w (sqc N g) (u8s 2 (pairF x y)) 30 5
  have h0 := Has.start1 w (sqc N g) 30
  go_enter Try.func40, Try.ntmps40
  go_wp2_with (first | (refine wpL_loadFull rfl rfl rfl rowSq h0.h0 (sqc_size _ _) ?_) | (refine wpL_slice2 (x := x) (y := y) rfl rfl rfl rfl ?_) | (go_at_call 65; refine (elementCode_far N g (pairF x y) 2 _ k0 _ (by omega) hs hH.h1 HF.out).mono ?_; rintro e w2 ⟨rfl, hb⟩; replace hH := hH.call' hb))
  go_ret2
  exact ⟨rfl, hH.below⟩
set_option maxRecDepth 20000 in
set_option maxHeartbeats 1000000 in
theorem implRightQuotient_in (N : Nat) (g : Nat → UInt8) (x y : UInt8) (w : World) (hs : sqB (N : Int) g = true) (hx : x.toNat < N) (hy : y.toNat < N) :
    Calls Try.prog 40 #[.agg (sqc N g), .int .u8 x.toNat, .int .u8 y.toNat] w fun e w' => e = .returned (.tuple #[.int .u8 (backF (colF g y.toNat) N x.toNat).toNat, .int .i64 0]) ∧ Below w.heap.size w w' := by
  have HF := hid (pairF_lt hx hy)
  have hH := Has.start2 w (sqc N g) (u8s 2 (pairF x y)) 30 5
  have h0 := Has.start1 w (sqc N g) 30
  have HP := hid ((sqB_nat.1 hs).cols y.toNat hy)
  have h10 : N ≤ 10 := HP.out.hi
  have hx' : x.toNat < 10 := by omega
  have hy' : y.toNat < 10 := by omega
  have bdy := u8_bd y
  go_enter Try.func40, Try.ntmps40
  go_wp2_with (first | (refine wpL_loadFull rfl rfl rfl rowSq h0.h0 (sqc_size _ _) ?_) | (refine wpL_slice2 (x := x) (y := y) rfl rfl rfl rfl ?_) | (go_at_call 65; refine (elementCode_in N g (pairF x y) 2 _ _ (by omega) hs hH.h1 HF.out).mono ?_; rintro e w2 ⟨rfl, hb⟩; replace hH := hH.call' hb; clear hb))
  clear h0
  refine wp_region_frame (X := Unit) (fun d _ => [(17, bif d 0 then .pointer (some ⟨w.heap.size, 1, none⟩) else undef), (18, bif d 1 then .agg (u8s 100 g) else undef), (19, bif d 2 then .int .u8 y.toNat else undef), (20, bif d 3 then .int .i64 y.toNat else undef), (21, bif d 4 then .agg (u8s 10 (colF g y.toNat)) else undef), (22, bif d 5 then .pointer (some ⟨w.heap.size, 0, none⟩) else undef), (23, bif d 6 then .int .i64 N else undef), (24, bif d 7 then .agg (u8s 10 (backF (colF g y.toNat) N)) else undef), (25, bif d 8 then .int .u8 x.toNat else undef), (26, bif d 9 then .int .u8 (backF (colF g y.toNat) N x.toNat).toNat else undef), (6, bif d 10 then .int .u8 (backF (colF g y.toNat) N x.toNat).toNat else .int .u8 0), (7, bif d 11 then .int .i64 0 else .int .i64 0)])
    (fun d _ w' => Has w w' [(sqc N g, 30), (u8s 2 (pairF x y), 5)]) (by kernel_rfl) (by kernel_rfl) ?h0_rq ?hs_rq ?hq_rq
  case h0_rq => exact ⟨(), (by simp [lput]), hH.drew⟩
  case hs_rq =>
    refine ⟨?_, ?_, ?_, ?_, ?_, ?_, ?_, ?_, ?_, ?_, ?_, ?_, trivial⟩
    all_goals
      clear hH
      intro d _ w1 hd hn hJ
      simp only [needs, Region.binds, reduceCtorEq, Bool.false_eq_true, false_implies, true_and, and_true, true_implies, forall_const] at hn
      simp only [lput, List.set, hn, cond_true]
      have hH := hJ; clear hJ
      have c0 : w1.cell? ⟨w.heap.size, 0, none⟩ = some (.int .i64 N) := by rw [hH.c0, sqc_get0]
      have hix := ixPl (backF (colF g y.toNat) N) x hx'
      go_wp2_with (first | fail | (refine wpL_loadTab rfl rfl rfl rowTa hH.h0 ?_) | (go_at_call 67; refine (columnOf_any g y.toNat _ hy').mono ?_; rintro e w3 ⟨rfl, hb⟩; replace hH := hH.call' hb; clear hb) | (go_at_call 66; refine (backOf_any (colF g y.toNat) N _ h10 (fun i hi => by have := HP.out.lt i hi; omega)).mono ?_; rintro e w3 ⟨rfl, hb⟩; replace hH := hH.call' hb; clear hb))
      first
        | (refine ⟨(), ?_, hH⟩; (simp [lput, done, hn]; done))
        | (refine ⟨?_, hH⟩; (simp [lput, done, hn]; done))
        | (refine ⟨(), ?_, hH⟩; (simp [lput, done, hn]; rfl))
        | (refine ⟨?_, hH⟩; (simp [lput, done, hn]; rfl))
        | (refine ⟨(), ?_, hH⟩; (simp [lput, done]; done))
        | (refine ⟨?_, hH⟩; (simp [lput, done]; done))
        | (refine ⟨(), ?_, hH⟩; (simp [lput, done]; rfl))
        | (refine ⟨?_, hH⟩; (simp [lput, done]; rfl))
  case hq_rq =>
    clear hH
    intro d _ w1 hd hJ
    simp only [allDone, List.length_cons, List.length_nil, Nat.reduceAdd, and_true] at hd
    have hH := hJ; clear hJ
    simp only [lput, List.set, hd, cond_true]
    clear hd
    go_wp2
    go_ret2
    exact ⟨rfl, hH.below⟩
end Go.Proofs.Ytpfhjbcmlebejaa
