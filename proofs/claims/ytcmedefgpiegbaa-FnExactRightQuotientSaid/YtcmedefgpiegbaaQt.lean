/- Proved: what the model's RowMap and ColumnMap return, and what LeftQuotient and RightQuotient return, of program and model alike. Conditions: those that each theorem names. -/
import Derived.Test.YtcmedefgpiegbaaQs
import Derived.Test.YtcmedefgpiegbaaEc
namespace Go.Proofs.Ytcmedefgpiegbaa
open Go.RowKit
set_option maxRecDepth 20000 in
theorem specRowMap_no (o : Int) (g : Nat → UInt8) (x : UInt8) (w : World) (hs : sqB o g = false) :
    Calls Try.prog 20 #[.agg (sqc o g), .int .u8 x.toNat] w fun e w' => e = .returned (.tuple #[.agg (u8s 10 fun _ => 0), .int .i64 1]) ∧ Below w.heap.size w w' := by
  have hH := Has.start2 w (sqc o g) (u8s 10 fun _ => 0) 30 33
  go_enter Try.func20, Try.ntmps20
  go_wp2_with (first | (refine wpL_alloc rfl rfl zeroPl ?_; intro g hg; (try simp at hg); subst hg) | (refine wpL_loadFull rfl rfl rfl rowSq hH.h0 (sqc_size _ _) ?_) | (go_at_call 58; refine (l01Two0_no o g x _ hs).mono ?_; rintro e w2 ⟨rfl, hb⟩; replace hH := hH.call' hb) | (refine wpL_build rfl rfl builtPl ?_) | (refine wpL_storeSame rfl rfl rfl rfl rowPl hH.h1 (u8s_ok _ _) ?_))
  exact ret_ct rfl rfl rfl hH.h1 rowPl (u8s_size _ _) ⟨rfl, hH.below⟩
set_option maxRecDepth 20000 in
theorem specRowMap_far (N : Nat) (g : Nat → UInt8) (x : UInt8) (w : World) (hs : sqB (N : Int) g = true) (h : N ≤ x.toNat) :
    Calls Try.prog 20 #[.agg (sqc N g), .int .u8 x.toNat] w fun e w' => e = .returned (.tuple #[.agg (u8s 10 fun _ => 0), .int .i64 2]) ∧ Below w.heap.size w w' := by
  have hH := Has.start2 w (sqc N g) (u8s 10 fun _ => 0) 30 33
  go_enter Try.func20, Try.ntmps20
  go_wp2_with (first | (refine wpL_alloc rfl rfl zeroPl ?_; intro g hg; (try simp at hg); subst hg) | (refine wpL_loadFull rfl rfl rfl rowSq hH.h0 (sqc_size _ _) ?_) | (go_at_call 58; refine (l01Two0_far N g x _ hs h).mono ?_; rintro e w2 ⟨rfl, hb⟩; replace hH := hH.call' hb) | (refine wpL_build rfl rfl builtPl ?_) | (refine wpL_storeSame rfl rfl rfl rfl rowPl hH.h1 (u8s_ok _ _) ?_))
  exact ret_ct rfl rfl rfl hH.h1 rowPl (u8s_size _ _) ⟨rfl, hH.below⟩
set_option maxRecDepth 20000 in
theorem specRowMap_in (N : Nat) (g : Nat → UInt8) (x : UInt8) (w : World) (hs : sqB (N : Int) g = true) (hx : x.toNat < N) :
    Calls Try.prog 20 #[.agg (sqc N g), .int .u8 x.toNat] w fun e w' => e = .returned (.tuple #[.agg (u8s 10 (rowF g x.toNat)), .int .i64 0]) ∧ Below w.heap.size w w' := by
  have hH := Has.start2 w (sqc N g) (u8s 10 fun _ => 0) 30 33
  have h10 : N ≤ 10 := by have := sqB_range hs; omega
  have hx10 : x.toNat < 10 := by omega
  go_enter Try.func20, Try.ntmps20
  go_wp2_with (first | (refine wpL_alloc rfl rfl zeroPl ?_; intro g hg; (try simp at hg); subst hg) | (refine wpL_loadFull rfl rfl rfl rowSq hH.h0 (sqc_size _ _) ?_) | (go_at_call 58; refine (l01Two0_in N g x _ hs hx).mono ?_; rintro e w2 ⟨rfl, hb⟩; replace hH := hH.call' hb; clear hb) | (go_at_call 65; refine (l01Row_any N g x _ hx10).mono ?_; rintro e w3 ⟨rfl, hb⟩; replace hH := hH.call' hb; clear hb) | (refine wpL_storeFull rfl rfl rfl rfl rowPl hH.h1 (u8s_size _ _) (u8s_ok _ _) ?_))
  exact ret_ct rfl rfl rfl hH.r1.h1 rowPl (u8s_size _ _) ⟨rfl, hH.r1.below⟩
set_option maxRecDepth 20000 in
theorem specColumnMap_no (o : Int) (g : Nat → UInt8) (x : UInt8) (w : World) (hs : sqB o g = false) :
    Calls Try.prog 23 #[.agg (sqc o g), .int .u8 x.toNat] w fun e w' => e = .returned (.tuple #[.agg (u8s 10 fun _ => 0), .int .i64 1]) ∧ Below w.heap.size w w' := by
  have hH := Has.start2 w (sqc o g) (u8s 10 fun _ => 0) 30 33
  go_enter Try.func23, Try.ntmps23
  go_wp2_with (first | (refine wpL_alloc rfl rfl zeroPl ?_; intro g hg; (try simp at hg); subst hg) | (refine wpL_loadFull rfl rfl rfl rowSq hH.h0 (sqc_size _ _) ?_) | (go_at_call 58; refine (l01Two1_no o g x _ hs).mono ?_; rintro e w2 ⟨rfl, hb⟩; replace hH := hH.call' hb) | (refine wpL_build rfl rfl builtPl ?_) | (refine wpL_storeSame rfl rfl rfl rfl rowPl hH.h1 (u8s_ok _ _) ?_))
  exact ret_ct rfl rfl rfl hH.h1 rowPl (u8s_size _ _) ⟨rfl, hH.below⟩
set_option maxRecDepth 20000 in
theorem specColumnMap_far (N : Nat) (g : Nat → UInt8) (x : UInt8) (w : World) (hs : sqB (N : Int) g = true) (h : N ≤ x.toNat) :
    Calls Try.prog 23 #[.agg (sqc N g), .int .u8 x.toNat] w fun e w' => e = .returned (.tuple #[.agg (u8s 10 fun _ => 0), .int .i64 2]) ∧ Below w.heap.size w w' := by
  have hH := Has.start2 w (sqc N g) (u8s 10 fun _ => 0) 30 33
  go_enter Try.func23, Try.ntmps23
  go_wp2_with (first | (refine wpL_alloc rfl rfl zeroPl ?_; intro g hg; (try simp at hg); subst hg) | (refine wpL_loadFull rfl rfl rfl rowSq hH.h0 (sqc_size _ _) ?_) | (go_at_call 58; refine (l01Two1_far N g x _ hs h).mono ?_; rintro e w2 ⟨rfl, hb⟩; replace hH := hH.call' hb) | (refine wpL_build rfl rfl builtPl ?_) | (refine wpL_storeSame rfl rfl rfl rfl rowPl hH.h1 (u8s_ok _ _) ?_))
  exact ret_ct rfl rfl rfl hH.h1 rowPl (u8s_size _ _) ⟨rfl, hH.below⟩
set_option maxRecDepth 20000 in
theorem specColumnMap_in (N : Nat) (g : Nat → UInt8) (x : UInt8) (w : World) (hs : sqB (N : Int) g = true) (hx : x.toNat < N) :
    Calls Try.prog 23 #[.agg (sqc N g), .int .u8 x.toNat] w fun e w' => e = .returned (.tuple #[.agg (u8s 10 (colF g x.toNat)), .int .i64 0]) ∧ Below w.heap.size w w' := by
  have hH := Has.start2 w (sqc N g) (u8s 10 fun _ => 0) 30 33
  have hq := hid (sqB_nat.1 hs)
  have h10 : N ≤ 10 := hq.out.hi
  have hx10 : x.toNat < 10 := by omega
  go_enter Try.func23, Try.ntmps23
  go_wp2_with (first | (refine wpL_alloc rfl rfl zeroPl ?_; intro g hg; (try simp at hg); subst hg) | (refine wpL_loadFull rfl rfl rfl rowSq hH.h0 (sqc_size _ _) ?_) | (go_at_call 58; refine (l01Two1_in N g x _ hs hx).mono ?_; rintro e w2 ⟨rfl, hb⟩; replace hH := hH.call' hb; clear hb) | (go_at_call 66; refine (l01Column_any N g x _ hq.out hx10).mono ?_; rintro e w3 ⟨rfl, hb⟩; replace hH := hH.call' hb; clear hb) | (refine wpL_storeFull rfl rfl rfl rfl rowPl hH.h1 (u8s_size _ _) (u8s_ok _ _) ?_))
  exact ret_ct rfl rfl rfl hH.r1.h1 rowPl (u8s_size _ _) ⟨rfl, hH.r1.below⟩
theorem specLeftQuotient_no (o : Int) (g : Nat → UInt8) (x y : UInt8) (w : World) (hs : sqB o g = false) :
    Calls Try.prog 16 #[.agg (sqc o g), .int .u8 x.toNat, .int .u8 y.toNat] w fun e w' => e = .returned (.tuple #[.int .u8 (0 : UInt8).toNat, .int .i64 1]) ∧ Below w.heap.size w w' := by
  have hH := Has.start1 w (sqc o g) 30
  go_enter Try.func16, Try.ntmps16
  go_wp2_with (first | (refine wpL_loadFull rfl rfl rfl rowSq hH.h0 (sqc_size _ _) ?_) | (go_at_call 58; refine (l01Two_no o g x y _ hs).mono ?_; rintro e w2 ⟨rfl, hb⟩; replace hH := hH.call' hb))
  go_ret2
  exact ⟨rfl, hH.below⟩
theorem specLeftQuotient_far (N : Nat) (g : Nat → UInt8) (x y : UInt8) (w : World) (hs : sqB (N : Int) g = true) (h : N ≤ x.toNat ∨ N ≤ y.toNat) :
    Calls Try.prog 16 #[.agg (sqc N g), .int .u8 x.toNat, .int .u8 y.toNat] w fun e w' => e = .returned (.tuple #[.int .u8 (0 : UInt8).toNat, .int .i64 2]) ∧ Below w.heap.size w w' := by
  have hH := Has.start1 w (sqc N g) 30
  go_enter Try.func16, Try.ntmps16
  go_wp2_with (first | (refine wpL_loadFull rfl rfl rfl rowSq hH.h0 (sqc_size _ _) ?_) | (go_at_call 58; refine (l01Two_far N g x y _ hs h).mono ?_; rintro e w2 ⟨rfl, hb⟩; replace hH := hH.call' hb))
  go_ret2
  exact ⟨rfl, hH.below⟩
theorem specLeftQuotient_in (N : Nat) (g : Nat → UInt8) (x y : UInt8) (w : World) (hs : sqB (N : Int) g = true) (hx : x.toNat < N) (hy : y.toNat < N) :
    Calls Try.prog 16 #[.agg (sqc N g), .int .u8 x.toNat, .int .u8 y.toNat] w fun e w' => e = .returned (.tuple #[.int .u8 (backF (rowF g x.toNat) N y.toNat).toNat, .int .i64 0]) ∧ Below w.heap.size w w' := by
  have hH := Has.start1 w (sqc N g) 30
  have hq := hid (sqB_nat.1 hs)
  go_enter Try.func16, Try.ntmps16
  go_wp2_with (first | (refine wpL_loadFull rfl rfl rfl rowSq hH.h0 (sqc_size _ _) ?_) | (go_at_call 58; refine (l01Two_in N g x y _ hs hx hy).mono ?_; rintro e w2 ⟨rfl, hb⟩; replace hH := hH.call' hb; clear hb) | (go_at_call 61; refine (l01Left_any N g x y _ hq.out hx hy).mono ?_; rintro e w2 ⟨rfl, hb⟩; replace hH := hH.call' hb; clear hb))
  go_ret2
  exact ⟨rfl, hH.below⟩
theorem specRightQuotient_no (o : Int) (g : Nat → UInt8) (x y : UInt8) (w : World) (hs : sqB o g = false) :
    Calls Try.prog 18 #[.agg (sqc o g), .int .u8 x.toNat, .int .u8 y.toNat] w fun e w' => e = .returned (.tuple #[.int .u8 (0 : UInt8).toNat, .int .i64 1]) ∧ Below w.heap.size w w' := by
  have hH := Has.start1 w (sqc o g) 30
  go_enter Try.func18, Try.ntmps18
  go_wp2_with (first | (refine wpL_loadFull rfl rfl rfl rowSq hH.h0 (sqc_size _ _) ?_) | (go_at_call 58; refine (l01Two_no o g x y _ hs).mono ?_; rintro e w2 ⟨rfl, hb⟩; replace hH := hH.call' hb))
  go_ret2
  exact ⟨rfl, hH.below⟩
theorem specRightQuotient_far (N : Nat) (g : Nat → UInt8) (x y : UInt8) (w : World) (hs : sqB (N : Int) g = true) (h : N ≤ x.toNat ∨ N ≤ y.toNat) :
    Calls Try.prog 18 #[.agg (sqc N g), .int .u8 x.toNat, .int .u8 y.toNat] w fun e w' => e = .returned (.tuple #[.int .u8 (0 : UInt8).toNat, .int .i64 2]) ∧ Below w.heap.size w w' := by
  have hH := Has.start1 w (sqc N g) 30
  go_enter Try.func18, Try.ntmps18
  go_wp2_with (first | (refine wpL_loadFull rfl rfl rfl rowSq hH.h0 (sqc_size _ _) ?_) | (go_at_call 58; refine (l01Two_far N g x y _ hs h).mono ?_; rintro e w2 ⟨rfl, hb⟩; replace hH := hH.call' hb))
  go_ret2
  exact ⟨rfl, hH.below⟩
theorem specRightQuotient_in (N : Nat) (g : Nat → UInt8) (x y : UInt8) (w : World) (hs : sqB (N : Int) g = true) (hx : x.toNat < N) (hy : y.toNat < N) :
    Calls Try.prog 18 #[.agg (sqc N g), .int .u8 x.toNat, .int .u8 y.toNat] w fun e w' => e = .returned (.tuple #[.int .u8 (backF (colF g y.toNat) N x.toNat).toNat, .int .i64 0]) ∧ Below w.heap.size w w' := by
  have hH := Has.start1 w (sqc N g) 30
  have hq := hid (sqB_nat.1 hs)
  go_enter Try.func18, Try.ntmps18
  go_wp2_with (first | (refine wpL_loadFull rfl rfl rfl rowSq hH.h0 (sqc_size _ _) ?_) | (go_at_call 58; refine (l01Two_in N g x y _ hs hx hy).mono ?_; rintro e w2 ⟨rfl, hb⟩; replace hH := hH.call' hb; clear hb) | (go_at_call 63; refine (l01Right_any N g x y _ hq.out hy hx).mono ?_; rintro e w2 ⟨rfl, hb⟩; replace hH := hH.call' hb; clear hb))
  go_ret2
  exact ⟨rfl, hH.below⟩
theorem ixPl (f : Nat → UInt8) (z : UInt8) (hz : z.toNat < 10) (w : World) : (Instr.index 33 (.agg (u8s 10 f)) (.int .u8 z.toNat)).run Try.prog w = .ok (.int .u8 (f z.toNat).toNat) w := by
  have hp := run_part_scalar (P := Try.prog) w 5 (z.toNat * 1) (u8s 10 f) (.int .u8 (f z.toNat).toNat) Try.underlying5 (by rw [Nat.mul_one]; exact u8s_get 10 f z.toNat hz)
  have hsz : (sizeOf 5).run Try.prog w = .ok 1 w := by
    have hs := sz5
    cases hq : (Try.prog.info? 5) with
    | none => simp [hq] at hs
    | some i => have : i.size = 1 := by simpa [hq] using hs
                simp [sizeOf, typeInfo, hq, this]
  have h1 : (0 : Int) ≤ (z.toNat : Int) ∧ (z.toNat : Int) < (10 : Nat) := by omega
  simp only [Instr.index, asIntOf, Sem.run_bind, Sem.run_pure, Result.andThen_ok, run_underlying Try.underlying33, Sem.run_ite, if_pos h1, hsz, Int.toNat_natCast]
  exact hp
set_option maxRecDepth 20000 in
set_option maxHeartbeats 1000000 in
theorem implLeftQuotient_no (o : Int) (g : Nat → UInt8) (x y : UInt8) (w : World) (hs : sqB o g = false) :
    Calls Try.prog 17 #[.agg (sqc o g), .int .u8 x.toNat, .int .u8 y.toNat] w fun e w' => e = .returned (.tuple #[.int .u8 (0 : UInt8).toNat, .int .i64 1]) ∧ Below w.heap.size w w' := by
  have hH := Has.start2 w (sqc o g) (u8s 2 (pairF x y)) 30 5
  have h0 := Has.start1 w (sqc o g) 30
  go_enter Try.func17, Try.ntmps17
  go_wp2_with (first | (refine wpL_loadFull rfl rfl rfl rowSq h0.h0 (sqc_size _ _) ?_) | (refine wpL_slice2 (x := x) (y := y) rfl rfl rfl rfl ?_) | (go_at_call 60; refine (elementCode_no o g 2 _ _ hs).mono ?_; rintro e w2 ⟨rfl, hb⟩; replace hH := hH.call' hb))
  go_ret2
  exact ⟨rfl, hH.below⟩
set_option maxRecDepth 20000 in
set_option maxHeartbeats 1000000 in
theorem implLeftQuotient_far (N : Nat) (g : Nat → UInt8) (x y : UInt8) (w : World) (hs : sqB (N : Int) g = true) (h : N ≤ x.toNat ∨ N ≤ y.toNat) :
    Calls Try.prog 17 #[.agg (sqc N g), .int .u8 x.toNat, .int .u8 y.toNat] w fun e w' => e = .returned (.tuple #[.int .u8 (0 : UInt8).toNat, .int .i64 2]) ∧ Below w.heap.size w w' := by
  obtain ⟨k0, hf⟩ := pairF_far h
  have HF := hid hf; clear hf h
  have hH := Has.start2 w (sqc N g) (u8s 2 (pairF x y)) 30 5
  have h0 := Has.start1 w (sqc N g) 30
  go_enter Try.func17, Try.ntmps17
  go_wp2_with (first | (refine wpL_loadFull rfl rfl rfl rowSq h0.h0 (sqc_size _ _) ?_) | (refine wpL_slice2 (x := x) (y := y) rfl rfl rfl rfl ?_) | (go_at_call 60; refine (elementCode_far N g (pairF x y) 2 _ k0 _ (by omega) hs hH.h1 HF.out).mono ?_; rintro e w2 ⟨rfl, hb⟩; replace hH := hH.call' hb))
  go_ret2
  exact ⟨rfl, hH.below⟩
set_option maxRecDepth 20000 in
set_option maxHeartbeats 1000000 in
theorem implLeftQuotient_in (N : Nat) (g : Nat → UInt8) (x y : UInt8) (w : World) (hs : sqB (N : Int) g = true) (hx : x.toNat < N) (hy : y.toNat < N) :
    Calls Try.prog 17 #[.agg (sqc N g), .int .u8 x.toNat, .int .u8 y.toNat] w fun e w' => e = .returned (.tuple #[.int .u8 (backF (rowF g x.toNat) N y.toNat).toNat, .int .i64 0]) ∧ Below w.heap.size w w' := by
  have HF := hid (pairF_lt hx hy)
  have hH := Has.start2 w (sqc N g) (u8s 2 (pairF x y)) 30 5
  have h0 := Has.start1 w (sqc N g) 30
  have HP := hid ((sqB_nat.1 hs).rows x.toNat hx)
  have h10 : N ≤ 10 := HP.out.hi
  have hx' : (x.toNat : Int) < 10 := by omega
  have hy' : y.toNat < 10 := by omega
  have hoff : x.toNat * 10 + 10 ≤ 100 := by omega
  go_enter Try.func17, Try.ntmps17
  go_wp2_with (first | (refine wpL_loadFull rfl rfl rfl rowSq h0.h0 (sqc_size _ _) ?_) | (refine wpL_slice2 (x := x) (y := y) rfl rfl rfl rfl ?_) | (go_at_call 60; refine (elementCode_in N g (pairF x y) 2 _ _ (by omega) hs hH.h1 HF.out).mono ?_; rintro e w2 ⟨rfl, hb⟩; replace hH := hH.call' hb; clear hb))
  clear h0
  refine wp_region_frame (X := Unit) (fun d _ => [(17, bif d 0 then .int .u8 x.toNat else undef), (18, bif d 1 then .pointer (some ⟨w.heap.size, 1, none⟩) else undef), (19, bif d 2 then .pointer (some ⟨w.heap.size, 1 + x.toNat * 10, none⟩) else undef), (20, bif d 3 then .agg (u8s 10 (rowF g x.toNat)) else undef), (21, bif d 4 then .pointer (some ⟨w.heap.size, 0, none⟩) else undef), (22, bif d 5 then .int .i64 N else undef), (23, bif d 6 then .agg (u8s 10 (backF (rowF g x.toNat) N)) else undef), (24, bif d 7 then .int .u8 y.toNat else undef), (25, bif d 8 then .int .u8 (backF (rowF g x.toNat) N y.toNat).toNat else undef), (6, bif d 9 then .int .u8 (backF (rowF g x.toNat) N y.toNat).toNat else .int .u8 0), (7, bif d 10 then .int .i64 0 else .int .i64 0)])
    (fun d _ w' => Has w w' [(sqc N g, 30), (u8s 2 (pairF x y), 5)]) (by kernel_rfl) (by kernel_rfl) ?h0_lq ?hs_lq ?hq_lq
  case h0_lq => exact ⟨(), (by simp [lput]), hH.drew⟩
  case hs_lq =>
    refine ⟨?_, ?_, ?_, ?_, ?_, ?_, ?_, ?_, ?_, ?_, ?_, trivial⟩
    all_goals
      clear hH
      intro d _ w1 hd hn hJ
      simp only [needs, Region.binds, reduceCtorEq, Bool.false_eq_true, false_implies, true_and, and_true, true_implies, forall_const] at hn
      simp only [lput, List.set, hn, cond_true]
      have hH := hJ; clear hJ
      have c0 : w1.cell? ⟨w.heap.size, 0, none⟩ = some (.int .i64 N) := by rw [hH.c0, sqc_get0]
      have hix := ixPl (backF (rowF g x.toNat) N) y hy'
      go_wp2_with (first | fail | (refine wpL_loadRowSq rfl rfl rfl rowB10 hH.h0 hoff ?_) | (go_at_call 62; refine (backOf_any (rowF g x.toNat) N _ h10 (fun i hi => by have := HP.out.lt i hi; omega)).mono ?_; rintro e w3 ⟨rfl, hb⟩; replace hH := hH.call' hb; clear hb))
      first
        | (refine ⟨(), ?_, hH⟩; (simp [lput, done, hn]; done))
        | (refine ⟨?_, hH⟩; (simp [lput, done, hn]; done))
        | (refine ⟨(), ?_, hH⟩; (simp [lput, done, hn]; rfl))
        | (refine ⟨?_, hH⟩; (simp [lput, done, hn]; rfl))
        | (refine ⟨(), ?_, hH⟩; (simp [lput, done]; done))
        | (refine ⟨?_, hH⟩; (simp [lput, done]; done))
        | (refine ⟨(), ?_, hH⟩; (simp [lput, done]; rfl))
        | (refine ⟨?_, hH⟩; (simp [lput, done]; rfl))
  case hq_lq =>
    clear hH
    intro d _ w1 hd hJ
    simp only [allDone, List.length_cons, List.length_nil, Nat.reduceAdd, and_true] at hd
    have hH := hJ; clear hJ
    simp only [lput, List.set, hd, cond_true]
    clear hd
    go_wp2
    go_ret2
    exact ⟨rfl, hH.below⟩
set_option maxRecDepth 20000 in
set_option maxHeartbeats 1000000 in
theorem implRightQuotient_no (o : Int) (g : Nat → UInt8) (x y : UInt8) (w : World) (hs : sqB o g = false) :
    Calls Try.prog 19 #[.agg (sqc o g), .int .u8 x.toNat, .int .u8 y.toNat] w fun e w' => e = .returned (.tuple #[.int .u8 (0 : UInt8).toNat, .int .i64 1]) ∧ Below w.heap.size w w' := by
  have hH := Has.start2 w (sqc o g) (u8s 2 (pairF x y)) 30 5
  have h0 := Has.start1 w (sqc o g) 30
  go_enter Try.func19, Try.ntmps19
  go_wp2_with (first | (refine wpL_loadFull rfl rfl rfl rowSq h0.h0 (sqc_size _ _) ?_) | (refine wpL_slice2 (x := x) (y := y) rfl rfl rfl rfl ?_) | (go_at_call 60; refine (elementCode_no o g 2 _ _ hs).mono ?_; rintro e w2 ⟨rfl, hb⟩; replace hH := hH.call' hb))
  go_ret2
  exact ⟨rfl, hH.below⟩
set_option maxRecDepth 20000 in
set_option maxHeartbeats 1000000 in
theorem implRightQuotient_far (N : Nat) (g : Nat → UInt8) (x y : UInt8) (w : World) (hs : sqB (N : Int) g = true) (h : N ≤ x.toNat ∨ N ≤ y.toNat) :
    Calls Try.prog 19 #[.agg (sqc N g), .int .u8 x.toNat, .int .u8 y.toNat] w fun e w' => e = .returned (.tuple #[.int .u8 (0 : UInt8).toNat, .int .i64 2]) ∧ Below w.heap.size w w' := by
  obtain ⟨k0, hf⟩ := pairF_far h
  have HF := hid hf; clear hf h
  have hH := Has.start2 w (sqc N g) (u8s 2 (pairF x y)) 30 5
  have h0 := Has.start1 w (sqc N g) 30
  go_enter Try.func19, Try.ntmps19
  go_wp2_with (first | (refine wpL_loadFull rfl rfl rfl rowSq h0.h0 (sqc_size _ _) ?_) | (refine wpL_slice2 (x := x) (y := y) rfl rfl rfl rfl ?_) | (go_at_call 60; refine (elementCode_far N g (pairF x y) 2 _ k0 _ (by omega) hs hH.h1 HF.out).mono ?_; rintro e w2 ⟨rfl, hb⟩; replace hH := hH.call' hb))
  go_ret2
  exact ⟨rfl, hH.below⟩
set_option maxRecDepth 20000 in
set_option maxHeartbeats 1000000 in
theorem implRightQuotient_in (N : Nat) (g : Nat → UInt8) (x y : UInt8) (w : World) (hs : sqB (N : Int) g = true) (hx : x.toNat < N) (hy : y.toNat < N) :
    Calls Try.prog 19 #[.agg (sqc N g), .int .u8 x.toNat, .int .u8 y.toNat] w fun e w' => e = .returned (.tuple #[.int .u8 (backF (colF g y.toNat) N x.toNat).toNat, .int .i64 0]) ∧ Below w.heap.size w w' := by
  have HF := hid (pairF_lt hx hy)
  have hH := Has.start2 w (sqc N g) (u8s 2 (pairF x y)) 30 5
  have h0 := Has.start1 w (sqc N g) 30
  have HP := hid ((sqB_nat.1 hs).cols y.toNat hy)
  have h10 : N ≤ 10 := HP.out.hi
  have hx' : x.toNat < 10 := by omega
  have hy' : y.toNat < 10 := by omega
  have bdy := u8_bd y
  go_enter Try.func19, Try.ntmps19
  go_wp2_with (first | (refine wpL_loadFull rfl rfl rfl rowSq h0.h0 (sqc_size _ _) ?_) | (refine wpL_slice2 (x := x) (y := y) rfl rfl rfl rfl ?_) | (go_at_call 60; refine (elementCode_in N g (pairF x y) 2 _ _ (by omega) hs hH.h1 HF.out).mono ?_; rintro e w2 ⟨rfl, hb⟩; replace hH := hH.call' hb; clear hb))
  clear h0
  refine wp_region_frame (X := Unit) (fun d _ => [(17, bif d 0 then .pointer (some ⟨w.heap.size, 1, none⟩) else undef), (18, bif d 1 then .agg (u8s 100 g) else undef), (19, bif d 2 then .int .u8 y.toNat else undef), (20, bif d 3 then .int .i64 y.toNat else undef), (21, bif d 4 then .agg (u8s 10 (colF g y.toNat)) else undef), (22, bif d 5 then .pointer (some ⟨w.heap.size, 0, none⟩) else undef), (23, bif d 6 then .int .i64 N else undef), (24, bif d 7 then .agg (u8s 10 (backF (colF g y.toNat) N)) else undef), (25, bif d 8 then .int .u8 x.toNat else undef), (26, bif d 9 then .int .u8 (backF (colF g y.toNat) N x.toNat).toNat else undef), (6, bif d 10 then .int .u8 (backF (colF g y.toNat) N x.toNat).toNat else .int .u8 0), (7, bif d 11 then .int .i64 0 else .int .i64 0)])
    (fun d _ w' => Has w w' [(sqc N g, 30), (u8s 2 (pairF x y), 5)]) (by kernel_rfl) (by kernel_rfl) ?h0_rq ?hs_rq ?hq_rq
  case h0_rq => exact ⟨(), (by simp [lput]), hH.drew⟩
  case hs_rq =>
    refine ⟨?_, ?_, ?_, ?_, ?_, ?_, ?_, ?_, ?_, ?_, ?_, ?_, trivial⟩
    all_goals
      clear hH
      intro d _ w1 hd hn hJ
      simp only [needs, Region.binds, reduceCtorEq, Bool.false_eq_true, false_implies, true_and, and_true, true_implies, forall_const] at hn
      simp only [lput, List.set, hn, cond_true]
      have hH := hJ; clear hJ
      have c0 : w1.cell? ⟨w.heap.size, 0, none⟩ = some (.int .i64 N) := by rw [hH.c0, sqc_get0]
      have hix := ixPl (backF (colF g y.toNat) N) x hx'
      go_wp2_with (first | fail | (refine wpL_loadTab rfl rfl rfl rowTa hH.h0 ?_) | (go_at_call 64; refine (columnOf_any g y.toNat _ hy').mono ?_; rintro e w3 ⟨rfl, hb⟩; replace hH := hH.call' hb; clear hb) | (go_at_call 62; refine (backOf_any (colF g y.toNat) N _ h10 (fun i hi => by have := HP.out.lt i hi; omega)).mono ?_; rintro e w3 ⟨rfl, hb⟩; replace hH := hH.call' hb; clear hb))
      first
        | (refine ⟨(), ?_, hH⟩; (simp [lput, done, hn]; done))
        | (refine ⟨?_, hH⟩; (simp [lput, done, hn]; done))
        | (refine ⟨(), ?_, hH⟩; (simp [lput, done, hn]; rfl))
        | (refine ⟨?_, hH⟩; (simp [lput, done, hn]; rfl))
        | (refine ⟨(), ?_, hH⟩; (simp [lput, done]; done))
        | (refine ⟨?_, hH⟩; (simp [lput, done]; done))
        | (refine ⟨(), ?_, hH⟩; (simp [lput, done]; rfl))
        | (refine ⟨?_, hH⟩; (simp [lput, done]; rfl))
  case hq_rq =>
    clear hH
    intro d _ w1 hd hJ
    simp only [allDone, List.length_cons, List.length_nil, Nat.reduceAdd, and_true] at hd
    have hH := hJ; clear hJ
    simp only [lput, List.set, hd, cond_true]
    clear hd
    go_wp2
    go_ret2
    exact ⟨rfl, hH.below⟩
end Go.Proofs.Ytcmedefgpiegbaa
