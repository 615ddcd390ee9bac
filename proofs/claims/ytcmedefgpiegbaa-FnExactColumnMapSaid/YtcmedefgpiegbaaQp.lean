/- Proved: what the program's ProductIn, RowMap and ColumnMap return. Conditions: those that each theorem names. -/
import Derived.Test.YtcmedefgpiegbaaEc
namespace Go.Proofs.Ytcmedefgpiegbaa
open Go.RowKit
set_option maxRecDepth 20000 in
set_option maxHeartbeats 1000000 in
theorem implProductIn_no (o : Int) (g : Nat → UInt8) (x y : UInt8) (w : World) (hs : sqB o g = false) :
    Calls Try.prog 15 #[.agg (sqc o g), .int .u8 x.toNat, .int .u8 y.toNat] w fun e w' => e = .returned (.tuple #[.int .u8 (0 : UInt8).toNat, .int .i64 1]) ∧ Below w.heap.size w w' := by
  have hH := Has.start2 w (sqc o g) (u8s 2 (pairF x y)) 30 5
  have h0 := Has.start1 w (sqc o g) 30
  go_enter Try.func15, Try.ntmps15
  go_wp2_with (first | (refine wpL_loadFull rfl rfl rfl rowSq h0.h0 (sqc_size _ _) ?_) | (refine wpL_slice2 (x := x) (y := y) rfl rfl rfl rfl ?_) | (go_at_call 60; refine (elementCode_no o g 2 _ _ hs).mono ?_; rintro e w2 ⟨rfl, hb⟩; replace hH := hH.call' hb))
  go_ret2
  exact ⟨rfl, hH.below⟩
set_option maxRecDepth 20000 in
set_option maxHeartbeats 1000000 in
theorem implProductIn_far (N : Nat) (g : Nat → UInt8) (x y : UInt8) (w : World) (hs : sqB (N : Int) g = true) (h : N ≤ x.toNat ∨ N ≤ y.toNat) :
    Calls Try.prog 15 #[.agg (sqc N g), .int .u8 x.toNat, .int .u8 y.toNat] w fun e w' => e = .returned (.tuple #[.int .u8 (0 : UInt8).toNat, .int .i64 2]) ∧ Below w.heap.size w w' := by
  obtain ⟨k0, hf⟩ := pairF_far h
  have HF := hid hf; clear hf h
  have hH := Has.start2 w (sqc N g) (u8s 2 (pairF x y)) 30 5
  have h0 := Has.start1 w (sqc N g) 30
  go_enter Try.func15, Try.ntmps15
  go_wp2_with (first | (refine wpL_loadFull rfl rfl rfl rowSq h0.h0 (sqc_size _ _) ?_) | (refine wpL_slice2 (x := x) (y := y) rfl rfl rfl rfl ?_) | (go_at_call 60; refine (elementCode_far N g (pairF x y) 2 _ k0 _ (by omega) hs hH.h1 HF.out).mono ?_; rintro e w2 ⟨rfl, hb⟩; replace hH := hH.call' hb))
  go_ret2
  exact ⟨rfl, hH.below⟩
set_option maxRecDepth 20000 in
set_option maxHeartbeats 1000000 in
theorem implProductIn_in (N : Nat) (g : Nat → UInt8) (x y : UInt8) (w : World) (hs : sqB (N : Int) g = true) (hx : x.toNat < N) (hy : y.toNat < N) :
    Calls Try.prog 15 #[.agg (sqc N g), .int .u8 x.toNat, .int .u8 y.toNat] w fun e w' => e = .returned (.tuple #[.int .u8 (g (x.toNat * 10 + y.toNat)).toNat, .int .i64 0]) ∧ Below w.heap.size w w' := by
  have HF := hid (pairF_lt hx hy)
  have hH := Has.start2 w (sqc N g) (u8s 2 (pairF x y)) 30 5
  have h0 := Has.start1 w (sqc N g) 30
  have h10 : N ≤ 10 := by have := sqB_range hs; omega
  have hx' : (x.toNat : Int) < 10 := by omega
  have hy' : (y.toNat : Int) < 10 := by omega
  go_enter Try.func15, Try.ntmps15
  go_wp2_with (first | (refine wpL_loadFull rfl rfl rfl rowSq h0.h0 (sqc_size _ _) ?_) | (refine wpL_slice2 (x := x) (y := y) rfl rfl rfl rfl ?_) | (go_at_call 60; refine (elementCode_in N g (pairF x y) 2 _ _ (by omega) hs hH.h1 HF.out).mono ?_; rintro e w2 ⟨rfl, hb⟩; replace hH := hH.call' hb; have ca : w2.cell? ⟨w.heap.size, 1 + x.toNat * 10 + y.toNat, none⟩ = some (.int .u8 (g (x.toNat * 10 + y.toNat)).toNat) := (by rw [hH.c0, Nat.add_assoc, sqc_get _ _ _ (by omega)])))
  go_ret2
  exact ⟨rfl, hH.below⟩
set_option maxRecDepth 20000 in
set_option maxHeartbeats 1000000 in
theorem implRowMap_no (o : Int) (g : Nat → UInt8) (x : UInt8) (w : World) (hs : sqB o g = false) :
    Calls Try.prog 21 #[.agg (sqc o g), .int .u8 x.toNat] w fun e w' => e = .returned (.tuple #[.agg (u8s 10 fun _ => 0), .int .i64 1]) ∧ Below w.heap.size w w' := by
  have hH := Has.start3 w (sqc o g) (u8s 10 fun _ => 0) (u8s 1 (oneF x)) 30 33 5
  have h0 := Has.start2 w (sqc o g) (u8s 10 fun _ => 0) 30 33
  go_enter Try.func21, Try.ntmps21
  go_wp2_with (first | (refine wpL_alloc rfl rfl zeroPl ?_; intro g hg; (try simp at hg); subst hg) | (refine wpL_loadFull rfl rfl rfl rowSq h0.h0 (sqc_size _ _) ?_) | (refine wpL_slice1 (x := x) rfl rfl rfl ?_) | (go_at_call 60; refine (elementCode_no o g 1 _ _ hs).mono ?_; rintro e w2 ⟨rfl, hb⟩; replace hH := hH.call' hb) | (refine wpL_build rfl rfl builtPl ?_) | (refine wpL_storeSame rfl rfl rfl rfl rowPl hH.h1 (u8s_ok _ _) ?_))
  exact ret_ct rfl rfl rfl hH.h1 rowPl (u8s_size _ _) ⟨rfl, hH.below⟩
set_option maxRecDepth 20000 in
set_option maxHeartbeats 1000000 in
theorem implRowMap_far (N : Nat) (g : Nat → UInt8) (x : UInt8) (w : World) (hs : sqB (N : Int) g = true) (h : N ≤ x.toNat) :
    Calls Try.prog 21 #[.agg (sqc N g), .int .u8 x.toNat] w fun e w' => e = .returned (.tuple #[.agg (u8s 10 fun _ => 0), .int .i64 2]) ∧ Below w.heap.size w w' := by
  have HF := hid (oneF_far h)
  have hH := Has.start3 w (sqc N g) (u8s 10 fun _ => 0) (u8s 1 (oneF x)) 30 33 5
  have h0 := Has.start2 w (sqc N g) (u8s 10 fun _ => 0) 30 33
  go_enter Try.func21, Try.ntmps21
  go_wp2_with (first | (refine wpL_alloc rfl rfl zeroPl ?_; intro g hg; (try simp at hg); subst hg) | (refine wpL_loadFull rfl rfl rfl rowSq h0.h0 (sqc_size _ _) ?_) | (refine wpL_slice1 (x := x) rfl rfl rfl ?_) | (go_at_call 60; refine (elementCode_far N g (oneF x) 1 _ 0 _ (by omega) hs hH.h2 HF.out).mono ?_; rintro e w2 ⟨rfl, hb⟩; replace hH := hH.call' hb) | (refine wpL_build rfl rfl builtPl ?_) | (refine wpL_storeSame rfl rfl rfl rfl rowPl hH.h1 (u8s_ok _ _) ?_))
  exact ret_ct rfl rfl rfl hH.h1 rowPl (u8s_size _ _) ⟨rfl, hH.below⟩
set_option maxRecDepth 20000 in
set_option maxHeartbeats 1000000 in
theorem implRowMap_in (N : Nat) (g : Nat → UInt8) (x : UInt8) (w : World) (hs : sqB (N : Int) g = true) (hx : x.toNat < N) :
    Calls Try.prog 21 #[.agg (sqc N g), .int .u8 x.toNat] w fun e w' => e = .returned (.tuple #[.agg (u8s 10 (rowF g x.toNat)), .int .i64 0]) ∧ Below w.heap.size w w' := by
  have HF := hid (fun i (_ : i < 1) => (show (oneF x i).toNat < N from hx))
  have hH := Has.start3 w (sqc N g) (u8s 10 fun _ => 0) (u8s 1 (oneF x)) 30 33 5
  have h0 := Has.start2 w (sqc N g) (u8s 10 fun _ => 0) 30 33
  have h10 : N ≤ 10 := by have := sqB_range hs; omega
  have hx' : (x.toNat : Int) < 10 := by omega
  have hoff : x.toNat * 10 + 10 ≤ 100 := by omega
  have har := arr10
  go_enter Try.func21, Try.ntmps21
  go_wp2_with (first | (refine wpL_alloc rfl rfl zeroPl ?_; intro g hg; (try simp at hg); subst hg) | (refine wpL_loadFull rfl rfl rfl rowSq h0.h0 (sqc_size _ _) ?_) | (refine wpL_slice1 (x := x) rfl rfl rfl ?_) | (go_at_call 60; refine (elementCode_in N g (oneF x) 1 _ _ (by omega) hs hH.h2 HF.out).mono ?_; rintro e w2 ⟨rfl, hb⟩; replace hH := hH.call' hb) | (refine wpL_loadRowSq rfl rfl rfl rowPl hH.h0 hoff ?_) | (refine wpL_storeFull rfl rfl rfl rfl rowPl hH.h1 (u8s_size _ _) (u8s_ok _ _) ?_))
  exact ret_ct rfl rfl rfl hH.r1.h1 rowPl (u8s_size _ _) ⟨rfl, hH.r1.below⟩
set_option maxRecDepth 20000 in
set_option maxHeartbeats 1000000 in
theorem implColumnMap_no (o : Int) (g : Nat → UInt8) (x : UInt8) (w : World) (hs : sqB o g = false) :
    Calls Try.prog 24 #[.agg (sqc o g), .int .u8 x.toNat] w fun e w' => e = .returned (.tuple #[.agg (u8s 10 fun _ => 0), .int .i64 1]) ∧ Below w.heap.size w w' := by
  have hH := Has.start3 w (sqc o g) (u8s 10 fun _ => 0) (u8s 1 (oneF x)) 30 33 5
  have h0 := Has.start2 w (sqc o g) (u8s 10 fun _ => 0) 30 33
  go_enter Try.func24, Try.ntmps24
  go_wp2_with (first | (refine wpL_alloc rfl rfl zeroPl ?_; intro g hg; (try simp at hg); subst hg) | (refine wpL_loadFull rfl rfl rfl rowSq h0.h0 (sqc_size _ _) ?_) | (refine wpL_slice1 (x := x) rfl rfl rfl ?_) | (go_at_call 60; refine (elementCode_no o g 1 _ _ hs).mono ?_; rintro e w2 ⟨rfl, hb⟩; replace hH := hH.call' hb) | (refine wpL_build rfl rfl builtPl ?_) | (refine wpL_storeSame rfl rfl rfl rfl rowPl hH.h1 (u8s_ok _ _) ?_))
  exact ret_ct rfl rfl rfl hH.h1 rowPl (u8s_size _ _) ⟨rfl, hH.below⟩
set_option maxRecDepth 20000 in
set_option maxHeartbeats 1000000 in
theorem implColumnMap_far (N : Nat) (g : Nat → UInt8) (x : UInt8) (w : World) (hs : sqB (N : Int) g = true) (h : N ≤ x.toNat) :
    Calls Try.prog 24 #[.agg (sqc N g), .int .u8 x.toNat] w fun e w' => e = .returned (.tuple #[.agg (u8s 10 fun _ => 0), .int .i64 2]) ∧ Below w.heap.size w w' := by
  have HF := hid (oneF_far h)
  have hH := Has.start3 w (sqc N g) (u8s 10 fun _ => 0) (u8s 1 (oneF x)) 30 33 5
  have h0 := Has.start2 w (sqc N g) (u8s 10 fun _ => 0) 30 33
  go_enter Try.func24, Try.ntmps24
  go_wp2_with (first | (refine wpL_alloc rfl rfl zeroPl ?_; intro g hg; (try simp at hg); subst hg) | (refine wpL_loadFull rfl rfl rfl rowSq h0.h0 (sqc_size _ _) ?_) | (refine wpL_slice1 (x := x) rfl rfl rfl ?_) | (go_at_call 60; refine (elementCode_far N g (oneF x) 1 _ 0 _ (by omega) hs hH.h2 HF.out).mono ?_; rintro e w2 ⟨rfl, hb⟩; replace hH := hH.call' hb) | (refine wpL_build rfl rfl builtPl ?_) | (refine wpL_storeSame rfl rfl rfl rfl rowPl hH.h1 (u8s_ok _ _) ?_))
  exact ret_ct rfl rfl rfl hH.h1 rowPl (u8s_size _ _) ⟨rfl, hH.below⟩
set_option maxRecDepth 20000 in
set_option maxHeartbeats 1000000 in
theorem implColumnMap_in (N : Nat) (g : Nat → UInt8) (x : UInt8) (w : World) (hs : sqB (N : Int) g = true) (hx : x.toNat < N) :
    Calls Try.prog 24 #[.agg (sqc N g), .int .u8 x.toNat] w fun e w' => e = .returned (.tuple #[.agg (u8s 10 (colF g x.toNat)), .int .i64 0]) ∧ Below w.heap.size w w' := by
  have HF := hid (fun i (_ : i < 1) => (show (oneF x i).toNat < N from hx))
  have hH := Has.start3 w (sqc N g) (u8s 10 fun _ => 0) (u8s 1 (oneF x)) 30 33 5
  have h0 := Has.start2 w (sqc N g) (u8s 10 fun _ => 0) 30 33
  have h10 : N ≤ 10 := by have := sqB_range hs; omega
  have hx10 : x.toNat < 10 := by omega
  go_enter Try.func24, Try.ntmps24
  go_wp2_with (first | (refine wpL_alloc rfl rfl zeroPl ?_; intro g hg; (try simp at hg); subst hg) | (refine wpL_loadFull rfl rfl rfl rowSq h0.h0 (sqc_size _ _) ?_) | (refine wpL_slice1 (x := x) rfl rfl rfl ?_) | (go_at_call 60; refine (elementCode_in N g (oneF x) 1 _ _ (by omega) hs hH.h2 HF.out).mono ?_; rintro e w2 ⟨rfl, hb⟩; replace hH := hH.call' hb; clear hb) | (refine wpL_loadTab rfl rfl rfl rowTa hH.h0 ?_) | (go_at_call 64; refine (columnOf_any g x.toNat _ hx10).mono ?_; rintro e w3 ⟨rfl, hb⟩; replace hH := hH.call' hb; clear hb) | (refine wpL_storeFull rfl rfl rfl rfl rowPl hH.h1 (u8s_size _ _) (u8s_ok _ _) ?_))
  exact ret_ct rfl rfl rfl hH.r1.h1 rowPl (u8s_size _ _) ⟨rfl, hH.r1.below⟩
end Go.Proofs.Ytcmedefgpiegbaa
