/- Proved: what TurnMap, LeftInner and RightInner return, of program and model alike. Conditions: those that each theorem names. -/
import Derived.Test.YtphninlinegbbaaTn3
namespace Go.Proofs.Ytphninlinegbbaa
set_option linter.unusedVariables false
set_option linter.unusedSimpArgs false
open Go.RowKit
set_option maxRecDepth 20000 in
set_option maxHeartbeats 1000000 in
theorem specTurnMap_err (o : Int) (g : Nat → UInt8) (x : UInt8) (z : Int) (w : World) (hz : (z == 0) = false)
    (hC : Hid (∀ w b, holds w b (u8s 1 (oneF x)) 5 → Calls Try.prog 44 #[.agg (sqc o g), .slice (some ⟨b, 0, none⟩) 1 1] w fun e w' => e = .returned (.int .i64 z) ∧ Below w.heap.size w w')) :
    Calls Try.prog 15 #[.agg (sqc o g), .int .u8 x.toNat] w fun e w' => e = .returned (.tuple #[.agg (u8s 10 fun _ => 0), .int .i64 z]) ∧ Below w.heap.size w w' := by
  have hz2 : ¬ (z = 0) := by simpa using hz
  have hH := Has.start3 w (sqc o g) (u8s 10 fun _ => 0) (u8s 1 (oneF x)) 31 26 5
  have h0 := Has.start2 w (sqc o g) (u8s 10 fun _ => 0) 31 26
  go_enter Try.func15, Try.ntmps15
  go_wp2_with (first | (refine wpL_alloc rfl rfl zeroPl ?_; intro g hg; (try simp at hg); subst hg) | (refine wpL_loadFull rfl rfl rfl rowSq h0.h0 (sqc_size _ _) ?_) | (refine wpL_slice1 (x := x) rfl rfl rfl ?_) | (go_at_call 44; refine (hC.out _ _ hH.h2).mono ?_; rintro e w2 ⟨rfl, hb⟩; replace hH := hH.call' hb; clear hb) | (refine wpL_build rfl rfl builtPl ?_) | (refine wpL_storeSame rfl rfl rfl rfl rowPl hH.h1 (u8s_ok _ _) ?_))
  exact ret_ct rfl rfl rfl hH.h1 rowPl (u8s_size _ _) ⟨rfl, hH.below⟩
set_option maxRecDepth 20000 in
set_option maxHeartbeats 1000000 in
theorem specTurnMap_in (N : Nat) (g : Nat → UInt8) (x : UInt8) (w : World) (hq : IsSq N g) (hx : x.toNat < N)
    (hC : Hid (∀ w b, holds w b (u8s 1 (oneF x)) 5 → Calls Try.prog 44 #[.agg (sqc N g), .slice (some ⟨b, 0, none⟩) 1 1] w fun e w' => e = .returned (.int .i64 0) ∧ Below w.heap.size w w')) :
    Calls Try.prog 15 #[.agg (sqc N g), .int .u8 x.toNat] w fun e w' => e = .returned (.tuple #[.agg (u8s 10 (tuF g N x.toNat)), .int .i64 0]) ∧ Below w.heap.size w w' := by
  have HQ := hid hq
  clear hq
  have hH := Has.start3 w (sqc N g) (u8s 10 fun _ => 0) (u8s 1 (oneF x)) 31 26 5
  have h0 := Has.start2 w (sqc N g) (u8s 10 fun _ => 0) 31 26
  go_enter Try.func15, Try.ntmps15
  go_wp2_with (first | (refine wpL_alloc rfl rfl zeroPl ?_; intro g hg; (try simp at hg); subst hg) | (refine wpL_loadFull rfl rfl rfl rowSq h0.h0 (sqc_size _ _) ?_) | (refine wpL_slice1 (x := x) rfl rfl rfl ?_) | (go_at_call 44; refine (hC.out _ _ hH.h2).mono ?_; rintro e w2 ⟨rfl, hb⟩; replace hH := hH.call' hb; clear hb h0) | (refine wpL_loadFull rfl rfl rfl rowSq hH.h0 (sqc_size _ _) ?_) | (go_at_call 45; refine (l04Turn_any N g x _ HQ.out hx).mono ?_; rintro e w3 ⟨rfl, hb⟩; replace hH := hH.call' hb; clear hb) | (refine wpL_storeFull rfl rfl rfl rfl rowPl hH.h1 (u8s_size _ _) (u8s_ok _ _) ?_))
  exact ret_ct rfl rfl rfl hH.r1.h1 rowPl (u8s_size _ _) ⟨rfl, hH.r1.below⟩
set_option maxRecDepth 20000 in
set_option maxHeartbeats 1000000 in
theorem implTurnMap_err (o : Int) (g : Nat → UInt8) (x : UInt8) (z : Int) (w : World) (hz : (z == 0) = false)
    (hC : Hid (∀ w b, holds w b (u8s 1 (oneF x)) 5 → Calls Try.prog 47 #[.agg (sqc o g), .slice (some ⟨b, 0, none⟩) 1 1] w fun e w' => e = .returned (.int .i64 z) ∧ Below w.heap.size w w')) :
    Calls Try.prog 17 #[.agg (sqc o g), .int .u8 x.toNat] w fun e w' => e = .returned (.tuple #[.agg (u8s 10 fun _ => 0), .int .i64 z]) ∧ Below w.heap.size w w' := by
  have hz2 : ¬ (z = 0) := by simpa using hz
  have hH := Has.start3 w (sqc o g) (u8s 10 fun _ => 0) (u8s 1 (oneF x)) 31 26 5
  have h0 := Has.start2 w (sqc o g) (u8s 10 fun _ => 0) 31 26
  go_enter Try.func17, Try.ntmps17
  go_wp2_with (first | (refine wpL_alloc rfl rfl zeroPl ?_; intro g hg; (try simp at hg); subst hg) | (refine wpL_loadFull rfl rfl rfl rowSq h0.h0 (sqc_size _ _) ?_) | (refine wpL_slice1 (x := x) rfl rfl rfl ?_) | (go_at_call 47; refine (hC.out _ _ hH.h2).mono ?_; rintro e w2 ⟨rfl, hb⟩; replace hH := hH.call' hb; clear hb) | (refine wpL_build rfl rfl builtPl ?_) | (refine wpL_storeSame rfl rfl rfl rfl rowPl hH.h1 (u8s_ok _ _) ?_))
  exact ret_ct rfl rfl rfl hH.h1 rowPl (u8s_size _ _) ⟨rfl, hH.below⟩
set_option maxRecDepth 20000 in
set_option maxHeartbeats 1000000 in
theorem implTurnMap_in (N : Nat) (g : Nat → UInt8) (x : UInt8) (w : World) (hq : IsSq N g) (hx : x.toNat < N)
    (hC : Hid (∀ w b, holds w b (u8s 1 (oneF x)) 5 → Calls Try.prog 47 #[.agg (sqc N g), .slice (some ⟨b, 0, none⟩) 1 1] w fun e w' => e = .returned (.int .i64 0) ∧ Below w.heap.size w w')) :
    Calls Try.prog 17 #[.agg (sqc N g), .int .u8 x.toNat] w fun e w' => e = .returned (.tuple #[.agg (u8s 10 (tuF g N x.toNat)), .int .i64 0]) ∧ Below w.heap.size w w' := by
  have HQ := hid hq
  clear hq
  have hH := Has.start3 w (sqc N g) (u8s 10 fun _ => 0) (u8s 1 (oneF x)) 31 26 5
  have h0 := Has.start2 w (sqc N g) (u8s 10 fun _ => 0) 31 26
  go_enter Try.func17, Try.ntmps17
  go_wp2_with (first | (refine wpL_alloc rfl rfl zeroPl ?_; intro g hg; (try simp at hg); subst hg) | (refine wpL_loadFull rfl rfl rfl rowSq h0.h0 (sqc_size _ _) ?_) | (refine wpL_slice1 (x := x) rfl rfl rfl ?_) | (go_at_call 47; refine (hC.out _ _ hH.h2).mono ?_; rintro e w2 ⟨rfl, hb⟩; replace hH := hH.call' hb; clear hb h0) | (refine wpL_loadFull rfl rfl rfl rowSq hH.h0 (sqc_size _ _) ?_) | (go_at_call 48; refine (turnMap_any N g x _ HQ.out hx).mono ?_; rintro e w3 ⟨rfl, hb⟩; replace hH := hH.call' hb; clear hb) | (refine wpL_storeFull rfl rfl rfl rfl rowPl hH.h1 (u8s_size _ _) (u8s_ok _ _) ?_))
  exact ret_ct rfl rfl rfl hH.r1.h1 rowPl (u8s_size _ _) ⟨rfl, hH.r1.below⟩
set_option maxRecDepth 20000 in
set_option maxHeartbeats 1000000 in
theorem specLeftInner_err (o : Int) (g : Nat → UInt8) (x y : UInt8) (z : Int) (w : World) (hz : (z == 0) = false)
    (hC : Hid (∀ w b, holds w b (u8s 2 (pairF x y)) 5 → Calls Try.prog 44 #[.agg (sqc o g), .slice (some ⟨b, 0, none⟩) 2 2] w fun e w' => e = .returned (.int .i64 z) ∧ Below w.heap.size w w')) :
    Calls Try.prog 19 #[.agg (sqc o g), .int .u8 x.toNat, .int .u8 y.toNat] w fun e w' => e = .returned (.tuple #[.agg (u8s 10 fun _ => 0), .int .i64 z]) ∧ Below w.heap.size w w' := by
  have hz2 : ¬ (z = 0) := by simpa using hz
  have hH := Has.start3 w (sqc o g) (u8s 10 fun _ => 0) (u8s 2 (pairF x y)) 31 26 5
  have h0 := Has.start2 w (sqc o g) (u8s 10 fun _ => 0) 31 26
  go_enter Try.func19, Try.ntmps19
  go_wp2_with (first | (refine wpL_alloc rfl rfl zeroPl ?_; intro g hg; (try simp at hg); subst hg) | (refine wpL_loadFull rfl rfl rfl rowSq h0.h0 (sqc_size _ _) ?_) | (refine wpL_slice2 (x := x) (y := y) rfl rfl rfl rfl ?_) | (go_at_call 44; refine (hC.out _ _ hH.h2).mono ?_; rintro e w2 ⟨rfl, hb⟩; replace hH := hH.call' hb; clear hb) | (refine wpL_build rfl rfl builtPl ?_) | (refine wpL_storeSame rfl rfl rfl rfl rowPl hH.h1 (u8s_ok _ _) ?_))
  exact ret_ct rfl rfl rfl hH.h1 rowPl (u8s_size _ _) ⟨rfl, hH.below⟩
set_option maxRecDepth 20000 in
set_option maxHeartbeats 1000000 in
theorem specLeftInner_in (N : Nat) (g : Nat → UInt8) (x y : UInt8) (w : World) (hq : IsSq N g) (hx : x.toNat < N) (hy : y.toNat < N)
    (hC : Hid (∀ w b, holds w b (u8s 2 (pairF x y)) 5 → Calls Try.prog 44 #[.agg (sqc N g), .slice (some ⟨b, 0, none⟩) 2 2] w fun e w' => e = .returned (.int .i64 0) ∧ Below w.heap.size w w')) :
    Calls Try.prog 19 #[.agg (sqc N g), .int .u8 x.toNat, .int .u8 y.toNat] w fun e w' => e = .returned (.tuple #[.agg (u8s 10 (liF g N x.toNat y.toNat)), .int .i64 0]) ∧ Below w.heap.size w w' := by
  have HQ := hid hq
  clear hq
  have hH := Has.start3 w (sqc N g) (u8s 10 fun _ => 0) (u8s 2 (pairF x y)) 31 26 5
  have h0 := Has.start2 w (sqc N g) (u8s 10 fun _ => 0) 31 26
  go_enter Try.func19, Try.ntmps19
  go_wp2_with (first | (refine wpL_alloc rfl rfl zeroPl ?_; intro g hg; (try simp at hg); subst hg) | (refine wpL_loadFull rfl rfl rfl rowSq h0.h0 (sqc_size _ _) ?_) | (refine wpL_slice2 (x := x) (y := y) rfl rfl rfl rfl ?_) | (go_at_call 44; refine (hC.out _ _ hH.h2).mono ?_; rintro e w2 ⟨rfl, hb⟩; replace hH := hH.call' hb; clear hb h0) | (refine wpL_loadFull rfl rfl rfl rowSq hH.h0 (sqc_size _ _) ?_) | (go_at_call 49; refine (l04Left_any N g x y _ HQ.out hx hy).mono ?_; rintro e w3 ⟨rfl, hb⟩; replace hH := hH.call' hb; clear hb) | (refine wpL_storeFull rfl rfl rfl rfl rowPl hH.h1 (u8s_size _ _) (u8s_ok _ _) ?_))
  exact ret_ct rfl rfl rfl hH.r1.h1 rowPl (u8s_size _ _) ⟨rfl, hH.r1.below⟩
set_option maxRecDepth 20000 in
set_option maxHeartbeats 1000000 in
theorem implLeftInner_err (o : Int) (g : Nat → UInt8) (x y : UInt8) (z : Int) (w : World) (hz : (z == 0) = false)
    (hC : Hid (∀ w b, holds w b (u8s 2 (pairF x y)) 5 → Calls Try.prog 47 #[.agg (sqc o g), .slice (some ⟨b, 0, none⟩) 2 2] w fun e w' => e = .returned (.int .i64 z) ∧ Below w.heap.size w w')) :
    Calls Try.prog 20 #[.agg (sqc o g), .int .u8 x.toNat, .int .u8 y.toNat] w fun e w' => e = .returned (.tuple #[.agg (u8s 10 fun _ => 0), .int .i64 z]) ∧ Below w.heap.size w w' := by
  have hz2 : ¬ (z = 0) := by simpa using hz
  have hH := Has.start3 w (sqc o g) (u8s 10 fun _ => 0) (u8s 2 (pairF x y)) 31 26 5
  have h0 := Has.start2 w (sqc o g) (u8s 10 fun _ => 0) 31 26
  go_enter Try.func20, Try.ntmps20
  go_wp2_with (first | (refine wpL_alloc rfl rfl zeroPl ?_; intro g hg; (try simp at hg); subst hg) | (refine wpL_loadFull rfl rfl rfl rowSq h0.h0 (sqc_size _ _) ?_) | (refine wpL_slice2 (x := x) (y := y) rfl rfl rfl rfl ?_) | (go_at_call 47; refine (hC.out _ _ hH.h2).mono ?_; rintro e w2 ⟨rfl, hb⟩; replace hH := hH.call' hb; clear hb) | (refine wpL_build rfl rfl builtPl ?_) | (refine wpL_storeSame rfl rfl rfl rfl rowPl hH.h1 (u8s_ok _ _) ?_))
  exact ret_ct rfl rfl rfl hH.h1 rowPl (u8s_size _ _) ⟨rfl, hH.below⟩
set_option maxRecDepth 20000 in
set_option maxHeartbeats 1000000 in
theorem implLeftInner_in (N : Nat) (g : Nat → UInt8) (x y : UInt8) (w : World) (hq : IsSq N g) (hx : x.toNat < N) (hy : y.toNat < N)
    (hC : Hid (∀ w b, holds w b (u8s 2 (pairF x y)) 5 → Calls Try.prog 47 #[.agg (sqc N g), .slice (some ⟨b, 0, none⟩) 2 2] w fun e w' => e = .returned (.int .i64 0) ∧ Below w.heap.size w w')) :
    Calls Try.prog 20 #[.agg (sqc N g), .int .u8 x.toNat, .int .u8 y.toNat] w fun e w' => e = .returned (.tuple #[.agg (u8s 10 (liF g N x.toNat y.toNat)), .int .i64 0]) ∧ Below w.heap.size w w' := by
  have HQ := hid hq
  clear hq
  have hH := Has.start3 w (sqc N g) (u8s 10 fun _ => 0) (u8s 2 (pairF x y)) 31 26 5
  have h0 := Has.start2 w (sqc N g) (u8s 10 fun _ => 0) 31 26
  go_enter Try.func20, Try.ntmps20
  go_wp2_with (first | (refine wpL_alloc rfl rfl zeroPl ?_; intro g hg; (try simp at hg); subst hg) | (refine wpL_loadFull rfl rfl rfl rowSq h0.h0 (sqc_size _ _) ?_) | (refine wpL_slice2 (x := x) (y := y) rfl rfl rfl rfl ?_) | (go_at_call 47; refine (hC.out _ _ hH.h2).mono ?_; rintro e w2 ⟨rfl, hb⟩; replace hH := hH.call' hb; clear hb h0) | (refine wpL_loadFull rfl rfl rfl rowSq hH.h0 (sqc_size _ _) ?_) | (go_at_call 50; refine (leftInner_any N g x y _ HQ.out hx hy).mono ?_; rintro e w3 ⟨rfl, hb⟩; replace hH := hH.call' hb; clear hb) | (refine wpL_storeFull rfl rfl rfl rfl rowPl hH.h1 (u8s_size _ _) (u8s_ok _ _) ?_))
  exact ret_ct rfl rfl rfl hH.r1.h1 rowPl (u8s_size _ _) ⟨rfl, hH.r1.below⟩
set_option maxRecDepth 20000 in
set_option maxHeartbeats 1000000 in
theorem specRightInner_err (o : Int) (g : Nat → UInt8) (x y : UInt8) (z : Int) (w : World) (hz : (z == 0) = false)
    (hC : Hid (∀ w b, holds w b (u8s 2 (pairF x y)) 5 → Calls Try.prog 44 #[.agg (sqc o g), .slice (some ⟨b, 0, none⟩) 2 2] w fun e w' => e = .returned (.int .i64 z) ∧ Below w.heap.size w w')) :
    Calls Try.prog 21 #[.agg (sqc o g), .int .u8 x.toNat, .int .u8 y.toNat] w fun e w' => e = .returned (.tuple #[.agg (u8s 10 fun _ => 0), .int .i64 z]) ∧ Below w.heap.size w w' := by
  have hz2 : ¬ (z = 0) := by simpa using hz
  have hH := Has.start3 w (sqc o g) (u8s 10 fun _ => 0) (u8s 2 (pairF x y)) 31 26 5
  have h0 := Has.start2 w (sqc o g) (u8s 10 fun _ => 0) 31 26
  go_enter Try.func21, Try.ntmps21
  go_wp2_with (first | (refine wpL_alloc rfl rfl zeroPl ?_; intro g hg; (try simp at hg); subst hg) | (refine wpL_loadFull rfl rfl rfl rowSq h0.h0 (sqc_size _ _) ?_) | (refine wpL_slice2 (x := x) (y := y) rfl rfl rfl rfl ?_) | (go_at_call 44; refine (hC.out _ _ hH.h2).mono ?_; rintro e w2 ⟨rfl, hb⟩; replace hH := hH.call' hb; clear hb) | (refine wpL_build rfl rfl builtPl ?_) | (refine wpL_storeSame rfl rfl rfl rfl rowPl hH.h1 (u8s_ok _ _) ?_))
  exact ret_ct rfl rfl rfl hH.h1 rowPl (u8s_size _ _) ⟨rfl, hH.below⟩
set_option maxRecDepth 20000 in
set_option maxHeartbeats 1000000 in
theorem specRightInner_in (N : Nat) (g : Nat → UInt8) (x y : UInt8) (w : World) (hq : IsSq N g) (hx : x.toNat < N) (hy : y.toNat < N)
    (hC : Hid (∀ w b, holds w b (u8s 2 (pairF x y)) 5 → Calls Try.prog 44 #[.agg (sqc N g), .slice (some ⟨b, 0, none⟩) 2 2] w fun e w' => e = .returned (.int .i64 0) ∧ Below w.heap.size w w')) :
    Calls Try.prog 21 #[.agg (sqc N g), .int .u8 x.toNat, .int .u8 y.toNat] w fun e w' => e = .returned (.tuple #[.agg (u8s 10 (riF g N x.toNat y.toNat)), .int .i64 0]) ∧ Below w.heap.size w w' := by
  have HQ := hid hq
  clear hq
  have hH := Has.start3 w (sqc N g) (u8s 10 fun _ => 0) (u8s 2 (pairF x y)) 31 26 5
  have h0 := Has.start2 w (sqc N g) (u8s 10 fun _ => 0) 31 26
  go_enter Try.func21, Try.ntmps21
  go_wp2_with (first | (refine wpL_alloc rfl rfl zeroPl ?_; intro g hg; (try simp at hg); subst hg) | (refine wpL_loadFull rfl rfl rfl rowSq h0.h0 (sqc_size _ _) ?_) | (refine wpL_slice2 (x := x) (y := y) rfl rfl rfl rfl ?_) | (go_at_call 44; refine (hC.out _ _ hH.h2).mono ?_; rintro e w2 ⟨rfl, hb⟩; replace hH := hH.call' hb; clear hb h0) | (refine wpL_loadFull rfl rfl rfl rowSq hH.h0 (sqc_size _ _) ?_) | (go_at_call 51; refine (l04Right_any N g x y _ HQ.out hx hy).mono ?_; rintro e w3 ⟨rfl, hb⟩; replace hH := hH.call' hb; clear hb) | (refine wpL_storeFull rfl rfl rfl rfl rowPl hH.h1 (u8s_size _ _) (u8s_ok _ _) ?_))
  exact ret_ct rfl rfl rfl hH.r1.h1 rowPl (u8s_size _ _) ⟨rfl, hH.r1.below⟩
set_option maxRecDepth 20000 in
set_option maxHeartbeats 1000000 in
theorem implRightInner_err (o : Int) (g : Nat → UInt8) (x y : UInt8) (z : Int) (w : World) (hz : (z == 0) = false)
    (hC : Hid (∀ w b, holds w b (u8s 2 (pairF x y)) 5 → Calls Try.prog 47 #[.agg (sqc o g), .slice (some ⟨b, 0, none⟩) 2 2] w fun e w' => e = .returned (.int .i64 z) ∧ Below w.heap.size w w')) :
    Calls Try.prog 22 #[.agg (sqc o g), .int .u8 x.toNat, .int .u8 y.toNat] w fun e w' => e = .returned (.tuple #[.agg (u8s 10 fun _ => 0), .int .i64 z]) ∧ Below w.heap.size w w' := by
  have hz2 : ¬ (z = 0) := by simpa using hz
  have hH := Has.start3 w (sqc o g) (u8s 10 fun _ => 0) (u8s 2 (pairF x y)) 31 26 5
  have h0 := Has.start2 w (sqc o g) (u8s 10 fun _ => 0) 31 26
  go_enter Try.func22, Try.ntmps22
  go_wp2_with (first | (refine wpL_alloc rfl rfl zeroPl ?_; intro g hg; (try simp at hg); subst hg) | (refine wpL_loadFull rfl rfl rfl rowSq h0.h0 (sqc_size _ _) ?_) | (refine wpL_slice2 (x := x) (y := y) rfl rfl rfl rfl ?_) | (go_at_call 47; refine (hC.out _ _ hH.h2).mono ?_; rintro e w2 ⟨rfl, hb⟩; replace hH := hH.call' hb; clear hb) | (refine wpL_build rfl rfl builtPl ?_) | (refine wpL_storeSame rfl rfl rfl rfl rowPl hH.h1 (u8s_ok _ _) ?_))
  exact ret_ct rfl rfl rfl hH.h1 rowPl (u8s_size _ _) ⟨rfl, hH.below⟩
set_option maxRecDepth 20000 in
set_option maxHeartbeats 1000000 in
theorem implRightInner_in (N : Nat) (g : Nat → UInt8) (x y : UInt8) (w : World) (hq : IsSq N g) (hx : x.toNat < N) (hy : y.toNat < N)
    (hC : Hid (∀ w b, holds w b (u8s 2 (pairF x y)) 5 → Calls Try.prog 47 #[.agg (sqc N g), .slice (some ⟨b, 0, none⟩) 2 2] w fun e w' => e = .returned (.int .i64 0) ∧ Below w.heap.size w w')) :
    Calls Try.prog 22 #[.agg (sqc N g), .int .u8 x.toNat, .int .u8 y.toNat] w fun e w' => e = .returned (.tuple #[.agg (u8s 10 (riF g N x.toNat y.toNat)), .int .i64 0]) ∧ Below w.heap.size w w' := by
  have HQ := hid hq
  clear hq
  have hH := Has.start3 w (sqc N g) (u8s 10 fun _ => 0) (u8s 2 (pairF x y)) 31 26 5
  have h0 := Has.start2 w (sqc N g) (u8s 10 fun _ => 0) 31 26
  go_enter Try.func22, Try.ntmps22
  go_wp2_with (first | (refine wpL_alloc rfl rfl zeroPl ?_; intro g hg; (try simp at hg); subst hg) | (refine wpL_loadFull rfl rfl rfl rowSq h0.h0 (sqc_size _ _) ?_) | (refine wpL_slice2 (x := x) (y := y) rfl rfl rfl rfl ?_) | (go_at_call 47; refine (hC.out _ _ hH.h2).mono ?_; rintro e w2 ⟨rfl, hb⟩; replace hH := hH.call' hb; clear hb h0) | (refine wpL_loadFull rfl rfl rfl rowSq hH.h0 (sqc_size _ _) ?_) | (go_at_call 52; refine (rightInner_any N g x y _ HQ.out hx hy).mono ?_; rintro e w3 ⟨rfl, hb⟩; replace hH := hH.call' hb; clear hb) | (refine wpL_storeFull rfl rfl rfl rfl rowPl hH.h1 (u8s_size _ _) (u8s_ok _ _) ?_))
  exact ret_ct rfl rfl rfl hH.r1.h1 rowPl (u8s_size _ _) ⟨rfl, hH.r1.below⟩
end Go.Proofs.Ytphninlinegbbaa
