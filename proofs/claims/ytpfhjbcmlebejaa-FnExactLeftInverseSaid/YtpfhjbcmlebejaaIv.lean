/- Proved: what LeftInverse and RightInverse return, of program and model alike. Conditions: those that each theorem names. -/
import Derived.Test.YtpfhjbcmlebejaaLc
import Derived.Test.YtpfhjbcmlebejaaQt
namespace Go.Proofs.Ytpfhjbcmlebejaa
set_option linter.unusedVariables false
set_option linter.unusedSimpArgs false
open Go.RowKit
theorem l01Right0_any (N : Nat) (g : Nat → UInt8) (y : UInt8) (w : World) (hq : IsSq N g) (hy : y.toNat < N) :
    Calls Try.prog 37 #[.agg (sqc N g), .int .u8 0, .int .u8 y.toNat] w fun e w' => e = .returned (.int .u8 (backF (colF g y.toNat) N 0).toNat) ∧ Below w.heap.size w w' := l01Right_any N g 0 y w hq hy (by show 0 < N; omega)
theorem l01Left0_any (N : Nat) (g : Nat → UInt8) (y : UInt8) (w : World) (hq : IsSq N g) (hy : y.toNat < N) :
    Calls Try.prog 41 #[.agg (sqc N g), .int .u8 y.toNat, .int .u8 0] w fun e w' => e = .returned (.int .u8 (backF (rowF g y.toNat) N 0).toNat) ∧ Below w.heap.size w w' := l01Left_any N g y 0 w hq hy (by show 0 < N; omega)
theorem implRightQuotient0_in (N : Nat) (g : Nat → UInt8) (y : UInt8) (w : World) (hs : sqB (N : Int) g = true) (hy : y.toNat < N) :
    Calls Try.prog 40 #[.agg (sqc N g), .int .u8 0, .int .u8 y.toNat] w fun e w' => e = .returned (.tuple #[.int .u8 (backF (colF g y.toNat) N 0).toNat, .int .i64 0]) ∧ Below w.heap.size w w' := implRightQuotient_in N g 0 y w hs (by show 0 < N; omega) hy
theorem implLeftQuotient0_in (N : Nat) (g : Nat → UInt8) (y : UInt8) (w : World) (hs : sqB (N : Int) g = true) (hy : y.toNat < N) :
    Calls Try.prog 42 #[.agg (sqc N g), .int .u8 y.toNat, .int .u8 0] w fun e w' => e = .returned (.tuple #[.int .u8 (backF (rowF g y.toNat) N 0).toNat, .int .i64 0]) ∧ Below w.heap.size w w' := implLeftQuotient_in N g y 0 w hs hy (by show 0 < N; omega)
set_option maxRecDepth 20000 in
set_option maxHeartbeats 1000000 in
theorem specLeftInverse_err (o : Int) (g : Nat → UInt8) (x : UInt8) (zz : Int) (w : World) (hzz : (zz == 0) = false)
    (hC : Hid (∀ w, Calls Try.prog 36 #[.agg (sqc o g), .int .u8 x.toNat, .int .u8 0, .int .u8 0] w fun e w' => e = .returned (.int .i64 zz) ∧ Below w.heap.size w w')) :
    Calls Try.prog 12 #[.agg (sqc o g), .int .u8 x.toNat] w fun e w' => e = .returned (.tuple #[.int .u8 (0 : UInt8).toNat, .int .i64 zz]) ∧ Below w.heap.size w w' := by
  have hz2 : ¬ (zz = 0) := by simpa using hzz
  have hH := Has.start1 w (sqc o g) 30
  have h0 := hH
  go_enter Try.func12, Try.ntmps12
  go_wp2_with (first | (refine wpL_loadFull rfl rfl rfl rowSq h0.h0 (sqc_size _ _) ?_) | (go_at_call 36; refine (hC.out _).mono ?_; rintro e w2 ⟨rfl, hb⟩; replace hH := hH.call' hb; clear hb h0))
  go_ret2
  exact ⟨rfl, hH.below⟩
set_option maxRecDepth 20000 in
set_option maxHeartbeats 1000000 in
theorem specLeftInverse_in (N : Nat) (g : Nat → UInt8) (x : UInt8) (w : World) (hq : IsSq N g) (hx : x.toNat < N)
    (hC : Hid (∀ w, Calls Try.prog 36 #[.agg (sqc N g), .int .u8 x.toNat, .int .u8 0, .int .u8 0] w fun e w' => e = .returned (.int .i64 0) ∧ Below w.heap.size w w')) :
    Calls Try.prog 12 #[.agg (sqc N g), .int .u8 x.toNat] w fun e w' => e = .returned (.tuple #[.int .u8 (backF (colF g x.toNat) N 0).toNat, .int .i64 0]) ∧ Below w.heap.size w w' := by
  have HQ := hid hq
  clear hq
  have hH := Has.start1 w (sqc N g) 30
  have h0 := hH
  go_enter Try.func12, Try.ntmps12
  go_wp2_with (first | (refine wpL_loadFull rfl rfl rfl rowSq h0.h0 (sqc_size _ _) ?_) | (go_at_call 36; refine (hC.out _).mono ?_; rintro e w2 ⟨rfl, hb⟩; replace hH := hH.call' hb; clear hb h0) | (refine wpL_loadFull rfl rfl rfl rowSq hH.h0 (sqc_size _ _) ?_) | (go_at_call 37; refine (l01Right0_any N g x _ HQ.out hx).mono ?_; rintro e w4 ⟨rfl, hb⟩; replace hH := hH.call' hb; clear hb))
  go_ret2
  exact ⟨rfl, hH.below⟩
set_option maxRecDepth 20000 in
set_option maxHeartbeats 1000000 in
theorem implLeftInverse_err (o : Int) (g : Nat → UInt8) (x : UInt8) (zz : Int) (w : World) (hzz : (zz == 0) = false)
    (hC : Hid (∀ w b, holds w b (u8s 1 (oneF x)) 5 → Calls Try.prog 39 #[.agg (sqc o g), .slice (some ⟨b, 0, none⟩) 1 1] w fun e w' => e = .returned (.int .i64 zz) ∧ Below w.heap.size w w')) :
    Calls Try.prog 14 #[.agg (sqc o g), .int .u8 x.toNat] w fun e w' => e = .returned (.tuple #[.int .u8 (0 : UInt8).toNat, .int .i64 zz]) ∧ Below w.heap.size w w' := by
  have hz2 : ¬ (zz = 0) := by simpa using hzz
  have hH := Has.start2 w (sqc o g) (u8s 1 (oneF x)) 30 5
  have h0 := Has.start1 w (sqc o g) 30
  go_enter Try.func14, Try.ntmps14
  go_wp2_with (first | (refine wpL_loadFull rfl rfl rfl rowSq h0.h0 (sqc_size _ _) ?_) | (refine wpL_slice1 (x := x) rfl rfl rfl ?_) | (go_at_call 39; refine (hC.out _ _ hH.h1).mono ?_; rintro e w2 ⟨rfl, hb⟩; replace hH := hH.call' hb; clear hb h0))
  go_ret2
  exact ⟨rfl, hH.below⟩
set_option maxRecDepth 20000 in
set_option maxHeartbeats 1000000 in
theorem implLeftInverse_in (N : Nat) (g : Nat → UInt8) (x : UInt8) (w : World) (hs : sqB (N : Int) g = true) (hx : x.toNat < N)
    (hC : Hid (∀ w b, holds w b (u8s 1 (oneF x)) 5 → Calls Try.prog 39 #[.agg (sqc N g), .slice (some ⟨b, 0, none⟩) 1 1] w fun e w' => e = .returned (.int .i64 0) ∧ Below w.heap.size w w')) :
    Calls Try.prog 14 #[.agg (sqc N g), .int .u8 x.toNat] w fun e w' => e = .returned (.tuple #[.int .u8 (backF (colF g x.toNat) N 0).toNat, .int .i64 0]) ∧ Below w.heap.size w w' := by
  have HS := hid hs
  clear hs
  have hH := Has.start2 w (sqc N g) (u8s 1 (oneF x)) 30 5
  have h0 := Has.start1 w (sqc N g) 30
  go_enter Try.func14, Try.ntmps14
  go_wp2_with (first | (refine wpL_loadFull rfl rfl rfl rowSq h0.h0 (sqc_size _ _) ?_) | (refine wpL_slice1 (x := x) rfl rfl rfl ?_) | (go_at_call 39; refine (hC.out _ _ hH.h1).mono ?_; rintro e w2 ⟨rfl, hb⟩; replace hH := hH.call' hb; clear hb h0) | (refine wpL_loadFull rfl rfl rfl rowSq hH.h0 (sqc_size _ _) ?_) | (go_at_call 40; refine (implRightQuotient0_in N g x _ HS.out hx).mono ?_; rintro e w4 ⟨rfl, hb⟩; replace hH := hH.call' hb; clear hb))
  go_ret2
  exact ⟨rfl, hH.below⟩
set_option maxRecDepth 20000 in
set_option maxHeartbeats 1000000 in
theorem specRightInverse_err (o : Int) (g : Nat → UInt8) (x : UInt8) (zz : Int) (w : World) (hzz : (zz == 0) = false)
    (hC : Hid (∀ w, Calls Try.prog 36 #[.agg (sqc o g), .int .u8 x.toNat, .int .u8 0, .int .u8 0] w fun e w' => e = .returned (.int .i64 zz) ∧ Below w.heap.size w w')) :
    Calls Try.prog 15 #[.agg (sqc o g), .int .u8 x.toNat] w fun e w' => e = .returned (.tuple #[.int .u8 (0 : UInt8).toNat, .int .i64 zz]) ∧ Below w.heap.size w w' := by
  have hz2 : ¬ (zz = 0) := by simpa using hzz
  have hH := Has.start1 w (sqc o g) 30
  have h0 := hH
  go_enter Try.func15, Try.ntmps15
  go_wp2_with (first | (refine wpL_loadFull rfl rfl rfl rowSq h0.h0 (sqc_size _ _) ?_) | (go_at_call 36; refine (hC.out _).mono ?_; rintro e w2 ⟨rfl, hb⟩; replace hH := hH.call' hb; clear hb h0))
  go_ret2
  exact ⟨rfl, hH.below⟩
set_option maxRecDepth 20000 in
set_option maxHeartbeats 1000000 in
theorem specRightInverse_in (N : Nat) (g : Nat → UInt8) (x : UInt8) (w : World) (hq : IsSq N g) (hx : x.toNat < N)
    (hC : Hid (∀ w, Calls Try.prog 36 #[.agg (sqc N g), .int .u8 x.toNat, .int .u8 0, .int .u8 0] w fun e w' => e = .returned (.int .i64 0) ∧ Below w.heap.size w w')) :
    Calls Try.prog 15 #[.agg (sqc N g), .int .u8 x.toNat] w fun e w' => e = .returned (.tuple #[.int .u8 (backF (rowF g x.toNat) N 0).toNat, .int .i64 0]) ∧ Below w.heap.size w w' := by
  have HQ := hid hq
  clear hq
  have hH := Has.start1 w (sqc N g) 30
  have h0 := hH
  go_enter Try.func15, Try.ntmps15
  go_wp2_with (first | (refine wpL_loadFull rfl rfl rfl rowSq h0.h0 (sqc_size _ _) ?_) | (go_at_call 36; refine (hC.out _).mono ?_; rintro e w2 ⟨rfl, hb⟩; replace hH := hH.call' hb; clear hb h0) | (refine wpL_loadFull rfl rfl rfl rowSq hH.h0 (sqc_size _ _) ?_) | (go_at_call 41; refine (l01Left0_any N g x _ HQ.out hx).mono ?_; rintro e w4 ⟨rfl, hb⟩; replace hH := hH.call' hb; clear hb))
  go_ret2
  exact ⟨rfl, hH.below⟩
set_option maxRecDepth 20000 in
set_option maxHeartbeats 1000000 in
theorem implRightInverse_err (o : Int) (g : Nat → UInt8) (x : UInt8) (zz : Int) (w : World) (hzz : (zz == 0) = false)
    (hC : Hid (∀ w b, holds w b (u8s 1 (oneF x)) 5 → Calls Try.prog 39 #[.agg (sqc o g), .slice (some ⟨b, 0, none⟩) 1 1] w fun e w' => e = .returned (.int .i64 zz) ∧ Below w.heap.size w w')) :
    Calls Try.prog 16 #[.agg (sqc o g), .int .u8 x.toNat] w fun e w' => e = .returned (.tuple #[.int .u8 (0 : UInt8).toNat, .int .i64 zz]) ∧ Below w.heap.size w w' := by
  have hz2 : ¬ (zz = 0) := by simpa using hzz
  have hH := Has.start2 w (sqc o g) (u8s 1 (oneF x)) 30 5
  have h0 := Has.start1 w (sqc o g) 30
  go_enter Try.func16, Try.ntmps16
  go_wp2_with (first | (refine wpL_loadFull rfl rfl rfl rowSq h0.h0 (sqc_size _ _) ?_) | (refine wpL_slice1 (x := x) rfl rfl rfl ?_) | (go_at_call 39; refine (hC.out _ _ hH.h1).mono ?_; rintro e w2 ⟨rfl, hb⟩; replace hH := hH.call' hb; clear hb h0))
  go_ret2
  exact ⟨rfl, hH.below⟩
set_option maxRecDepth 20000 in
set_option maxHeartbeats 1000000 in
theorem implRightInverse_in (N : Nat) (g : Nat → UInt8) (x : UInt8) (w : World) (hs : sqB (N : Int) g = true) (hx : x.toNat < N)
    (hC : Hid (∀ w b, holds w b (u8s 1 (oneF x)) 5 → Calls Try.prog 39 #[.agg (sqc N g), .slice (some ⟨b, 0, none⟩) 1 1] w fun e w' => e = .returned (.int .i64 0) ∧ Below w.heap.size w w')) :
    Calls Try.prog 16 #[.agg (sqc N g), .int .u8 x.toNat] w fun e w' => e = .returned (.tuple #[.int .u8 (backF (rowF g x.toNat) N 0).toNat, .int .i64 0]) ∧ Below w.heap.size w w' := by
  have HS := hid hs
  clear hs
  have hH := Has.start2 w (sqc N g) (u8s 1 (oneF x)) 30 5
  have h0 := Has.start1 w (sqc N g) 30
  go_enter Try.func16, Try.ntmps16
  go_wp2_with (first | (refine wpL_loadFull rfl rfl rfl rowSq h0.h0 (sqc_size _ _) ?_) | (refine wpL_slice1 (x := x) rfl rfl rfl ?_) | (go_at_call 39; refine (hC.out _ _ hH.h1).mono ?_; rintro e w2 ⟨rfl, hb⟩; replace hH := hH.call' hb; clear hb h0) | (refine wpL_loadFull rfl rfl rfl rowSq hH.h0 (sqc_size _ _) ?_) | (go_at_call 42; refine (implLeftQuotient0_in N g x _ HS.out hx).mono ?_; rintro e w4 ⟨rfl, hb⟩; replace hH := hH.call' hb; clear hb))
  go_ret2
  exact ⟨rfl, hH.below⟩
end Go.Proofs.Ytpfhjbcmlebejaa
