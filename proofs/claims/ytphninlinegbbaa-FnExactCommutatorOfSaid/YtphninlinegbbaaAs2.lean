/- Proved: what CommutatorOf and AssociatorOf return, of program and model alike. Conditions: those that each theorem names. -/
import Derived.Test.YtphninlinegbbaaAs
namespace Go.Proofs.Ytphninlinegbbaa
set_option linter.unusedVariables false
set_option linter.unusedSimpArgs false
open Go.RowKit
set_option maxRecDepth 20000 in
set_option maxHeartbeats 1000000 in
theorem specCommutatorOf_err (o : Int) (g : Nat → UInt8) (x y : UInt8) (zz : Int) (w : World) (hzz : (zz == 0) = false)
    (hC : Hid (∀ w, Calls Try.prog 53 #[.agg (sqc o g), .int .u8 x.toNat, .int .u8 y.toNat, .int .u8 0] w fun e w' => e = .returned (.int .i64 zz) ∧ Below w.heap.size w w')) :
    Calls Try.prog 23 #[.agg (sqc o g), .int .u8 x.toNat, .int .u8 y.toNat] w fun e w' => e = .returned (.tuple #[.int .u8 (0 : UInt8).toNat, .int .i64 zz]) ∧ Below w.heap.size w w' := by
  have hz2 : ¬ (zz = 0) := by simpa using hzz
  have hH := Has.start1 w (sqc o g) 31
  have h0 := hH
  go_enter Try.func23, Try.ntmps23
  go_wp2_with (first | (refine wpL_loadFull rfl rfl rfl rowSq h0.h0 (sqc_size _ _) ?_) | (go_at_call 53; refine (hC.out _).mono ?_; rintro e w2 ⟨rfl, hb⟩; replace hH := hH.call' hb; clear hb h0))
  go_ret2
  exact ⟨rfl, hH.below⟩
set_option maxRecDepth 20000 in
set_option maxHeartbeats 1000000 in
theorem specCommutatorOf_in (N : Nat) (g : Nat → UInt8) (x y : UInt8) (w : World) (hq : IsSq N g) (hx : x.toNat < N) (hy : y.toNat < N)
    (hC : Hid (∀ w, Calls Try.prog 53 #[.agg (sqc N g), .int .u8 x.toNat, .int .u8 y.toNat, .int .u8 0] w fun e w' => e = .returned (.int .i64 0) ∧ Below w.heap.size w w')) :
    Calls Try.prog 23 #[.agg (sqc N g), .int .u8 x.toNat, .int .u8 y.toNat] w fun e w' => e = .returned (.tuple #[.int .u8 (cmm g N x.toNat y.toNat).toNat, .int .i64 0]) ∧ Below w.heap.size w w' := by
  have HQ := hid hq
  clear hq
  have hH := Has.start1 w (sqc N g) 31
  have h0 := hH
  go_enter Try.func23, Try.ntmps23
  go_wp2_with (first | (refine wpL_loadFull rfl rfl rfl rowSq h0.h0 (sqc_size _ _) ?_) | (go_at_call 53; refine (hC.out _).mono ?_; rintro e w2 ⟨rfl, hb⟩; replace hH := hH.call' hb; clear hb h0) | (refine wpL_loadFull rfl rfl rfl rowSq hH.h0 (sqc_size _ _) ?_) | (go_at_call 54; refine (l05Commutator_any N g x y _ HQ.out hx hy).mono ?_; rintro e w4 ⟨rfl, hb⟩; replace hH := hH.call' hb; clear hb))
  go_ret2
  exact ⟨rfl, hH.below⟩
set_option maxRecDepth 20000 in
set_option maxHeartbeats 1000000 in
theorem implCommutatorOf_err (o : Int) (g : Nat → UInt8) (x y : UInt8) (zz : Int) (w : World) (hzz : (zz == 0) = false)
    (hC : Hid (∀ w b, holds w b (u8s 2 (pairF x y)) 5 → Calls Try.prog 55 #[.agg (sqc o g), .slice (some ⟨b, 0, none⟩) 2 2] w fun e w' => e = .returned (.int .i64 zz) ∧ Below w.heap.size w w')) :
    Calls Try.prog 24 #[.agg (sqc o g), .int .u8 x.toNat, .int .u8 y.toNat] w fun e w' => e = .returned (.tuple #[.int .u8 (0 : UInt8).toNat, .int .i64 zz]) ∧ Below w.heap.size w w' := by
  have hz2 : ¬ (zz = 0) := by simpa using hzz
  have hH := Has.start2 w (sqc o g) (u8s 2 (pairF x y)) 31 5
  have h0 := Has.start1 w (sqc o g) 31
  go_enter Try.func24, Try.ntmps24
  go_wp2_with (first | (refine wpL_loadFull rfl rfl rfl rowSq h0.h0 (sqc_size _ _) ?_) | (refine wpL_slice2 (x := x) (y := y) rfl rfl rfl rfl ?_) | (go_at_call 55; refine (hC.out _ _ hH.h1).mono ?_; rintro e w2 ⟨rfl, hb⟩; replace hH := hH.call' hb; clear hb h0))
  go_ret2
  exact ⟨rfl, hH.below⟩
set_option maxRecDepth 20000 in
set_option maxHeartbeats 1000000 in
theorem implCommutatorOf_in (N : Nat) (g : Nat → UInt8) (x y : UInt8) (w : World) (hq : IsSq N g) (hx : x.toNat < N) (hy : y.toNat < N)
    (hC : Hid (∀ w b, holds w b (u8s 2 (pairF x y)) 5 → Calls Try.prog 55 #[.agg (sqc N g), .slice (some ⟨b, 0, none⟩) 2 2] w fun e w' => e = .returned (.int .i64 0) ∧ Below w.heap.size w w')) :
    Calls Try.prog 24 #[.agg (sqc N g), .int .u8 x.toNat, .int .u8 y.toNat] w fun e w' => e = .returned (.tuple #[.int .u8 (cmm g N x.toNat y.toNat).toNat, .int .i64 0]) ∧ Below w.heap.size w w' := by
  have HQ := hid hq
  clear hq
  have hH := Has.start2 w (sqc N g) (u8s 2 (pairF x y)) 31 5
  have h0 := Has.start1 w (sqc N g) 31
  go_enter Try.func24, Try.ntmps24
  go_wp2_with (first | (refine wpL_loadFull rfl rfl rfl rowSq h0.h0 (sqc_size _ _) ?_) | (refine wpL_slice2 (x := x) (y := y) rfl rfl rfl rfl ?_) | (go_at_call 55; refine (hC.out _ _ hH.h1).mono ?_; rintro e w2 ⟨rfl, hb⟩; replace hH := hH.call' hb; clear hb h0) | (refine wpL_loadFull rfl rfl rfl rowSq hH.h0 (sqc_size _ _) ?_) | (go_at_call 56; refine (divide_any N g _ HQ.out).mono ?_; rintro e w3 ⟨gb, rfl, hb, hD, hlo⟩; replace hH := hH.call' hb; clear hb hlo) | (go_at_call 57; refine (commutator_any N gb g x y _ HQ.out hx hy hD).mono ?_; rintro e w4 ⟨rfl, hb⟩; replace hH := hH.call' hb; clear hb))
  go_ret2
  exact ⟨rfl, hH.below⟩
set_option maxRecDepth 20000 in
set_option maxHeartbeats 1000000 in
theorem specAssociatorOf_err (o : Int) (g : Nat → UInt8) (x y z : UInt8) (zz : Int) (w : World) (hzz : (zz == 0) = false)
    (hC : Hid (∀ w, Calls Try.prog 53 #[.agg (sqc o g), .int .u8 x.toNat, .int .u8 y.toNat, .int .u8 z.toNat] w fun e w' => e = .returned (.int .i64 zz) ∧ Below w.heap.size w w')) :
    Calls Try.prog 25 #[.agg (sqc o g), .int .u8 x.toNat, .int .u8 y.toNat, .int .u8 z.toNat] w fun e w' => e = .returned (.tuple #[.int .u8 (0 : UInt8).toNat, .int .i64 zz]) ∧ Below w.heap.size w w' := by
  have hz2 : ¬ (zz = 0) := by simpa using hzz
  have hH := Has.start1 w (sqc o g) 31
  have h0 := hH
  go_enter Try.func25, Try.ntmps25
  go_wp2_with (first | (refine wpL_loadFull rfl rfl rfl rowSq h0.h0 (sqc_size _ _) ?_) | (go_at_call 53; refine (hC.out _).mono ?_; rintro e w2 ⟨rfl, hb⟩; replace hH := hH.call' hb; clear hb h0))
  go_ret2
  exact ⟨rfl, hH.below⟩
set_option maxRecDepth 20000 in
set_option maxHeartbeats 1000000 in
theorem specAssociatorOf_in (N : Nat) (g : Nat → UInt8) (x y z : UInt8) (w : World) (hq : IsSq N g) (hx : x.toNat < N) (hy : y.toNat < N) (hz : z.toNat < N)
    (hC : Hid (∀ w, Calls Try.prog 53 #[.agg (sqc N g), .int .u8 x.toNat, .int .u8 y.toNat, .int .u8 z.toNat] w fun e w' => e = .returned (.int .i64 0) ∧ Below w.heap.size w w')) :
    Calls Try.prog 25 #[.agg (sqc N g), .int .u8 x.toNat, .int .u8 y.toNat, .int .u8 z.toNat] w fun e w' => e = .returned (.tuple #[.int .u8 (asc g N x.toNat y.toNat z.toNat).toNat, .int .i64 0]) ∧ Below w.heap.size w w' := by
  have HQ := hid hq
  clear hq
  have hH := Has.start1 w (sqc N g) 31
  have h0 := hH
  go_enter Try.func25, Try.ntmps25
  go_wp2_with (first | (refine wpL_loadFull rfl rfl rfl rowSq h0.h0 (sqc_size _ _) ?_) | (go_at_call 53; refine (hC.out _).mono ?_; rintro e w2 ⟨rfl, hb⟩; replace hH := hH.call' hb; clear hb h0) | (refine wpL_loadFull rfl rfl rfl rowSq hH.h0 (sqc_size _ _) ?_) | (go_at_call 58; refine (l05Associator_any N g x y z _ HQ.out hx hy hz).mono ?_; rintro e w4 ⟨rfl, hb⟩; replace hH := hH.call' hb; clear hb))
  go_ret2
  exact ⟨rfl, hH.below⟩
set_option maxRecDepth 20000 in
set_option maxHeartbeats 1000000 in
theorem implAssociatorOf_err (o : Int) (g : Nat → UInt8) (x y z : UInt8) (zz : Int) (w : World) (hzz : (zz == 0) = false)
    (hC : Hid (∀ w b, holds w b (u8s 3 (triF x y z)) 5 → Calls Try.prog 55 #[.agg (sqc o g), .slice (some ⟨b, 0, none⟩) 3 3] w fun e w' => e = .returned (.int .i64 zz) ∧ Below w.heap.size w w')) :
    Calls Try.prog 26 #[.agg (sqc o g), .int .u8 x.toNat, .int .u8 y.toNat, .int .u8 z.toNat] w fun e w' => e = .returned (.tuple #[.int .u8 (0 : UInt8).toNat, .int .i64 zz]) ∧ Below w.heap.size w w' := by
  have hz2 : ¬ (zz = 0) := by simpa using hzz
  have hH := Has.start2 w (sqc o g) (u8s 3 (triF x y z)) 31 5
  have h0 := Has.start1 w (sqc o g) 31
  go_enter Try.func26, Try.ntmps26
  go_wp2_with (first | (refine wpL_loadFull rfl rfl rfl rowSq h0.h0 (sqc_size _ _) ?_) | (refine wpL_slice3 (x := x) (y := y) (z := z) rfl rfl rfl rfl rfl ?_) | (go_at_call 55; refine (hC.out _ _ hH.h1).mono ?_; rintro e w2 ⟨rfl, hb⟩; replace hH := hH.call' hb; clear hb h0))
  go_ret2
  exact ⟨rfl, hH.below⟩
set_option maxRecDepth 20000 in
set_option maxHeartbeats 1000000 in
theorem implAssociatorOf_in (N : Nat) (g : Nat → UInt8) (x y z : UInt8) (w : World) (hq : IsSq N g) (hx : x.toNat < N) (hy : y.toNat < N) (hz : z.toNat < N)
    (hC : Hid (∀ w b, holds w b (u8s 3 (triF x y z)) 5 → Calls Try.prog 55 #[.agg (sqc N g), .slice (some ⟨b, 0, none⟩) 3 3] w fun e w' => e = .returned (.int .i64 0) ∧ Below w.heap.size w w')) :
    Calls Try.prog 26 #[.agg (sqc N g), .int .u8 x.toNat, .int .u8 y.toNat, .int .u8 z.toNat] w fun e w' => e = .returned (.tuple #[.int .u8 (asc g N x.toNat y.toNat z.toNat).toNat, .int .i64 0]) ∧ Below w.heap.size w w' := by
  have HQ := hid hq
  clear hq
  have hH := Has.start2 w (sqc N g) (u8s 3 (triF x y z)) 31 5
  have h0 := Has.start1 w (sqc N g) 31
  go_enter Try.func26, Try.ntmps26
  go_wp2_with (first | (refine wpL_loadFull rfl rfl rfl rowSq h0.h0 (sqc_size _ _) ?_) | (refine wpL_slice3 (x := x) (y := y) (z := z) rfl rfl rfl rfl rfl ?_) | (go_at_call 55; refine (hC.out _ _ hH.h1).mono ?_; rintro e w2 ⟨rfl, hb⟩; replace hH := hH.call' hb; clear hb h0) | (refine wpL_loadFull rfl rfl rfl rowSq hH.h0 (sqc_size _ _) ?_) | (go_at_call 56; refine (divide_any N g _ HQ.out).mono ?_; rintro e w3 ⟨gb, rfl, hb, hD, hlo⟩; replace hH := hH.call' hb; clear hb hlo) | (go_at_call 59; refine (associator_any N gb g x y z _ HQ.out hx hy hz hD).mono ?_; rintro e w4 ⟨rfl, hb⟩; replace hH := hH.call' hb; clear hb))
  go_ret2
  exact ⟨rfl, hH.below⟩
end Go.Proofs.Ytphninlinegbbaa
