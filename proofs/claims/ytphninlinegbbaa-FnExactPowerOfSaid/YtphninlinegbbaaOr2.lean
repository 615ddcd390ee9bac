/- Proved: what OrderOf and PowerOf return, of program and model alike. Conditions: those that each theorem names. -/
import Derived.Test.YtphninlinegbbaaOr
namespace Go.Proofs.Ytphninlinegbbaa
set_option linter.unusedVariables false
set_option linter.unusedSimpArgs false
open Go.RowKit
set_option maxRecDepth 20000 in
set_option maxHeartbeats 1000000 in
theorem specOrderOf_err (o : Int) (g : Nat → UInt8) (x : UInt8) (z : Int) (w : World) (hz : (z == 0) = false)
    (hC : Hid (∀ w, Calls Try.prog 53 #[.agg (sqc o g), .int .u8 x.toNat, .int .u8 0, .int .u8 0] w fun e w' => e = .returned (.int .i64 z) ∧ Below w.heap.size w w')) :
    Calls Try.prog 40 #[.agg (sqc o g), .int .u8 x.toNat] w fun e w' => e = .returned (.tuple #[.int .i64 0, .int .i64 z]) ∧ Below w.heap.size w w' := by
  have hz2 : ¬ (z = 0) := by simpa using hz
  have hH := Has.start1 w (sqc o g) 31
  go_enter Try.func40, Try.ntmps40
  go_wp2_with (first | (refine wpL_loadFull rfl rfl rfl rowSq hH.h0 (sqc_size _ _) ?_) | (go_at_call 53; refine (hC.out _).mono ?_; rintro e w2 ⟨rfl, hb⟩; replace hH := hH.call' hb; clear hb))
  go_ret2
  exact ⟨rfl, hH.below⟩
set_option maxRecDepth 20000 in
set_option maxHeartbeats 1000000 in
theorem specOrderOf_in (N m : Nat) (g : Nat → UInt8) (x : UInt8) (w : World) (hL : IsLp N g) (hx : x.toNat < N) (hO : IsOrd g N x.toNat m)
    (hC : Hid (∀ w, Calls Try.prog 53 #[.agg (sqc N g), .int .u8 x.toNat, .int .u8 0, .int .u8 0] w fun e w' => e = .returned (.int .i64 0) ∧ Below w.heap.size w w')) :
    Calls Try.prog 40 #[.agg (sqc N g), .int .u8 x.toNat] w fun e w' => e = .returned (.tuple #[.int .i64 m, .int .i64 0]) ∧ Below w.heap.size w w' := by
  have HL := hid hL
  have HO := hid hO
  clear hL hO
  have hH := Has.start1 w (sqc N g) 31
  go_enter Try.func40, Try.ntmps40
  go_wp2_with (first | (refine wpL_loadFull rfl rfl rfl rowSq hH.h0 (sqc_size _ _) ?_) | (go_at_call 53; refine (hC.out _).mono ?_; rintro e w2 ⟨rfl, hb⟩; replace hH := hH.call' hb; clear hb) | (go_at_call 72; refine (l05Order_any N m g x _ HL.out hx HO.out).mono ?_; rintro e w2 ⟨rfl, hb⟩; replace hH := hH.call' hb; clear hb))
  go_ret2
  exact ⟨rfl, hH.below⟩
set_option maxRecDepth 20000 in
set_option maxHeartbeats 1000000 in
theorem implOrderOf_err (o : Int) (g : Nat → UInt8) (x : UInt8) (z : Int) (w : World) (hz : (z == 0) = false)
    (hC : Hid (∀ w b, holds w b (u8s 1 (oneF x)) 5 → Calls Try.prog 55 #[.agg (sqc o g), .slice (some ⟨b, 0, none⟩) 1 1] w fun e w' => e = .returned (.int .i64 z) ∧ Below w.heap.size w w')) :
    Calls Try.prog 41 #[.agg (sqc o g), .int .u8 x.toNat] w fun e w' => e = .returned (.tuple #[.int .i64 0, .int .i64 z]) ∧ Below w.heap.size w w' := by
  have hz2 : ¬ (z = 0) := by simpa using hz
  have hH := Has.start2 w (sqc o g) (u8s 1 (oneF x)) 31 5
  have h0 := Has.start1 w (sqc o g) 31
  go_enter Try.func41, Try.ntmps41
  go_wp2_with (first | (refine wpL_loadFull rfl rfl rfl rowSq h0.h0 (sqc_size _ _) ?_) | (refine wpL_slice1 (x := x) rfl rfl rfl ?_) | (go_at_call 55; refine (hC.out _ _ hH.h1).mono ?_; rintro e w2 ⟨rfl, hb⟩; replace hH := hH.call' hb; clear hb h0))
  go_ret2
  exact ⟨rfl, hH.below⟩
set_option maxRecDepth 20000 in
set_option maxHeartbeats 1000000 in
theorem implOrderOf_in (N m : Nat) (g : Nat → UInt8) (x : UInt8) (w : World) (hL : IsLp N g) (hx : x.toNat < N) (hO : IsOrd g N x.toNat m)
    (hC : Hid (∀ w b, holds w b (u8s 1 (oneF x)) 5 → Calls Try.prog 55 #[.agg (sqc N g), .slice (some ⟨b, 0, none⟩) 1 1] w fun e w' => e = .returned (.int .i64 0) ∧ Below w.heap.size w w')) :
    Calls Try.prog 41 #[.agg (sqc N g), .int .u8 x.toNat] w fun e w' => e = .returned (.tuple #[.int .i64 m, .int .i64 0]) ∧ Below w.heap.size w w' := by
  have HL := hid hL
  have HO := hid hO
  clear hL hO
  have hH := Has.start2 w (sqc N g) (u8s 1 (oneF x)) 31 5
  have h0 := Has.start1 w (sqc N g) 31
  go_enter Try.func41, Try.ntmps41
  go_wp2_with (first | (refine wpL_loadFull rfl rfl rfl rowSq h0.h0 (sqc_size _ _) ?_) | (refine wpL_slice1 (x := x) rfl rfl rfl ?_) | (go_at_call 55; refine (hC.out _ _ hH.h1).mono ?_; rintro e w2 ⟨rfl, hb⟩; replace hH := hH.call' hb; clear hb h0) | (refine wpL_loadFull rfl rfl rfl rowSq hH.h0 (sqc_size _ _) ?_) | (go_at_call 73; refine (orderOf_any N m g x _ HL.out hx HO.out).mono ?_; rintro e w2 ⟨rfl, hb⟩; replace hH := hH.call' hb; clear hb))
  go_ret2
  exact ⟨rfl, hH.below⟩
set_option maxRecDepth 20000 in
set_option maxHeartbeats 1000000 in
theorem specPowerOf_err (o k : Int) (g : Nat → UInt8) (x : UInt8) (z : Int) (w : World) (hz : (z == 0) = false)
    (hC : Hid (∀ w, Calls Try.prog 53 #[.agg (sqc o g), .int .u8 x.toNat, .int .u8 0, .int .u8 0] w fun e w' => e = .returned (.int .i64 z) ∧ Below w.heap.size w w')) :
    Calls Try.prog 42 #[.agg (sqc o g), .int .u8 x.toNat, .int .i64 k] w fun e w' => e = .returned (.tuple #[.int .u8 (0 : UInt8).toNat, .int .i64 z]) ∧ Below w.heap.size w w' := by
  have hz2 : ¬ (z = 0) := by simpa using hz
  have hH := Has.start1 w (sqc o g) 31
  go_enter Try.func42, Try.ntmps42
  go_wp2_with (first | (refine wpL_loadFull rfl rfl rfl rowSq hH.h0 (sqc_size _ _) ?_) | (go_at_call 53; refine (hC.out _).mono ?_; rintro e w2 ⟨rfl, hb⟩; replace hH := hH.call' hb; clear hb))
  go_ret2
  exact ⟨rfl, hH.below⟩
set_option maxRecDepth 20000 in
set_option maxHeartbeats 1000000 in
theorem specPowerOf_far (o k : Int) (g : Nat → UInt8) (x : UInt8) (w : World) (hk : ¬ (0 ≤ k ∧ k ≤ 1000000))
    (hC : Hid (∀ w, Calls Try.prog 53 #[.agg (sqc o g), .int .u8 x.toNat, .int .u8 0, .int .u8 0] w fun e w' => e = .returned (.int .i64 0) ∧ Below w.heap.size w w')) :
    Calls Try.prog 42 #[.agg (sqc o g), .int .u8 x.toNat, .int .i64 k] w fun e w' => e = .returned (.tuple #[.int .u8 (0 : UInt8).toNat, .int .i64 2]) ∧ Below w.heap.size w w' := by
  have hi := inB_false hk
  clear hk
  have hH := Has.start1 w (sqc o g) 31
  go_enter Try.func42, Try.ntmps42
  go_wp2_with (first | (refine wpL_guard rfl rfl ?_) | (refine wpL_loadFull rfl rfl rfl rowSq hH.h0 (sqc_size _ _) ?_) | (go_at_call 53; refine (hC.out _).mono ?_; rintro e w2 ⟨rfl, hb⟩; replace hH := hH.call' hb; clear hb) | (go_at_call 74; refine (l01In_any _ _ _ _).mono ?_; rintro e w2 ⟨rfl, rfl⟩; rw [hi]))
  go_ret2
  exact ⟨rfl, hH.below⟩
set_option maxRecDepth 20000 in
set_option maxHeartbeats 2000000 in
theorem specPowerOf_in (N m K : Nat) (g : Nat → UInt8) (x : UInt8) (w : World) (hL : IsLp N g) (hx : x.toNat < N) (hO : IsOrd g N x.toNat m) (hK : K ≤ 1000000)
    (hC : Hid (∀ w, Calls Try.prog 53 #[.agg (sqc N g), .int .u8 x.toNat, .int .u8 0, .int .u8 0] w fun e w' => e = .returned (.int .i64 0) ∧ Below w.heap.size w w')) :
    Calls Try.prog 42 #[.agg (sqc N g), .int .u8 x.toNat, .int .i64 K] w fun e w' => e = .returned (.tuple #[.int .u8 (pw g x.toNat (K % m)).toNat, .int .i64 0]) ∧ Below w.heap.size w w' := by
  have hi : inB (K : Int) 0 1000000 = true := inB_true (by omega) (by omega)
  have h10 := hL.sq.hi
  have hm1 := hO.pos
  have hmN := hO.le
  have HL := hid hL
  have HO := hid hO
  clear hL hO
  have hx10 : x.toNat < 10 := by omega
  have hx' : (x.toNat : Int) < 10 := by omega
  obtain ⟨r, hr⟩ : ∃ r, K % m = r := ⟨_, rfl⟩
  have hrm : r < m := by rw [← hr]; exact Nat.mod_lt _ (by omega)
  have hri : (K : Int) % (m : Int) = (r : Int) := by rw [← hr]; simp
  have hrt : Int.tmod (K : Int) (m : Int) = (r : Int) := by rw [← hr]; exact (Int.ofNat_tmod K m).symm
  rw [hr]
  clear hr
  have hm0 : ¬ ((m : Int) = 0) := by omega
  have hmm : ¬ ((m : Int) = -1) := by omega
  have hH := Has.start1 w (sqc N g) 31
  go_enter Try.func42, Try.ntmps42
  go_wp2_with (first | (refine wpL_guard rfl rfl ?_) | (refine wpL_loadFull rfl rfl rfl rowSq hH.h0 (sqc_size _ _) ?_) | (go_at_call 53; refine (hC.out _).mono ?_; rintro e w2 ⟨rfl, hb⟩; replace hH := hH.call' hb; clear hb) | (go_at_call 74; refine (l01In_any _ _ _ _).mono ?_; rintro e w2 ⟨rfl, rfl⟩; rw [hi]) | (go_at_call 72; refine (l05Order_any N m g x _ HL.out hx HO.out).mono ?_; rintro e w2 ⟨rfl, hb⟩; replace hH := hH.call' hb; clear hb))
  go_loopw [9, 2] (fun v i wr => ∃ j : Nat, j ≤ r ∧ v = .int .u8 (pw g x.toNat j).toNat ∧ i = .int .i64 ((r - j : Nat) : Int) ∧ Has w wr [(sqc N g, 31)]) (fun _ i _ => (intOf i).toNat)
  case atStart => exact ⟨0, by omega, rfl, by simp [hri, hrt], hH⟩
  case round =>
    clear hH
    obtain ⟨j, hj, rfl, rfl, hH⟩ := hrel
    obtain ⟨p, hp⟩ : ∃ p, pw g x.toNat j = p := ⟨_, rfl⟩
    have hplt : p.toNat < N := by rw [← hp]; exact pw_lt HL.out.sq hx j
    have hp' : (p.toNat : Int) < 10 := by omega
    have ca : wr.cell? ⟨w.heap.size, 1 + x.toNat * 10 + p.toNat, none⟩ = some (.int .u8 (g (x.toNat * 10 + p.toNat)).toNat) := by rw [hH.c0, Nat.add_assoc, sqc_get _ _ _ (by omega)]
    obtain ⟨d, hd⟩ : ∃ d, r - j = d := ⟨_, rfl⟩
    rw [hd]
    by_cases hlt : j < r
    · have hd0 : 0 < (d : Int) := by omega
      have hd1 : 0 < d := by omega
      rw [hp]
      have HP := hid hp
      have HD := hid hd
      clear hp hd
      have hd2 : (d : Int) - 1 = ((d - 1 : Nat) : Int) := by omega
      have hdb : d ≤ 1000000 := by have := HD.out; omega
      go_wp2
      go_roundw
      case rel => exact ⟨j + 1, by omega, by show _ = Value.int .u8 (g (x.toNat * 10 + (pw g x.toNat j).toNat)).toNat; rw [HP.out], by have := HD.out; first | (rw [show r - (j + 1) = d - 1 by omega]; go_num) | (congr 1; omega), hH⟩
      case measure => simp [intOf]; omega
    · obtain rfl : j = r := by omega
      obtain rfl : d = 0 := by omega
      clear hd
      rw [hp]
      go_wp2
      go_ret2
      exact ⟨by rw [hp]; rfl, hH.below⟩
set_option maxRecDepth 20000 in
set_option maxHeartbeats 1000000 in
theorem implPowerOf_err (o k : Int) (g : Nat → UInt8) (x : UInt8) (z : Int) (w : World) (hz : (z == 0) = false)
    (hC : Hid (∀ w b, holds w b (u8s 1 (oneF x)) 5 → Calls Try.prog 55 #[.agg (sqc o g), .slice (some ⟨b, 0, none⟩) 1 1] w fun e w' => e = .returned (.int .i64 z) ∧ Below w.heap.size w w')) :
    Calls Try.prog 43 #[.agg (sqc o g), .int .u8 x.toNat, .int .i64 k] w fun e w' => e = .returned (.tuple #[.int .u8 (0 : UInt8).toNat, .int .i64 z]) ∧ Below w.heap.size w w' := by
  have hz2 : ¬ (z = 0) := by simpa using hz
  have hH := Has.start2 w (sqc o g) (u8s 1 (oneF x)) 31 5
  have h0 := Has.start1 w (sqc o g) 31
  go_enter Try.func43, Try.ntmps43
  go_wp2_with (first | (refine wpL_loadFull rfl rfl rfl rowSq h0.h0 (sqc_size _ _) ?_) | (refine wpL_slice1 (x := x) rfl rfl rfl ?_) | (go_at_call 55; refine (hC.out _ _ hH.h1).mono ?_; rintro e w2 ⟨rfl, hb⟩; replace hH := hH.call' hb; clear hb h0))
  go_ret2
  exact ⟨rfl, hH.below⟩
set_option maxRecDepth 20000 in
set_option maxHeartbeats 1000000 in
theorem implPowerOf_far (o k : Int) (g : Nat → UInt8) (x : UInt8) (w : World) (hk : ¬ (0 ≤ k ∧ k ≤ 1000000))
    (hC : Hid (∀ w b, holds w b (u8s 1 (oneF x)) 5 → Calls Try.prog 55 #[.agg (sqc o g), .slice (some ⟨b, 0, none⟩) 1 1] w fun e w' => e = .returned (.int .i64 0) ∧ Below w.heap.size w w')) :
    Calls Try.prog 43 #[.agg (sqc o g), .int .u8 x.toNat, .int .i64 k] w fun e w' => e = .returned (.tuple #[.int .u8 (0 : UInt8).toNat, .int .i64 2]) ∧ Below w.heap.size w w' := by
  have hH := Has.start2 w (sqc o g) (u8s 1 (oneF x)) 31 5
  have h0 := Has.start1 w (sqc o g) 31
  by_cases hneg : k < 0
  · clear hk
    go_enter Try.func43, Try.ntmps43
    go_wp2_with (first | (refine wpL_guard rfl rfl ?_) | (refine wpL_loadFull rfl rfl rfl rowSq h0.h0 (sqc_size _ _) ?_) | (refine wpL_slice1 (x := x) rfl rfl rfl ?_) | (go_at_call 55; refine (hC.out _ _ hH.h1).mono ?_; rintro e w2 ⟨rfl, hb⟩; replace hH := hH.call' hb; clear hb h0))
    go_ret2
    exact ⟨rfl, hH.below⟩
  · have hbig : 1000000 < k := by omega
    clear hk
    go_enter Try.func43, Try.ntmps43
    go_wp2_with (first | (refine wpL_guard rfl rfl ?_) | (refine wpL_loadFull rfl rfl rfl rowSq h0.h0 (sqc_size _ _) ?_) | (refine wpL_slice1 (x := x) rfl rfl rfl ?_) | (go_at_call 55; refine (hC.out _ _ hH.h1).mono ?_; rintro e w2 ⟨rfl, hb⟩; replace hH := hH.call' hb; clear hb h0))
    go_ret2
    exact ⟨rfl, hH.below⟩
set_option maxRecDepth 20000 in
set_option maxHeartbeats 2000000 in
theorem implPowerOf_in (N m K : Nat) (g : Nat → UInt8) (x : UInt8) (w : World) (hL : IsLp N g) (hx : x.toNat < N) (hO : IsOrd g N x.toNat m) (hK : K ≤ 1000000)
    (hC : Hid (∀ w b, holds w b (u8s 1 (oneF x)) 5 → Calls Try.prog 55 #[.agg (sqc N g), .slice (some ⟨b, 0, none⟩) 1 1] w fun e w' => e = .returned (.int .i64 0) ∧ Below w.heap.size w w')) :
    Calls Try.prog 43 #[.agg (sqc N g), .int .u8 x.toNat, .int .i64 K] w fun e w' => e = .returned (.tuple #[.int .u8 (pw g x.toNat (K % m)).toNat, .int .i64 0]) ∧ Below w.heap.size w w' := by
  have hneg : ¬ ((K : Int) < 0) := by omega
  have hbig : ¬ (1000000 < (K : Int)) := by omega
  have hbig' : ¬ (1000000 < K) := by omega
  have h10 := hL.sq.hi
  have hm1 := hO.pos
  have hmN := hO.le
  have HL := hid hL
  have HO := hid hO
  clear hL hO
  have hx10 : x.toNat < 10 := by omega
  have hx' : (x.toNat : Int) < 10 := by omega
  obtain ⟨r, hr⟩ : ∃ r, K % m = r := ⟨_, rfl⟩
  have hrm : r < m := by rw [← hr]; exact Nat.mod_lt _ (by omega)
  have hri : (K : Int) % (m : Int) = (r : Int) := by rw [← hr]; simp
  have hrt : Int.tmod (K : Int) (m : Int) = (r : Int) := by rw [← hr]; exact (Int.ofNat_tmod K m).symm
  rw [hr]
  clear hr
  have hm0 : ¬ ((m : Int) = 0) := by omega
  have hmm : ¬ ((m : Int) = -1) := by omega
  have hH := Has.start2 w (sqc N g) (u8s 1 (oneF x)) 31 5
  have h0 := Has.start1 w (sqc N g) 31
  go_enter Try.func43, Try.ntmps43
  go_wp2_with (first | (refine wpL_guard rfl rfl ?_) | (refine wpL_loadFull rfl rfl rfl rowSq h0.h0 (sqc_size _ _) ?_) | (refine wpL_slice1 (x := x) rfl rfl rfl ?_) | (go_at_call 55; refine (hC.out _ _ hH.h1).mono ?_; rintro e w2 ⟨rfl, hb⟩; replace hH := hH.call' hb; clear hb h0) | (refine wpL_loadFull rfl rfl rfl rowSq hH.h0 (sqc_size _ _) ?_) | (go_at_call 73; refine (orderOf_any N m g x _ HL.out hx HO.out).mono ?_; rintro e w2 ⟨rfl, hb⟩; replace hH := hH.call' hb; clear hb))
  go_loopw [9, 28] (fun v i wr => ∃ j : Nat, j ≤ r ∧ v = .int .u8 (pw g x.toNat j).toNat ∧ i = .int .i64 j ∧ Has w wr [(sqc N g, 31), (u8s 1 (oneF x), 5)]) (fun _ i _ => 20 - (intOf i).toNat)
  case atStart => exact ⟨0, by omega, rfl, rfl, hH⟩
  case round =>
    clear hH
    obtain ⟨j, hj, rfl, rfl, hH⟩ := hrel
    obtain ⟨p, hp⟩ : ∃ p, pw g x.toNat j = p := ⟨_, rfl⟩
    have hplt : p.toNat < N := by rw [← hp]; exact pw_lt HL.out.sq hx j
    have hp' : (p.toNat : Int) < 10 := by omega
    have ca : wr.cell? ⟨w.heap.size, 1 + x.toNat * 10 + p.toNat, none⟩ = some (.int .u8 (g (x.toNat * 10 + p.toNat)).toNat) := by rw [hH.c0, Nat.add_assoc, sqc_get _ _ _ (by omega)]
    rw [hp]
    have HP := hid hp
    clear hp
    by_cases hlt : j < r
    · go_wp2
      go_roundw
      case rel => exact ⟨j + 1, by omega, by show _ = Value.int .u8 (g (x.toNat * 10 + (pw g x.toNat j).toNat)).toNat; rw [HP.out], by go_num, hH⟩
      case measure => simp [intOf]; omega
    · obtain rfl : j = r := by omega
      go_wp2
      go_ret2
      exact ⟨by rw [HP.out]; rfl, hH.below⟩
end Go.Proofs.Ytphninlinegbbaa
