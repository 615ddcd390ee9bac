/- Proved: what ThenPlaces and BackPlaces return, of program and model alike. Conditions: none. -/
import Derived.Test.YtfaijmmajcmaoabPl3
namespace Go.Proofs.Ytfaijmmajcmaoab
open Go.RowKit
theorem perm_nat {p : Nat → UInt8} {n : Int} (h : permB p n = true) : ∃ N : Nat, n = N ∧ IsPerm p N := by
  obtain ⟨h0, hp⟩ := permB_true.1 h
  obtain ⟨N, rfl⟩ := Int.eq_ofNat_of_zero_le h0
  exact ⟨N, rfl, by simpa using hp⟩
set_option maxHeartbeats 1000000 in
theorem specThenPlaces_bad (p q : Nat → UInt8) (n : Int) (w : World) (hbad : (permB p n && permB q n) = false) :
    Calls Try.prog 25 #[.agg (u8s 10 p), .agg (u8s 10 q), .int .i64 n] w fun e w' => e = .returned (.tuple #[.agg (u8s 10 (fun _ => 0)), .int .i64 1]) ∧ Below w.heap.size w w' := by
  have hH := Has.start3 w (u8s 10 p) (u8s 10 q) (u8s 10 fun _ => 0) 39 39 39
  cases hp : permB p n with
  | false =>
    go_enter Try.func25, Try.ntmps25
    go_wp2_with (first | (refine wpL_guard rfl rfl ?_) | (refine wpL_alloc rfl rfl zeroPl ?_; intro g hg; (try simp at hg); subst hg) | (refine wpL_loadFull rfl rfl rfl rowPl hH.h0 (u8s_size _ _) ?_) | (refine wpL_loadFull rfl rfl rfl rowPl hH.h1 (u8s_size _ _) ?_) | (go_at_call 45; refine (l01Perm_any _ _ _).mono ?_; rintro e w1 ⟨rfl, hb⟩; replace hH := hH.call' hb; clear hb) | (refine wpL_build rfl rfl builtPl ?_) | (refine wpL_storeSame rfl rfl rfl rfl rowPl hH.h2 (u8s_ok _ _) ?_))
    exact ret_ct rfl rfl rfl hH.h2 rowPl (u8s_size _ _) ⟨rfl, hH.below⟩
  | true =>
    have hq : permB q n = false := by simpa [hp] using hbad
    clear hbad
    go_enter Try.func25, Try.ntmps25
    go_wp2_with (first | (refine wpL_guard rfl rfl ?_) | (refine wpL_alloc rfl rfl zeroPl ?_; intro g hg; (try simp at hg); subst hg) | (refine wpL_loadFull rfl rfl rfl rowPl hH.h0 (u8s_size _ _) ?_) | (refine wpL_loadFull rfl rfl rfl rowPl hH.h1 (u8s_size _ _) ?_) | (go_at_call 45; refine (l01Perm_any _ _ _).mono ?_; rintro e w1 ⟨rfl, hb⟩; replace hH := hH.call' hb; clear hb) | (refine wpL_build rfl rfl builtPl ?_) | (refine wpL_storeSame rfl rfl rfl rfl rowPl hH.h2 (u8s_ok _ _) ?_))
    exact ret_ct rfl rfl rfl hH.h2 rowPl (u8s_size _ _) ⟨rfl, hH.below⟩
set_option maxHeartbeats 1000000 in
theorem specThenPlaces_good (p q : Nat → UInt8) (n : Int) (w : World) (hp : permB p n = true) (hq : permB q n = true) :
    Calls Try.prog 25 #[.agg (u8s 10 p), .agg (u8s 10 q), .int .i64 n] w fun e w' => e = .returned (.tuple #[.agg (u8s 10 (thenF p q n.toNat)), .int .i64 0]) ∧ Below w.heap.size w w' := by
  have hH := Has.start3 w (u8s 10 p) (u8s 10 q) (u8s 10 fun _ => 0) 39 39 39
  obtain ⟨N, rfl, hP⟩ := perm_nat hp
  have H1 := hid hP
  have hN := hP.hi
  clear hP
  go_enter Try.func25, Try.ntmps25
  go_wp2_with (first | (refine wpL_guard rfl rfl ?_) | (refine wpL_alloc rfl rfl zeroPl ?_; intro g hg; (try simp at hg); subst hg) | (refine wpL_loadFull rfl rfl rfl rowPl hH.h0 (u8s_size _ _) ?_) | (refine wpL_loadFull rfl rfl rfl rowPl hH.h1 (u8s_size _ _) ?_) | (go_at_call 45; refine (l01Perm_any _ _ _).mono ?_; rintro e w1 ⟨rfl, hb⟩; replace hH := hH.call' hb; clear hb) | (go_at_call 46; refine (l01Then_any _ _ _ _ hN (fun i hi => by have := H1.out.lt i hi; omega)).mono ?_; rintro e w1 ⟨rfl, hb⟩; replace hH := hH.call' hb; clear hb) | (refine wpL_storeFull rfl rfl rfl rfl rowPl hH.h2 (u8s_size _ _) (u8s_ok _ _) ?_))
  exact ret_ct rfl rfl rfl hH.r2.h2 rowPl (u8s_size _ _) ⟨by simp, hH.r2.below⟩
set_option maxHeartbeats 1000000 in
theorem implThenPlaces_bad (p q : Nat → UInt8) (n : Int) (w : World) (hbad : (permB p n && permB q n) = false) :
    Calls Try.prog 26 #[.agg (u8s 10 p), .agg (u8s 10 q), .int .i64 n] w fun e w' => e = .returned (.tuple #[.agg (u8s 10 (fun _ => 0)), .int .i64 1]) ∧ Below w.heap.size w w' := by
  have hH := Has.start3 w (u8s 10 p) (u8s 10 q) (u8s 10 fun _ => 0) 39 39 39
  cases hp : permB p n with
  | false =>
    go_enter Try.func26, Try.ntmps26
    go_wp2_with (first | (refine wpL_guard rfl rfl ?_) | (refine wpL_alloc rfl rfl zeroPl ?_; intro g hg; (try simp at hg); subst hg) | (refine wpL_loadFull rfl rfl rfl rowPl hH.h0 (u8s_size _ _) ?_) | (refine wpL_loadFull rfl rfl rfl rowPl hH.h1 (u8s_size _ _) ?_) | (go_at_call 24; refine (IsPermutation_any _ _ _).mono ?_; rintro e w1 ⟨rfl, hb⟩; replace hH := hH.call' hb; clear hb) | (refine wpL_build rfl rfl builtPl ?_) | (refine wpL_storeSame rfl rfl rfl rfl rowPl hH.h2 (u8s_ok _ _) ?_))
    exact ret_ct rfl rfl rfl hH.h2 rowPl (u8s_size _ _) ⟨rfl, hH.below⟩
  | true =>
    have hq : permB q n = false := by simpa [hp] using hbad
    clear hbad
    go_enter Try.func26, Try.ntmps26
    go_wp2_with (first | (refine wpL_guard rfl rfl ?_) | (refine wpL_alloc rfl rfl zeroPl ?_; intro g hg; (try simp at hg); subst hg) | (refine wpL_loadFull rfl rfl rfl rowPl hH.h0 (u8s_size _ _) ?_) | (refine wpL_loadFull rfl rfl rfl rowPl hH.h1 (u8s_size _ _) ?_) | (go_at_call 24; refine (IsPermutation_any _ _ _).mono ?_; rintro e w1 ⟨rfl, hb⟩; replace hH := hH.call' hb; clear hb) | (refine wpL_build rfl rfl builtPl ?_) | (refine wpL_storeSame rfl rfl rfl rfl rowPl hH.h2 (u8s_ok _ _) ?_))
    exact ret_ct rfl rfl rfl hH.h2 rowPl (u8s_size _ _) ⟨rfl, hH.below⟩
set_option maxHeartbeats 1000000 in
theorem implThenPlaces_good (p q : Nat → UInt8) (n : Int) (w : World) (hp : permB p n = true) (hq : permB q n = true) :
    Calls Try.prog 26 #[.agg (u8s 10 p), .agg (u8s 10 q), .int .i64 n] w fun e w' => e = .returned (.tuple #[.agg (u8s 10 (thenF p q n.toNat)), .int .i64 0]) ∧ Below w.heap.size w w' := by
  have hH := Has.start3 w (u8s 10 p) (u8s 10 q) (u8s 10 fun _ => 0) 39 39 39
  obtain ⟨N, rfl, hP⟩ := perm_nat hp
  have H1 := hid hP
  have hN := hP.hi
  clear hP
  go_enter Try.func26, Try.ntmps26
  go_wp2_with (first | (refine wpL_guard rfl rfl ?_) | (refine wpL_alloc rfl rfl zeroPl ?_; intro g hg; (try simp at hg); subst hg) | (refine wpL_loadFull rfl rfl rfl rowPl hH.h0 (u8s_size _ _) ?_) | (refine wpL_loadFull rfl rfl rfl rowPl hH.h1 (u8s_size _ _) ?_) | (go_at_call 24; refine (IsPermutation_any _ _ _).mono ?_; rintro e w1 ⟨rfl, hb⟩; replace hH := hH.call' hb; clear hb) | (go_at_call 47; refine (thenOf_any _ _ _ _ hN (fun i hi => by have := H1.out.lt i hi; omega)).mono ?_; rintro e w1 ⟨rfl, hb⟩; replace hH := hH.call' hb; clear hb) | (refine wpL_storeFull rfl rfl rfl rfl rowPl hH.h2 (u8s_size _ _) (u8s_ok _ _) ?_))
  exact ret_ct rfl rfl rfl hH.r2.h2 rowPl (u8s_size _ _) ⟨by simp, hH.r2.below⟩
set_option maxHeartbeats 1000000 in
theorem specBackPlaces_bad (p : Nat → UInt8) (n : Int) (w : World) (hbad : (permB p n) = false) :
    Calls Try.prog 28 #[.agg (u8s 10 p), .int .i64 n] w fun e w' => e = .returned (.tuple #[.agg (u8s 10 (fun _ => 0)), .int .i64 1]) ∧ Below w.heap.size w w' := by
  have hH := Has.start2 w (u8s 10 p) (u8s 10 fun _ => 0) 39 39
  go_enter Try.func28, Try.ntmps28
  go_wp2_with (first | (refine wpL_guard rfl rfl ?_) | (refine wpL_alloc rfl rfl zeroPl ?_; intro g hg; (try simp at hg); subst hg) | (refine wpL_loadFull rfl rfl rfl rowPl hH.h0 (u8s_size _ _) ?_) | (go_at_call 45; refine (l01Perm_any _ _ _).mono ?_; rintro e w1 ⟨rfl, hb⟩; replace hH := hH.call' hb; clear hb) | (refine wpL_build rfl rfl builtPl ?_) | (refine wpL_storeSame rfl rfl rfl rfl rowPl hH.h1 (u8s_ok _ _) ?_))
  exact ret_ct rfl rfl rfl hH.h1 rowPl (u8s_size _ _) ⟨rfl, hH.below⟩
set_option maxHeartbeats 1000000 in
theorem specBackPlaces_good (p : Nat → UInt8) (n : Int) (w : World) (hp : permB p n = true) :
    Calls Try.prog 28 #[.agg (u8s 10 p), .int .i64 n] w fun e w' => e = .returned (.tuple #[.agg (u8s 10 (backF p n.toNat)), .int .i64 0]) ∧ Below w.heap.size w w' := by
  have hH := Has.start2 w (u8s 10 p) (u8s 10 fun _ => 0) 39 39
  obtain ⟨N, rfl, hP⟩ := perm_nat hp
  have H1 := hid hP
  have hN := hP.hi
  clear hP
  go_enter Try.func28, Try.ntmps28
  go_wp2_with (first | (refine wpL_guard rfl rfl ?_) | (refine wpL_alloc rfl rfl zeroPl ?_; intro g hg; (try simp at hg); subst hg) | (refine wpL_loadFull rfl rfl rfl rowPl hH.h0 (u8s_size _ _) ?_) | (go_at_call 45; refine (l01Perm_any _ _ _).mono ?_; rintro e w1 ⟨rfl, hb⟩; replace hH := hH.call' hb; clear hb) | (go_at_call 48; refine (l01Back_any _ _ _ hN (fun i hi => by have := H1.out.lt i hi; omega)).mono ?_; rintro e w1 ⟨rfl, hb⟩; replace hH := hH.call' hb; clear hb) | (refine wpL_storeFull rfl rfl rfl rfl rowPl hH.h1 (u8s_size _ _) (u8s_ok _ _) ?_))
  exact ret_ct rfl rfl rfl hH.r1.h1 rowPl (u8s_size _ _) ⟨by simp, hH.r1.below⟩
set_option maxHeartbeats 1000000 in
theorem implBackPlaces_bad (p : Nat → UInt8) (n : Int) (w : World) (hbad : (permB p n) = false) :
    Calls Try.prog 29 #[.agg (u8s 10 p), .int .i64 n] w fun e w' => e = .returned (.tuple #[.agg (u8s 10 (fun _ => 0)), .int .i64 1]) ∧ Below w.heap.size w w' := by
  have hH := Has.start2 w (u8s 10 p) (u8s 10 fun _ => 0) 39 39
  go_enter Try.func29, Try.ntmps29
  go_wp2_with (first | (refine wpL_guard rfl rfl ?_) | (refine wpL_alloc rfl rfl zeroPl ?_; intro g hg; (try simp at hg); subst hg) | (refine wpL_loadFull rfl rfl rfl rowPl hH.h0 (u8s_size _ _) ?_) | (go_at_call 24; refine (IsPermutation_any _ _ _).mono ?_; rintro e w1 ⟨rfl, hb⟩; replace hH := hH.call' hb; clear hb) | (refine wpL_build rfl rfl builtPl ?_) | (refine wpL_storeSame rfl rfl rfl rfl rowPl hH.h1 (u8s_ok _ _) ?_))
  exact ret_ct rfl rfl rfl hH.h1 rowPl (u8s_size _ _) ⟨rfl, hH.below⟩
set_option maxHeartbeats 1000000 in
theorem implBackPlaces_good (p : Nat → UInt8) (n : Int) (w : World) (hp : permB p n = true) :
    Calls Try.prog 29 #[.agg (u8s 10 p), .int .i64 n] w fun e w' => e = .returned (.tuple #[.agg (u8s 10 (backF p n.toNat)), .int .i64 0]) ∧ Below w.heap.size w w' := by
  have hH := Has.start2 w (u8s 10 p) (u8s 10 fun _ => 0) 39 39
  obtain ⟨N, rfl, hP⟩ := perm_nat hp
  have H1 := hid hP
  have hN := hP.hi
  clear hP
  go_enter Try.func29, Try.ntmps29
  go_wp2_with (first | (refine wpL_guard rfl rfl ?_) | (refine wpL_alloc rfl rfl zeroPl ?_; intro g hg; (try simp at hg); subst hg) | (refine wpL_loadFull rfl rfl rfl rowPl hH.h0 (u8s_size _ _) ?_) | (go_at_call 24; refine (IsPermutation_any _ _ _).mono ?_; rintro e w1 ⟨rfl, hb⟩; replace hH := hH.call' hb; clear hb) | (go_at_call 49; refine (backOf_any _ _ _ hN (fun i hi => by have := H1.out.lt i hi; omega)).mono ?_; rintro e w1 ⟨rfl, hb⟩; replace hH := hH.call' hb; clear hb) | (refine wpL_storeFull rfl rfl rfl rfl rowPl hH.h1 (u8s_size _ _) (u8s_ok _ _) ?_))
  exact ret_ct rfl rfl rfl hH.r1.h1 rowPl (u8s_size _ _) ⟨by simp, hH.r1.below⟩
end Go.Proofs.Ytfaijmmajcmaoab
