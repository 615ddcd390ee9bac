/- Proved: what ThenTriples and BackTriple return, of program and model alike. Conditions: none. -/
import Derived.Test.YtcmedefgpiegbabTt
namespace Go.Proofs.Ytcmedefgpiegbab
open Go.RowKit
set_option maxRecDepth 20000 in
set_option maxHeartbeats 2000000 in
theorem specThenTriples_bad (s t : Nat → UInt8) (n : Int) (w : World) (hbad : (triB s n && triB t n) = false) :
    Calls Try.prog 18 #[.agg (u8s 30 s), .agg (u8s 30 t), .int .i64 n] w fun e w' => e = .returned (.tuple #[.agg (u8s 30 fun _ => 0), .int .i64 1]) ∧ Below w.heap.size w w' := by
  have hH := Has.start3 w (u8s 30 s) (u8s 30 t) (u8s 30 fun _ => 0) 28 28 28
  cases hs : triB s n with
  | false =>
    go_enter Try.func18, Try.ntmps18
    go_wp2_with (first | (refine wpL_guard rfl rfl ?_) | (refine wpL_alloc rfl rfl zeroTr ?_; intro g hg; (try simp at hg); subst hg) | (refine wpL_loadFull rfl rfl rfl rowTr hH.h0 (u8s_size _ _) ?_) | (refine wpL_loadFull rfl rfl rfl rowTr hH.h1 (u8s_size _ _) ?_) | (go_at_call 53; refine (l02Is_any _ _ _).mono ?_; rintro e w2 ⟨rfl, hb⟩; replace hH := hH.call' hb; clear hb; (first | rw [hs] | rw [ht])) | (refine wpL_build rfl rfl builtTr ?_) | (refine wpL_storeSame rfl rfl rfl rfl rowTr hH.h2 (u8s_ok _ _) ?_))
    exact ret_ct rfl rfl rfl hH.h2 rowTr (u8s_size _ _) ⟨rfl, hH.below⟩
  | true =>
    have ht : triB t n = false := by simpa [hs] using hbad
    clear hbad
    go_enter Try.func18, Try.ntmps18
    go_wp2_with (first | (refine wpL_guard rfl rfl ?_) | (refine wpL_alloc rfl rfl zeroTr ?_; intro g hg; (try simp at hg); subst hg) | (refine wpL_loadFull rfl rfl rfl rowTr hH.h0 (u8s_size _ _) ?_) | (refine wpL_loadFull rfl rfl rfl rowTr hH.h1 (u8s_size _ _) ?_) | (go_at_call 53; refine (l02Is_any _ _ _).mono ?_; rintro e w2 ⟨rfl, hb⟩; replace hH := hH.call' hb; clear hb; (first | rw [hs] | rw [ht])) | (refine wpL_build rfl rfl builtTr ?_) | (refine wpL_storeSame rfl rfl rfl rfl rowTr hH.h2 (u8s_ok _ _) ?_))
    exact ret_ct rfl rfl rfl hH.h2 rowTr (u8s_size _ _) ⟨rfl, hH.below⟩
set_option maxRecDepth 20000 in
set_option maxHeartbeats 2000000 in
theorem specThenTriples_good (s t : Nat → UInt8) (N : Nat) (w : World) (hs : triB s (N : Int) = true) (ht : triB t (N : Int) = true) (hS : IsTri s N) :
    Calls Try.prog 18 #[.agg (u8s 30 s), .agg (u8s 30 t), .int .i64 N] w fun e w' => e = .returned (.tuple #[.agg (u8s 30 (thenT s t N)), .int .i64 0]) ∧ Below w.heap.size w w' := by
  have hH := Has.start3 w (u8s 30 s) (u8s 30 t) (u8s 30 fun _ => 0) 28 28 28
  have HS := hid hS; clear hS
  go_enter Try.func18, Try.ntmps18
  go_wp2_with (first | (refine wpL_guard rfl rfl ?_) | (refine wpL_alloc rfl rfl zeroTr ?_; intro g hg; (try simp at hg); subst hg) | (refine wpL_loadFull rfl rfl rfl rowTr hH.h0 (u8s_size _ _) ?_) | (refine wpL_loadFull rfl rfl rfl rowTr hH.h1 (u8s_size _ _) ?_) | (go_at_call 53; refine (l02Is_any _ _ _).mono ?_; rintro e w2 ⟨rfl, hb⟩; replace hH := hH.call' hb; clear hb; (first | rw [hs] | rw [ht])) | (go_at_call 56; refine (l02Then_any s t N _ HS.out).mono ?_; rintro e w2 ⟨rfl, hb⟩; replace hH := hH.call' hb; clear hb) | (refine wpL_storeFull rfl rfl rfl rfl rowTr hH.h2 (u8s_size _ _) (u8s_ok _ _) ?_))
  exact ret_ct rfl rfl rfl hH.r2.h2 rowTr (u8s_size _ _) ⟨rfl, hH.r2.below⟩
set_option maxRecDepth 20000 in
theorem specBackTriple_bad (t : Nat → UInt8) (n : Int) (w : World) (hs : triB t n = false) :
    Calls Try.prog 21 #[.agg (u8s 30 t), .int .i64 n] w fun e w' => e = .returned (.tuple #[.agg (u8s 30 fun _ => 0), .int .i64 1]) ∧ Below w.heap.size w w' := by
  have hH := Has.start2 w (u8s 30 t) (u8s 30 fun _ => 0) 28 28
  go_enter Try.func21, Try.ntmps21
  go_wp2_with (first | (refine wpL_guard rfl rfl ?_) | (refine wpL_alloc rfl rfl zeroTr ?_; intro g hg; (try simp at hg); subst hg) | (refine wpL_loadFull rfl rfl rfl rowTr hH.h0 (u8s_size _ _) ?_) | (refine wpL_loadFull rfl rfl rfl rowTr hH.h1 (u8s_size _ _) ?_) | (go_at_call 53; refine (l02Is_any _ _ _).mono ?_; rintro e w2 ⟨rfl, hb⟩; replace hH := hH.call' hb; clear hb; (first | rw [hs] | rw [ht])) | (refine wpL_build rfl rfl builtTr ?_) | (refine wpL_storeSame rfl rfl rfl rfl rowTr hH.h1 (u8s_ok _ _) ?_))
  exact ret_ct rfl rfl rfl hH.h1 rowTr (u8s_size _ _) ⟨rfl, hH.below⟩
set_option maxRecDepth 20000 in
theorem specBackTriple_good (t : Nat → UInt8) (N : Nat) (w : World) (hs : triB t (N : Int) = true) (hS : IsTri t N) :
    Calls Try.prog 21 #[.agg (u8s 30 t), .int .i64 N] w fun e w' => e = .returned (.tuple #[.agg (u8s 30 (backT t N)), .int .i64 0]) ∧ Below w.heap.size w w' := by
  have hH := Has.start2 w (u8s 30 t) (u8s 30 fun _ => 0) 28 28
  have HS := hid hS; clear hS
  go_enter Try.func21, Try.ntmps21
  go_wp2_with (first | (refine wpL_guard rfl rfl ?_) | (refine wpL_alloc rfl rfl zeroTr ?_; intro g hg; (try simp at hg); subst hg) | (refine wpL_loadFull rfl rfl rfl rowTr hH.h0 (u8s_size _ _) ?_) | (refine wpL_loadFull rfl rfl rfl rowTr hH.h1 (u8s_size _ _) ?_) | (go_at_call 53; refine (l02Is_any _ _ _).mono ?_; rintro e w2 ⟨rfl, hb⟩; replace hH := hH.call' hb; clear hb; (first | rw [hs] | rw [ht])) | (go_at_call 58; refine (l02Back_any t N _ HS.out).mono ?_; rintro e w2 ⟨rfl, hb⟩; replace hH := hH.call' hb; clear hb) | (refine wpL_storeFull rfl rfl rfl rfl rowTr hH.h1 (u8s_size _ _) (u8s_ok _ _) ?_))
  exact ret_ct rfl rfl rfl hH.r1.h1 rowTr (u8s_size _ _) ⟨rfl, hH.r1.below⟩
set_option maxRecDepth 20000 in
set_option maxHeartbeats 2000000 in
theorem implThenTriples_bad (s t : Nat → UInt8) (n : Int) (w : World) (hbad : (triB s n && triB t n) = false) :
    Calls Try.prog 19 #[.agg (u8s 30 s), .agg (u8s 30 t), .int .i64 n] w fun e w' => e = .returned (.tuple #[.agg (u8s 30 fun _ => 0), .int .i64 1]) ∧ Below w.heap.size w w' := by
  have hH := Has.start3 w (u8s 30 s) (u8s 30 t) (u8s 30 fun _ => 0) 28 28 28
  cases hs : triB s n with
  | false =>
    go_enter Try.func19, Try.ntmps19
    go_wp2_with (first | (refine wpL_guard rfl rfl ?_) | (refine wpL_alloc rfl rfl zeroTr ?_; intro g hg; (try simp at hg); subst hg) | (refine wpL_loadFull rfl rfl rfl rowTr hH.h0 (u8s_size _ _) ?_) | (refine wpL_loadFull rfl rfl rfl rowTr hH.h1 (u8s_size _ _) ?_) | (go_at_call 17; refine (IsTriple_any _ _ _).mono ?_; rintro e w2 ⟨rfl, hb⟩; replace hH := hH.call' hb; clear hb; (first | rw [hs] | rw [ht])) | (refine wpL_build rfl rfl builtTr ?_) | (refine wpL_storeSame rfl rfl rfl rfl rowTr hH.h2 (u8s_ok _ _) ?_))
    exact ret_ct rfl rfl rfl hH.h2 rowTr (u8s_size _ _) ⟨rfl, hH.below⟩
  | true =>
    have ht : triB t n = false := by simpa [hs] using hbad
    clear hbad
    go_enter Try.func19, Try.ntmps19
    go_wp2_with (first | (refine wpL_guard rfl rfl ?_) | (refine wpL_alloc rfl rfl zeroTr ?_; intro g hg; (try simp at hg); subst hg) | (refine wpL_loadFull rfl rfl rfl rowTr hH.h0 (u8s_size _ _) ?_) | (refine wpL_loadFull rfl rfl rfl rowTr hH.h1 (u8s_size _ _) ?_) | (go_at_call 17; refine (IsTriple_any _ _ _).mono ?_; rintro e w2 ⟨rfl, hb⟩; replace hH := hH.call' hb; clear hb; (first | rw [hs] | rw [ht])) | (refine wpL_build rfl rfl builtTr ?_) | (refine wpL_storeSame rfl rfl rfl rfl rowTr hH.h2 (u8s_ok _ _) ?_))
    exact ret_ct rfl rfl rfl hH.h2 rowTr (u8s_size _ _) ⟨rfl, hH.below⟩
set_option maxRecDepth 20000 in
set_option maxHeartbeats 2000000 in
theorem implThenTriples_good (s t : Nat → UInt8) (N : Nat) (w : World) (hs : triB s (N : Int) = true) (ht : triB t (N : Int) = true) (hS : IsTri s N) :
    Calls Try.prog 19 #[.agg (u8s 30 s), .agg (u8s 30 t), .int .i64 N] w fun e w' => e = .returned (.tuple #[.agg (u8s 30 (thenT s t N)), .int .i64 0]) ∧ Below w.heap.size w w' := by
  have hH := Has.start3 w (u8s 30 s) (u8s 30 t) (u8s 30 fun _ => 0) 28 28 28
  have HS := hid hS; clear hS
  go_enter Try.func19, Try.ntmps19
  go_wp2_with (first | (refine wpL_guard rfl rfl ?_) | (refine wpL_alloc rfl rfl zeroTr ?_; intro g hg; (try simp at hg); subst hg) | (refine wpL_loadFull rfl rfl rfl rowTr hH.h0 (u8s_size _ _) ?_) | (refine wpL_loadFull rfl rfl rfl rowTr hH.h1 (u8s_size _ _) ?_) | (go_at_call 17; refine (IsTriple_any _ _ _).mono ?_; rintro e w2 ⟨rfl, hb⟩; replace hH := hH.call' hb; clear hb; (first | rw [hs] | rw [ht])) | (go_at_call 57; refine (joinTriples_any s t N _ HS.out).mono ?_; rintro e w2 ⟨rfl, hb⟩; replace hH := hH.call' hb; clear hb) | (refine wpL_storeFull rfl rfl rfl rfl rowTr hH.h2 (u8s_size _ _) (u8s_ok _ _) ?_))
  exact ret_ct rfl rfl rfl hH.r2.h2 rowTr (u8s_size _ _) ⟨rfl, hH.r2.below⟩
set_option maxRecDepth 20000 in
theorem implBackTriple_bad (t : Nat → UInt8) (n : Int) (w : World) (hs : triB t n = false) :
    Calls Try.prog 22 #[.agg (u8s 30 t), .int .i64 n] w fun e w' => e = .returned (.tuple #[.agg (u8s 30 fun _ => 0), .int .i64 1]) ∧ Below w.heap.size w w' := by
  have hH := Has.start2 w (u8s 30 t) (u8s 30 fun _ => 0) 28 28
  go_enter Try.func22, Try.ntmps22
  go_wp2_with (first | (refine wpL_guard rfl rfl ?_) | (refine wpL_alloc rfl rfl zeroTr ?_; intro g hg; (try simp at hg); subst hg) | (refine wpL_loadFull rfl rfl rfl rowTr hH.h0 (u8s_size _ _) ?_) | (refine wpL_loadFull rfl rfl rfl rowTr hH.h1 (u8s_size _ _) ?_) | (go_at_call 17; refine (IsTriple_any _ _ _).mono ?_; rintro e w2 ⟨rfl, hb⟩; replace hH := hH.call' hb; clear hb; (first | rw [hs] | rw [ht])) | (refine wpL_build rfl rfl builtTr ?_) | (refine wpL_storeSame rfl rfl rfl rfl rowTr hH.h1 (u8s_ok _ _) ?_))
  exact ret_ct rfl rfl rfl hH.h1 rowTr (u8s_size _ _) ⟨rfl, hH.below⟩
set_option maxRecDepth 20000 in
theorem implBackTriple_good (t : Nat → UInt8) (N : Nat) (w : World) (hs : triB t (N : Int) = true) (hS : IsTri t N) :
    Calls Try.prog 22 #[.agg (u8s 30 t), .int .i64 N] w fun e w' => e = .returned (.tuple #[.agg (u8s 30 (backT t N)), .int .i64 0]) ∧ Below w.heap.size w w' := by
  have hH := Has.start2 w (u8s 30 t) (u8s 30 fun _ => 0) 28 28
  have HS := hid hS; clear hS
  go_enter Try.func22, Try.ntmps22
  go_wp2_with (first | (refine wpL_guard rfl rfl ?_) | (refine wpL_alloc rfl rfl zeroTr ?_; intro g hg; (try simp at hg); subst hg) | (refine wpL_loadFull rfl rfl rfl rowTr hH.h0 (u8s_size _ _) ?_) | (refine wpL_loadFull rfl rfl rfl rowTr hH.h1 (u8s_size _ _) ?_) | (go_at_call 17; refine (IsTriple_any _ _ _).mono ?_; rintro e w2 ⟨rfl, hb⟩; replace hH := hH.call' hb; clear hb; (first | rw [hs] | rw [ht])) | (go_at_call 59; refine (turnTriple_any t N _ HS.out).mono ?_; rintro e w2 ⟨rfl, hb⟩; replace hH := hH.call' hb; clear hb) | (refine wpL_storeFull rfl rfl rfl rfl rowTr hH.h1 (u8s_size _ _) (u8s_ok _ _) ?_))
  exact ret_ct rfl rfl rfl hH.r1.h1 rowTr (u8s_size _ _) ⟨rfl, hH.r1.below⟩
end Go.Proofs.Ytcmedefgpiegbab
