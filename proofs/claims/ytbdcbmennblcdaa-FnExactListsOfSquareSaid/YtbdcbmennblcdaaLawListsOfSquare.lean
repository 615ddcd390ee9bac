/- Proved: the law FnExactListsOfSquare returns true, and old memory is left alone. Conditions: none. -/
import Derived.Test.YtbdcbmennblcdaaIl5
import Derived.Test.YtbdcbmennblcdaaTo2
namespace Go.Proofs.Ytbdcbmennblcdaa
set_option linter.unusedVariables false
set_option linter.unusedSimpArgs false
open Go.RowKit
theorem eqInt64SS_nil (w : World) : Calls Try.prog 18 #[.slice none 0 0, .slice none 0 0] w fun e w' => e = .returned (.bool true) ∧ w = w' := by
  go_enter Try.func18, Try.ntmps18
  go_wp2
  go_loop [5] (fun i => i = .int .i64 0) (fun _ => 0)
  case atStart => rfl
  case round =>
    subst hrel
    go_wp2
    go_ret
    exact ⟨rfl, rfl⟩
theorem markInt64SS_nil (w : World) : Calls Try.prog 19 #[.slice none 0 0, .int .i64 1] w fun e w' => e = .returned (.int .i64 1) ∧ w = w' := by
  go_enter Try.func19, Try.ntmps19
  go_wp2
  go_loop [1, 5] (fun m i => m = .int .i64 1 ∧ i = .int .i64 0) (fun _ _ => 0)
  case atStart => exact ⟨rfl, rfl⟩
  case round =>
    obtain ⟨rfl, rfl⟩ := hrel
    go_wp2
    go_ret
    exact ⟨rfl, rfl⟩
theorem heldInt64SS_nil (w : World) : Calls Try.prog 20 #[.slice none 0 0, .int .i64 1] w fun e w' => e = .returned (.int .i64 1) ∧ w = w' := by
  go_enter Try.func20, Try.ntmps20
  go_wp2
  go_loop [1, 5] (fun m i => m = .int .i64 1 ∧ i = .int .i64 0) (fun _ _ => 0)
  case atStart => exact ⟨rfl, rfl⟩
  case round =>
    obtain ⟨rfl, rfl⟩ := hrel
    go_wp2
    go_ret
    exact ⟨rfl, rfl⟩
set_option maxRecDepth 20000 in
set_option maxHeartbeats 2000000 in
theorem lawListsOfSquare_no (o : Int) (g : Nat → UInt8) (w : World) (hs : sqB o g = false) : Calls Try.prog 3 #[.agg (sqc o g)] w fun e w' => e = .returned (.bool true) ∧ Below w.heap.size w w' := by
  have hH := Has.start1 w (sqc o g) 25
  go_enter Try.func3, Try.ntmps3
  go_wp2_with (first | (refine wpL_guard rfl rfl ?_) | (refine wpL_loadFull rfl rfl rfl rowSl hH.h0 (sqc_size _ _) ?_) | (go_at_call 16; refine (toSquare_any _ _ _).mono ?_; rintro e w2 ⟨rfl, hb⟩; replace hH := hH.call' hb; clear hb) | (go_at_call 15; refine (specListsOfSquare_no o g _ hs).mono ?_; rintro e w2 ⟨rfl, hb⟩; replace hH := hH.call' hb; clear hb) | (go_at_call 17; refine (implListsOfSquare_no o g _ hs).mono ?_; rintro e w2 ⟨rfl, hb⟩; replace hH := hH.call' hb; clear hb) | (go_at_call 18; refine (eqInt64SS_nil _).mono ?_; rintro e w2 ⟨rfl, rfl⟩) | (go_at_call 19; refine (markInt64SS_nil _).mono ?_; rintro e w2 ⟨rfl, rfl⟩) | (go_at_call 20; refine (heldInt64SS_nil _).mono ?_; rintro e w2 ⟨rfl, rfl⟩))
  go_ret
  exact ⟨rfl, hH.below⟩
theorem SS.low {w w' : World} {bo n L B : Nat} {b : Nat → Nat} {f : Nat → Nat → Int} (h : SS w bo b n L f) (h1 : bo < B) (h2 : ∀ j, j < n → b j < B) (hb : Below B w w') : SS w' bo b n L f := by
  obtain ⟨cs, e1, e2⟩ := h.outer
  exact ⟨⟨cs, by show w'.heap[bo]? = _; rw [hb.block bo h1]; exact e1, e2⟩, fun j hj => (h.inner j hj).block (hb.block _ (h2 j hj)), h.ne, h.inj⟩
theorem markSq (bo N M c : Nat) (b : Nat → Nat) (f : Nat → Nat → Int) (w : World) (hM : N * N = M) (hn : N ≤ 10) (h : SS w bo b N N f) (B : Nat) (hB : ∀ j, j < N → B ≤ b j) (hS : B ≤ w.heap.size) :
    Calls Try.prog 19 #[.slice (some ⟨bo, 0, none⟩) N c, .int .i64 1] w fun e w' => e = .returned (.int .i64 (1 + (M : Int))) ∧ Below B w w' ∧ SS w' bo b N N (fun j i => 1 + ((j * N : Nat) : Int) + i) := by
  rw [← hM]; exact markInt64SS_any bo N N c b 1 f w (by omega) (by omega) (by omega) (by omega) h B hB hS
theorem heldSq (bo N M c : Nat) (b : Nat → Nat) (w : World) (hM : N * N = M) (hn : N ≤ 10) (h : SS w bo b N N (fun j i => 1 + ((j * N : Nat) : Int) + i)) :
    Calls Try.prog 20 #[.slice (some ⟨bo, 0, none⟩) N c, .int .i64 1] w fun e w' => e = .returned (.int .i64 (1 + (M : Int))) ∧ w = w' := by
  rw [← hM]; exact heldInt64SS_yes bo N N c b 1 _ w (by omega) (by omega) (by omega) (by omega) h (fun j hj i hi => rfl)
set_option maxRecDepth 20000 in
set_option maxHeartbeats 4000000 in
theorem lawListsOfSquare_yes (N : Nat) (g : Nat → UInt8) (w : World) (hs : sqB (N : Int) g = true) : Calls Try.prog 3 #[.agg (sqc N g)] w fun e w' => e = .returned (.bool true) ∧ Below w.heap.size w w' := by
  have h1 : 1 ≤ N := by have := sqB_range hs; omega
  have h10 : N ≤ 10 := by have := sqB_range hs; omega
  obtain ⟨M, hM⟩ : ∃ M, N * N = M := ⟨_, rfl⟩
  have hM0 : M ≤ 100 := by rw [← hM]; exact Nat.mul_le_mul h10 h10
  have HM := hid hM
  clear hM
  have hH := Has.start1 w (sqc N g) 25
  go_enter Try.func3, Try.ntmps3
  go_wp2_with (first | fail | (refine wpL_loadFull rfl rfl rfl rowSl hH.h0 (sqc_size _ _) ?_) | (go_at_call 16; refine (toSquare_any _ _ _).mono ?_; rintro e w2 ⟨rfl, hb⟩; replace hH := hH.call' hb; (try replace HS0 := hid (HS0.out.below hb)); clear hb) | (go_at_call 15; refine (specListsOfSquare_yes N g _ hs).mono ?_; rintro e w3 ⟨b0, c0, f0, rfl, hb, hS0, ho0, hi0⟩; replace hH := hH.call' hb; have HS0 := hid hS0; clear hb hS0 ho0 hi0))
  go_wp2_with (first | fail | (go_at_call 17; refine (implListsOfSquare_yes N g _ hs).mono ?_; rintro e w5 ⟨b1, c1, f1, rfl, hb, hS1, ho1, hi1⟩; have HL0 := hid HS0.out.lt; have HI0 := hid (fun j (hj : j < N) => (HS0.out.inner j hj).lt); have hsz := hH.size; have hs45 := hb.size; replace hH := hH.call' hb; replace HS0 := hid (HS0.out.below hb); have HS1 := hid hS1; have HI1 := hid hi1; clear hb hS1 ho1 hi1))
  go_wp2_with (first | fail | (refine wpL_guard rfl rfl ?_) | (go_at_call 18; refine (eqInt64SS_same b1 b0 N N c1 c0 f1 f0 _ _ (by omega) (by omega) HS1.out HS0.out).mono ?_; rintro e w6 ⟨rfl, hb⟩; have hs56 := hb.size; replace hH := hH.call' hb; replace HS0 := hid (HS0.out.below hb); replace HS1 := hid (HS1.out.below hb); clear hb))
  go_wp2_with (first | fail | (go_at_call 19; refine (markSq b1 N M c1 f1 _ _ HM.out h10 HS1.out w2.heap.size HI1.out (by omega)).mono ?_; rintro e w7 ⟨rfl, hb, hS1⟩; replace hH := hH.call hb hsz; replace HS0 := hid (HS0.out.low HL0.out HI0.out hb); clear HS1; have HS1 := hid hS1; clear hb hS1))
  go_wp2_with (first | fail | (refine wpL_loadFull rfl rfl rfl rowSl hH.h0 (sqc_size _ _) ?_) | (go_at_call 20; refine (heldSq b1 N M c1 f1 _ HM.out h10 HS1.out).mono ?_; rintro e w8 ⟨rfl, rfl⟩))
  go_wp2_with (first | fail | (refine wpL_loadFull rfl rfl rfl rowSl hH.h0 (sqc_size _ _) ?_) | (go_at_call 16; refine (toSquare_any _ _ _).mono ?_; rintro e w9 ⟨rfl, hb⟩; replace hH := hH.call' hb; replace HS0 := hid (HS0.out.below hb); replace HS1 := hid (HS1.out.below hb); clear hb) | (go_at_call 17; refine (implListsOfSquare_yes N g _ hs).mono ?_; rintro e w10 ⟨b2, c2, f2, rfl, hb, hS2, ho2, hi2⟩; replace hH := hH.call' hb; replace HS0 := hid (HS0.out.below hb); replace HS1 := hid (HS1.out.below hb); have HS2 := hid hS2; clear hb hS2 ho2 hi2))
  go_wp2_with (first | fail | (refine wpL_guard rfl rfl ?_) | (go_at_call 18; refine (eqInt64SS_same b2 b0 N N c2 c0 f2 f0 _ _ (by omega) (by omega) HS2.out HS0.out).mono ?_; rintro e w11 ⟨rfl, hb⟩; replace hH := hH.call' hb; replace HS1 := hid (HS1.out.below hb); clear hb HS0 HS2))
  go_wp2_with (first | fail | (go_at_call 20; refine (heldSq b1 N M c1 f1 _ HM.out h10 HS1.out).mono ?_; rintro e w12 ⟨rfl, rfl⟩))
  go_ret
  exact ⟨rfl, hH.below⟩
theorem lawListsOfSquare_any (o : Int) (g : Nat → UInt8) (_ : (Lit.int .i64 o).wf = true) (w : World) : Calls Try.prog 3 #[.agg (sqc o g)] w fun e w' => e = .returned (.bool true) ∧ Below w.heap.size w w' := by
  cases hs : sqB o g with
  | false => exact lawListsOfSquare_no o g w hs
  | true =>
    obtain ⟨N, rfl, _⟩ := sqB_true.1 hs
    exact lawListsOfSquare_yes N g w hs
end Go.Proofs.Ytbdcbmennblcdaa
