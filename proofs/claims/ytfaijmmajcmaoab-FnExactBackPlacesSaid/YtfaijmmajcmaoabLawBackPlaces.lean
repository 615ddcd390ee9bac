/- Proved: the law FnExactBackPlaces returns true, and old memory is left alone, where program and model return the same. Conditions: those that the theorem names. -/
import Derived.Test.YtfaijmmajcmaoabPl4
import Derived.Test.YtfaijmmajcmaoabReg
namespace Go.Proofs.Ytfaijmmajcmaoab
open Go.RowKit
set_option maxHeartbeats 2000000 in
theorem lawBackPlaces_by (a0 : Nat → UInt8) (a1 : Int) (r0 : Nat → UInt8) (r1 : Int) (w : World)
    (hS : Hid (∀ w, Calls Try.prog 28 #[.agg (u8s 10 a0), .int .i64 a1] w fun e w' => e = .returned (.tuple #[.agg (u8s 10 r0), .int .i64 r1]) ∧ Below w.heap.size w w'))
    (hT : Hid (∀ w, Calls Try.prog 29 #[.agg (u8s 10 a0), .int .i64 a1] w fun e w' => e = .returned (.tuple #[.agg (u8s 10 r0), .int .i64 r1]) ∧ Below w.heap.size w w'))
    : Calls Try.prog 9 #[.agg (u8s 10 a0), .int .i64 a1] w fun e w' => e = .returned (.bool true) ∧ Below w.heap.size w w' := by
  have hH := Has.start1 w (u8s 10 a0) 22
  go_enter Try.func9, Try.ntmps9
  go_wp2_with (first | fail | (refine wpL_loadFull rfl rfl rfl rowB10 hH.h0 (u8s_size _ _) ?_) | (go_at_call 23; refine (toPlaces_any _ _).mono ?_; rintro e w2 ⟨rfl, hb⟩; replace hH := hH.call' hb; (try replace hg5 := holds_below hg5 hb (holds_lt hg5)); (try replace hg7 := holds_below hg7 hb (holds_lt hg7)); clear hb) | (go_at_call 28; refine (hS.out _).mono ?_; rintro e w2 ⟨rfl, hb⟩; replace hH := hH.call' hb; (try replace hg5 := holds_below hg5 hb (holds_lt hg5)); (try replace hg7 := holds_below hg7 hb (holds_lt hg7)); clear hb) | (go_at_call 29; refine (hT.out _).mono ?_; rintro e w2 ⟨rfl, hb⟩; replace hH := hH.call' hb; (try replace hg5 := holds_below hg5 hb (holds_lt hg5)); (try replace hg7 := holds_below hg7 hb (holds_lt hg7)); clear hb) | (go_at_call 27; refine (eqPlaces_self _ _).mono ?_; rintro e w2 ⟨rfl, hb⟩; replace hH := hH.call' hb; (try replace hg5 := holds_below hg5 hb (holds_lt hg5)); (try replace hg7 := holds_below hg7 hb (holds_lt hg7)); clear hb) | (refine wpL_loadFull (x := .tmp 5) rfl rfl rfl rowPl hg5 (u8s_size _ _) ?_) | (refine wpL_loadFull (x := .tmp 7) rfl rfl rfl rowPl hg7 (u8s_size _ _) ?_) | (refine wpL_allocN (o := ⟨some 5, _, _, _, _, _⟩) rfl rfl zeroPl ?_; intro g5 w2 hg5 hl hb; have hb5 : w.heap.size + 1 ≤ g5 := (by have := hH.size; simp only [List.length_cons, List.length_nil] at this; omega); replace hH := hH.call' hb; (try replace hg7 := holds_below hg7 hb (holds_lt hg7)); clear hb hl) | (refine wpL_storeN (x := .tmp 5) rfl rfl rfl rfl rowPl hg5 (u8s_size _ _) (u8s_ok _ _) ?_; intro w2 hz hO hT; (try replace hg7 := hO _ _ _ (by omega) hg7); replace hg5 := hz; replace hH := hT _ _ hH hb5; clear hz hO hT) | (refine wpL_allocN (o := ⟨some 7, _, _, _, _, _⟩) rfl rfl zeroPl ?_; intro g7 w2 hg7 hl hb; have hb7 : w.heap.size + 1 ≤ g7 := (by have := hH.size; simp only [List.length_cons, List.length_nil] at this; omega); (try have hn5_7 : g5 ≠ g7 := (by have := holds_lt hg5; omega)); replace hH := hH.call' hb; (try replace hg5 := holds_below hg5 hb (holds_lt hg5)); clear hb hl) | (refine wpL_storeN (x := .tmp 7) rfl rfl rfl rfl rowPl hg7 (u8s_size _ _) (u8s_ok _ _) ?_; intro w2 hz hO hT; (try replace hg5 := hO _ _ _ (by omega) hg5); replace hg7 := hz; replace hH := hT _ _ hH hb7; clear hz hO hT))
  go_ret
  exact ⟨rfl, hH.below⟩
theorem lawBackPlaces_any (p : Nat → UInt8) (n : Int) (_ : (Lit.int .i64 n).wf = true) (w : World) : Calls Try.prog 9 #[.agg (u8s 10 p), .int .i64 n] w fun e w' => e = .returned (.bool true) ∧ Below w.heap.size w w' := by
  cases h : permB p n with
  | true => exact lawBackPlaces_by p n _ _ w (hid fun w => specBackPlaces_good p n w h) (hid fun w => implBackPlaces_good p n w h)
  | false => exact lawBackPlaces_by p n _ _ w (hid fun w => specBackPlaces_bad p n w h) (hid fun w => implBackPlaces_bad p n w h)
end Go.Proofs.Ytfaijmmajcmaoab
