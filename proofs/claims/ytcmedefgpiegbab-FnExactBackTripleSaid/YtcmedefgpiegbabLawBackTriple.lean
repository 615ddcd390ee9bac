/- Proved: the law FnExactBackTriple returns true, and old memory is left alone, where program and model return the same. Conditions: those that the theorem names. -/
import Derived.Test.YtcmedefgpiegbabTr2
import Derived.Test.YtcmedefgpiegbabTu
import Derived.Test.YtcmedefgpiegbabReg
namespace Go.Proofs.Ytcmedefgpiegbab
open Go.RowKit
set_option maxRecDepth 20000 in
set_option maxHeartbeats 2000000 in
theorem lawBackTriple_by (a0 : Nat → UInt8) (a1 : Int) (r0 : Nat → UInt8) (r1 : Int) (w : World)
    (hS : Hid (∀ w, Calls Try.prog 21 #[.agg (u8s 30 a0), .int .i64 a1] w fun e w' => e = .returned (.tuple #[.agg (u8s 30 r0), .int .i64 r1]) ∧ Below w.heap.size w w'))
    (hT : Hid (∀ w, Calls Try.prog 22 #[.agg (u8s 30 a0), .int .i64 a1] w fun e w' => e = .returned (.tuple #[.agg (u8s 30 r0), .int .i64 r1]) ∧ Below w.heap.size w w'))
    : Calls Try.prog 5 #[.agg (u8s 30 a0), .int .i64 a1] w fun e w' => e = .returned (.bool true) ∧ Below w.heap.size w w' := by
  have hH := Has.start1 w (u8s 30 a0) 24
  go_enter Try.func5, Try.ntmps5
  go_wp2_with (first | fail | (refine wpL_loadFull rfl rfl rfl rowTl hH.h0 (u8s_size _ _) ?_) | (go_at_call 16; refine (toTriple_any _ _).mono ?_; rintro e w2 ⟨rfl, hb⟩; replace hH := hH.call' hb; (try replace hg5 := holds_below hg5 hb (holds_lt hg5)); (try replace hg7 := holds_below hg7 hb (holds_lt hg7)); clear hb) | (go_at_call 21; refine (hS.out _).mono ?_; rintro e w2 ⟨rfl, hb⟩; replace hH := hH.call' hb; (try replace hg5 := holds_below hg5 hb (holds_lt hg5)); (try replace hg7 := holds_below hg7 hb (holds_lt hg7)); clear hb) | (go_at_call 22; refine (hT.out _).mono ?_; rintro e w2 ⟨rfl, hb⟩; replace hH := hH.call' hb; (try replace hg5 := holds_below hg5 hb (holds_lt hg5)); (try replace hg7 := holds_below hg7 hb (holds_lt hg7)); clear hb) | (go_at_call 20; refine (eqTriple_self _ _).mono ?_; rintro e w2 ⟨rfl, hb⟩; replace hH := hH.call' hb; (try replace hg5 := holds_below hg5 hb (holds_lt hg5)); (try replace hg7 := holds_below hg7 hb (holds_lt hg7)); clear hb) | (refine wpL_loadFull (x := .tmp 5) rfl rfl rfl rowTr hg5 (u8s_size _ _) ?_) | (refine wpL_loadFull (x := .tmp 7) rfl rfl rfl rowTr hg7 (u8s_size _ _) ?_) | (refine wpL_allocN (o := ⟨some 5, _, _, _, _, _⟩) rfl rfl zeroTr ?_; intro g5 w2 hg5 hl hb; have hb5 : w.heap.size + 1 ≤ g5 := (by have := hH.size; simp only [List.length_cons, List.length_nil] at this; omega); replace hH := hH.call' hb; (try replace hg7 := holds_below hg7 hb (holds_lt hg7)); clear hb hl) | (refine wpL_storeN (x := .tmp 5) rfl rfl rfl rfl rowTr hg5 (u8s_size _ _) (u8s_ok _ _) ?_; intro w2 hz hO hT; (try replace hg7 := hO _ _ _ (by omega) hg7); replace hg5 := hz; replace hH := hT _ _ hH hb5; clear hz hO hT) | (refine wpL_allocN (o := ⟨some 7, _, _, _, _, _⟩) rfl rfl zeroTr ?_; intro g7 w2 hg7 hl hb; have hb7 : w.heap.size + 1 ≤ g7 := (by have := hH.size; simp only [List.length_cons, List.length_nil] at this; omega); (try have hn5_7 : g5 ≠ g7 := (by have := holds_lt hg5; omega)); replace hH := hH.call' hb; (try replace hg5 := holds_below hg5 hb (holds_lt hg5)); clear hb hl) | (refine wpL_storeN (x := .tmp 7) rfl rfl rfl rfl rowTr hg7 (u8s_size _ _) (u8s_ok _ _) ?_; intro w2 hz hO hT; (try replace hg5 := hO _ _ _ (by omega) hg5); replace hg7 := hz; replace hH := hT _ _ hH hb7; clear hz hO hT))
  go_ret
  exact ⟨rfl, hH.below⟩
theorem lawBackTriple_any (t : Nat → UInt8) (n : Int) (_ : (Lit.int .i64 n).wf = true) (w : World) : Calls Try.prog 5 #[.agg (u8s 30 t), .int .i64 n] w fun e w' => e = .returned (.bool true) ∧ Below w.heap.size w w' := by
  cases h : triB t n with
  | true =>
    obtain ⟨N, rfl, hS⟩ := triB_true.1 h
    exact lawBackTriple_by t N _ _ w (hid fun w => specBackTriple_good t N w h hS) (hid fun w => implBackTriple_good t N w h hS)
  | false => exact lawBackTriple_by t n _ _ w (hid fun w => specBackTriple_bad t n w h) (hid fun w => implBackTriple_bad t n w h)
end Go.Proofs.Ytcmedefgpiegbab
