/- Proved: the law FnExactColumnMap returns true, and old memory is left alone, where program and model return the same. Conditions: those that the theorem names. -/
import Derived.Test.YtcmedefgpiegbaaTo2
import Derived.Test.YtcmedefgpiegbaaPl2
import Derived.Test.YtcmedefgpiegbaaQt
import Derived.Test.YtcmedefgpiegbaaQp
import Derived.Test.YtcmedefgpiegbaaReg
namespace Go.Proofs.Ytcmedefgpiegbaa
open Go.RowKit
set_option maxRecDepth 20000 in
set_option maxHeartbeats 2000000 in
theorem lawColumnMap_by (o0 : Int) (a0 : Nat → UInt8) (a1 : UInt8) (r0 : Nat → UInt8) (r1 : Int) (w : World)
    (hS : Hid (∀ w, Calls Try.prog 23 #[.agg (sqc o0 a0), .int .u8 a1.toNat] w fun e w' => e = .returned (.tuple #[.agg (u8s 10 r0), .int .i64 r1]) ∧ Below w.heap.size w w'))
    (hT : Hid (∀ w, Calls Try.prog 24 #[.agg (sqc o0 a0), .int .u8 a1.toNat] w fun e w' => e = .returned (.tuple #[.agg (u8s 10 r0), .int .i64 r1]) ∧ Below w.heap.size w w'))
    : Calls Try.prog 7 #[.agg (sqc o0 a0), .int .u8 a1.toNat] w fun e w' => e = .returned (.bool true) ∧ Below w.heap.size w w' := by
  have hH := Has.start1 w (sqc o0 a0) 25
  go_enter Try.func7, Try.ntmps7
  go_wp2_with (first | fail | (refine wpL_loadFull rfl rfl rfl rowSl hH.h0 (sqc_size _ _) ?_) | (go_at_call 14; refine (toSquare_any _ _ _).mono ?_; rintro e w2 ⟨rfl, hb⟩; replace hH := hH.call' hb; (try replace hg5 := holds_below hg5 hb (holds_lt hg5)); (try replace hg7 := holds_below hg7 hb (holds_lt hg7)); clear hb) | (go_at_call 23; refine (hS.out _).mono ?_; rintro e w2 ⟨rfl, hb⟩; replace hH := hH.call' hb; (try replace hg5 := holds_below hg5 hb (holds_lt hg5)); (try replace hg7 := holds_below hg7 hb (holds_lt hg7)); clear hb) | (go_at_call 24; refine (hT.out _).mono ?_; rintro e w2 ⟨rfl, hb⟩; replace hH := hH.call' hb; (try replace hg5 := holds_below hg5 hb (holds_lt hg5)); (try replace hg7 := holds_below hg7 hb (holds_lt hg7)); clear hb) | (go_at_call 22; refine (eqPlaces_self _ _).mono ?_; rintro e w2 ⟨rfl, hb⟩; replace hH := hH.call' hb; (try replace hg5 := holds_below hg5 hb (holds_lt hg5)); (try replace hg7 := holds_below hg7 hb (holds_lt hg7)); clear hb) | (refine wpL_loadFull (x := .tmp 5) rfl rfl rfl rowPl hg5 (u8s_size _ _) ?_) | (refine wpL_loadFull (x := .tmp 7) rfl rfl rfl rowPl hg7 (u8s_size _ _) ?_) | (refine wpL_allocN (o := ⟨some 5, _, _, _, _, _⟩) rfl rfl zeroPl ?_; intro g5 w2 hg5 hl hb; have hb5 : w.heap.size + 1 ≤ g5 := (by have := hH.size; simp only [List.length_cons, List.length_nil] at this; omega); replace hH := hH.call' hb; (try replace hg7 := holds_below hg7 hb (holds_lt hg7)); clear hb hl) | (refine wpL_storeN (x := .tmp 5) rfl rfl rfl rfl rowPl hg5 (u8s_size _ _) (u8s_ok _ _) ?_; intro w2 hz hO hT; (try replace hg7 := hO _ _ _ (by omega) hg7); replace hg5 := hz; replace hH := hT _ _ hH hb5; clear hz hO hT) | (refine wpL_allocN (o := ⟨some 7, _, _, _, _, _⟩) rfl rfl zeroPl ?_; intro g7 w2 hg7 hl hb; have hb7 : w.heap.size + 1 ≤ g7 := (by have := hH.size; simp only [List.length_cons, List.length_nil] at this; omega); (try have hn5_7 : g5 ≠ g7 := (by have := holds_lt hg5; omega)); replace hH := hH.call' hb; (try replace hg5 := holds_below hg5 hb (holds_lt hg5)); clear hb hl) | (refine wpL_storeN (x := .tmp 7) rfl rfl rfl rfl rowPl hg7 (u8s_size _ _) (u8s_ok _ _) ?_; intro w2 hz hO hT; (try replace hg5 := hO _ _ _ (by omega) hg5); replace hg7 := hz; replace hH := hT _ _ hH hb7; clear hz hO hT))
  go_ret
  exact ⟨rfl, hH.below⟩
theorem lawColumnMap_any (o : Int) (g : Nat → UInt8) (_ : (Lit.int .i64 o).wf = true) (x : UInt8) (w : World) : Calls Try.prog 7 #[.agg (sqc o g), .int .u8 x.toNat] w fun e w' => e = .returned (.bool true) ∧ Below w.heap.size w w' := by
  cases hs : sqB o g with
  | false => exact lawColumnMap_by o g x _ _ w (hid fun w => specColumnMap_no o g x w hs) (hid fun w => implColumnMap_no o g x w hs)
  | true =>
    obtain ⟨N, rfl, hq⟩ := sqB_true.1 hs
    by_cases h : N ≤ x.toNat
    · exact lawColumnMap_by N g x _ _ w (hid fun w => specColumnMap_far N g x w hs h) (hid fun w => implColumnMap_far N g x w hs h)
    · exact lawColumnMap_by N g x _ _ w (hid fun w => specColumnMap_in N g x w hs (by omega)) (hid fun w => implColumnMap_in N g x w hs (by omega))
end Go.Proofs.Ytcmedefgpiegbaa
