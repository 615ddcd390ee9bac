/- Proved: the law FnExactSwitchCycle returns true, and old memory is left alone, where program and model return the same. Conditions: those that the theorem names. -/
import Derived.Test.YtbdcbmennblcdaaTo2
import Derived.Test.YtbdcbmennblcdaaSw5
import Derived.Test.YtbdcbmennblcdaaReg
namespace Go.Proofs.Ytbdcbmennblcdaa
set_option linter.unusedVariables false
set_option linter.unusedSimpArgs false
open Go.RowKit
set_option maxRecDepth 20000 in
set_option maxHeartbeats 2000000 in
theorem lawSwitchCycle_by (o0 : Int) (a0 : Nat → UInt8) (a1 : UInt8) (a2 : UInt8) (a3 : UInt8) (z0 : Int) (r0 : Nat → UInt8) (r1 : Int) (w : World)
    (hS : Hid (∀ w, Calls Try.prog 42 #[.agg (sqc o0 a0), .int .u8 a1.toNat, .int .u8 a2.toNat, .int .u8 a3.toNat] w fun e w' => e = .returned (.tuple #[.agg (sqc z0 r0), .int .i64 r1]) ∧ Below w.heap.size w w'))
    (hT : Hid (∀ w, Calls Try.prog 43 #[.agg (sqc o0 a0), .int .u8 a1.toNat, .int .u8 a2.toNat, .int .u8 a3.toNat] w fun e w' => e = .returned (.tuple #[.agg (sqc z0 r0), .int .i64 r1]) ∧ Below w.heap.size w w'))
    : Calls Try.prog 11 #[.agg (sqc o0 a0), .int .u8 a1.toNat, .int .u8 a2.toNat, .int .u8 a3.toNat] w fun e w' => e = .returned (.bool true) ∧ Below w.heap.size w w' := by
  have hH := Has.start1 w (sqc o0 a0) 25
  go_enter Try.func11, Try.ntmps11
  go_wp2_with (first | fail | (refine wpL_loadFull rfl rfl rfl rowSl hH.h0 (sqc_size _ _) ?_) | (go_at_call 16; refine (toSquare_any _ _ _).mono ?_; rintro e w2 ⟨rfl, hb⟩; replace hH := hH.call' hb; (try replace hg9 := holds_below hg9 hb (holds_lt hg9)); (try replace hg11 := holds_below hg11 hb (holds_lt hg11)); clear hb) | (go_at_call 42; refine (hS.out _).mono ?_; rintro e w2 ⟨rfl, hb⟩; replace hH := hH.call' hb; (try replace hg9 := holds_below hg9 hb (holds_lt hg9)); (try replace hg11 := holds_below hg11 hb (holds_lt hg11)); clear hb) | (go_at_call 43; refine (hT.out _).mono ?_; rintro e w2 ⟨rfl, hb⟩; replace hH := hH.call' hb; (try replace hg9 := holds_below hg9 hb (holds_lt hg9)); (try replace hg11 := holds_below hg11 hb (holds_lt hg11)); clear hb) | (go_at_call 39; refine (eqSquare_self _ _ _).mono ?_; rintro e w2 ⟨rfl, hb⟩; replace hH := hH.call' hb; (try replace hg9 := holds_below hg9 hb (holds_lt hg9)); (try replace hg11 := holds_below hg11 hb (holds_lt hg11)); clear hb) | (refine wpL_loadFull (x := .tmp 9) rfl rfl rfl rowSq hg9 (sqc_size _ _) ?_) | (refine wpL_loadFull (x := .tmp 11) rfl rfl rfl rowSq hg11 (sqc_size _ _) ?_) | (refine wpL_allocN (o := ⟨some 9, _, _, _, _, _⟩) rfl rfl zeroSq ?_; intro g9 w2 hg9 hl hb; have hb9 : w.heap.size + 1 ≤ g9 := (by have := hH.size; simp only [List.length_cons, List.length_nil] at this; omega); replace hH := hH.call' hb; (try replace hg11 := holds_below hg11 hb (holds_lt hg11)); clear hb hl) | (refine wpL_storeN (x := .tmp 9) rfl rfl rfl rfl rowSq hg9 (sqc_size _ _) (sqc_ok _ _) ?_; intro w2 hz hO hT; (try replace hg11 := hO _ _ _ (by omega) hg11); replace hg9 := hz; replace hH := hT _ _ hH hb9; clear hz hO hT) | (refine wpL_allocN (o := ⟨some 11, _, _, _, _, _⟩) rfl rfl zeroSq ?_; intro g11 w2 hg11 hl hb; have hb11 : w.heap.size + 1 ≤ g11 := (by have := hH.size; simp only [List.length_cons, List.length_nil] at this; omega); (try have hn9_11 : g9 ≠ g11 := (by have := holds_lt hg9; omega)); replace hH := hH.call' hb; (try replace hg9 := holds_below hg9 hb (holds_lt hg9)); clear hb hl) | (refine wpL_storeN (x := .tmp 11) rfl rfl rfl rfl rowSq hg11 (sqc_size _ _) (sqc_ok _ _) ?_; intro w2 hz hO hT; (try replace hg9 := hO _ _ _ (by omega) hg9); replace hg11 := hz; replace hH := hT _ _ hH hb11; clear hz hO hT))
  go_ret
  exact ⟨rfl, hH.below⟩
theorem lawSwitchCycle_any (o : Int) (g : Nat → UInt8) (_ : (Lit.int .i64 o).wf = true) (a b c : UInt8) (w : World) : Calls Try.prog 11 #[.agg (sqc o g), .int .u8 a.toNat, .int .u8 b.toNat, .int .u8 c.toNat] w fun e w' => e = .returned (.bool true) ∧ Below w.heap.size w w' := by
  cases hs : sqB o g with
  | false => exact lawSwitchCycle_by o g a b c _ _ _ w (hid fun w => specSwitchCycle_err o g a b c 1 w rfl (hid fun w => l09Pair_by o g a b c 1 w rfl (hid fun w => l01Two_no o g a b w hs))) (hid fun w => implSwitchCycle_err o g a b c 1 w rfl (hid (rowsC_no _ _ _ _ hs)))
  | true =>
    obtain ⟨N, rfl, hq⟩ := sqB_true.1 hs
    have HR := rowsC1 c a b hs
    by_cases hab : N ≤ a.toNat ∨ N ≤ b.toNat
    · rw [if_neg (fun q => by omega)] at HR
      exact lawSwitchCycle_by N g a b c _ _ _ w (hid fun w => specSwitchCycle_err N g a b c 2 w rfl (hid fun w => l09Pair_by N g a b c 2 w rfl (hid fun w => l01Two_far N g a b w hs hab))) (hid fun w => implSwitchCycle_err N g a b c 2 w rfl (hid HR))
    · have ha : a.toNat < N := by omega
      have hb : b.toNat < N := by omega
      by_cases h : a.toNat = b.toNat ∨ N ≤ c.toNat
      · rw [if_neg (fun q => by
          rcases h with h | h
          · exact q.2.2.2 (UInt8.toNat.inj h)
          · omega)] at HR
        exact lawSwitchCycle_by N g a b c _ _ _ w (hid fun w => specSwitchCycle_err N g a b c 2 w rfl (hid fun w => l09Pair_bad N g a b c w hs ha hb h)) (hid fun w => implSwitchCycle_err N g a b c 2 w rfl (hid HR))
      · have hne : a.toNat ≠ b.toNat := fun e => h (.inl e)
        have hc : c.toNat < N := by omega
        rw [if_pos ⟨hc, ha, hb, fun e => hne (by rw [e])⟩] at HR
        obtain ⟨t, hC⟩ := cyc_ex (swC_pmt hq ha hb) hc
        exact lawSwitchCycle_by N g a b c _ _ _ w (hid fun w => specSwitchCycle_in N a.toNat b.toNat c.toNat t g w hq ha hb hc hne hC (hid fun w => l09Pair_in N g a b c w hs ha hb hne hc)) (hid fun w => implSwitchCycle_in N t g a b c w hq ha hb hc hne hC (hid HR))
end Go.Proofs.Ytbdcbmennblcdaa
