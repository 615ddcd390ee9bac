/- Proved: what the program's SwitchCycle returns; the codes of model and program are the same. Conditions: those that each theorem names. -/
import Derived.Test.YtbdcbmennblcdaaSw4
import Derived.Test.YtbdcbmennblcdaaRc
namespace Go.Proofs.Ytbdcbmennblcdaa
set_option linter.unusedVariables false
set_option linter.unusedSimpArgs false
open Go.RowKit
theorem bsw_one {w : World} {x : UInt8} : BsW (w.alloc (.cells (u8s 1 (oneF x)) 5)) (some ⟨w.heap.size, 0, none⟩) 1 (oneF x) := .inr ⟨_, rfl, holds_new _ _ _⟩
theorem bsw_two {w : World} {x : UInt8} {c1 c2 : Array Value} {t1 t2 : TypeId} : BsW (((w.alloc (.cells c1 t1)).alloc (.cells c2 t2)).alloc (.cells (u8s 1 (oneF x)) 5)) (some ⟨w.heap.size + 2, 0, none⟩) 1 (oneF x) := by
  have h := bsw_one (w := (w.alloc (.cells c1 t1)).alloc (.cells c2 t2)) (x := x)
  have e : ((w.alloc (.cells c1 t1)).alloc (.cells c2 t2)).heap.size = w.heap.size + 2 := by simp
  rwa [e] at h
set_option maxRecDepth 20000 in
set_option maxHeartbeats 2000000 in
theorem implSwitchCycle_err (o : Int) (g : Nat → UInt8) (a b c : UInt8) (z : Nat) (w : World) (hz : ((z : Int) == 0) = false) (hC : Hid (rowsC o g 1 (oneF c) a b = z)) :
    Calls Try.prog 43 #[.agg (sqc o g), .int .u8 a.toNat, .int .u8 b.toNat, .int .u8 c.toNat] w fun e w' => e = .returned (.tuple #[.agg (sqc 0 fun _ => 0), .int .i64 z]) ∧ Below w.heap.size w w' := by
  have hz2 : ¬ (z : Int) = 0 := by simpa using hz
  have hz3 : ¬ z = 0 := by omega
  have hH := Has.start2 w (sqc o g) (sqc 0 fun _ => 0) 31 31
  go_enter Try.func43, Try.ntmps43
  go_wp2_with (first | fail | (refine wpL_alloc rfl rfl zeroSq ?_; intro g0 hg0; (try simp at hg0); subst hg0) | (refine wpL_loadFull rfl rfl rfl rowSq hH.h0 (sqc_size _ _) ?_) | (refine wpL_slice1 (x := c) rfl rfl rfl ?_; obtain ⟨w2, hw2⟩ : ∃ w2, ((w.alloc (.cells (sqc o g) 31)).alloc (.cells (sqc 0 fun _ => 0) 31)).alloc (.cells (u8s 1 (oneF c)) 5) = w2 := ⟨_, rfl⟩; have hB1 : BsW w2 (some ⟨w.heap.size + 2, 0, none⟩) 1 (oneF c) := (by rw [← hw2]; exact bsw_two); replace hH : Has w w2 [(sqc o g, 31), (sqc 0 fun _ => 0, 31)] := (by rw [← hw2]; exact hH.alloc _); rw [hw2]; clear hw2) | (go_at_call 76; refine (rowsCode_any o g (oneF c) 1 a b _ _ (by omega) hB1).mono ?_; rintro e w2 ⟨rfl, hb⟩; rw [hC.out]; replace hH := hH.call' hb; clear hb) | (refine wpL_build rfl rfl builtSq ?_) | (refine wpL_storeSame rfl rfl rfl rfl rowSq hH.h1 (sqc_ok _ _) ?_))
  exact ret_ct rfl rfl rfl hH.h1 rowSq (sqc_size _ _) ⟨rfl, hH.below⟩
set_option maxRecDepth 20000 in
set_option maxHeartbeats 2000000 in
theorem implSwitchCycle_in (N t : Nat) (g : Nat → UInt8) (a b c : UInt8) (w : World) (hq : IsSq N g) (ha : a.toNat < N) (hb : b.toNat < N) (hc : c.toNat < N) (hne : a.toNat ≠ b.toNat) (hCy : Cyc N (swC g N a.toNat b.toNat) c.toNat t) (hC : Hid (rowsC N g 1 (oneF c) a b = 0)) :
    Calls Try.prog 43 #[.agg (sqc N g), .int .u8 a.toNat, .int .u8 b.toNat, .int .u8 c.toNat] w fun e w' => e = .returned (.tuple #[.agg (sqc N (swF g a.toNat b.toNat (inO (swC g N a.toNat b.toNat) c.toNat t))), .int .i64 0]) ∧ Below w.heap.size w w' := by
  have HS := hid fun w => switchCycle_any N a.toNat b.toNat c.toNat t g w hq ha hb hc hne hCy
  obtain ⟨F, hF⟩ : ∃ F, swF g a.toNat b.toNat (inO (swC g N a.toNat b.toNat) c.toNat t) = F := ⟨_, rfl⟩
  rw [hF] at HS ⊢
  clear hF hq ha hb hc hne hCy
  have hH := Has.start2 w (sqc N g) (sqc 0 fun _ => 0) 31 31
  go_enter Try.func43, Try.ntmps43
  go_wp2_with (first | fail | (refine wpL_alloc rfl rfl zeroSq ?_; intro g0 hg0; (try simp at hg0); subst hg0) | (refine wpL_loadFull rfl rfl rfl rowSq hH.h0 (sqc_size _ _) ?_) | (refine wpL_slice1 (x := c) rfl rfl rfl ?_; obtain ⟨w2, hw2⟩ : ∃ w2, ((w.alloc (.cells (sqc N g) 31)).alloc (.cells (sqc 0 fun _ => 0) 31)).alloc (.cells (u8s 1 (oneF c)) 5) = w2 := ⟨_, rfl⟩; have hB1 : BsW w2 (some ⟨w.heap.size + 2, 0, none⟩) 1 (oneF c) := (by rw [← hw2]; exact bsw_two); replace hH : Has w w2 [(sqc N g, 31), (sqc 0 fun _ => 0, 31)] := (by rw [← hw2]; exact hH.alloc _); rw [hw2]; clear hw2) | (go_at_call 76; refine (rowsCode_any N g (oneF c) 1 a b _ _ (by omega) hB1).mono ?_; rintro e w2 ⟨rfl, hb⟩; rw [hC.out]; replace hH := hH.call' hb; clear hb) | (go_at_call 72; refine (HS.out _).mono ?_; rintro e w2 ⟨rfl, hb⟩; replace hH := hH.call' hb; clear hb) | (refine wpL_storeFull rfl rfl rfl rfl rowSq hH.h1 (sqc_size _ _) (sqc_ok _ _) ?_))
  exact ret_ct rfl rfl rfl hH.r1.h1 rowSq (sqc_size _ _) ⟨rfl, hH.r1.below⟩
/-- The code for three bytes, as the program tells it. -/
theorem rowsC_no {o : Int} {g : Nat → UInt8} (n : Nat) (f : Nat → UInt8) (a b : UInt8) (h : sqB o g = false) : rowsC o g n f a b = 1 := by simp [rowsC, elC, h]
theorem addF1 {c a b : UInt8} {N : Nat} : (∀ i, i < 1 + 2 → (addF 1 (oneF c) a b i).toNat < N) ↔ c.toNat < N ∧ a.toNat < N ∧ b.toNat < N := by
  constructor
  · intro h
    exact ⟨h 0 (by omega), h 1 (by omega), h 2 (by omega)⟩
  · rintro ⟨h0, h1, h2⟩ i hi
    match i, hi with
    | 0, _ => exact h0
    | 1, _ => exact h1
    | 2, _ => exact h2
theorem rowsC1 {N : Nat} {g : Nat → UInt8} (c a b : UInt8) (h : sqB (N : Int) g = true) : rowsC N g 1 (oneF c) a b = if c.toNat < N ∧ a.toNat < N ∧ b.toNat < N ∧ a ≠ b then 0 else 2 := by
  have hE : elC N g (1 + 2) (addF 1 (oneF c) a b) = if c.toNat < N ∧ a.toNat < N ∧ b.toNat < N then 0 else 2 := by
    unfold elC
    rw [if_neg (by rw [h]; simp)]
    by_cases h3 : c.toNat < N ∧ a.toNat < N ∧ b.toNat < N
    · rw [if_pos h3, if_pos (show ∀ i, i < 1 + 2 → (addF 1 (oneF c) a b i).toNat < (N : Int).toNat from addF1.2 h3)]
    · rw [if_neg h3, if_neg (show ¬ ∀ i, i < 1 + 2 → (addF 1 (oneF c) a b i).toNat < (N : Int).toNat from fun q => h3 (addF1.1 q))]
  unfold rowsC
  rw [hE]
  by_cases h3 : c.toNat < N ∧ a.toNat < N ∧ b.toNat < N
  · rw [if_pos h3]
    by_cases hab : a = b
    · rw [if_pos ⟨rfl, hab⟩, if_neg (fun q => q.2.2.2 hab)]
    · rw [if_neg (fun q => hab q.2), if_pos ⟨h3.1, h3.2.1, h3.2.2, hab⟩]
  · rw [if_neg h3, if_neg (by simp), if_neg (fun q => h3 ⟨q.1, q.2.1, q.2.2.1⟩)]
end Go.Proofs.Ytbdcbmennblcdaa
