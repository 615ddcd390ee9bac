/- Proved: what the functions that make the permutation that changes nothing and the triple of a loop at two elements return, of program and model alike. Conditions: those that each theorem names. -/
import Derived.Test.YtbhjbllgmenbaabIt3
import Derived.BigRegion
namespace Go.Proofs.Ytbhjbllgmenbaab
set_option linter.unusedVariables false
set_option linter.unusedSimpArgs false
open Go.RowKit
def sameF (N : Nat) : Nat → UInt8 := fun i => if i < N then UInt8.ofNat i else 0
theorem sameF_zero : sameF 0 = fun _ => 0 := by funext i; simp [sameF]
theorem sameF_step (k j : Nat) : sameF (k + 1) j = if j = k then UInt8.ofNat k else sameF k j := by
  unfold sameF
  by_cases e : j = k
  · subst e; simp
  · simp [e, show j < k + 1 ↔ j < k by omega]
/-- The exchange of 0 and e. -/
def exF (N : Nat) (e : UInt8) : Nat → UInt8 := fun i => if i = e.toNat then 0 else if i = 0 then e else sameF N i
theorem sameF_nat {N i : Nat} (h : i < N) (h10 : N ≤ 10) : (sameF N i).toNat = i := by
  unfold sameF; rw [if_pos h, u8_of _ (by omega)]
theorem exF_nat {N i : Nat} {e : UInt8} (h : i < N) (h10 : N ≤ 10) : (exF N e i).toNat = if i = e.toNat then 0 else if i = 0 then e.toNat else i := by
  unfold exF
  by_cases h1 : i = e.toNat
  · rw [if_pos h1, if_pos h1]; rfl
  · rw [if_neg h1, if_neg h1]
    by_cases h2 : i = 0
    · rw [if_pos h2, if_pos h2]
    · rw [if_neg h2, if_neg h2]; exact sameF_nat h h10
theorem exF_perm {N : Nat} {e : UInt8} (h1 : 1 ≤ N) (h10 : N ≤ 10) (he : e.toNat < N) : IsPerm (exF N e) N := by
  refine ⟨h1, h10, fun i hi => ?_, fun i j hij hj => ?_, fun i hi hi10 => ?_⟩
  · rw [exF_nat hi h10]; split
    · omega
    · split <;> omega
  · rw [exF_nat (by omega : i < N) h10, exF_nat hj h10]
    split <;> split <;> (try split) <;> (try split) <;> omega
  · unfold exF
    rw [if_neg (by omega), if_neg (by omega)]
    unfold sameF; rw [if_neg (by omega)]; rfl
theorem thenF_perm {p q : Nat → UInt8} {N : Nat} (hp : IsPerm p N) (hq : IsPerm q N) : IsPerm (thenF p q N) N := by
  refine ⟨hp.lo, hp.hi, fun i hi => ?_, fun i j hij hj => ?_, fun i hi _ => ?_⟩
  · unfold thenF; rw [if_pos hi]; exact hq.lt _ (hp.lt i hi)
  · unfold thenF
    rw [if_pos (by omega), if_pos hj]
    intro e
    have := hq.inj' (hp.lt i (by omega)) (hp.lt j hj) e
    exact hp.inj i j hij hj this
  · unfold thenF; rw [if_neg (by omega)]; rfl
/-- The triple that leads a square to its loop at a and b. -/
def toT (g : Nat → UInt8) (N a b : Nat) : Nat → UInt8 := mkTri (thenF (colF g b) (exF N (g (a * 10 + b))) N) (thenF (rowF g a) (exF N (g (a * 10 + b))) N) (exF N (g (a * 10 + b)))
theorem tri_mk0 (a b c : Nat → UInt8) (i : Nat) (h : i < 10) : tri (mkTri a b c) 0 i = a i := by unfold tri mkTri; rw [Nat.zero_add, if_pos h]
theorem tri_mk1 (a b c : Nat → UInt8) (i : Nat) (h : i < 10) : tri (mkTri a b c) 10 i = b i := by unfold tri mkTri; rw [if_neg (by omega), if_pos (by omega), Nat.add_sub_cancel_left]
theorem tri_mk2 (a b c : Nat → UInt8) (i : Nat) (h : i < 10) : tri (mkTri a b c) 20 i = c i := by unfold tri mkTri; rw [if_neg (by omega), if_neg (by omega), Nat.add_sub_cancel_left]
theorem mkTri_is {a b c : Nat → UInt8} {N : Nat} (ha : IsPerm a N) (hb : IsPerm b N) (hc : IsPerm c N) : IsTri (mkTri a b c) N :=
  ⟨ha.congr fun i hi => tri_mk0 a b c i hi, hb.congr fun i hi => tri_mk1 a b c i hi, hc.congr fun i hi => tri_mk2 a b c i hi⟩
theorem toT_is {g : Nat → UInt8} {N a b : Nat} (hg : IsSq N g) (ha : a < N) (hb : b < N) : IsTri (toT g N a b) N :=
  mkTri_is (thenF_perm (hg.cols b hb) (exF_perm hg.lo hg.hi (hg.lt' ha hb))) (thenF_perm (hg.rows a ha) (exF_perm hg.lo hg.hi (hg.lt' ha hb))) (exF_perm hg.lo hg.hi (hg.lt' ha hb))
/-- One exchange, cell by cell. -/
theorem ex1 (N : Nat) (e : UInt8) (he : e.toNat < 10) : (((u8s 10 (sameF N)).setIfInBounds 0 (.int .u8 e.toNat)).setIfInBounds e.toNat (.int .u8 0)) = u8s 10 (exF N e) := by
  rw [u8s_step 10 (sameF N) (fun i => if i = 0 then e else sameF N i) 0 e (fun j _ => rfl)]
  refine u8s_stepv 10 _ _ e.toNat _ 0 rfl (fun j _ => ?_)
  rfl
set_option maxHeartbeats 1000000 in
theorem l01Same_any (N : Nat) (w : World) (h10 : N ≤ 10) :
    Calls Try.prog 163 #[.int .i64 N] w fun e w' => e = .returned (.agg (u8s 10 (sameF N))) ∧ Below w.heap.size w w' := by
  go_enter Try.func163, Try.ntmps163
  go_wp2_with (first | (refine wpL_alloc rfl rfl zeroPl ?_; intro g hg; (try simp at hg); subst hg) | (refine wpL_build rfl rfl builtPl ?_) | (refine wpL_storeSame rfl rfl rfl rfl rowPl (Has.start2 _ _ _ _ _).h1 (u8s_ok _ _) ?_))
  go_loopw [4] (fun i wr => ∃ k : Nat, k ≤ N ∧ i = .int .i64 k ∧ Has w wr [(u8s 10 (fun _ => 0), 97), (u8s 10 (sameF k), 97)]) (fun i _ => 10 - (intOf i).toNat)
  case atStart => exact ⟨0, by omega, rfl, by rw [sameF_zero]; exact Has.start2 _ _ _ _ _⟩
  case round =>
    obtain ⟨k, hk, rfl, hH⟩ := hrel
    by_cases hlt : k < N
    · have c1 := hH.c1
      have f1 := hH.f1
      have hk10 : k < 10 := by omega
      have hv : Value.int .u8 (k : Int) = .int .u8 (UInt8.ofNat k).toNat := by rw [u8_of _ (by omega)]
      have HV := hid hv
      clear hv
      go_wp2
      go_roundw
      case rel => exact ⟨k + 1, by omega, by go_num, hH.s1 _ _ (u8s_stepv 10 _ _ _ _ _ HV.out (fun j _ => sameF_step k j))⟩
      case measure => simp [intOf]; omega
    · obtain rfl : k = N := by omega
      go_wp2_with (first | (refine wpL_loadFull rfl rfl rfl rowPl hH.h1 (u8s_size _ _) ?_) | (refine wpL_storeFull rfl rfl rfl rfl rowPl hH.h0 (u8s_size _ _) (u8s_ok _ _) ?_))
      exact ret_c rfl rfl hH.r0.h0 rowPl (u8s_size _ _) ⟨rfl, hH.r0.below⟩
set_option maxHeartbeats 1000000 in
theorem samePlaces_any (N : Nat) (w : World) (h10 : N ≤ 10) :
    Calls Try.prog 166 #[.int .i64 N] w fun e w' => e = .returned (.agg (u8s 10 (sameF N))) ∧ Below w.heap.size w w' := by
  go_enter Try.func166, Try.ntmps166
  go_wp2_with (first | (refine wpL_alloc rfl rfl zeroPl ?_; intro g hg; (try simp at hg); subst hg))
  go_loopw [6] (fun i wr => ∃ k : Nat, k ≤ N ∧ i = .int .i64 k ∧ Has w wr [(u8s 10 (fun _ => 0), 97), (u8s 10 (sameF k), 97)]) (fun i _ => 10 - (intOf i).toNat)
  case atStart => exact ⟨0, by omega, rfl, by rw [sameF_zero]; exact Has.start2 _ _ _ _ _⟩
  case round =>
    obtain ⟨k, hk, rfl, hH⟩ := hrel
    by_cases hlt : k < N
    · have c1 := hH.c1
      have f1 := hH.f1
      have hk10 : k < 10 := by omega
      have hv : Value.int .u8 (k : Int) = .int .u8 (UInt8.ofNat k).toNat := by rw [u8_of _ (by omega)]
      have HV := hid hv
      clear hv
      go_wp2
      go_roundw
      case rel => exact ⟨k + 1, by omega, by go_num, hH.s1 _ _ (u8s_stepv 10 _ _ _ _ _ HV.out (fun j _ => sameF_step k j))⟩
      case measure => simp [intOf]; omega
    · obtain rfl : k = N := by omega
      go_wp2_with (first | (refine wpL_loadFull rfl rfl rfl rowPl hH.h1 (u8s_size _ _) ?_) | (refine wpL_storeFull rfl rfl rfl rfl rowPl hH.h0 (u8s_size _ _) (u8s_ok _ _) ?_))
      exact ret_c rfl rfl hH.r0.h0 rowPl (u8s_size _ _) ⟨rfl, hH.r0.below⟩
end Go.Proofs.Ytbhjbllgmenbaab
