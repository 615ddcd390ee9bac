/- Proved: what the model's RowMap, ColumnMap, LeftQuotient and RightQuotient return. Conditions: those that each theorem names. -/
import Derived.Test.YtbhjbllgmenbaabPi
import Derived.Test.YtbhjbllgmenbaabPm
import Derived.Test.YtbhjbllgmenbaabPl3
namespace Go.Proofs.Ytbhjbllgmenbaab
set_option linter.unusedVariables false
set_option linter.unusedSimpArgs false
open Go.RowKit
theorem backF_at {p : Nat → UInt8} {N : Nat} (h : IsPerm p N) (y : Nat) (hy : y < N) : ∀ k, y < k → k ≤ N → backF p k (p y).toNat = UInt8.ofNat y
  | 0, h0, _ => by omega
  | k + 1, h0, hk => by
    show (if (p y).toNat = (p k).toNat then UInt8.ofNat k else backF p k (p y).toNat) = _
    by_cases e : (p y).toNat = (p k).toNat
    · rw [if_pos e]
      have : y = k := h.inj' hy (by omega) e
      rw [this]
    · rw [if_neg e]
      have : y ≠ k := fun e' => e (by rw [e'])
      exact backF_at h y hy k (by omega) (by omega)
theorem backF_of {p : Nat → UInt8} {N : Nat} (h : IsPerm p N) (z : Nat) (hz : z < N) : ∃ y, y < N ∧ (p y).toNat = z ∧ (backF p N z).toNat = y := by
  obtain ⟨y, hy, e⟩ := h.onto z hz
  refine ⟨y, hy, e, ?_⟩
  have := backF_at h y hy N hy (Nat.le_refl _)
  rw [e] at this
  rw [this, u8_of _ (by have := h.hi; omega)]
set_option maxRecDepth 20000 in
set_option maxHeartbeats 1000000 in
theorem l01Row_any (o : Int) (g : Nat → UInt8) (x : UInt8) (w : World) (hx : x.toNat < 10) :
    Calls Try.prog 153 #[.agg (sqc o g), .int .u8 x.toNat] w fun e w' => e = .returned (.agg (u8s 10 (rowF g x.toNat))) ∧ Below w.heap.size w w' := by
  have hH := Has.start2 w (sqc o g) (u8s 10 fun _ => 0) 32 97
  have hx' : (x.toNat : Int) < 10 := by omega
  have hoff : x.toNat * 10 + 10 ≤ 100 := by omega
  go_enter Try.func153, Try.ntmps153
  go_wp2_with (first | (refine wpL_alloc rfl rfl zeroPl ?_; intro g hg; (try simp at hg); subst hg) | (refine wpL_loadRowSq rfl rfl rfl rowB10 hH.h0 hoff ?_) | (refine wpL_storeFull rfl rfl rfl rfl rowPl hH.h1 (u8s_size _ _) (u8s_ok _ _) ?_))
  exact ret_c rfl rfl hH.r1.h1 rowPl (u8s_size _ _) ⟨rfl, hH.r1.below⟩
theorem colT_sq {N : Nat} {g : Nat → UInt8} (h : IsSq N g) (y : Nat) (hy : y < 10) : u8s 10 (colT g y N) = u8s 10 (colF g y) :=
  u8s_congr 10 _ _ fun i hi => by
    unfold colT colF
    by_cases e : i < N
    · rw [if_pos e]
    · rw [if_neg e]; exact (h.zero i y hi hy (.inl (by omega))).symm
set_option maxRecDepth 20000 in
set_option maxHeartbeats 2000000 in
theorem l01Column_any (N : Nat) (g : Nat → UInt8) (y : UInt8) (w : World) (hq : IsSq N g) (hy : y.toNat < 10) :
    Calls Try.prog 155 #[.agg (sqc N g), .int .u8 y.toNat] w fun e w' => e = .returned (.agg (u8s 10 (colF g y.toNat))) ∧ Below w.heap.size w w' := by
  have h10 := hq.hi
  have hz := hid (colT_sq hq y.toNat hy)
  clear hq
  have hy' : (y.toNat : Int) < 10 := by omega
  have hH := Has.start3 w (sqc N g) (u8s 10 fun _ => 0) (u8s 10 fun _ => 0) 32 97 97
  go_enter Try.func155, Try.ntmps155
  go_wp2_with (first | (refine wpL_alloc rfl rfl zeroPl ?_; intro g hg; (try simp at hg); subst hg) | (refine wpL_build rfl rfl builtPl ?_) | (refine wpL_storeSame rfl rfl rfl rfl rowPl hH.h2 (u8s_ok _ _) ?_))
  go_loopw [6] (fun i wr => ∃ k : Nat, k ≤ N ∧ i = .int .i64 k ∧ Has w wr [(sqc N g, 32), (u8s 10 (fun _ => 0), 97), (u8s 10 (colT g y.toNat k), 97)]) (fun i _ => 10 - (intOf i).toNat)
  case atStart => exact ⟨0, by omega, rfl, by rw [colT_zero]; exact hH⟩
  case round =>
    clear hH
    obtain ⟨k, hk, rfl, hH⟩ := hrel
    have cz : wr.cell? ⟨w.heap.size, 0, none⟩ = some (.int .i64 N) := by rw [hH.c0, sqc_get0]
    by_cases hlt : k < N
    · have hk10 : k < 10 := by omega
      have ca : wr.cell? ⟨w.heap.size, 1 + k * 10 + y.toNat, none⟩ = some (.int .u8 (g (k * 10 + y.toNat)).toNat) := by rw [hH.c0, Nat.add_assoc, sqc_get _ _ _ (by omega)]
      have c2 := hH.c2
      have f2 := hH.f2
      go_wp2
      go_roundw
      case rel => exact ⟨k + 1, by omega, by go_num, hH.s2 _ _ (u8s_step 10 _ _ _ _ (fun j _ => colT_step g y.toNat k j))⟩
      case measure => simp [intOf]; omega
    · obtain rfl : k = N := by omega
      rw [hz.out] at hH
      go_wp2_with (first | (refine wpL_loadFull rfl rfl rfl rowPl hH.h2 (u8s_size _ _) ?_) | (refine wpL_storeFull rfl rfl rfl rfl rowPl hH.h1 (u8s_size _ _) (u8s_ok _ _) ?_))
      exact ret_c rfl rfl hH.r1.h1 rowPl (u8s_size _ _) ⟨rfl, hH.r1.below⟩
set_option maxRecDepth 20000 in
set_option maxHeartbeats 2000000 in
theorem l01Left_any (N : Nat) (g : Nat → UInt8) (x z : UInt8) (w : World) (hq : IsSq N g) (hx : x.toNat < N) (hz : z.toNat < N) :
    Calls Try.prog 168 #[.agg (sqc N g), .int .u8 x.toNat, .int .u8 z.toNat] w fun e w' => e = .returned (.int .u8 (backF (rowF g x.toNat) N z.toNat).toNat) ∧ Below w.heap.size w w' := by
  have h10 := hq.hi
  obtain ⟨y, hy, he, hb⟩ := backF_of (hq.rows x.toNat hx) z.toNat hz
  have HE := hid he
  have HP := hid (hq.rows x.toNat hx)
  rw [hb]
  clear he hb hq
  have hx' : (x.toNat : Int) < 10 := by omega
  go_enter Try.func168, Try.ntmps168
  go_wp2
  go_loopw [7] (fun i wr => ∃ k : Nat, k ≤ y ∧ i = .int .u8 k ∧ Has w wr [(sqc N g, 32)]) (fun i _ => 10 - (intOf i).toNat)
  case atStart => exact ⟨0, by omega, rfl, Has.start1 w _ _⟩
  case round =>
    obtain ⟨k, hk, rfl, hH⟩ := hrel
    have hk10 : (k : Int) < 10 := by omega
    have ca : wr.cell? ⟨w.heap.size, 1 + x.toNat * 10 + k, none⟩ = some (.int .u8 (rowF g x.toNat k).toNat) := by rw [hH.c0, Nat.add_assoc, sqc_get _ _ _ (by omega)]; rfl
    by_cases hlt : k < y
    · have hne : (((rowF g x.toNat k).toNat : Int) != (z.toNat : Int)) = true := by
        have := HP.out.inj k y hlt hy
        have := HE.out
        simp; omega
      have hne2 : (((rowF g x.toNat k).toNat : Int) == (z.toNat : Int)) = false := by
        have := HP.out.inj k y hlt hy
        have := HE.out
        simp; omega
      go_wp2
      go_roundw
      case rel => exact ⟨k + 1, by omega, by go_num, hH⟩
      case measure => simp [intOf]; omega
    · obtain rfl : k = y := by omega
      have hne : (((rowF g x.toNat k).toNat : Int) != (z.toNat : Int)) = false := by
        have := HE.out
        simp; omega
      have hne2 : (((rowF g x.toNat k).toNat : Int) == (z.toNat : Int)) = true := by
        have := HE.out
        simp; omega
      go_wp2
      go_ret
      exact ⟨rfl, hH.below⟩
set_option maxRecDepth 20000 in
set_option maxHeartbeats 2000000 in
theorem l01Right_any (N : Nat) (g : Nat → UInt8) (z y : UInt8) (w : World) (hq : IsSq N g) (hy : y.toNat < N) (hz : z.toNat < N) :
    Calls Try.prog 167 #[.agg (sqc N g), .int .u8 z.toNat, .int .u8 y.toNat] w fun e w' => e = .returned (.int .u8 (backF (colF g y.toNat) N z.toNat).toNat) ∧ Below w.heap.size w w' := by
  have h10 := hq.hi
  obtain ⟨x, hx, he, hb⟩ := backF_of (hq.cols y.toNat hy) z.toNat hz
  have HE := hid he
  have HP := hid (hq.cols y.toNat hy)
  rw [hb]
  clear he hb hq
  have hy' : (y.toNat : Int) < 10 := by omega
  go_enter Try.func167, Try.ntmps167
  go_wp2
  go_loopw [7] (fun i wr => ∃ k : Nat, k ≤ x ∧ i = .int .u8 k ∧ Has w wr [(sqc N g, 32)]) (fun i _ => 10 - (intOf i).toNat)
  case atStart => exact ⟨0, by omega, rfl, Has.start1 w _ _⟩
  case round =>
    obtain ⟨k, hk, rfl, hH⟩ := hrel
    have hk10 : (k : Int) < 10 := by omega
    have ca : wr.cell? ⟨w.heap.size, 1 + k * 10 + y.toNat, none⟩ = some (.int .u8 (colF g y.toNat k).toNat) := by rw [hH.c0, Nat.add_assoc, sqc_get _ _ _ (by omega)]; rfl
    by_cases hlt : k < x
    · have hne : (((colF g y.toNat k).toNat : Int) != (z.toNat : Int)) = true := by
        have := HP.out.inj k x hlt hx
        have := HE.out
        simp; omega
      have hne2 : (((colF g y.toNat k).toNat : Int) == (z.toNat : Int)) = false := by
        have := HP.out.inj k x hlt hx
        have := HE.out
        simp; omega
      go_wp2
      go_roundw
      case rel => exact ⟨k + 1, by omega, by go_num, hH⟩
      case measure => simp [intOf]; omega
    · obtain rfl : k = x := by omega
      have hne : (((colF g y.toNat k).toNat : Int) != (z.toNat : Int)) = false := by
        have := HE.out
        simp; omega
      have hne2 : (((colF g y.toNat k).toNat : Int) == (z.toNat : Int)) = true := by
        have := HE.out
        simp; omega
      go_wp2
      go_ret
      exact ⟨rfl, hH.below⟩
end Go.Proofs.Ytbhjbllgmenbaab
