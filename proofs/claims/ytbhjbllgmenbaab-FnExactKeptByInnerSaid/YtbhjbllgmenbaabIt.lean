/- Proved: what the functions that make isotopes return, of program and model alike. Conditions: those that each theorem names. -/
import Derived.Test.YtbhjbllgmenbaabTt
import Derived.Test.YtbhjbllgmenbaabQs
import Derived.Test.YtbhjbllgmenbaabSr
import Derived.Test.YtbhjbllgmenbaabSq5
namespace Go.Proofs.Ytbhjbllgmenbaab
set_option linter.unusedVariables false
set_option linter.unusedSimpArgs false
open Go.RowKit
theorem back_lt {p : Nat → UInt8} {N : Nat} (h : IsPerm p N) {z : Nat} (hz : z < N) : (backF p N z).toNat < N ∧ (p (backF p N z).toNat).toNat = z := by
  obtain ⟨y, h1, h2, h3⟩ := backF_of h z hz
  rw [h3]; exact ⟨h1, h2⟩
theorem back_at {p : Nat → UInt8} {N : Nat} (h : IsPerm p N) {y : Nat} (hy : y < N) : (backF p N (p y).toNat).toNat = y := by
  rw [backF_at h y hy N hy (Nat.le_refl _), u8_of _ (by have := h.hi; omega)]
def bkA (t : Nat → UInt8) (N r : Nat) : Nat := (backF (tri t 0) N r).toNat
def bkB (t : Nat → UInt8) (N r : Nat) : Nat := (backF (tri t 10) N r).toNat
/-- The table of an isotope, as far as k rows and j entries of the next row of the square have been led. -/
def isoP (g t : Nat → UInt8) (N k j : Nat) : Nat → UInt8 := fun i =>
  if i / 10 < N ∧ i % 10 < N ∧ (bkA t N (i / 10) < k ∨ (bkA t N (i / 10) = k ∧ bkB t N (i % 10) < j)) then tri t 20 (g (bkA t N (i / 10) * 10 + bkB t N (i % 10))).toNat else 0
theorem isoP_zero (g t : Nat → UInt8) (N : Nat) : isoP g t N 0 0 = fun _ => 0 := by
  funext i; simp [isoP]
theorem isoP_step {g t : Nat → UInt8} {N k j : Nat} (ht : IsTri t N) (hk : k < N) (hj : j < N) (i : Nat) (hi : i < 100) :
    isoP g t N k (j + 1) i = if i = (tri t 0 k).toNat * 10 + (tri t 10 j).toNat then tri t 20 (g (k * 10 + j)).toNat else isoP g t N k j i := by
  have h1 := ht.a.lt k hk
  have h2 := ht.b.lt j hj
  have h10 := ht.a.hi
  by_cases e : i = (tri t 0 k).toNat * 10 + (tri t 10 j).toNat
  · have e1 : i / 10 = (tri t 0 k).toNat := by omega
    have e2 : i % 10 = (tri t 10 j).toNat := by omega
    rw [if_pos e]
    unfold isoP
    have a1 : bkA t N (i / 10) = k := by rw [e1]; exact back_at ht.a hk
    have a2 : bkB t N (i % 10) = j := by rw [e2]; exact back_at ht.b hj
    rw [if_pos ⟨by omega, by omega, .inr ⟨a1, by omega⟩⟩, a1, a2]
  · rw [if_neg e]
    unfold isoP
    by_cases hr : i / 10 < N ∧ i % 10 < N
    · have b1 := back_lt ht.a hr.1
      have b2 := back_lt ht.b hr.2
      have key : ¬ (bkA t N (i / 10) = k ∧ bkB t N (i % 10) = j) := by
        rintro ⟨x, y⟩
        apply e
        have c1 := b1.2
        have c2 := b2.2
        rw [show (backF (tri t 0) N (i / 10)).toNat = k from x] at c1
        rw [show (backF (tri t 10) N (i % 10)).toNat = j from y] at c2
        omega
      have : (i / 10 < N ∧ i % 10 < N ∧ (bkA t N (i / 10) < k ∨ (bkA t N (i / 10) = k ∧ bkB t N (i % 10) < j + 1))) ↔ (i / 10 < N ∧ i % 10 < N ∧ (bkA t N (i / 10) < k ∨ (bkA t N (i / 10) = k ∧ bkB t N (i % 10) < j))) := by omega
      simp only [this]
    · rw [if_neg (by omega), if_neg (by omega)]
theorem isoP_row {g t : Nat → UInt8} {N : Nat} (ht : IsTri t N) (k : Nat) : isoP g t N (k + 1) 0 = isoP g t N k N := by
  funext i
  unfold isoP
  by_cases hr : i / 10 < N ∧ i % 10 < N
  · have b2 := back_lt ht.b hr.2
    have b3 : bkB t N (i % 10) < N := b2.1
    have : (i / 10 < N ∧ i % 10 < N ∧ (bkA t N (i / 10) < k + 1 ∨ (bkA t N (i / 10) = k + 1 ∧ bkB t N (i % 10) < 0))) ↔ (i / 10 < N ∧ i % 10 < N ∧ (bkA t N (i / 10) < k ∨ (bkA t N (i / 10) = k ∧ bkB t N (i % 10) < N))) := by omega
    simp only [this]
  · rw [if_neg (by omega), if_neg (by omega)]
/-- A row, led. -/
def ledF (row back third : Nat → UInt8) (N : Nat) : Nat → UInt8 := thenF (thenF back row N) third N
theorem isoP_led {g t : Nat → UInt8} {N k : Nat} (ht : IsTri t N) (hk : k < N) (i : Nat) (hi : i < 100) :
    isoP g t N (k + 1) 0 i = if (tri t 0 k).toNat * 10 ≤ i ∧ i < (tri t 0 k).toNat * 10 + 10 then ledF (rowF g k) (backF (tri t 10) N) (tri t 20) N (i - (tri t 0 k).toNat * 10) else isoP g t N k 0 i := by
  have h1 := ht.a.lt k hk
  have h10 := ht.a.hi
  by_cases e : (tri t 0 k).toNat * 10 ≤ i ∧ i < (tri t 0 k).toNat * 10 + 10
  · have e1 : i / 10 = (tri t 0 k).toNat := by omega
    have e2 : i - (tri t 0 k).toNat * 10 = i % 10 := by omega
    rw [if_pos e, e2]
    have a1 : bkA t N (i / 10) = k := by rw [e1]; exact back_at ht.a hk
    unfold isoP ledF thenF
    by_cases hs : i % 10 < N
    · rw [if_pos ⟨by omega, hs, .inl (by omega)⟩, if_pos hs, if_pos hs, a1]; rfl
    · rw [if_neg (by omega), if_neg hs]
  · rw [if_neg e]
    unfold isoP
    by_cases hr : i / 10 < N ∧ i % 10 < N
    · have b1 := back_lt ht.a hr.1
      have key : bkA t N (i / 10) ≠ k := by
        intro x
        have c1 := b1.2
        rw [show (backF (tri t 0) N (i / 10)).toNat = k from x] at c1
        omega
      have : (i / 10 < N ∧ i % 10 < N ∧ (bkA t N (i / 10) < k + 1 ∨ (bkA t N (i / 10) = k + 1 ∧ bkB t N (i % 10) < 0))) ↔ (i / 10 < N ∧ i % 10 < N ∧ (bkA t N (i / 10) < k ∨ (bkA t N (i / 10) = k ∧ bkB t N (i % 10) < 0))) := by omega
      simp only [this]
    · rw [if_neg (by omega), if_neg (by omega)]
theorem IsSq.lt' {N : Nat} {g : Nat → UInt8} (h : IsSq N g) {x y : Nat} (hx : x < N) (hy : y < N) : (g (x * 10 + y)).toNat < N := (h.rows x hx).lt y hy
set_option maxRecDepth 20000 in
set_option maxHeartbeats 4000000 in
theorem l02Isotope_any (N : Nat) (g t : Nat → UInt8) (w : World) (hg : IsSq N g) (ht : IsTri t N) :
    Calls Try.prog 73 #[.agg (sqc N g), .agg (u8s 30 t)] w fun e w' => e = .returned (.agg (sqc N (isoP g t N N 0))) ∧ Below w.heap.size w w' := by
  have HG := hid hg
  have HT := hid ht
  have h10 := hg.hi
  clear hg ht
  have hS := Has.start4 w (sqc N g) (u8s 30 t) (sqc 0 fun _ => 0) (sqc 0 fun _ => 0) 32 101 32 32
  have hH := hS.r3 (cs' := sqc N fun _ => 0)
  have s0 : (((w.alloc (.cells (sqc N g) 32)).alloc (.cells (u8s 30 t) 101)).alloc (.cells (sqc 0 fun _ => 0) 32)).cell? ⟨w.heap.size, 0, none⟩ = some (.int .i64 N) := by rw [(Has.start3 w (sqc N g) (u8s 30 t) (sqc 0 fun _ => 0) 32 101 32).c0, sqc_get0]
  go_enter Try.func73, Try.ntmps73
  go_wp2_with (first | (refine wpL_alloc rfl rfl zeroSq ?_; intro g hg; (try simp at hg); subst hg) | (refine wpL_build1 rfl rfl rfl (builtSqO _) ?_) | (refine wpL_storeFull rfl rfl rfl rfl rowSq hS.h3 (sqc_size _ _) (sqc_ok _ _) ?_))
  clear hS s0
  go_loopw [6] (fun i wr => ∃ k : Nat, k ≤ N ∧ i = .int .i64 k ∧ Has w wr [(sqc N g, 32), (u8s 30 t, 101), (sqc 0 (fun _ => 0), 32), (sqc N (isoP g t N k 0), 32)]) (fun i _ => 10 - (intOf i).toNat)
  case atStart => exact ⟨0, by omega, rfl, by rw [isoP_zero]; exact hH⟩
  case round =>
    clear hH
    obtain ⟨k, hk, rfl, hH⟩ := hrel
    have c0 : wr.cell? ⟨w.heap.size, 0, none⟩ = some (.int .i64 N) := by rw [hH.c0, sqc_get0]
    by_cases hlt : k < N
    · have hk10 : k < 10 := by omega
      obtain ⟨wo, hwo⟩ : ∃ wo : World, wo = wr := ⟨_, rfl⟩
      subst hwo
      go_wp2
      clear c0
      go_loopw [7] (fun i wr => ∃ j : Nat, j ≤ N ∧ i = .int .i64 j ∧ Has w wr [(sqc N g, 32), (u8s 30 t, 101), (sqc 0 (fun _ => 0), 32), (sqc N (isoP g t N k j), 32)]) (fun i _ => 10 - (intOf i).toNat)
      case atStart => exact ⟨0, by omega, rfl, hH⟩
      case round =>
        clear hH
        obtain ⟨j, hj, rfl, hH⟩ := hrel
        have c0 : wr.cell? ⟨w.heap.size, 0, none⟩ = some (.int .i64 N) := by rw [hH.c0, sqc_get0]
        by_cases hlt2 : j < N
        · have hj10 : j < 10 := by omega
          obtain ⟨ka, hka⟩ : ∃ ka, (tri t 0 k).toNat = ka := ⟨_, rfl⟩
          obtain ⟨kb, hkb⟩ : ∃ kb, (tri t 10 j).toNat = kb := ⟨_, rfl⟩
          obtain ⟨kv, hkv⟩ : ∃ kv, (g (k * 10 + j)).toNat = kv := ⟨_, rfl⟩
          have ba := HT.out.a.lt k hlt
          have bb := HT.out.b.lt j hlt2
          have bv := HG.out.lt' hlt hlt2
          rw [hka] at ba
          rw [hkb] at bb
          rw [hkv] at bv
          have Ha := hid hka
          have Hb := hid hkb
          have Hv := hid hkv
          clear hka hkb hkv
          have ba' : (ka : Int) < 10 := by omega
          have bb' : (kb : Int) < 10 := by omega
          have bv' : (kv : Int) < 10 := by omega
          have hst : ∀ i, i < 100 → isoP g t N k (j + 1) i = if i = ka * 10 + kb then tri t 20 kv else isoP g t N k j i := fun i hi => by
            rw [isoP_step HT.out hlt hlt2 i hi, Ha.out, Hb.out, Hv.out]
          have HS := hid hst
          clear hst
          go_wp2
          refine wp_region_frame (X := Unit) (fun d _ => [(23, bif d 0 then .int .i64 k else u23), (24, bif d 1 then .pointer (some ⟨w.heap.size + 1, 0, none⟩) else u24), (25, bif d 2 then .pointer (some ⟨w.heap.size + 1, k, none⟩) else u25), (26, bif d 3 then .int .u8 ka else u26), (27, bif d 4 then .int .i64 j else u27), (28, bif d 5 then .pointer (some ⟨w.heap.size + 1, 10, none⟩) else u28), (29, bif d 6 then .pointer (some ⟨w.heap.size + 1, 10 + j, none⟩) else u29), (30, bif d 7 then .int .u8 kb else u30), (31, bif d 8 then .int .i64 k else u31), (32, bif d 9 then .int .i64 j else u32), (33, bif d 10 then .pointer (some ⟨w.heap.size, 1, none⟩) else u33), (34, bif d 11 then .pointer (some ⟨w.heap.size, 1 + k * 10, none⟩) else u34), (35, bif d 12 then .pointer (some ⟨w.heap.size, 1 + k * 10 + j, none⟩) else u35), (36, bif d 13 then .int .u8 kv else u36), (37, bif d 14 then .pointer (some ⟨w.heap.size + 1, 20, none⟩) else u37), (38, bif d 15 then .pointer (some ⟨w.heap.size + 1, 20 + kv, none⟩) else u38), (39, bif d 16 then .int .u8 (tri t 20 kv).toNat else u39), (40, bif d 17 then .pointer (some ⟨w.heap.size + 1 + 1 + 1, 1, none⟩) else u40), (41, bif d 18 then .pointer (some ⟨w.heap.size + 1 + 1 + 1, 1 + ka * 10, none⟩) else u41), (42, bif d 19 then .pointer (some ⟨w.heap.size + 1 + 1 + 1, 1 + ka * 10 + kb, none⟩) else u42)])
            (fun d _ w' => Has w w' [(sqc N g, 32), (u8s 30 t, 101), (sqc 0 (fun _ => 0), 32), (sqc N (bif d 20 then isoP g t N k (j + 1) else isoP g t N k j), 32)]) (by kernel_rfl) (by kernel_rfl) ?h0_io ?hs_io ?hq_io
          case h0_io => exact ⟨(), (by simp [lput]), hH.drew⟩
          case hs_io =>
            refine ⟨?_, ?_, ?_, ?_, ?_, ?_, ?_, ?_, ?_, ?_, ?_, ?_, ?_, ?_, ?_, ?_, ?_, ?_, ?_, ?_, ?_, trivial⟩
            all_goals
              clear hH
              intro d _ w1 hd hn hJ
              simp only [needs, Region.binds, reduceCtorEq, Bool.false_eq_true, false_implies, true_and, and_true, true_implies, forall_const] at hn
              simp only [lput, List.set, hn, cond_true]
              try simp only [hd, cond_false] at hJ
              have hH := hJ; clear hJ
              have c0 : w1.cell? ⟨w.heap.size, 1 + k * 10 + j, none⟩ = some (.int .u8 kv) := by rw [hH.c0, Nat.add_assoc, sqc_get _ _ _ (by omega), Hv.out]
              have c1a : w1.cell? ⟨w.heap.size + 1, k, none⟩ = some (.int .u8 ka) := by rw [hH.c1, u8s_get _ _ _ (by omega), ← Ha.out]; simp [tri]
              have c1b : w1.cell? ⟨w.heap.size + 1, 10 + j, none⟩ = some (.int .u8 kb) := by rw [hH.c1, u8s_get _ _ _ (by omega), ← Hb.out]; rfl
              have c1c : w1.cell? ⟨w.heap.size + 1, 20 + kv, none⟩ = some (.int .u8 (tri t 20 kv).toNat) := by rw [hH.c1, u8s_get _ _ _ (by omega)]; rfl
              obtain ⟨v3, c3⟩ : ∃ v : Int, w1.cell? ⟨w.heap.size + 1 + 1 + 1, 1 + ka * 10 + kb, none⟩ = some (.int .u8 v) := ⟨_, by rw [hH.c3, Nat.add_assoc, sqc_get _ _ _ (by omega)]⟩
              have f3 : w1.frozen? ⟨w.heap.size + 1 + 1 + 1, 1 + ka * 10 + kb, none⟩ = false := hH.f3 _
              go_wp2_with (first | fail)
              first
                | (refine ⟨(), ?_, hH.s3 _ _ (by rw [Nat.add_assoc]; exact sqc_set _ _ _ _ _ HS.out)⟩; (simp [lput, done, hn]; done))
                | (refine ⟨?_, hH.s3 _ _ (by rw [Nat.add_assoc]; exact sqc_set _ _ _ _ _ HS.out)⟩; (simp [lput, done, hn]; done))
                | (refine ⟨(), ?_, hH⟩; (simp [lput, done, hn]; done))
                | (refine ⟨?_, hH⟩; (simp [lput, done, hn]; done))
                | (refine ⟨(), ?_, hH⟩; (simp [lput, done, hn]; rfl))
                | (refine ⟨?_, hH⟩; (simp [lput, done, hn]; rfl))
                | (refine ⟨(), ?_, hH⟩; (simp [lput, done]; done))
                | (refine ⟨?_, hH⟩; (simp [lput, done]; done))
                | (refine ⟨(), ?_, hH⟩; (simp [lput, done]; rfl))
                | (refine ⟨?_, hH⟩; (simp [lput, done]; rfl))
          case hq_io =>
            clear hH
            intro d _ w1 hd hJ
            simp only [allDone, List.length_cons, List.length_nil, Nat.reduceAdd, and_true] at hd
            have hH := hJ; clear hJ
            simp only [hd, cond_true] at hH
            simp only [lput, List.set, hd, cond_true]
            clear hd
            go_wp2
            go_roundw
            case rel => exact ⟨j + 1, by omega, by go_num, hH⟩
            case measure => simp [intOf]; omega
        · obtain rfl : j = N := by omega
          have hrow := hid (isoP_row (g := g) HT.out k)
          go_wp2
          go_roundw
          case rel => exact ⟨k + 1, by omega, by go_num, by rw [hrow.out]; exact hH⟩
          case measure => simp [intOf]; omega
    · obtain rfl : k = N := by omega
      go_wp2_with (first | (refine wpL_loadFull rfl rfl rfl rowSq hH.h3 (sqc_size _ _) ?_) | (refine wpL_storeFull rfl rfl rfl rfl rowSq hH.h2 (sqc_size _ _) (sqc_ok _ _) ?_))
      exact ret_c rfl rfl hH.r2.h2 rowSq (sqc_size _ _) ⟨rfl, hH.r2.below⟩
end Go.Proofs.Ytbhjbllgmenbaab
