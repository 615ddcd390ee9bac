/- Proved: what IsotopeFor returns, of program and model alike. Conditions: those that each theorem names. -/
import Derived.Test.YtpfhjbcmlebejaaIo0
import Derived.Test.YtpfhjbcmlebejaaLa2
import Derived.Test.YtpfhjbcmlebejaaLc
import Derived.Test.YtpfhjbcmlebejaaPc0
namespace Go.Proofs.Ytpfhjbcmlebejaa
set_option linter.unusedVariables false
set_option linter.unusedSimpArgs false
open Go.RowKit
set_option maxRecDepth 20000 in
set_option maxHeartbeats 4000000 in
theorem l01Moved_any (N : Nat) (g a b c : Nat → UInt8) (w : World) (hg : ∀ x y, x < N → y < N → (g (x * 10 + y)).toNat < N) (ha : IsPerm a N) (hb : IsPerm b N) (hc : IsPerm c N) :
    Calls Try.prog 71 #[.agg (sqc N g), .agg (u8s 10 a), .agg (u8s 10 b), .agg (u8s 10 c)] w fun e w' => e = .returned (.agg (sqc N (isoP g (mkTri a b c) N N 0))) ∧ Below w.heap.size w w' := by
  have h10 := ha.hi
  have HT := hid (mkTri_is ha hb hc)
  have HG := hid hg
  have HA := hid ha
  have HB := hid hb
  clear hg ha hb hc
  obtain ⟨t, ht⟩ : ∃ t, mkTri a b c = t := ⟨_, rfl⟩
  have HM := hid ht
  rw [ht] at HT ⊢
  clear ht
  have hN10 : (N : Int) ≤ 10 := by omega
  have hS := (Has.start5 w (sqc N g) (u8s 10 a) (u8s 10 b) (u8s 10 c) (sqc 0 fun _ => 0) 30 73 73 73 30)
  have hS2 := (Has.start6 w (sqc N g) (u8s 10 a) (u8s 10 b) (u8s 10 c) (sqc 0 fun _ => 0) (sqc 0 fun _ => 0) 30 73 73 73 30 30)
  have hH := hS2.r5 (cs' := sqc N fun _ => 0)
  have s0 : (((((w.alloc (.cells (sqc N g) 30)).alloc (.cells (u8s 10 a) 73)).alloc (.cells (u8s 10 b) 73)).alloc (.cells (u8s 10 c) 73)).alloc (.cells (sqc 0 fun _ => 0) 30)).cell? ⟨w.heap.size, 0, none⟩ = some (.int .i64 N) := by rw [hS.c0, sqc_get0]
  go_enter Try.func71, Try.ntmps71
  go_wp2_with (first | (refine wpL_alloc rfl rfl zeroSq ?_; intro g hg; (try simp at hg); subst hg) | (refine wpL_build1 rfl rfl rfl (builtSqO _) ?_) | (refine wpL_storeFull rfl rfl rfl rfl rowSq hS2.h5 (sqc_size _ _) (sqc_ok _ _) ?_))
  clear hS hS2 s0
  go_loopw [10] (fun i wr => ∃ k : Nat, k ≤ N ∧ i = .int .i64 k ∧ Has w wr [(sqc N g, 30), (u8s 10 a, 73), (u8s 10 b, 73), (u8s 10 c, 73), (sqc 0 (fun _ => 0), 30), (sqc N (isoP g t N k 0), 30)]) (fun i _ => 10 - (intOf i).toNat)
  case atStart => exact ⟨0, by omega, rfl, by rw [isoP_zero]; exact hH⟩
  case round =>
    clear hH
    obtain ⟨k, hk, rfl, hH⟩ := hrel
    have c0 : wr.cell? ⟨w.heap.size, 0, none⟩ = some (.int .i64 N) := by rw [hH.c0, sqc_get0]
    by_cases hlt : k < N
    · have hk10 : k < 10 := by omega
      obtain ⟨wo, hwo⟩ : ∃ wo : World, wo = wr := ⟨_, rfl⟩
      subst hwo
      go_wp2
      clear c0
      go_loopw [11] (fun i wr => ∃ j : Nat, j ≤ N ∧ i = .int .i64 j ∧ Has w wr [(sqc N g, 30), (u8s 10 a, 73), (u8s 10 b, 73), (u8s 10 c, 73), (sqc 0 (fun _ => 0), 30), (sqc N (isoP g t N k j), 30)]) (fun i _ => 10 - (intOf i).toNat)
      case atStart => exact ⟨0, by omega, rfl, hH⟩
      case round =>
        clear hH
        obtain ⟨j, hj, rfl, hH⟩ := hrel
        have c0 : wr.cell? ⟨w.heap.size, 0, none⟩ = some (.int .i64 N) := by rw [hH.c0, sqc_get0]
        by_cases hlt2 : j < N
        · have hj10 : j < 10 := by omega
          have hj1 : (j : Int) < 10 := by omega
          have hk1 : (k : Int) < 10 := by omega
          obtain ⟨ka, hka⟩ : ∃ ka, (a k).toNat = ka := ⟨_, rfl⟩
          obtain ⟨kb, hkb⟩ : ∃ kb, (b j).toNat = kb := ⟨_, rfl⟩
          obtain ⟨kv, hkv⟩ : ∃ kv, (g (k * 10 + j)).toNat = kv := ⟨_, rfl⟩
          have ba := HA.out.lt k hlt
          have bb := HB.out.lt j hlt2
          have bv := HG.out k j hlt hlt2
          rw [hka] at ba
          rw [hkb] at bb
          rw [hkv] at bv
          have Ha := hid hka
          have Hb := hid hkb
          have Hv := hid hkv
          clear hka hkb hkv
          have ba' : (ka : Int) < 10 := by omega
          have bb' : (kb : Int) < 10 := by omega
          have bv' : (kv : Int) < 10 := by omega
          have hst : ∀ i, i < 100 → isoP g t N k (j + 1) i = if i = ka * 10 + kb then c kv else isoP g t N k j i := fun i hi => by
            rw [isoP_step HT.out hlt hlt2 i hi, ← HM.out, tri_mk0 _ _ _ _ hk10, tri_mk1 _ _ _ _ hj10, Ha.out, Hb.out, Hv.out, tri_mk2 _ _ _ _ (by omega)]
          have HS := hid hst
          clear hst
          go_wp2
          refine wp_region_frame (X := Unit) (fun d _ => [(27, bif d 0 then .int .i64 k else u27), (28, bif d 1 then .pointer (some ⟨w.heap.size + 1, k, none⟩) else u28), (29, bif d 2 then .int .u8 ka else u29), (30, bif d 3 then .int .i64 j else u30), (31, bif d 4 then .pointer (some ⟨w.heap.size + 1 + 1, j, none⟩) else u31), (32, bif d 5 then .int .u8 kb else u32), (33, bif d 6 then .int .i64 k else u33), (34, bif d 7 then .int .i64 j else u34), (35, bif d 8 then .pointer (some ⟨w.heap.size, 1, none⟩) else u35), (36, bif d 9 then .pointer (some ⟨w.heap.size, 1 + k * 10, none⟩) else u36), (37, bif d 10 then .pointer (some ⟨w.heap.size, 1 + k * 10 + j, none⟩) else u37), (38, bif d 11 then .int .u8 kv else u38), (39, bif d 12 then .pointer (some ⟨w.heap.size + 1 + 1 + 1, kv, none⟩) else u39), (40, bif d 13 then .int .u8 (c kv).toNat else u40), (41, bif d 14 then .pointer (some ⟨w.heap.size + 1 + 1 + 1 + 1 + 1, 1, none⟩) else u41), (42, bif d 15 then .pointer (some ⟨w.heap.size + 1 + 1 + 1 + 1 + 1, 1 + ka * 10, none⟩) else u42), (43, bif d 16 then .pointer (some ⟨w.heap.size + 1 + 1 + 1 + 1 + 1, 1 + ka * 10 + kb, none⟩) else u43)])
            (fun d _ w' => Has w w' [(sqc N g, 30), (u8s 10 a, 73), (u8s 10 b, 73), (u8s 10 c, 73), (sqc 0 (fun _ => 0), 30), (sqc N (bif d 17 then isoP g t N k (j + 1) else isoP g t N k j), 30)]) (by kernel_rfl) (by kernel_rfl) ?h0_io ?hs_io ?hq_io
          case h0_io => exact ⟨(), (by simp [lput]), hH.drew⟩
          case hs_io =>
            refine ⟨?_, ?_, ?_, ?_, ?_, ?_, ?_, ?_, ?_, ?_, ?_, ?_, ?_, ?_, ?_, ?_, ?_, ?_, trivial⟩
            all_goals
              clear hH
              intro d _ w1 hd hn hJ
              simp only [needs, Region.binds, reduceCtorEq, Bool.false_eq_true, false_implies, true_and, and_true, true_implies, forall_const] at hn
              simp only [lput, List.set, hn, cond_true]
              try simp only [hd, cond_false] at hJ
              have hH := hJ; clear hJ
              have c0 : w1.cell? ⟨w.heap.size, 1 + k * 10 + j, none⟩ = some (.int .u8 kv) := by rw [hH.c0, Nat.add_assoc, sqc_get _ _ _ (by omega), Hv.out]
              have c1a : w1.cell? ⟨w.heap.size + 1, k, none⟩ = some (.int .u8 ka) := by rw [hH.c1, u8s_get _ _ _ (by omega), Ha.out]
              have c1b : w1.cell? ⟨w.heap.size + 1 + 1, j, none⟩ = some (.int .u8 kb) := by rw [hH.c2, u8s_get _ _ _ (by omega), Hb.out]
              have c1c : w1.cell? ⟨w.heap.size + 1 + 1 + 1, kv, none⟩ = some (.int .u8 (c kv).toNat) := by rw [hH.c3, u8s_get _ _ _ (by omega)]
              obtain ⟨v3, c3⟩ : ∃ v : Int, w1.cell? ⟨w.heap.size + 1 + 1 + 1 + 1 + 1, 1 + ka * 10 + kb, none⟩ = some (.int .u8 v) := ⟨_, by rw [hH.c5, Nat.add_assoc, sqc_get _ _ _ (by omega)]⟩
              have f3 : w1.frozen? ⟨w.heap.size + 1 + 1 + 1 + 1 + 1, 1 + ka * 10 + kb, none⟩ = false := hH.f5 _
              go_wp2_with (first | fail)
              first
                | (refine ⟨(), ?_, hH.s5 _ _ (by rw [Nat.add_assoc]; exact sqc_set _ _ _ _ _ HS.out)⟩; (simp [lput, done, hn]; done))
                | (refine ⟨?_, hH.s5 _ _ (by rw [Nat.add_assoc]; exact sqc_set _ _ _ _ _ HS.out)⟩; (simp [lput, done, hn]; done))
                | (refine ⟨(), ?_, hH⟩; (simp [lput, done, hn]; done))
                | (refine ⟨?_, hH⟩; (simp [lput, done, hn]; done))
                | (refine ⟨(), ?_, hH⟩; (simp [lput, done, hn]; rfl))
                | (refine ⟨?_, hH⟩; (simp [lput, done, hn]; rfl))
                | (refine ⟨(), ?_, hH⟩; (simp [lput, done]; done))
                | (refine ⟨?_, hH⟩; (simp [lput, done]; done))
                | (refine ⟨(), ?_, hH⟩; (simp [lput, done]; rfl))
                | (refine ⟨?_, hH⟩; (simp [lput, done]; rfl))
          case hq_io =>
            clear hH
            intro d _ w1 hd hJ
            simp only [allDone, List.length_cons, List.length_nil, Nat.reduceAdd, and_true] at hd
            have hH := hJ; clear hJ
            simp only [hd, cond_true] at hH
            simp only [lput, List.set, hd, cond_true]
            clear hd
            go_wp2
            go_roundw
            case rel => exact ⟨j + 1, by omega, by go_num, hH⟩
            case measure => simp [intOf]; omega
        · obtain rfl : j = N := by omega
          have hrow := hid (isoP_row (g := g) HT.out k)
          go_wp2
          go_roundw
          case rel => exact ⟨k + 1, by omega, by go_num, by rw [hrow.out]; exact hH⟩
          case measure => simp [intOf]; omega
    · obtain rfl : k = N := by omega
      go_wp2_with (first | (refine wpL_loadFull rfl rfl rfl rowSq hH.h5 (sqc_size _ _) ?_) | (refine wpL_storeFull rfl rfl rfl rfl rowSq hH.h4 (sqc_size _ _) (sqc_ok _ _) ?_))
      exact ret_c rfl rfl hH.r4.h4 rowSq (sqc_size _ _) ⟨rfl, hH.r4.below⟩
theorem l01Right_nat2 (N z : Nat) (g : Nat → UInt8) (y : UInt8) (w : World) (hq : IsSq N g) (hz : z < N) (hy : y.toNat < N) :
    Calls Try.prog 37 #[.agg (sqc N g), .int .u8 z, .int .u8 y.toNat] w fun e w' => e = .returned (.int .u8 (backF (colF g y.toNat) N z).toNat) ∧ Below w.heap.size w w' := l01Right_nat N z y.toNat g w hq hz hy
theorem l01Left_nat2 (N z : Nat) (g : Nat → UInt8) (x : UInt8) (w : World) (hq : IsSq N g) (hx : x.toNat < N) (hz : z < N) :
    Calls Try.prog 41 #[.agg (sqc N g), .int .u8 x.toNat, .int .u8 z] w fun e w' => e = .returned (.int .u8 (backF (rowF g x.toNat) N z).toNat) ∧ Below w.heap.size w w' := l01Left_nat N x.toNat z g w hq hx hz
structure XA where
  a : Nat
  b : Nat
theorem cond_below {p : Prop} {w w' : World} {lo b : Nat} {cs : Array Value} {t : TypeId} (h : p → lo ≤ b ∧ holds w b cs t) (hb : Below w.heap.size w w') : p → lo ≤ b ∧ holds w' b cs t :=
  fun e => ⟨(h e).1, holds_below (h e).2 hb (holds_lt (h e).2)⟩
set_option maxRecDepth 20000 in
set_option maxHeartbeats 8000000 in
theorem l07Isotope_any (N : Nat) (g : Nat → UInt8) (a b : UInt8) (w : World) (hq : IsSq N g) (ha : a.toNat < N) (hb : b.toNat < N) :
    Calls Try.prog 46 #[.agg (sqc N g), .int .u8 a.toNat, .int .u8 b.toNat] w fun e w' => e = .returned (.agg (sqc N (isoP g (toT g N a.toNat b.toNat) N N 0))) ∧ Below w.heap.size w w' := by
  have h10 := hq.hi
  have HQ := hid hq
  have HI := hid (iso_same_cells hq ha hb)
  have he := hq.lt' ha hb
  have hE0 := exF_perm hq.lo hq.hi he
  obtain ⟨x, hx⟩ : ∃ x : UInt8, g (a.toNat * 10 + b.toNat) = x := ⟨_, rfl⟩
  rw [hx] at he hE0 HI
  have HX := hid hx
  have HP := hid hE0
  have HE := hid (ex2 N x (by omega))
  clear hq hx hE0
  have hN10 : (N : Int) ≤ 10 := by omega
  have ha10 : a.toNat < 10 := by omega
  have hb10 : b.toNat < 10 := by omega
  have ha' : (a.toNat : Int) < 10 := by omega
  have hb' : (b.toNat : Int) < 10 := by omega
  have he' : (x.toNat : Int) < 10 := by omega
  have hH := Has.start2 w (sqc N g) (sqc 0 fun _ => 0) 30 30
  go_enter Try.func46, Try.ntmps46
  go_wp2_with (first | (refine wpL_alloc rfl rfl zeroSq ?_; intro g hg; (try simp at hg); subst hg))
  refine wp_region_frame (X := XA) (fun d x => [(11, bif d 0 then .pointer (some ⟨w.heap.size, 0, none⟩) else undef), (12, bif d 1 then .int .i64 N else undef), (13, bif d 2 then .agg (sqc N fun _ => 0) else undef), (14, bif d 3 then .pointer (some ⟨w.heap.size, 0, none⟩) else undef), (15, bif d 4 then .int .i64 N else undef), (16, bif d 5 then .agg (u8s 10 (sameF N)) else undef), (7, bif d 6 then .pointer (some ⟨x.a, 0, none⟩) else undef), (8, bif d 7 then .pointer (some ⟨x.b, 0, none⟩) else undef)])
    (fun d x w' => Has w w' [(sqc N g, 30), (sqc 0 (fun _ => 0), 30)] ∧ (d 6 = true → w.heap.size + 2 ≤ x.a ∧ holds w' x.a (bif d 8 then sqc N (fun _ => 0) else sqc 0 fun _ => 0) 30) ∧ (d 7 = true → w.heap.size + 2 ≤ x.b ∧ holds w' x.b (bif d 9 then u8s 10 (sameF N) else u8s 10 fun _ => 0) 73) ∧ (d 6 = true → d 7 = true → x.a ≠ x.b) ∧ (d 8 = true → d 6 = true) ∧ (d 9 = true → d 7 = true)) (by kernel_rfl) (by kernel_rfl) ?h0_p ?hs_p ?hq_p
  case h0_p => exact ⟨⟨0, 0⟩, (by simp [lput]), hH.drew, (fun h => by cases h), (fun h => by cases h), (fun h => by cases h), (fun h => by cases h), (fun h => by cases h)⟩
  case hs_p =>
    refine ⟨?_, ?_, ?_, ?_, ?_, ?_, ?_, ?_, ?_, ?_, trivial⟩
    all_goals
      clear hH
      intro d x w1 hd hn hJ
      simp only [needs, Region.binds, reduceCtorEq, Bool.false_eq_true, false_implies, true_and, and_true, true_implies, forall_const] at hn
      obtain ⟨hH, hA, hB, hne, i8, i9⟩ := hJ
      have hA := hid hA
      have hB := hid hB
      have hne := hid hne
      have i8 := hid i8
      have i9 := hid i9
      have c0 : w1.cell? ⟨w.heap.size, 0, none⟩ = some (.int .i64 N) := by rw [hH.c0, sqc_get0]
      simp only [lput, List.set, hn, cond_true]
      go_wp2_with (first | fail | (refine wpL_build1 rfl rfl rfl (builtSqO _) ?_) | (go_at_call 70; refine (l01Same_any N _ h10).mono ?_; rintro e w3 ⟨rfl, hb⟩; replace hH := hH.call' hb; replace hA := hid (cond_below hA.out hb); replace hB := hid (cond_below hB.out hb); clear hb) | (refine wpL_alloc rfl rfl zeroSq ?_; intro g1 hg) | (refine wpL_alloc rfl rfl zeroPl ?_; intro g1 hg) | (refine wpL_storeFull rfl rfl rfl rfl rowSq (hA.out (by simp only [hn])).2 (bif_size (sqc_size _ _) (sqc_size _ _)) (sqc_ok _ _) ?_) | (refine wpL_storeFull rfl rfl rfl rfl rowPl (hB.out (by simp only [hn])).2 (bif_size (u8s_size _ _) (u8s_size _ _)) (u8s_ok _ _) ?_))
      first
        | exact ⟨x, (by simp [lput, done, hn]), hH, hA.out, hB.out, hne.out, i8.out, i9.out⟩
        | (subst hg
           have hz : d 8 = false := by
             cases e : d 8 with
             | false => rfl
             | true => rw [i8.out e] at hd; cases hd
           exact ⟨⟨w1.heap.size, x.b⟩, (by simp [lput, done]), hH.alloc _, (fun _ => ⟨hH.size, by show holds _ _ (bif d 8 then sqc N (fun _ => 0) else sqc 0 fun _ => 0) _; rw [hz]; exact holds_new _ _ _⟩), (fun e => ⟨(hB.out e).1, holds_alloc (hB.out e).2 _⟩), (fun _ e => by have := holds_lt (hB.out e).2; show w1.heap.size ≠ x.b; omega), (fun _ => rfl), i9.out⟩)
        | (subst hg
           have hz : d 9 = false := by
             cases e : d 9 with
             | false => rfl
             | true => rw [i9.out e] at hd; cases hd
           exact ⟨⟨x.a, w1.heap.size⟩, (by simp [lput, done]), hH.alloc _, (fun e => ⟨(hA.out e).1, holds_alloc (hA.out e).2 _⟩), (fun _ => ⟨hH.size, by show holds _ _ (bif d 9 then u8s 10 (sameF N) else u8s 10 fun _ => 0) _; rw [hz]; exact holds_new _ _ _⟩), (fun e _ => by have := holds_lt (hA.out e).2; show x.a ≠ w1.heap.size; omega), i8.out, (fun _ => rfl)⟩)
        | (have h6 : d 6 = true := (by simp only [hn])
           exact ⟨x, (by simp [lput, done, hn]), hH.setRowAbove (hA.out h6).1 _, (fun _ => ⟨(hA.out h6).1, holds_row (hA.out h6).2⟩), (fun e => ⟨(hB.out e).1, holds_row_other (hB.out e).2 (Ne.symm (hne.out h6 e))⟩), hne.out, (fun _ => h6), i9.out⟩)
        | (have h7 : d 7 = true := (by simp only [hn])
           exact ⟨x, (by simp [lput, done, hn]), hH.setRowAbove (hB.out h7).1 _, (fun e => ⟨(hA.out e).1, holds_row_other (hA.out e).2 (hne.out e h7)⟩), (fun _ => ⟨(hB.out h7).1, holds_row (hB.out h7).2⟩), hne.out, i8.out, (fun _ => h7)⟩)
  case hq_p =>
    clear hH
    intro d xx w1 hd hJ
    simp only [allDone, List.length_cons, List.length_nil, Nat.reduceAdd, and_true] at hd
    obtain ⟨hH, hA, hB, hne, _, _⟩ := hJ
    obtain ⟨hlo1, hga⟩ := hA (by simp only [hd])
    obtain ⟨hlo2, hgp⟩ := hB (by simp only [hd])
    have hab := hne (by simp only [hd]) (by simp only [hd])
    simp only [lput, List.set, hd, cond_true] at hga hgp ⊢
    clear hA hB hne hd
    rcases xx with ⟨ga, gp⟩
    simp only at hlo1 hlo2 hga hgp hab ⊢
    go_wp2
    go_loopw [9] (fun i wr => ∃ k : Nat, k ≤ N ∧ i = .int .u8 k ∧ Has w wr [(sqc N g, 30), (sqc 0 (fun _ => 0), 30)] ∧ Hid (holds wr ga (sqc N (fillT N (isV g N a.toNat b.toNat) k 0)) 30) ∧ Hid (holds wr gp (u8s 10 (sameF N)) 73)) (fun i _ => 20 - (intOf i).toNat)
    case atStart => exact ⟨0, by omega, rfl, hH, hid (by rw [fillT_zero]; exact hga), hid hgp⟩
    case round =>
      clear hH hga hgp
      obtain ⟨k, hk, rfl, hH, hga, hgp⟩ := hrel
      have c0 : wr.cell? ⟨w.heap.size, 0, none⟩ = some (.int .i64 N) := by rw [hH.c0, sqc_get0]
      by_cases hlt : k < N
      · have hk10 : k < 10 := by omega
        have hk1 : (k : Int) < 10 := by omega
        go_wp2
        clear c0
        go_loopw [10] (fun i wr => ∃ j : Nat, j ≤ N ∧ i = .int .u8 j ∧ Has w wr [(sqc N g, 30), (sqc 0 (fun _ => 0), 30)] ∧ Hid (holds wr ga (sqc N (fillT N (isV g N a.toNat b.toNat) k j)) 30) ∧ Hid (holds wr gp (u8s 10 (sameF N)) 73)) (fun i _ => 20 - (intOf i).toNat)
        case atStart => exact ⟨0, by omega, rfl, hH, hga, hgp⟩
        case round =>
          clear hH hga hgp
          obtain ⟨j, hj, rfl, hH, hga, hgp⟩ := hrel
          have c0 : wr.cell? ⟨w.heap.size, 0, none⟩ = some (.int .i64 N) := by rw [hH.c0, sqc_get0]
          by_cases hlt2 : j < N
          · have hj10 : j < 10 := by omega
            have hj1 : (j : Int) < 10 := by omega
            obtain ⟨p, hp⟩ : ∃ p, backF (colF g b.toNat) N k = p := ⟨_, rfl⟩
            obtain ⟨q, hqq⟩ : ∃ q, backF (rowF g a.toNat) N j = q := ⟨_, rfl⟩
            have hpl : p.toNat < N := by rw [← hp]; exact (bk_lt (HQ.out.cols _ hb) hlt).1
            have hql : q.toNat < N := by rw [← hqq]; exact (bk_lt (HQ.out.rows _ ha) hlt2).1
            obtain ⟨r, hr⟩ : ∃ r, g (p.toNat * 10 + q.toNat) = r := ⟨_, rfl⟩
            have hv : isV g N a.toNat b.toNat k j = r := by unfold isV; rw [hp, hqq, hr]
            have HV : Hid (∀ i, i < 100 → fillT N (isV g N a.toNat b.toNat) k (j + 1) i = if i = k * 10 + j then r else fillT N (isV g N a.toNat b.toNat) k j i) := hid (fun i hi => by rw [fillT_step N _ k j hj10 i, hv])
            have hp' : (p.toNat : Int) < 10 := by omega
            have hq' : (q.toNat : Int) < 10 := by omega
            have hp10 : p.toNat < 10 := by omega
            have hq10 : q.toNat < 10 := by omega
            have Hp := hid hp
            have Hq := hid hqq
            have Hr := hid hr
            clear hp hqq hr hv
            obtain ⟨F, hF⟩ : ∃ F, fillT N (isV g N a.toNat b.toNat) k j = F := ⟨_, rfl⟩
            obtain ⟨F2, hF2⟩ : ∃ F2, fillT N (isV g N a.toNat b.toNat) k (j + 1) = F2 := ⟨_, rfl⟩
            rw [hF] at hga HV
            rw [hF2] at HV
            have HF2 := hid hF2
            clear hF hF2
            have hga2 := hga.out
            have hgp2 := hgp.out
            clear hga hgp
            go_wp2
            refine wp_region_frame (X := Unit) (fun d _ => [(31, bif d 0 then .int .u8 k else u31), (32, bif d 1 then .int .u8 j else u32), (33, bif d 2 then .agg (sqc N g) else u33), (34, bif d 3 then .int .u8 k else u34), (35, bif d 4 then .int .u8 b.toNat else u35), (36, bif d 5 then .int .u8 p.toNat else u36), (37, bif d 6 then .agg (sqc N g) else u37), (38, bif d 7 then .int .u8 a.toNat else u38), (39, bif d 8 then .int .u8 j else u39), (40, bif d 9 then .int .u8 q.toNat else u40), (41, bif d 10 then .pointer (some ⟨w.heap.size, 1, none⟩) else u41), (42, bif d 11 then .pointer (some ⟨w.heap.size, 1 + p.toNat * 10, none⟩) else u42), (43, bif d 12 then .pointer (some ⟨w.heap.size, 1 + p.toNat * 10 + q.toNat, none⟩) else u43), (44, bif d 13 then .int .u8 r.toNat else u44), (45, bif d 14 then .pointer (some ⟨ga, 1, none⟩) else u45), (46, bif d 15 then .pointer (some ⟨ga, 1 + k * 10, none⟩) else u46), (47, bif d 16 then .pointer (some ⟨ga, 1 + k * 10 + j, none⟩) else u47)])
              (fun d _ w' => Has w w' [(sqc N g, 30), (sqc 0 (fun _ => 0), 30)] ∧ holds w' ga (sqc N (bif d 17 then F2 else F)) 30 ∧ holds w' gp (u8s 10 (sameF N)) 73) (by kernel_rfl) (by kernel_rfl) ?h0_ii ?hs_ii ?hq_ii
            case h0_ii => exact ⟨(), (by simp [lput]), hH.drew, (show _ from hga2), (show _ from hgp2)⟩
            case hs_ii =>
              refine ⟨?_, ?_, ?_, ?_, ?_, ?_, ?_, ?_, ?_, ?_, ?_, ?_, ?_, ?_, ?_, ?_, ?_, ?_, trivial⟩
              all_goals
                clear hH hga2 hgp2
                intro d _ w1 hd hn hJ
                simp only [needs, Region.binds, reduceCtorEq, Bool.false_eq_true, false_implies, true_and, and_true, true_implies, forall_const] at hn
                simp only [lput, List.set, hn, cond_true]
                try simp only [hd, cond_false] at hJ
                obtain ⟨hH, hga2, hgp2⟩ := hJ
                have cg : w1.cell? ⟨w.heap.size, 1 + p.toNat * 10 + q.toNat, none⟩ = some (.int .u8 r.toNat) := by rw [hH.c0, Nat.add_assoc, sqc_get _ _ _ (by omega), Hr.out]
                obtain ⟨v3, c3⟩ : ∃ v : Int, w1.cell? ⟨ga, 1 + k * 10 + j, none⟩ = some (.int .u8 v) := ⟨_, by rw [holds_cell hga2, Nat.add_assoc, sqc_get _ _ _ (by omega)]⟩
                have f3 : w1.frozen? ⟨ga, 1 + k * 10 + j, none⟩ = false := holds_frozen hga2 _
                go_wp2_with (first | fail | (refine wpL_loadFull rfl rfl rfl rowSq hH.h0 (sqc_size _ _) ?_) | (go_at_call 37; refine (l01Right_nat2 N k g b _ HQ.out hlt hb).mono ?_; rintro e w3 ⟨rfl, hb⟩; rw [Hp.out]; replace hH := hH.call' hb; replace hga2 := holds_below hga2 hb (holds_lt hga2); replace hgp2 := holds_below hgp2 hb (holds_lt hgp2); clear hb) | (go_at_call 41; refine (l01Left_nat2 N j g a _ HQ.out ha hlt2).mono ?_; rintro e w3 ⟨rfl, hb⟩; rw [Hq.out]; replace hH := hH.call' hb; replace hga2 := holds_below hga2 hb (holds_lt hga2); replace hgp2 := holds_below hgp2 hb (holds_lt hgp2); clear hb))
                first
                  | (refine ⟨(), ?_, hH.setCellAbove (by simpa using hlo1) _ _, (by have h := holds_set hga2 (1 + k * 10 + j) (.int .u8 r.toNat); rw [Nat.add_assoc, sqc_set N F F2 _ _ HV.out, ← Nat.add_assoc] at h; exact h), holds_other hgp2 _ _ (by simpa using Ne.symm hab)⟩; (simp [lput, done, hn]; done))
                  | (refine ⟨?_, hH.setCellAbove (by simpa using hlo1) _ _, (by have h := holds_set hga2 (1 + k * 10 + j) (.int .u8 r.toNat); rw [Nat.add_assoc, sqc_set N F F2 _ _ HV.out, ← Nat.add_assoc] at h; exact h), holds_other hgp2 _ _ (by simpa using Ne.symm hab)⟩; (simp [lput, done, hn]; done))
                  | (refine ⟨(), ?_, hH, hga2, hgp2⟩; (simp [lput, done, hn]; done))
                  | (refine ⟨?_, hH, hga2, hgp2⟩; (simp [lput, done, hn]; done))
                  | (refine ⟨(), ?_, hH, hga2, hgp2⟩; (simp [lput, done, hn]; rfl))
                  | (refine ⟨?_, hH, hga2, hgp2⟩; (simp [lput, done, hn]; rfl))
                  | (refine ⟨(), ?_, hH, hga2, hgp2⟩; (simp [lput, done]; done))
                  | (refine ⟨?_, hH, hga2, hgp2⟩; (simp [lput, done]; done))
                  | (refine ⟨(), ?_, hH, hga2, hgp2⟩; (simp [lput, done]; rfl))
                  | (refine ⟨?_, hH, hga2, hgp2⟩; (simp [lput, done]; rfl))
            case hq_ii =>
              clear hH hga2 hgp2
              intro d _ w1 hd hJ
              simp only [allDone, List.length_cons, List.length_nil, Nat.reduceAdd, and_true] at hd
              obtain ⟨hH, hga2, hgp2⟩ := hJ
              simp only [hd, cond_true] at hH hga2
              simp only [lput, List.set, hd, cond_true]
              clear hd
              go_wp2
              go_roundw
              case rel => exact ⟨j + 1, by omega, by go_num, hH, hid (by rw [HF2.out]; exact hga2), hid hgp2⟩
              case measure => simp [intOf]; omega
          · obtain rfl : j = N := by omega
            go_wp2
            go_roundw
            case rel => exact ⟨k + 1, by omega, by go_num, hH, hid (by rw [fillT_row]; exact hga.out), hgp⟩
            case measure => simp [intOf]; omega
      · obtain rfl : k = N := by omega
        have cg : wr.cell? ⟨w.heap.size, 1 + a.toNat * 10 + b.toNat, none⟩ = some (.int .u8 x.toNat) := by rw [hH.c0, Nat.add_assoc, sqc_get _ _ _ (by omega), HX.out]
        have hga2 := hga.out
        have hgp2 := hgp.out
        clear hga hgp
        obtain ⟨v1, cp1⟩ : ∃ v, wr.cell? ⟨gp, x.toNat, none⟩ = some v := ⟨_, by rw [holds_cell hgp2, u8s_get _ _ _ (by omega)]⟩
        obtain ⟨v2, cp2⟩ : ∃ v, (wr.setCell ⟨gp, x.toNat, none⟩ (.int .u8 0)).cell? ⟨gp, 0, none⟩ = some v := ⟨_, (holds_cell (holds_set hgp2 x.toNat (.int .u8 0)) 0).trans (Array.getElem?_eq_getElem (by simp))⟩
        have fg := holds_frozen hgp2
        have hgp3 := holds_set (holds_set hgp2 x.toNat (.int .u8 0)) 0 (.int .u8 x.toNat)
        rw [HE.out] at hgp3
        have hga3 := holds_other (holds_other hga2 ⟨gp, x.toNat, none⟩ (.int .u8 0) (by simpa using hab)) ⟨gp, 0, none⟩ (.int .u8 x.toNat) (by simpa using hab)
        have hH3 := (hH.setCellAbove (by simpa using hlo2) x.toNat (.int .u8 0)).setCellAbove (by simpa using hlo2) 0 (.int .u8 x.toNat)
        have HG : Hid (∀ x y, x < k → y < k → (fillT k (isV g k a.toNat b.toNat) k 0 (x * 10 + y)).toNat < k) := hid (fun x y hx hy => isF_lt HQ.out ha hb hx hy)
        go_wp2_with (first | fail | (refine wpL_loadFull (x := .tmp 7) rfl rfl rfl rowSq hga3 (sqc_size _ _) ?_) | (refine wpL_loadFull (x := .tmp 8) rfl rfl rfl rowPl hgp3 (u8s_size _ _) ?_) | (go_at_call 71; refine (l01Moved_any k _ (exF k x) (exF k x) (exF k x) _ HG.out HP.out HP.out HP.out).mono ?_; rintro e w6 ⟨rfl, hb⟩; replace hH3 := hH3.call' hb; clear hb) | (refine wpL_storeFull rfl rfl rfl rfl rowSq hH3.h1 (sqc_size _ _) (sqc_ok _ _) ?_))
        exact ret_c rfl rfl hH3.r1.h1 rowSq (sqc_size _ _) ⟨by rw [← HI.out]; rfl, hH3.r1.below⟩
set_option maxRecDepth 20000 in
set_option maxHeartbeats 1000000 in
theorem specIsotopeFor_err (o : Int) (g : Nat → UInt8) (x y : UInt8) (zz : Int) (w : World) (hzz : (zz == 0) = false)
    (hC : Hid (∀ w, Calls Try.prog 36 #[.agg (sqc o g), .int .u8 x.toNat, .int .u8 y.toNat, .int .u8 0] w fun e w' => e = .returned (.int .i64 zz) ∧ Below w.heap.size w w')) :
    Calls Try.prog 21 #[.agg (sqc o g), .int .u8 x.toNat, .int .u8 y.toNat] w fun e w' => e = .returned (.tuple #[.agg (sqc 0 fun _ => 0), .int .i64 zz]) ∧ Below w.heap.size w w' := by
  have hz2 : ¬ (zz = 0) := by simpa using hzz
  have hH := Has.start2 w (sqc o g) (sqc 0 fun _ => 0) 30 30
  go_enter Try.func21, Try.ntmps21
  go_wp2_with (first | fail | (refine wpL_alloc rfl rfl zeroSq ?_; intro g hg; (try simp at hg); subst hg) | (refine wpL_loadFull rfl rfl rfl rowSq hH.h0 (sqc_size _ _) ?_) | (go_at_call 36; refine (hC.out _).mono ?_; rintro e w2 ⟨rfl, hb⟩; replace hH := hH.call' hb; clear hb) | (refine wpL_build rfl rfl builtSq ?_) | (refine wpL_storeSame rfl rfl rfl rfl rowSq hH.h1 (sqc_ok _ _) ?_))
  exact ret_ct rfl rfl rfl hH.h1 rowSq (sqc_size _ _) ⟨rfl, hH.below⟩
set_option maxRecDepth 20000 in
set_option maxHeartbeats 1000000 in
theorem specIsotopeFor_in (N : Nat) (g : Nat → UInt8) (x y : UInt8) (w : World) (hq : IsSq N g) (hx : x.toNat < N) (hy : y.toNat < N)
    (hC : Hid (∀ w, Calls Try.prog 36 #[.agg (sqc N g), .int .u8 x.toNat, .int .u8 y.toNat, .int .u8 0] w fun e w' => e = .returned (.int .i64 0) ∧ Below w.heap.size w w')) :
    Calls Try.prog 21 #[.agg (sqc N g), .int .u8 x.toNat, .int .u8 y.toNat] w fun e w' => e = .returned (.tuple #[.agg (sqc N (isoP g (toT g N x.toNat y.toNat) N N 0)), .int .i64 0]) ∧ Below w.heap.size w w' := by
  have HQ := hid hq
  clear hq
  have hH := Has.start2 w (sqc N g) (sqc 0 fun _ => 0) 30 30
  go_enter Try.func21, Try.ntmps21
  go_wp2_with (first | fail | (refine wpL_alloc rfl rfl zeroSq ?_; intro g hg; (try simp at hg); subst hg) | (refine wpL_loadFull rfl rfl rfl rowSq hH.h0 (sqc_size _ _) ?_) | (go_at_call 36; refine (hC.out _).mono ?_; rintro e w2 ⟨rfl, hb⟩; replace hH := hH.call' hb; clear hb) | (go_at_call 46; refine (l07Isotope_any N g x y _ HQ.out hx hy).mono ?_; rintro e w4 ⟨rfl, hb⟩; replace hH := hH.call' hb; clear hb) | (refine wpL_storeFull rfl rfl rfl rfl rowSq hH.h1 (sqc_size _ _) (sqc_ok _ _) ?_))
  exact ret_ct rfl rfl rfl hH.r1.h1 rowSq (sqc_size _ _) ⟨rfl, hH.r1.below⟩
set_option maxRecDepth 20000 in
set_option maxHeartbeats 2000000 in
theorem isotopeFor_any (N : Nat) (g : Nat → UInt8) (a b : UInt8) (w : World) (hQ : IsSq N g) (ha : a.toNat < N) (hb : b.toNat < N) :
    Calls Try.prog 47 #[.agg (sqc N g), .int .u8 a.toNat, .int .u8 b.toNat] w fun e w' => e = .returned (.agg (sqc N (isoP g (toT g N a.toNat b.toNat) N N 0))) ∧ Below w.heap.size w w' := by
  have HQ := hid hQ
  have HT := hid (toT_is hQ ha hb)
  clear hQ
  have hH := Has.start2 w (sqc N g) (sqc 0 fun _ => 0) 30 30
  go_enter Try.func47, Try.ntmps47
  go_wp2_with (first | fail | (refine wpL_alloc rfl rfl zeroSq ?_; intro g hg; (try simp at hg); subst hg))
  refine wp_region_frame (X := Unit) (fun d _ => [(7, bif d 0 then .agg (sqc N g) else undef), (8, bif d 1 then .agg (sqc N g) else undef), (9, bif d 2 then .int .u8 a.toNat else undef), (10, bif d 3 then .int .u8 b.toNat else undef), (11, bif d 4 then .agg (u8s 30 (toT g N a.toNat b.toNat)) else undef), (12, bif d 5 then .agg (sqc N (isoP g (toT g N a.toNat b.toNat) N N 0)) else undef)])
    (fun d _ w' => Has w w' [(sqc N g, 30), (bif d 6 then sqc N (isoP g (toT g N a.toNat b.toNat) N N 0) else sqc 0 (fun _ => 0), 30)]) (by kernel_rfl) (by kernel_rfl) ?h0_li ?hs_li ?hq_li
  case h0_li => exact ⟨(), (by simp [lput]), hH.drew⟩
  case hs_li =>
    refine ⟨?_, ?_, ?_, ?_, ?_, ?_, ?_, trivial⟩
    all_goals
      clear hH
      intro d _ w1 hd hn hJ
      simp only [needs, Region.binds, reduceCtorEq, Bool.false_eq_true, false_implies, true_and, and_true, true_implies, forall_const] at hn
      simp only [lput, List.set, hn, cond_true]
      try simp only [hd, cond_false] at hJ
      have hH := hJ; clear hJ
      go_wp2_with (first | fail | (refine wpL_loadFull rfl rfl rfl rowSq hH.h0 (sqc_size _ _) ?_) | (go_at_call 73; refine (tripleAt_any N g a b _ HQ.out ha hb).mono ?_; rintro e w3 ⟨rfl, hb⟩; replace hH := hH.call' hb; clear hb) | (go_at_call 72; refine (isotopeBy_any N g (toT g N a.toNat b.toNat) _ HQ.out HT.out).mono ?_; rintro e w3 ⟨rfl, hb⟩; replace hH := hH.call' hb; clear hb) | (refine wpL_storeFull rfl rfl rfl rfl rowSq hH.h1 (sqc_size _ _) (sqc_ok _ _) ?_; replace hH := hH.r1 (cs' := sqc N (isoP g (toT g N a.toNat b.toNat) N N 0))))
      first
        | (refine ⟨(), ?_, hH⟩; (simp [lput, done, hn]; done))
        | (refine ⟨?_, hH⟩; (simp [lput, done, hn]; done))
        | (refine ⟨(), ?_, hH⟩; (simp [lput, done, hn]; rfl))
        | (refine ⟨?_, hH⟩; (simp [lput, done, hn]; rfl))
        | (refine ⟨(), ?_, hH⟩; (simp [lput, done]; done))
        | (refine ⟨?_, hH⟩; (simp [lput, done]; done))
        | (refine ⟨(), ?_, hH⟩; (simp [lput, done]; rfl))
        | (refine ⟨?_, hH⟩; (simp [lput, done]; rfl))
  case hq_li =>
    clear hH
    intro d _ w1 hd hJ
    simp only [allDone, List.length_cons, List.length_nil, Nat.reduceAdd, and_true] at hd
    have hH := hJ; clear hJ
    simp only [hd, cond_true] at hH
    simp only [lput, List.set, hd, cond_true]
    clear hd
    go_wp2
    exact ret_c rfl rfl hH.h1 rowSq (sqc_size _ _) ⟨rfl, hH.below⟩
set_option maxRecDepth 20000 in
set_option maxHeartbeats 1000000 in
theorem implIsotopeFor_err (o : Int) (g : Nat → UInt8) (x y : UInt8) (zz : Int) (w : World) (hzz : (zz == 0) = false)
    (hC : Hid (∀ w b, holds w b (u8s 2 (pairF x y)) 5 → Calls Try.prog 39 #[.agg (sqc o g), .slice (some ⟨b, 0, none⟩) 2 2] w fun e w' => e = .returned (.int .i64 zz) ∧ Below w.heap.size w w')) :
    Calls Try.prog 22 #[.agg (sqc o g), .int .u8 x.toNat, .int .u8 y.toNat] w fun e w' => e = .returned (.tuple #[.agg (sqc 0 fun _ => 0), .int .i64 zz]) ∧ Below w.heap.size w w' := by
  have hz2 : ¬ (zz = 0) := by simpa using hzz
  have hH := Has.start3 w (sqc o g) (sqc 0 fun _ => 0) (u8s 2 (pairF x y)) 30 30 5
  have h0 := Has.start2 w (sqc o g) (sqc 0 fun _ => 0) 30 30
  go_enter Try.func22, Try.ntmps22
  go_wp2_with (first | fail | (refine wpL_alloc rfl rfl zeroSq ?_; intro g hg; (try simp at hg); subst hg) | (refine wpL_loadFull rfl rfl rfl rowSq h0.h0 (sqc_size _ _) ?_) | (refine wpL_slice2 (x := x) (y := y) rfl rfl rfl rfl ?_) | (go_at_call 39; refine (hC.out _ _ hH.h2).mono ?_; rintro e w2 ⟨rfl, hb⟩; replace hH := hH.call' hb; clear hb h0) | (refine wpL_build rfl rfl builtSq ?_) | (refine wpL_storeSame rfl rfl rfl rfl rowSq hH.h1 (sqc_ok _ _) ?_))
  exact ret_ct rfl rfl rfl hH.h1 rowSq (sqc_size _ _) ⟨rfl, hH.below⟩
set_option maxRecDepth 20000 in
set_option maxHeartbeats 1000000 in
theorem implIsotopeFor_in (N : Nat) (g : Nat → UInt8) (x y : UInt8) (w : World) (hq : IsSq N g) (hx : x.toNat < N) (hy : y.toNat < N)
    (hC : Hid (∀ w b, holds w b (u8s 2 (pairF x y)) 5 → Calls Try.prog 39 #[.agg (sqc N g), .slice (some ⟨b, 0, none⟩) 2 2] w fun e w' => e = .returned (.int .i64 0) ∧ Below w.heap.size w w')) :
    Calls Try.prog 22 #[.agg (sqc N g), .int .u8 x.toNat, .int .u8 y.toNat] w fun e w' => e = .returned (.tuple #[.agg (sqc N (isoP g (toT g N x.toNat y.toNat) N N 0)), .int .i64 0]) ∧ Below w.heap.size w w' := by
  have HQ := hid hq
  clear hq
  have hH := Has.start3 w (sqc N g) (sqc 0 fun _ => 0) (u8s 2 (pairF x y)) 30 30 5
  have h0 := Has.start2 w (sqc N g) (sqc 0 fun _ => 0) 30 30
  go_enter Try.func22, Try.ntmps22
  go_wp2_with (first | fail | (refine wpL_alloc rfl rfl zeroSq ?_; intro g hg; (try simp at hg); subst hg) | (refine wpL_loadFull rfl rfl rfl rowSq h0.h0 (sqc_size _ _) ?_) | (refine wpL_slice2 (x := x) (y := y) rfl rfl rfl rfl ?_) | (go_at_call 39; refine (hC.out _ _ hH.h2).mono ?_; rintro e w2 ⟨rfl, hb⟩; replace hH := hH.call' hb; clear hb h0) | (refine wpL_loadFull rfl rfl rfl rowSq hH.h0 (sqc_size _ _) ?_) | (go_at_call 47; refine (isotopeFor_any N g x y _ HQ.out hx hy).mono ?_; rintro e w4 ⟨rfl, hb⟩; replace hH := hH.call' hb; clear hb) | (refine wpL_storeFull rfl rfl rfl rfl rowSq hH.h1 (sqc_size _ _) (sqc_ok _ _) ?_))
  exact ret_ct rfl rfl rfl hH.r1.h1 rowSq (sqc_size _ _) ⟨rfl, hH.r1.below⟩
end Go.Proofs.Ytpfhjbcmlebejaa
