/- Proved: what ExponentOf returns, of program and model alike: the least common multiple of all orders. Conditions: those that each theorem names. -/
import Derived.Test.YtpfhjbcmlebejaaOr
import Derived.Test.YtpfhjbcmlebejaaXp0
namespace Go.Proofs.Ytpfhjbcmlebejaa
set_option linter.unusedVariables false
set_option linter.unusedSimpArgs false
open Go.RowKit
theorem mul_bd {E m j : Nat} (hj : j ≤ lcmQ E m) (h10 : m ≤ 10) (hE : E ≤ 10000000000) : E * j ≤ 100000000000 := by
  have h1 : E * j ≤ E * 10 := Nat.mul_le_mul_left E (Nat.le_trans hj (Nat.le_trans lcmQ_le h10))
  omega
theorem gcd_pos' {a b c d : Nat} (h : Nat.gcd a b = Nat.gcd c d) (hd : 1 ≤ d) (hb : b = 0) : 1 ≤ a := by
  subst hb
  have := Nat.gcd_pos_of_pos_right c hd
  rw [Nat.gcd_zero_right] at h
  omega
theorem l05Order_nat (N m x : Nat) (g : Nat → UInt8) (w : World) (hL : IsLp N g) (hx : x < N) (hO : IsOrd g N x m) :
    Calls Try.prog 49 #[.agg (sqc N g), .int .u8 x] w fun e w' => e = .returned (.int .i64 m) ∧ Below w.heap.size w w' := by
  have h10 := hL.sq.hi
  have e1 := u8_of x (by omega)
  have := l05Order_any N m g (UInt8.ofNat x) w hL (by rw [e1]; exact hx) (by rw [e1]; exact hO)
  rwa [e1] at this
theorem orderOf_nat (N m x : Nat) (g : Nat → UInt8) (w : World) (hL : IsLp N g) (hx : x < N) (hO : IsOrd g N x m) :
    Calls Try.prog 50 #[.agg (sqc N g), .int .u8 x] w fun e w' => e = .returned (.int .i64 m) ∧ Below w.heap.size w w' := by
  have h10 := hL.sq.hi
  have e1 := u8_of x (by omega)
  have := orderOf_any N m g (UInt8.ofNat x) w hL (by rw [e1]; exact hx) (by rw [e1]; exact hO)
  rwa [e1] at this
set_option maxRecDepth 20000 in
set_option maxHeartbeats 1000000 in
theorem specExponentOf_no (o : Int) (g : Nat → UInt8) (w : World) (hs : loopB o g = false) :
    Calls Try.prog 24 #[.agg (sqc o g)] w fun e w' => e = .returned (.tuple #[.int .i64 0, .int .i64 1]) ∧ Below w.heap.size w w' := by
  have hH := Has.start1 w (sqc o g) 30
  go_enter Try.func24, Try.ntmps24
  go_wp2_with (first | fail | (refine wpL_loadFull rfl rfl rfl rowSq hH.h0 (sqc_size _ _) ?_) | (go_at_call 43; refine (l01Loop_any o g _).mono ?_; rintro e w2 ⟨rfl, hb⟩; replace hH := hH.call' hb; clear hb; rw [hs]))
  go_ret2
  exact ⟨rfl, hH.below⟩
set_option maxRecDepth 20000 in
set_option maxHeartbeats 1000000 in
theorem implExponentOf_no (o : Int) (g : Nat → UInt8) (w : World) (hs : loopB o g = false) :
    Calls Try.prog 25 #[.agg (sqc o g)] w fun e w' => e = .returned (.tuple #[.int .i64 0, .int .i64 1]) ∧ Below w.heap.size w w' := by
  have hH := Has.start1 w (sqc o g) 30
  go_enter Try.func25, Try.ntmps25
  go_wp2_with (first | fail | (refine wpL_loadFull rfl rfl rfl rowSq hH.h0 (sqc_size _ _) ?_) | (go_at_call 44; refine (IsLoop_any o g _).mono ?_; rintro e w2 ⟨rfl, hb⟩; replace hH := hH.call' hb; clear hb; rw [hs]))
  go_ret2
  exact ⟨rfl, hH.below⟩
set_option maxRecDepth 20000 in
set_option maxHeartbeats 4000000 in
theorem specExponentOf_in (N : Nat) (g : Nat → UInt8) (w : World) (hL : IsLp N g) (hl : loopB (N : Int) g = true) :
    Calls Try.prog 24 #[.agg (sqc N g)] w fun e w' => e = .returned (.tuple #[.int .i64 (lcmTo g N N : Nat), .int .i64 0]) ∧ Below w.heap.size w w' := by
  have h10 := hL.sq.hi
  have HL := hid hL
  clear hL
  have hN10 : (N : Int) ≤ 10 := by omega
  have hH := Has.start1 w (sqc N g) 30
  go_enter Try.func24, Try.ntmps24
  go_wp2_with (first | fail | (refine wpL_loadFull rfl rfl rfl rowSq hH.h0 (sqc_size _ _) ?_) | (go_at_call 43; refine (l01Loop_any N g _).mono ?_; rintro e w2 ⟨rfl, hb⟩; replace hH := hH.call' hb; clear hb; rw [hl]; have c0 := hH.c0 0; rw [sqc_get0] at c0))
  (try clear c0)
  go_loopw [4, 5] (fun c i wr => ∃ x t : Nat, x ≤ N ∧ Hid (lcmTo g N x = t) ∧ c = .int .i64 t ∧ i = .int .u8 x ∧ Has w wr [(sqc N g, 30)]) (fun _ i _ => 20 - (intOf i).toNat)
  case atStart => exact ⟨0, 1, by omega, hid rfl, rfl, rfl, hH⟩
  case round =>
    clear hH
    obtain ⟨x, t, hx, HT, rfl, rfl, hH⟩ := hrel
    have ht1 : 1 ≤ t := by have := (lcmTo_bd HL.out.sq x hx).1; rw [HT.out] at this; exact this
    have ht2 : t ≤ 10000000000 := by have := lcmTo_le HL.out.sq hx; rw [HT.out] at this; exact this
    have ht1' : 1 ≤ (t : Int) := by omega
    have ht2' : (t : Int) ≤ 10000000000 := by omega
    have cz : wr.cell? ⟨w.heap.size, 0, none⟩ = some (.int .i64 N) := by rw [hH.c0, sqc_get0]
    by_cases hlt : x < N
    · have hx10 : x < 10 := by omega
      have hx1 : (x : Int) < 10 := by omega
      have hxN : (x : Int) < N := by omega
      have HO := hid (od_is HL.out.sq hlt)
      obtain ⟨m, hm⟩ : ∃ m, od g N x = m := ⟨_, rfl⟩
      have hm1 : 1 ≤ m := by have := od_pos HL.out.sq hlt; omega
      have hm2 : m ≤ 10 := by have := od_le HL.out.sq hlt; omega
      have HM := hid hm
      rw [hm] at HO
      clear hm
      have hm1' : 1 ≤ (m : Int) := by omega
      have hm2' : (m : Int) ≤ 10 := by omega
      have HS : Hid (lcmTo g N (x + 1) = Nat.lcm t m) := hid (by show Nat.lcm (lcmTo g N x) (od g N x) = _; rw [HT.out, HM.out])
      go_wp2_with (first | fail | (refine wpL_loadFull rfl rfl rfl rowSq hH.h0 (sqc_size _ _) ?_) | (go_at_call 49; refine (l05Order_nat N m x g _ HL.out hlt HO.out).mono ?_; rintro e w4 ⟨rfl, hb⟩; replace hH := hH.call' hb; clear hb cz))
      go_loopw [7, 8] (fun c i wx => ∃ p q : Nat, Hid (Nat.gcd p q = Nat.gcd t m) ∧ p ≤ 10000000000 ∧ q ≤ 10 ∧ c = .int .i64 p ∧ i = .int .i64 q ∧ Has w wx [(sqc N g, 30)]) (fun _ i _ => (intOf i).toNat)
      case atStart => exact ⟨t, m, hid rfl, by omega, by omega, rfl, rfl, hH⟩
      case round =>
        clear hH
        obtain ⟨p, q, HG, hp, hq, rfl, rfl, hH⟩ := hrel
        have hp' : (p : Int) ≤ 10000000000 := by omega
        have hq' : (q : Int) ≤ 10 := by omega
        by_cases hq0 : 0 < q
        · have hq0' : 0 < (q : Int) := by omega
          obtain ⟨r, hr⟩ : ∃ r, p % q = r := ⟨_, rfl⟩
          have hri : (p : Int) % (q : Int) = (r : Int) := by rw [← hr]; simp
          have hrq : r < q := by rw [← hr]; exact Nat.mod_lt _ hq0
          have HG2 : Hid (Nat.gcd q r = Nat.gcd t m) := hid (by rw [← hr, gcd_turn]; exact HG.out)
          clear hr
          go_wp2
          go_roundw
          case rel => exact ⟨q, r, HG2, by omega, by omega, rfl, by rw [hri], hH⟩
          case measure => simp [intOf]; omega
        · obtain rfl : q = 0 := by omega
          have hp1 := gcd_pos' HG.out hm1 rfl
          have hp1' : 1 ≤ (p : Int) := by omega
          obtain ⟨d, hd⟩ : ∃ d, t / p = d := ⟨_, rfl⟩
          obtain ⟨y, hy⟩ : ∃ y, d * m = y := ⟨_, rfl⟩
          have hgp : p = Nat.gcd t m := by have := HG.out; rwa [Nat.gcd_zero_right] at this
          have hyl : y = Nat.lcm t m := by rw [← hy, ← hd, hgp]; exact lcmQ_div
          have hyb : y ≤ 100000000000 := by have := (lcm_bd hm1 ht1 hm2).2; omega
          have hdi : (t : Int) / (p : Int) = (d : Int) := by rw [← hd]; simp
          have hyi : (d : Int) * (m : Int) = (y : Int) := by rw [← hy]; simp
          have hdb : d ≤ 10000000000 := by rw [← hd]; exact Nat.le_trans (Nat.div_le_self _ _) ht2
          have hdb' : (d : Int) ≤ 10000000000 := by omega
          have hyb' : (y : Int) ≤ 100000000000 := by omega
          have HY : Hid (lcmTo g N (x + 1) = y) := hid (by rw [HS.out, hyl])
          clear hd hy hgp hyl HG
          go_wp2
          go_roundw
          case rel => exact ⟨x + 1, y, by omega, HY, rfl, by go_num, hH⟩
          case measure => simp [intOf]; omega
    · obtain rfl : x = N := by omega
      go_wp2
      go_ret2
      exact ⟨by rw [HT.out]; rfl, hH.below⟩
set_option maxRecDepth 20000 in
set_option maxHeartbeats 4000000 in
theorem implExponentOf_in (N : Nat) (g : Nat → UInt8) (w : World) (hL : IsLp N g) (hl : loopB (N : Int) g = true) :
    Calls Try.prog 25 #[.agg (sqc N g)] w fun e w' => e = .returned (.tuple #[.int .i64 (lcmTo g N N : Nat), .int .i64 0]) ∧ Below w.heap.size w w' := by
  have h10 := hL.sq.hi
  have HL := hid hL
  clear hL
  have hN10 : (N : Int) ≤ 10 := by omega
  have hH := Has.start1 w (sqc N g) 30
  go_enter Try.func25, Try.ntmps25
  go_wp2_with (first | fail | (refine wpL_loadFull rfl rfl rfl rowSq hH.h0 (sqc_size _ _) ?_) | (go_at_call 44; refine (IsLoop_any N g _).mono ?_; rintro e w2 ⟨rfl, hb⟩; replace hH := hH.call' hb; clear hb; rw [hl]; have c0 := hH.c0 0; rw [sqc_get0] at c0))
  (try clear c0)
  go_loopw [4, 14] (fun c i wr => ∃ x t : Nat, x ≤ N ∧ Hid (lcmTo g N x = t) ∧ c = .int .i64 t ∧ i = .int .u8 x ∧ Has w wr [(sqc N g, 30)]) (fun _ i _ => 20 - (intOf i).toNat)
  case atStart => exact ⟨0, 1, by omega, hid rfl, rfl, rfl, hH⟩
  case round =>
    clear hH
    obtain ⟨x, t, hx, HT, rfl, rfl, hH⟩ := hrel
    have ht1 : 1 ≤ t := by have := (lcmTo_bd HL.out.sq x hx).1; rw [HT.out] at this; exact this
    have ht2 : t ≤ 10000000000 := by have := lcmTo_le HL.out.sq hx; rw [HT.out] at this; exact this
    have ht1' : 1 ≤ (t : Int) := by omega
    have ht2' : (t : Int) ≤ 10000000000 := by omega
    have cz : wr.cell? ⟨w.heap.size, 0, none⟩ = some (.int .i64 N) := by rw [hH.c0, sqc_get0]
    by_cases hlt : x < N
    · have hx10 : x < 10 := by omega
      have hx1 : (x : Int) < 10 := by omega
      have hxN : (x : Int) < N := by omega
      have HO := hid (od_is HL.out.sq hlt)
      obtain ⟨m, hm⟩ : ∃ m, od g N x = m := ⟨_, rfl⟩
      have hm1 : 1 ≤ m := by have := od_pos HL.out.sq hlt; omega
      have hm2 : m ≤ 10 := by have := od_le HL.out.sq hlt; omega
      have HM := hid hm
      rw [hm] at HO
      clear hm
      have hm1' : 1 ≤ (m : Int) := by omega
      have hm2' : (m : Int) ≤ 10 := by omega
      have HS : Hid (lcmTo g N (x + 1) = Nat.lcm t m) := hid (by show Nat.lcm (lcmTo g N x) (od g N x) = _; rw [HT.out, HM.out])
      go_wp2_with (first | fail | (refine wpL_loadFull rfl rfl rfl rowSq hH.h0 (sqc_size _ _) ?_) | (go_at_call 50; refine (orderOf_nat N m x g _ HL.out hlt HO.out).mono ?_; rintro e w4 ⟨rfl, hb⟩; replace hH := hH.call' hb; clear hb cz))
      go_loopw [4] (fun c wx => ∃ j y : Nat, 1 ≤ j ∧ j ≤ lcmQ t m ∧ Hid (t * j = y) ∧ c = .int .i64 y ∧ Has w wx [(sqc N g, 30)]) (fun c _ => 200000000000 - (intOf c).toNat)
      case atStart => exact ⟨1, t, by omega, lcmQ_pos hm1, hid (Nat.mul_one t), rfl, hH⟩
      case round =>
        clear hH
        obtain ⟨j, y, hj1, hj2, HY, rfl, hH⟩ := hrel
        have hyb : y ≤ 100000000000 := by have := mul_bd hj2 hm2 ht2; rw [HY.out] at this; exact this
        have hyb' : (y : Int) ≤ 100000000000 := by omega
        obtain ⟨r, hr⟩ : ∃ r, y % m = r := ⟨_, rfl⟩
        have hri : (y : Int) % (m : Int) = (r : Int) := by rw [← hr]; simp
        by_cases hr0 : r = 0
        · have HE : Hid (lcmTo g N (x + 1) = y) := hid (by
            rw [HS.out, ← HY.out]
            exact (lcm_hit ht1 hj1 hj2 (by rw [HY.out, hr, hr0])).symm)
          have hr0' : (r : Int) = 0 := by omega
          clear hr hr0 hj2
          go_wp2
          go_roundw
          case rel => exact ⟨x + 1, y, by omega, HE, rfl, by go_num, hH⟩
          case measure => simp [intOf]; omega
        · have hlt2 := lcm_miss hj2 (by rw [HY.out, hr]; exact hr0)
          have hr0' : ¬ (r : Int) = 0 := by omega
          clear hr hr0 hj2
          go_wp2
          go_roundw
          case rel => exact ⟨j + 1, y + t, by omega, by omega, hid (by rw [Nat.mul_succ, HY.out]), by go_num, hH⟩
          case measure => simp [intOf]; omega
    · obtain rfl : x = N := by omega
      go_wp2
      go_ret2
      exact ⟨by rw [HT.out]; rfl, hH.below⟩
end Go.Proofs.Ytpfhjbcmlebejaa
