/- Proved: what CommutingCount and AssociatingCount return, of program and model alike. Conditions: those that each theorem names. -/
import Derived.Test.YtpfhjbcmlebejaaAs0
import Derived.Test.YtpfhjbcmlebejaaSm
namespace Go.Proofs.Ytpfhjbcmlebejaa
set_option linter.unusedVariables false
set_option linter.unusedSimpArgs false
open Go.RowKit
/-- x and y commute. -/
def comP (g : Nat → UInt8) (x y : Nat) : Bool := decide ((g (x * 10 + y)).toNat = (g (y * 10 + x)).toNat)
theorem comP_yes {g : Nat → UInt8} {x y : Nat} (h : (g (x * 10 + y)).toNat = (g (y * 10 + x)).toNat) : comP g x y = true := decide_eq_true h
theorem comP_no {g : Nat → UInt8} {x y : Nat} (h : ¬ (g (x * 10 + y)).toNat = (g (y * 10 + x)).toNat) : comP g x y = false := decide_eq_false h
/-- x, y and z associate. -/
def assP (g : Nat → UInt8) (x y z : Nat) : Bool := decide ((g ((g (x * 10 + y)).toNat * 10 + z)).toNat = (g (x * 10 + (g (y * 10 + z)).toNat)).toNat)
theorem assP_yes {g : Nat → UInt8} {x y z : Nat} (h : (g ((g (x * 10 + y)).toNat * 10 + z)).toNat = (g (x * 10 + (g (y * 10 + z)).toNat)).toNat) : assP g x y z = true := decide_eq_true h
theorem assP_no {g : Nat → UInt8} {x y z : Nat} (h : ¬ (g ((g (x * 10 + y)).toNat * 10 + z)).toNat = (g (x * 10 + (g (y * 10 + z)).toNat)).toNat) : assP g x y z = false := decide_eq_false h
theorem u8_ne' {p q : UInt8} (h : ¬ p.toNat = q.toNat) : ¬ ((p.toNat : Int) = (q.toNat : Int)) := by omega
set_option maxRecDepth 20000 in
set_option maxHeartbeats 1000000 in
theorem specCommutingCount_no (o : Int) (g : Nat → UInt8) (w : World) (hs : loopB o g = false) :
    Calls Try.prog 17 #[.agg (sqc o g)] w fun e w' => e = .returned (.tuple #[.int .i64 0, .int .i64 1]) ∧ Below w.heap.size w w' := by
  have hH := Has.start1 w (sqc o g) 30
  go_enter Try.func17, Try.ntmps17
  go_wp2_with (first | fail | (refine wpL_loadFull rfl rfl rfl rowSq hH.h0 (sqc_size _ _) ?_) | (go_at_call 43; refine (l01Loop_any o g _).mono ?_; rintro e w2 ⟨rfl, hb⟩; replace hH := hH.call' hb; clear hb; rw [hs]))
  go_ret2
  exact ⟨rfl, hH.below⟩
set_option maxRecDepth 20000 in
set_option maxHeartbeats 4000000 in
theorem specCommutingCount_in (N : Nat) (g : Nat → UInt8) (w : World) (hq : IsSq N g) (hl : loopB (N : Int) g = true) :
    Calls Try.prog 17 #[.agg (sqc N g)] w fun e w' => e = .returned (.tuple #[.int .i64 (c2 (comP g) N N : Nat), .int .i64 0]) ∧ Below w.heap.size w w' := by
  have h10 := hq.hi
  have HQ := hid hq
  clear hq
  have hN10 : (N : Int) ≤ 10 := by omega
  have hH := Has.start1 w (sqc N g) 30
  go_enter Try.func17, Try.ntmps17
  go_wp2_with (first | fail | (refine wpL_loadFull rfl rfl rfl rowSq hH.h0 (sqc_size _ _) ?_) | (go_at_call 43; refine (l01Loop_any N g _).mono ?_; rintro e w2 ⟨rfl, hb⟩; replace hH := hH.call' hb; clear hb; rw [hl]; have c0 := hH.c0 0; rw [sqc_get0] at c0))
  (try clear c0)
  go_loopw [4, 5] (fun c i wr => ∃ x t : Nat, x ≤ N ∧ Hid (c2 (comP g) N x = t) ∧ c = .int .i64 t ∧ i = .int .i64 x ∧ Has w wr [(sqc N g, 30)]) (fun _ i _ => 20 - (intOf i).toNat)
  case atStart => exact ⟨0, 0, by omega, hid (c2_zero _ _), rfl, rfl, hH⟩
  case round =>
    clear hH
    obtain ⟨x, t, hx, HT, rfl, rfl, hH⟩ := hrel
    have ht : t ≤ 100 := by have := c2_le (comP g) h10 (x := x) (by omega); rw [HT.out] at this; exact this
    have ht1 : (t : Int) ≤ 100 := by omega
    have cz : wr.cell? ⟨w.heap.size, 0, none⟩ = some (.int .i64 N) := by rw [hH.c0, sqc_get0]
    by_cases hlt : x < N
    · have hx10 : x < 10 := by omega
      have hx1 : (x : Int) < 10 := by omega
      go_wp2
      clear cz
      go_loopw [4, 6] (fun c i wr => ∃ y u : Nat, y ≤ N ∧ Hid (t + c1 (comP g) x y = u) ∧ c = .int .i64 u ∧ i = .int .i64 y ∧ Has w wr [(sqc N g, 30)]) (fun _ i _ => 20 - (intOf i).toNat)
      case atStart => exact ⟨0, t, by omega, hid rfl, rfl, rfl, hH⟩
      case round =>
        clear hH
        obtain ⟨y, u, hy, HU, rfl, rfl, hH⟩ := hrel
        have hu : u ≤ 110 := by have := c1_le (comP g) x (y := y) (by omega); have := HU.out; omega
        have hu1 : (u : Int) ≤ 110 := by omega
        have cz : wr.cell? ⟨w.heap.size, 0, none⟩ = some (.int .i64 N) := by rw [hH.c0, sqc_get0]
        by_cases hlt2 : y < N
        · have hy10 : y < 10 := by omega
          have hy1 : (y : Int) < 10 := by omega
          obtain ⟨p, hp⟩ : ∃ p, g (x * 10 + y) = p := ⟨_, rfl⟩
          obtain ⟨q, hqq⟩ : ∃ q, g (y * 10 + x) = q := ⟨_, rfl⟩
          have ca : wr.cell? ⟨w.heap.size, 1 + x * 10 + y, none⟩ = some (.int .u8 p.toNat) := by rw [hH.c0, Nat.add_assoc, sqc_get _ _ _ (by omega), hp]
          have cb : wr.cell? ⟨w.heap.size, 1 + y * 10 + x, none⟩ = some (.int .u8 q.toNat) := by rw [hH.c0, Nat.add_assoc, sqc_get _ _ _ (by omega), hqq]
          by_cases ea : p.toNat = q.toNat
          · have HU2 : Hid (t + c1 (comP g) x (y + 1) = u + 1) := hid (by rw [c1_yes (comP_yes (by rw [hp, hqq]; exact ea)), ← HU.out]; omega)
            have ea' : ((p.toNat : Int) = (q.toNat : Int)) := by omega
            clear ea hp hqq
            go_wp2
            go_quiet (fail)
            go_wp2
            go_roundw
            case rel => exact ⟨y + 1, u + 1, by omega, HU2, by go_num, by go_num, hH.drewN _⟩
            case measure => simp [intOf]; omega
          · have HU2 : Hid (t + c1 (comP g) x (y + 1) = u) := hid (by rw [c1_no (comP_no (by rw [hp, hqq]; exact ea))]; exact HU.out)
            have ea' := u8_ne' ea
            clear ea hp hqq
            go_wp2
            go_quiet (fail)
            go_wp2
            go_roundw
            case rel => exact ⟨y + 1, u, by omega, HU2, rfl, by go_num, hH.drewN _⟩
            case measure => simp [intOf]; omega
        · obtain rfl : y = N := by omega
          have HT2 : Hid (c2 (comP g) y (x + 1) = u) := hid (by rw [c2_step, HT.out]; exact HU.out)
          go_wp2
          go_roundw
          case rel => exact ⟨x + 1, u, by omega, HT2, rfl, by go_num, hH⟩
          case measure => simp [intOf]; omega
    · obtain rfl : x = N := by omega
      go_wp2
      go_ret2
      exact ⟨by rw [HT.out]; rfl, hH.below⟩
set_option maxRecDepth 20000 in
set_option maxHeartbeats 1000000 in
theorem implCommutingCount_no (o : Int) (g : Nat → UInt8) (w : World) (hs : loopB o g = false) :
    Calls Try.prog 18 #[.agg (sqc o g)] w fun e w' => e = .returned (.tuple #[.int .i64 0, .int .i64 1]) ∧ Below w.heap.size w w' := by
  have hH := Has.start1 w (sqc o g) 30
  go_enter Try.func18, Try.ntmps18
  go_wp2_with (first | fail | (refine wpL_loadFull rfl rfl rfl rowSq hH.h0 (sqc_size _ _) ?_) | (go_at_call 44; refine (IsLoop_any o g _).mono ?_; rintro e w2 ⟨rfl, hb⟩; replace hH := hH.call' hb; clear hb; rw [hs]))
  go_ret2
  exact ⟨rfl, hH.below⟩
set_option maxRecDepth 20000 in
set_option maxHeartbeats 4000000 in
theorem implCommutingCount_in (N : Nat) (g : Nat → UInt8) (w : World) (hq : IsSq N g) (hl : loopB (N : Int) g = true) :
    Calls Try.prog 18 #[.agg (sqc N g)] w fun e w' => e = .returned (.tuple #[.int .i64 (c2 (comP g) N N : Nat), .int .i64 0]) ∧ Below w.heap.size w w' := by
  have h10 := hq.hi
  have HQ := hid hq
  clear hq
  have hN10 : (N : Int) ≤ 10 := by omega
  have hH := Has.start1 w (sqc N g) 30
  go_enter Try.func18, Try.ntmps18
  go_wp2_with (first | fail | (refine wpL_loadFull rfl rfl rfl rowSq hH.h0 (sqc_size _ _) ?_) | (go_at_call 44; refine (IsLoop_any N g _).mono ?_; rintro e w2 ⟨rfl, hb⟩; replace hH := hH.call' hb; clear hb; rw [hl]; have c0 := hH.c0 0; rw [sqc_get0] at c0))
  (try clear c0)
  go_loopw [4, 12] (fun c i wr => ∃ x t : Nat, x ≤ N ∧ Hid (c2 (comP g) N x = t) ∧ c = .int .i64 t ∧ i = .int .i64 x ∧ Has w wr [(sqc N g, 30)]) (fun _ i _ => 20 - (intOf i).toNat)
  case atStart => exact ⟨0, 0, by omega, hid (c2_zero _ _), rfl, rfl, hH⟩
  case round =>
    clear hH
    obtain ⟨x, t, hx, HT, rfl, rfl, hH⟩ := hrel
    have ht : t ≤ 100 := by have := c2_le (comP g) h10 (x := x) (by omega); rw [HT.out] at this; exact this
    have ht1 : (t : Int) ≤ 100 := by omega
    have cz : wr.cell? ⟨w.heap.size, 0, none⟩ = some (.int .i64 N) := by rw [hH.c0, sqc_get0]
    by_cases hlt : x < N
    · have hx10 : x < 10 := by omega
      have hx1 : (x : Int) < 10 := by omega
      go_wp2
      clear cz
      go_loopw [4, 17] (fun c i wr => ∃ y u : Nat, y ≤ N ∧ Hid (t + c1 (comP g) x y = u) ∧ c = .int .i64 u ∧ i = .int .i64 y ∧ Has w wr [(sqc N g, 30)]) (fun _ i _ => 20 - (intOf i).toNat)
      case atStart => exact ⟨0, t, by omega, hid rfl, rfl, rfl, hH⟩
      case round =>
        clear hH
        obtain ⟨y, u, hy, HU, rfl, rfl, hH⟩ := hrel
        have hu : u ≤ 110 := by have := c1_le (comP g) x (y := y) (by omega); have := HU.out; omega
        have hu1 : (u : Int) ≤ 110 := by omega
        have cz : wr.cell? ⟨w.heap.size, 0, none⟩ = some (.int .i64 N) := by rw [hH.c0, sqc_get0]
        by_cases hlt2 : y < N
        · have hy10 : y < 10 := by omega
          have hy1 : (y : Int) < 10 := by omega
          obtain ⟨p, hp⟩ : ∃ p, g (x * 10 + y) = p := ⟨_, rfl⟩
          obtain ⟨q, hqq⟩ : ∃ q, g (y * 10 + x) = q := ⟨_, rfl⟩
          have ca : wr.cell? ⟨w.heap.size, 1 + x * 10 + y, none⟩ = some (.int .u8 p.toNat) := by rw [hH.c0, Nat.add_assoc, sqc_get _ _ _ (by omega), hp]
          have cb : wr.cell? ⟨w.heap.size, 1 + y * 10 + x, none⟩ = some (.int .u8 q.toNat) := by rw [hH.c0, Nat.add_assoc, sqc_get _ _ _ (by omega), hqq]
          by_cases ea : p.toNat = q.toNat
          · have HU2 : Hid (t + c1 (comP g) x (y + 1) = u + 1) := hid (by rw [c1_yes (comP_yes (by rw [hp, hqq]; exact ea)), ← HU.out]; omega)
            have ea' : ((p.toNat : Int) = (q.toNat : Int)) := by omega
            clear ea hp hqq
            go_wp2
            go_quiet (fail)
            go_wp2
            go_roundw
            case rel => exact ⟨y + 1, u + 1, by omega, HU2, by go_num, by go_num, hH.drewN _⟩
            case measure => simp [intOf]; omega
          · have HU2 : Hid (t + c1 (comP g) x (y + 1) = u) := hid (by rw [c1_no (comP_no (by rw [hp, hqq]; exact ea))]; exact HU.out)
            have ea' := u8_ne' ea
            clear ea hp hqq
            go_wp2
            go_quiet (fail)
            go_wp2
            go_roundw
            case rel => exact ⟨y + 1, u, by omega, HU2, rfl, by go_num, hH.drewN _⟩
            case measure => simp [intOf]; omega
        · obtain rfl : y = N := by omega
          have HT2 : Hid (c2 (comP g) y (x + 1) = u) := hid (by rw [c2_step, HT.out]; exact HU.out)
          go_wp2
          go_roundw
          case rel => exact ⟨x + 1, u, by omega, HT2, rfl, by go_num, hH⟩
          case measure => simp [intOf]; omega
    · obtain rfl : x = N := by omega
      go_wp2
      go_ret2
      exact ⟨by rw [HT.out]; rfl, hH.below⟩
set_option maxRecDepth 20000 in
set_option maxHeartbeats 1000000 in
theorem specAssociatingCount_no (o : Int) (g : Nat → UInt8) (w : World) (hs : loopB o g = false) :
    Calls Try.prog 19 #[.agg (sqc o g)] w fun e w' => e = .returned (.tuple #[.int .i64 0, .int .i64 1]) ∧ Below w.heap.size w w' := by
  have hH := Has.start1 w (sqc o g) 30
  go_enter Try.func19, Try.ntmps19
  go_wp2_with (first | fail | (refine wpL_loadFull rfl rfl rfl rowSq hH.h0 (sqc_size _ _) ?_) | (go_at_call 43; refine (l01Loop_any o g _).mono ?_; rintro e w2 ⟨rfl, hb⟩; replace hH := hH.call' hb; clear hb; rw [hs]))
  go_ret2
  exact ⟨rfl, hH.below⟩
theorem l05Associator_nat (N : Nat) (g : Nat → UInt8) (x y z : Nat) (w : World) (hq : IsSq N g) (hx : x < N) (hy : y < N) (hz : z < N) :
    Calls Try.prog 45 #[.agg (sqc N g), .int .u8 x, .int .u8 y, .int .u8 z] w fun e w' => e = .returned (.int .u8 (asc g N x y z).toNat) ∧ Below w.heap.size w w' := by
  have h10 := hq.hi
  have := l05Associator_any N g (UInt8.ofNat x) (UInt8.ofNat y) (UInt8.ofNat z) w hq (by rw [u8_of x (by omega)]; exact hx) (by rw [u8_of y (by omega)]; exact hy) (by rw [u8_of z (by omega)]; exact hz)
  rw [u8_of x (by omega), u8_of y (by omega), u8_of z (by omega)] at this
  exact this
set_option maxRecDepth 20000 in
set_option maxHeartbeats 8000000 in
theorem specAssociatingCount_in (N : Nat) (g : Nat → UInt8) (w : World) (hL : IsLp N g) (hl : loopB (N : Int) g = true) :
    Calls Try.prog 19 #[.agg (sqc N g)] w fun e w' => e = .returned (.tuple #[.int .i64 (t3 (assP g) N N : Nat), .int .i64 0]) ∧ Below w.heap.size w w' := by
  have h10 := hL.sq.hi
  have HQ := hid hL.sq
  have HL := hid hL
  clear hL
  have hN10 : (N : Int) ≤ 10 := by omega
  have hH := Has.start1 w (sqc N g) 30
  go_enter Try.func19, Try.ntmps19
  go_wp2_with (first | fail | (refine wpL_loadFull rfl rfl rfl rowSq hH.h0 (sqc_size _ _) ?_) | (go_at_call 43; refine (l01Loop_any N g _).mono ?_; rintro e w2 ⟨rfl, hb⟩; replace hH := hH.call' hb; clear hb; rw [hl]; have c0 := hH.c0 0; rw [sqc_get0] at c0))
  (try clear c0)
  go_loopw [4, 5] (fun c i wr => ∃ x t : Nat, x ≤ N ∧ Hid (t3 (assP g) N x = t) ∧ c = .int .i64 t ∧ i = .int .u8 x ∧ Has w wr [(sqc N g, 30)]) (fun _ i _ => 20 - (intOf i).toNat)
  case atStart => exact ⟨0, 0, by omega, hid rfl, rfl, rfl, hH⟩
  case round =>
    clear hH
    obtain ⟨x, t, hx, HT, rfl, rfl, hH⟩ := hrel
    have ht : t ≤ 1000 := by have := t3_le (assP g) h10 (x := x) (by omega); rw [HT.out] at this; exact this
    have ht1 : (t : Int) ≤ 1000 := by omega
    have cz : wr.cell? ⟨w.heap.size, 0, none⟩ = some (.int .i64 N) := by rw [hH.c0, sqc_get0]
    by_cases hlt : x < N
    · have hx10 : x < 10 := by omega
      have hx1 : (x : Int) < 10 := by omega
      go_wp2
      clear cz
      go_loopw [4, 6] (fun c i wr => ∃ y t' : Nat, y ≤ N ∧ Hid (t + t2 (assP g) N x y = t') ∧ c = .int .i64 t' ∧ i = .int .u8 y ∧ Has w wr [(sqc N g, 30)]) (fun _ i _ => 20 - (intOf i).toNat)
      case atStart => exact ⟨0, t, by omega, hid rfl, rfl, rfl, hH⟩
      case round =>
        clear hH
        obtain ⟨y, t', hy, HT', rfl, rfl, hH⟩ := hrel
        have ht' : t' ≤ 1100 := by have := t2_le (assP g) h10 x (y := y) (by omega); have := HT'.out; omega
        have ht1' : (t' : Int) ≤ 1100 := by omega
        have cz : wr.cell? ⟨w.heap.size, 0, none⟩ = some (.int .i64 N) := by rw [hH.c0, sqc_get0]
        by_cases hlt2 : y < N
        · have hy10 : y < 10 := by omega
          have hy1 : (y : Int) < 10 := by omega
          go_wp2
          clear cz
          go_loopw [4, 7] (fun c i wr => ∃ z u : Nat, z ≤ N ∧ Hid (t' + t1 (assP g) x y z = u) ∧ c = .int .i64 u ∧ i = .int .u8 z ∧ Has w wr [(sqc N g, 30)]) (fun _ i _ => 20 - (intOf i).toNat)
          case atStart => exact ⟨0, t', by omega, hid rfl, rfl, rfl, hH⟩
          case round =>
            clear hH
            obtain ⟨z, u, hz, HU, rfl, rfl, hH⟩ := hrel
            have hu : u ≤ 1110 := by have := t1_le (assP g) x y (z := z) (by omega); have := HU.out; omega
            have hu1 : (u : Int) ≤ 1110 := by omega
            have cz : wr.cell? ⟨w.heap.size, 0, none⟩ = some (.int .i64 N) := by rw [hH.c0, sqc_get0]
            by_cases hlt3 : z < N
            · have hz10 : z < 10 := by omega
              have hz1 : (z : Int) < 10 := by omega
              have hA : (asc g N x y z).toNat = 0 ↔ assP g x y z = true := by
                rw [asc_zero HL.out hlt hlt2 hlt3]; unfold assP mu; rw [decide_eq_true_eq]
              obtain ⟨v, hv⟩ : ∃ v, asc g N x y z = v := ⟨_, rfl⟩
              rw [hv] at hA
              have HA := hid hA
              have HV := hid hv
              clear hA hv
              have bv := u8_bd v
              by_cases ea : v.toNat = 0
              · have HU2 : Hid (t' + t1 (assP g) x y (z + 1) = u + 1) := hid (by rw [t1_yes (HA.out.1 ea), ← HU.out]; omega)
                have ea' : ((v.toNat : Int) = 0) := by omega
                clear ea
                go_wp2_with (first | fail | (refine wpL_loadFull rfl rfl rfl rowSq hH.h0 (sqc_size _ _) ?_) | (go_at_call 45; refine (l05Associator_nat N g x y z _ HQ.out hlt hlt2 hlt3).mono ?_; rintro e w4 ⟨rfl, hb⟩; rw [HV.out]; replace hH := hH.call' hb; clear hb cz))
                go_roundw
                case rel => exact ⟨z + 1, u + 1, by omega, HU2, by go_num, by go_num, hH⟩
                case measure => simp [intOf]; omega
              · have HU2 : Hid (t' + t1 (assP g) x y (z + 1) = u) := hid (by
                  have : assP g x y z = false := by
                    cases e : assP g x y z with
                    | false => rfl
                    | true => exact absurd (HA.out.2 e) ea
                  rw [t1_no this]; exact HU.out)
                have ea' : ¬ ((v.toNat : Int) = 0) := by omega
                clear ea
                go_wp2_with (first | fail | (refine wpL_loadFull rfl rfl rfl rowSq hH.h0 (sqc_size _ _) ?_) | (go_at_call 45; refine (l05Associator_nat N g x y z _ HQ.out hlt hlt2 hlt3).mono ?_; rintro e w4 ⟨rfl, hb⟩; rw [HV.out]; replace hH := hH.call' hb; clear hb cz))
                go_roundw
                case rel => exact ⟨z + 1, u, by omega, HU2, rfl, by go_num, hH⟩
                case measure => simp [intOf]; omega
            · obtain rfl : z = N := by omega
              have HT2 : Hid (t + t2 (assP g) z x (y + 1) = u) := hid (by rw [t2_step, ← Nat.add_assoc, HT'.out]; exact HU.out)
              go_wp2
              go_roundw
              case rel => exact ⟨y + 1, u, by omega, HT2, rfl, by go_num, hH⟩
              case measure => simp [intOf]; omega
        · obtain rfl : y = N := by omega
          have HT2 : Hid (t3 (assP g) y (x + 1) = t') := hid (by rw [t3_step, HT.out]; exact HT'.out)
          go_wp2
          go_roundw
          case rel => exact ⟨x + 1, t', by omega, HT2, rfl, by go_num, hH⟩
          case measure => simp [intOf]; omega
    · obtain rfl : x = N := by omega
      go_wp2
      go_ret2
      exact ⟨by rw [HT.out]; rfl, hH.below⟩
set_option maxRecDepth 20000 in
set_option maxHeartbeats 1000000 in
theorem implAssociatingCount_no (o : Int) (g : Nat → UInt8) (w : World) (hs : loopB o g = false) :
    Calls Try.prog 20 #[.agg (sqc o g)] w fun e w' => e = .returned (.tuple #[.int .i64 0, .int .i64 1]) ∧ Below w.heap.size w w' := by
  have hH := Has.start1 w (sqc o g) 30
  go_enter Try.func20, Try.ntmps20
  go_wp2_with (first | fail | (refine wpL_loadFull rfl rfl rfl rowSq hH.h0 (sqc_size _ _) ?_) | (go_at_call 44; refine (IsLoop_any o g _).mono ?_; rintro e w2 ⟨rfl, hb⟩; replace hH := hH.call' hb; clear hb; rw [hs]))
  go_ret2
  exact ⟨rfl, hH.below⟩
set_option maxRecDepth 20000 in
set_option maxHeartbeats 8000000 in
theorem implAssociatingCount_in (N : Nat) (g : Nat → UInt8) (w : World) (hL : IsLp N g) (hl : loopB (N : Int) g = true) :
    Calls Try.prog 20 #[.agg (sqc N g)] w fun e w' => e = .returned (.tuple #[.int .i64 (t3 (assP g) N N : Nat), .int .i64 0]) ∧ Below w.heap.size w w' := by
  have h10 := hL.sq.hi
  have HQ := hid hL.sq
  have HL := hid hL
  clear hL
  have hN10 : (N : Int) ≤ 10 := by omega
  have hH := Has.start1 w (sqc N g) 30
  go_enter Try.func20, Try.ntmps20
  go_wp2_with (first | fail | (refine wpL_loadFull rfl rfl rfl rowSq hH.h0 (sqc_size _ _) ?_) | (go_at_call 44; refine (IsLoop_any N g _).mono ?_; rintro e w2 ⟨rfl, hb⟩; replace hH := hH.call' hb; clear hb; rw [hl]; have c0 := hH.c0 0; rw [sqc_get0] at c0))
  (try clear c0)
  go_loopw [4, 13] (fun c i wr => ∃ x t : Nat, x ≤ N ∧ Hid (t3 (assP g) N x = t) ∧ c = .int .i64 t ∧ i = .int .i64 x ∧ Has w wr [(sqc N g, 30)]) (fun _ i _ => 20 - (intOf i).toNat)
  case atStart => exact ⟨0, 0, by omega, hid rfl, rfl, rfl, hH⟩
  case round =>
    clear hH
    obtain ⟨x, t, hx, HT, rfl, rfl, hH⟩ := hrel
    have ht : t ≤ 1000 := by have := t3_le (assP g) h10 (x := x) (by omega); rw [HT.out] at this; exact this
    have ht1 : (t : Int) ≤ 1000 := by omega
    have cz : wr.cell? ⟨w.heap.size, 0, none⟩ = some (.int .i64 N) := by rw [hH.c0, sqc_get0]
    by_cases hlt : x < N
    · have hx10 : x < 10 := by omega
      have hx1 : (x : Int) < 10 := by omega
      go_wp2
      clear cz
      go_loopw [4, 18] (fun c i wr => ∃ y t' : Nat, y ≤ N ∧ Hid (t + t2 (assP g) N x y = t') ∧ c = .int .i64 t' ∧ i = .int .i64 y ∧ Has w wr [(sqc N g, 30)]) (fun _ i _ => 20 - (intOf i).toNat)
      case atStart => exact ⟨0, t, by omega, hid rfl, rfl, rfl, hH⟩
      case round =>
        clear hH
        obtain ⟨y, t', hy, HT', rfl, rfl, hH⟩ := hrel
        have ht' : t' ≤ 1100 := by have := t2_le (assP g) h10 x (y := y) (by omega); have := HT'.out; omega
        have ht1' : (t' : Int) ≤ 1100 := by omega
        have cz : wr.cell? ⟨w.heap.size, 0, none⟩ = some (.int .i64 N) := by rw [hH.c0, sqc_get0]
        by_cases hlt2 : y < N
        · have hy10 : y < 10 := by omega
          have hy1 : (y : Int) < 10 := by omega
          go_wp2
          clear cz
          go_loopw [4, 23] (fun c i wr => ∃ z u : Nat, z ≤ N ∧ Hid (t' + t1 (assP g) x y z = u) ∧ c = .int .i64 u ∧ i = .int .i64 z ∧ Has w wr [(sqc N g, 30)]) (fun _ i _ => 20 - (intOf i).toNat)
          case atStart => exact ⟨0, t', by omega, hid rfl, rfl, rfl, hH⟩
          case round =>
            clear hH
            obtain ⟨z, u, hz, HU, rfl, rfl, hH⟩ := hrel
            have hu : u ≤ 1110 := by have := t1_le (assP g) x y (z := z) (by omega); have := HU.out; omega
            have hu1 : (u : Int) ≤ 1110 := by omega
            have cz : wr.cell? ⟨w.heap.size, 0, none⟩ = some (.int .i64 N) := by rw [hH.c0, sqc_get0]
            by_cases hlt3 : z < N
            · have hz10 : z < 10 := by omega
              have hz1 : (z : Int) < 10 := by omega
              obtain ⟨p, hp⟩ : ∃ p, g (x * 10 + y) = p := ⟨_, rfl⟩
              have hpl : p.toNat < N := by rw [← hp]; exact mu_lt HQ.out hlt hlt2
              obtain ⟨q, hqq⟩ : ∃ q, g (p.toNat * 10 + z) = q := ⟨_, rfl⟩
              obtain ⟨r, hr⟩ : ∃ r, g (y * 10 + z) = r := ⟨_, rfl⟩
              have hrl : r.toNat < N := by rw [← hr]; exact mu_lt HQ.out hlt2 hlt3
              obtain ⟨s, hs⟩ : ∃ s, g (x * 10 + r.toNat) = s := ⟨_, rfl⟩
              have c1' : wr.cell? ⟨w.heap.size, 1 + x * 10 + y, none⟩ = some (.int .u8 p.toNat) := by rw [hH.c0, Nat.add_assoc, sqc_get _ _ _ (by omega), hp]
              have c2' : wr.cell? ⟨w.heap.size, 1 + p.toNat * 10 + z, none⟩ = some (.int .u8 q.toNat) := by rw [hH.c0, Nat.add_assoc, sqc_get _ _ _ (by omega), hqq]
              have c3' : wr.cell? ⟨w.heap.size, 1 + y * 10 + z, none⟩ = some (.int .u8 r.toNat) := by rw [hH.c0, Nat.add_assoc, sqc_get _ _ _ (by omega), hr]
              have c4' : wr.cell? ⟨w.heap.size, 1 + x * 10 + r.toNat, none⟩ = some (.int .u8 s.toNat) := by rw [hH.c0, Nat.add_assoc, sqc_get _ _ _ (by omega), hs]
              have hp1 : (p.toNat : Int) < 10 := by omega
              have hr1 : (r.toNat : Int) < 10 := by omega
              by_cases ea : q.toNat = s.toNat
              · have HU2 : Hid (t' + t1 (assP g) x y (z + 1) = u + 1) := hid (by rw [t1_yes (assP_yes (by rw [hp, hqq, hr, hs]; exact ea)), ← HU.out]; omega)
                have ea' : ((q.toNat : Int) = (s.toNat : Int)) := by omega
                clear ea hp hqq hr hs
                go_wp2
                go_quiet (fail)
                go_wp2
                go_roundw
                case rel => exact ⟨z + 1, u + 1, by omega, HU2, by go_num, by go_num, hH.drewN _⟩
                case measure => simp [intOf]; omega
              · have HU2 : Hid (t' + t1 (assP g) x y (z + 1) = u) := hid (by rw [t1_no (assP_no (by rw [hp, hqq, hr, hs]; exact ea))]; exact HU.out)
                have ea' := u8_ne' ea
                clear ea hp hqq hr hs
                go_wp2
                go_quiet (fail)
                go_wp2
                go_roundw
                case rel => exact ⟨z + 1, u, by omega, HU2, rfl, by go_num, hH.drewN _⟩
                case measure => simp [intOf]; omega
            · obtain rfl : z = N := by omega
              have HT2 : Hid (t + t2 (assP g) z x (y + 1) = u) := hid (by rw [t2_step, ← Nat.add_assoc, HT'.out]; exact HU.out)
              go_wp2
              go_roundw
              case rel => exact ⟨y + 1, u, by omega, HT2, rfl, by go_num, hH⟩
              case measure => simp [intOf]; omega
        · obtain rfl : y = N := by omega
          have HT2 : Hid (t3 (assP g) y (x + 1) = t') := hid (by rw [t3_step, HT.out]; exact HT'.out)
          go_wp2
          go_roundw
          case rel => exact ⟨x + 1, t', by omega, HT2, rfl, by go_num, hH⟩
          case measure => simp [intOf]; omega
    · obtain rfl : x = N := by omega
      go_wp2
      go_ret2
      exact ⟨by rw [HT.out]; rfl, hH.below⟩
end Go.Proofs.Ytpfhjbcmlebejaa
