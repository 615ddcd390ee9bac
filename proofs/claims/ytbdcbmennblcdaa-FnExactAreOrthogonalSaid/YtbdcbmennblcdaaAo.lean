/- Proved: what AreOrthogonal returns, of program and model alike. Conditions: those that each theorem names. -/
import Derived.Test.YtbdcbmennblcdaaAo0
import Derived.Test.YtbdcbmennblcdaaSq3b
import Derived.Test.YtbdcbmennblcdaaSq5
import Derived.Test.YtbdcbmennblcdaaSr
namespace Go.Proofs.Ytbdcbmennblcdaa
set_option linter.unusedVariables false
set_option linter.unusedSimpArgs false
open Go.RowKit
theorem zeroBh : ZeroIs Try.prog 114 (bls 100 fun _ => false) := by unfold ZeroIs; kernel_rfl
theorem builtBh : Try.prog.built 114 [] = some (bls 100 fun _ => false) := by kernel_rfl
theorem rowBh : IsRow Try.prog 114 100 := ⟨.inr ⟨_, _, Try.underlying114⟩, by kernel_rfl⟩
theorem zeroMm : ZeroIs Try.prog 71 (bls 100 fun _ => false) := by unfold ZeroIs; kernel_rfl
theorem code_at {g h : Nat → UInt8} {N x y : Nat} (hq : IsSq N g) (hr : IsSq N h) (hx : x < N) (hy : y < N) : ∃ z v : Nat, (g (x * 10 + y)).toNat = z ∧ (h (x * 10 + y)).toNat = v ∧ z < 10 ∧ v < 10 ∧ codeF g h (x * 10 + y) = z * 10 + v := by
  have h1 := (hq.rows x hx).lt y hy
  have h2 := (hr.rows x hx).lt y hy
  have e1 : (rowF g x y).toNat = (g (x * 10 + y)).toNat := rfl
  have e2 : (rowF h x y).toNat = (h (x * 10 + y)).toNat := rfl
  have := hq.hi
  exact ⟨_, _, rfl, rfl, by omega, by omega, rfl⟩
set_option maxRecDepth 20000 in
set_option maxHeartbeats 4000000 in
theorem l09Orthogonal_any (N : Nat) (g h : Nat → UInt8) (w : World) (hq : IsSq N g) (hr : IsSq N h) :
    Calls Try.prog 67 #[.agg (sqc N g), .agg (sqc N h)] w fun e w' => e = .returned (.bool (orthAll (codeF g h) N N)) ∧ Below w.heap.size w w' := by
  have h10 := hq.hi
  have HA := hid (fun x y hx hy => code_at (x := x) (y := y) hq hr hx hy)
  clear hq hr
  obtain ⟨C, hC⟩ : ∃ C, codeF g h = C := ⟨_, rfl⟩
  rw [hC] at HA ⊢
  clear hC
  have hN2 : (N : Int) ≤ 10 := by omega
  have hH := Has.start3 w (sqc N g) (sqc N h) (bls 100 fun _ => false) 31 31 114
  go_enter Try.func67, Try.ntmps67
  go_wp2_with (first | fail | (refine wpL_alloc rfl rfl zeroBh ?_; intro g0 hg0; (try simp at hg0); subst hg0) | (refine wpL_build rfl rfl builtBh ?_) | (refine wpL_storeSame rfl rfl rfl rfl rowBh hH.h2 (bls_ok _ _) ?_))
  go_loopw [6] (fun i wr => ∃ x : Nat, x ≤ N ∧ i = .int .i64 x ∧ Has w wr [(sqc N g, 31), (sqc N h, 31), (bls 100 (seenF C N x 0), 114)] ∧ Hid (orthAll C N x = true)) (fun i _ => 20 - (intOf i).toNat)
  case atStart => exact ⟨0, by omega, rfl, by rw [seenF_zero]; exact hH, hid rfl⟩
  case round =>
    clear hH
    obtain ⟨x, hx, rfl, hH, HO⟩ := hrel
    have cz : wr.cell? ⟨w.heap.size, 0, none⟩ = some (.int .i64 N) := by rw [hH.c0, sqc_get0]
    by_cases hlt : x < N
    · have hx1 : (x : Int) < N := by omega
      have hx10 : (x : Int) < 10 := by omega
      have hxx : x < 10 := by omega
      go_wp2
      clear cz
      go_loopw [7] (fun i wr => ∃ y : Nat, y ≤ N ∧ i = .int .i64 y ∧ Has w wr [(sqc N g, 31), (sqc N h, 31), (bls 100 (seenF C N x y), 114)] ∧ Hid (orthRow C N x y = true)) (fun i _ => 20 - (intOf i).toNat)
      case atStart => exact ⟨0, by omega, rfl, hH, hid rfl⟩
      case round =>
        clear hH
        obtain ⟨y, hy, rfl, hH, HR⟩ := hrel
        have cz : wr.cell? ⟨w.heap.size, 0, none⟩ = some (.int .i64 N) := by rw [hH.c0, sqc_get0]
        by_cases hlt2 : y < N
        · have hy1 : (y : Int) < N := by omega
          have hy10 : (y : Int) < 10 := by omega
          have hyy : y < 10 := by omega
          obtain ⟨z, v, ez, ev, hz, hv, ec⟩ := HA.out x y hlt hlt2
          have HE := hid ec
          have ca : wr.cell? ⟨w.heap.size, 1 + x * 10 + y, none⟩ = some (.int .u8 z) := by rw [hH.c0, Nat.add_assoc, sqc_get _ _ _ (by omega), ez]
          have cb : wr.cell? ⟨w.heap.size + 1, 1 + x * 10 + y, none⟩ = some (.int .u8 v) := by rw [hH.c1, Nat.add_assoc, sqc_get _ _ _ (by omega), ev]
          obtain ⟨b, hb⟩ : ∃ b, seenF C N x y (z * 10 + v) = b := ⟨_, rfl⟩
          have cc : wr.cell? ⟨w.heap.size + 1 + 1, 10 * z + v, none⟩ = some (.bool b) := by rw [hH.c2, show 10 * z + v = z * 10 + v by omega, bls_get _ _ _ (by omega), hb]
          have fc := hH.f2 (10 * z + v)
          have hz' : (z : Int) < 10 := by omega
          have hv' : (v : Int) < 10 := by omega
          have HB := hid hb
          clear ez ev ec hb
          cases b with
          | true =>
            have HNO := hid (orth_no hlt hlt2 HE.out HB.out)
            go_wp2
            go_quiet (fail)
            go_wp2
            go_ret
            exact ⟨by rw [HNO.out]; rfl, (hH.drewN _).below⟩
          | false =>
            have HR2 := hid (orthRow_ok HR.out HE.out HB.out)
            go_wp2
            go_quiet (fail)
            go_wp2
            go_roundw
            case rel => exact ⟨y + 1, by omega, by go_num, (hH.drewN _).s2 _ _ (bls_step 100 _ _ _ true (fun j _ => by rw [show 10 * z + v = z * 10 + v by omega]; exact seenF_step HE.out j)), HR2⟩
            case measure => simp [intOf]; omega
        · obtain rfl : y = N := by omega
          have HO2 := hid (orthAll_ok HO.out HR.out)
          go_wp2
          go_roundw
          case rel => exact ⟨x + 1, by omega, by go_num, by rw [seenF_next]; exact hH, HO2⟩
          case measure => simp [intOf]; omega
    · obtain rfl : x = N := by omega
      go_wp2
      go_ret
      exact ⟨by rw [HO.out]; rfl, hH.below⟩
set_option maxRecDepth 20000 in
set_option maxHeartbeats 2000000 in
theorem specAreOrthogonal_no (o p : Int) (g h : Nat → UInt8) (w : World) (hs : (sqB o g && sqB p h) = false) :
    Calls Try.prog 32 #[.agg (sqc o g), .agg (sqc p h)] w fun e w' => e = .returned (.tuple #[.bool false, .int .i64 1]) ∧ Below w.heap.size w w' := by
  have hH := Has.start2 w (sqc o g) (sqc p h) 31 31
  cases h1 : sqB o g with
  | false =>
    go_enter Try.func32, Try.ntmps32
    go_wp2_with (first | fail | (refine wpL_guard rfl rfl ?_) | (refine wpL_loadFull rfl rfl rfl rowSq hH.h0 (sqc_size _ _) ?_) | (go_at_call 53; with_reducible refine (l01Is_any o g _).mono ?_; rintro e w2 ⟨rfl, hb⟩; replace hH := hH.call' hb; clear hb; rw [h1]))
    go_ret2
    exact ⟨rfl, hH.below⟩
  | true =>
    have h2 : sqB p h = false := by simpa [h1] using hs
    clear hs
    go_enter Try.func32, Try.ntmps32
    go_wp2_with (first | fail | (refine wpL_guard rfl rfl ?_) | (refine wpL_loadFull rfl rfl rfl rowSq hH.h0 (sqc_size _ _) ?_) | (refine wpL_loadFull rfl rfl rfl rowSq hH.h1 (sqc_size _ _) ?_) | (go_at_call 53; with_reducible refine (l01Is_any o g _).mono ?_; rintro e w2 ⟨rfl, hb⟩; replace hH := hH.call' hb; clear hb; rw [h1]) | (go_at_call 53; with_reducible refine (l01Is_any p h _).mono ?_; rintro e w2 ⟨rfl, hb⟩; replace hH := hH.call' hb; clear hb; rw [h2]))
    go_ret2
    exact ⟨rfl, hH.below⟩
set_option maxRecDepth 20000 in
set_option maxHeartbeats 2000000 in
theorem specAreOrthogonal_far (o p : Int) (g h : Nat → UInt8) (w : World) (h1 : sqB o g = true) (h2 : sqB p h = true) (hne : ¬ o = p) :
    Calls Try.prog 32 #[.agg (sqc o g), .agg (sqc p h)] w fun e w' => e = .returned (.tuple #[.bool false, .int .i64 2]) ∧ Below w.heap.size w w' := by
  have hH := Has.start2 w (sqc o g) (sqc p h) 31 31
  go_enter Try.func32, Try.ntmps32
  go_wp2_with (first | fail | (refine wpL_guard rfl rfl ?_) | (refine wpL_loadFull rfl rfl rfl rowSq hH.h0 (sqc_size _ _) ?_) | (refine wpL_loadFull rfl rfl rfl rowSq hH.h1 (sqc_size _ _) ?_) | (go_at_call 53; with_reducible refine (l01Is_any o g _).mono ?_; rintro e w2 ⟨rfl, hb⟩; replace hH := hH.call' hb; clear hb; rw [h1]) | (go_at_call 53; with_reducible refine (l01Is_any p h _).mono ?_; rintro e w2 ⟨rfl, hb⟩; replace hH := hH.call' hb; clear hb; rw [h2]; have c0 := hH.c0 0; have c1 := hH.c1 0; rw [sqc_get0] at c0 c1))
  go_ret2
  exact ⟨rfl, hH.below⟩
set_option maxRecDepth 20000 in
set_option maxHeartbeats 2000000 in
theorem specAreOrthogonal_in (N : Nat) (g h : Nat → UInt8) (w : World) (h1 : sqB (N : Int) g = true) (h2 : sqB (N : Int) h = true) (hq : IsSq N g) (hr : IsSq N h) :
    Calls Try.prog 32 #[.agg (sqc N g), .agg (sqc N h)] w fun e w' => e = .returned (.tuple #[.bool (orthAll (codeF g h) N N), .int .i64 0]) ∧ Below w.heap.size w w' := by
  have HQ := hid hq
  have HR := hid hr
  clear hq hr
  have hH := Has.start2 w (sqc N g) (sqc N h) 31 31
  go_enter Try.func32, Try.ntmps32
  go_wp2_with (first | fail | (refine wpL_guard rfl rfl ?_) | (refine wpL_loadFull rfl rfl rfl rowSq hH.h0 (sqc_size _ _) ?_) | (refine wpL_loadFull rfl rfl rfl rowSq hH.h1 (sqc_size _ _) ?_) | (go_at_call 53; with_reducible refine (l01Is_any N g _).mono ?_; rintro e w2 ⟨rfl, hb⟩; replace hH := hH.call' hb; clear hb; rw [h1]) | (go_at_call 53; with_reducible refine (l01Is_any N h _).mono ?_; rintro e w2 ⟨rfl, hb⟩; replace hH := hH.call' hb; clear hb; rw [h2]; have c0 := hH.c0 0; have c1 := hH.c1 0; rw [sqc_get0] at c0 c1) | (go_at_call 67; refine (l09Orthogonal_any N g h _ HQ.out HR.out).mono ?_; rintro e w5 ⟨rfl, hb⟩; replace hH := hH.call' hb; clear hb))
  go_ret2
  exact ⟨rfl, hH.below⟩
set_option maxRecDepth 20000 in
set_option maxHeartbeats 2000000 in
theorem implAreOrthogonal_no (o p : Int) (g h : Nat → UInt8) (w : World) (hs : (sqB o g && sqB p h) = false) :
    Calls Try.prog 33 #[.agg (sqc o g), .agg (sqc p h)] w fun e w' => e = .returned (.tuple #[.bool false, .int .i64 1]) ∧ Below w.heap.size w w' := by
  have hH := Has.start2 w (sqc o g) (sqc p h) 31 31
  cases h1 : sqB o g with
  | false =>
    go_enter Try.func33, Try.ntmps33
    go_wp2_with (first | fail | (refine wpL_guard rfl rfl ?_) | (refine wpL_loadFull rfl rfl rfl rowSq hH.h0 (sqc_size _ _) ?_) | (go_at_call 55; with_reducible refine (IsSquare_any o g _).mono ?_; rintro e w2 ⟨rfl, hb⟩; replace hH := hH.call' hb; clear hb; rw [h1]))
    go_ret2
    exact ⟨rfl, hH.below⟩
  | true =>
    have h2 : sqB p h = false := by simpa [h1] using hs
    clear hs
    go_enter Try.func33, Try.ntmps33
    go_wp2_with (first | fail | (refine wpL_guard rfl rfl ?_) | (refine wpL_loadFull rfl rfl rfl rowSq hH.h0 (sqc_size _ _) ?_) | (refine wpL_loadFull rfl rfl rfl rowSq hH.h1 (sqc_size _ _) ?_) | (go_at_call 55; with_reducible refine (IsSquare_any o g _).mono ?_; rintro e w2 ⟨rfl, hb⟩; replace hH := hH.call' hb; clear hb; rw [h1]) | (go_at_call 55; with_reducible refine (IsSquare_any p h _).mono ?_; rintro e w2 ⟨rfl, hb⟩; replace hH := hH.call' hb; clear hb; rw [h2]))
    go_ret2
    exact ⟨rfl, hH.below⟩
set_option maxRecDepth 20000 in
set_option maxHeartbeats 2000000 in
theorem implAreOrthogonal_far (o p : Int) (g h : Nat → UInt8) (w : World) (h1 : sqB o g = true) (h2 : sqB p h = true) (hne : ¬ o = p) :
    Calls Try.prog 33 #[.agg (sqc o g), .agg (sqc p h)] w fun e w' => e = .returned (.tuple #[.bool false, .int .i64 2]) ∧ Below w.heap.size w w' := by
  have hH := Has.start2 w (sqc o g) (sqc p h) 31 31
  go_enter Try.func33, Try.ntmps33
  go_wp2_with (first | fail | (refine wpL_guard rfl rfl ?_) | (refine wpL_loadFull rfl rfl rfl rowSq hH.h0 (sqc_size _ _) ?_) | (refine wpL_loadFull rfl rfl rfl rowSq hH.h1 (sqc_size _ _) ?_) | (go_at_call 55; with_reducible refine (IsSquare_any o g _).mono ?_; rintro e w2 ⟨rfl, hb⟩; replace hH := hH.call' hb; clear hb; rw [h1]) | (go_at_call 55; with_reducible refine (IsSquare_any p h _).mono ?_; rintro e w2 ⟨rfl, hb⟩; replace hH := hH.call' hb; clear hb; rw [h2]; have c0 := hH.c0 0; have c1 := hH.c1 0; rw [sqc_get0] at c0 c1))
  go_ret2
  exact ⟨rfl, hH.below⟩
set_option maxRecDepth 20000 in
set_option maxHeartbeats 4000000 in
theorem implAreOrthogonal_in (N : Nat) (g h : Nat → UInt8) (w : World) (h1 : sqB (N : Int) g = true) (h2 : sqB (N : Int) h = true) (hq : IsSq N g) (hr : IsSq N h) :
    Calls Try.prog 33 #[.agg (sqc N g), .agg (sqc N h)] w fun e w' => e = .returned (.tuple #[.bool (orthAll (codeF g h) N N), .int .i64 0]) ∧ Below w.heap.size w w' := by
  have h10 := hq.hi
  have HA := hid (fun x y hx hy => code_at (x := x) (y := y) hq hr hx hy)
  clear hq hr
  obtain ⟨C, hC⟩ : ∃ C, codeF g h = C := ⟨_, rfl⟩
  rw [hC] at HA ⊢
  clear hC
  have hN2 : (N : Int) ≤ 10 := by omega
  have hH := Has.start2 w (sqc N g) (sqc N h) 31 31
  go_enter Try.func33, Try.ntmps33
  go_wp2_with (first | fail | (refine wpL_guard rfl rfl ?_) | (refine wpL_loadFull rfl rfl rfl rowSq hH.h0 (sqc_size _ _) ?_) | (refine wpL_loadFull rfl rfl rfl rowSq hH.h1 (sqc_size _ _) ?_) | (go_at_call 55; with_reducible refine (IsSquare_any N g _).mono ?_; rintro e w2 ⟨rfl, hb⟩; replace hH := hH.call' hb; clear hb; rw [h1]) | (go_at_call 55; with_reducible refine (IsSquare_any N h _).mono ?_; rintro e w2 ⟨rfl, hb⟩; replace hH := hH.call' hb; clear hb; rw [h2]; have c0 := hH.c0 0; have c1 := hH.c1 0; rw [sqc_get0] at c0 c1) | (refine wpL_allocN (o := ⟨some 6, _, _, _, _, _⟩) rfl rfl zeroMm ?_; intro gt w4 hgt hl4 hb; have hlo : w.heap.size + 2 ≤ gt := (by have := hH.size; simp only [List.length_cons, List.length_nil] at this; omega); replace hH := hH.call' hb; clear hb hl4 c0 c1; have c0 := hH.c0 0; rw [sqc_get0] at c0))
  try clear c0
  go_loopw [32] (fun i wr => ∃ x : Nat, x ≤ N ∧ i = .int .i64 x ∧ Has w wr [(sqc N g, 31), (sqc N h, 31)] ∧ holds wr gt (bls 100 (seenF C N x 0)) 71 ∧ Hid (orthAll C N x = true)) (fun i _ => 20 - (intOf i).toNat)
  case atStart => exact ⟨0, by omega, rfl, hH, by rw [seenF_zero]; exact hgt, hid rfl⟩
  case round =>
    clear hH hgt
    obtain ⟨x, hx, rfl, hH, hgt, HO⟩ := hrel
    have cz : wr.cell? ⟨w.heap.size, 0, none⟩ = some (.int .i64 N) := by rw [hH.c0, sqc_get0]
    by_cases hlt : x < N
    · have hx1 : (x : Int) < N := by omega
      have hx10 : (x : Int) < 10 := by omega
      have hxx : x < 10 := by omega
      have hoff : x * 10 + 10 ≤ 100 := by omega
      have hgtl := holds_lt hgt
      go_wp2_with (first | fail | (refine wpL_loadRowSq rfl rfl rfl rowB10 hH.h0 hoff ?_) | (refine wpL_allocN (o := ⟨some 8, _, _, _, _, _⟩) rfl rfl zeroB10 ?_; intro gr w4 hgr hl hb; have hlr : w.heap.size + 2 ≤ gr := (by have := hH.size; simp only [List.length_cons, List.length_nil] at this; omega); replace hH := hH.call' hb; replace hgt := holds_below hgt hb hgtl; have hgn : gt < gr := (by omega); clear hb) | (refine wpL_storeN (x := .tmp 8) rfl rfl rfl rfl rowB10 hgr (u8s_size _ _) (u8s_ok _ _) ?_; intro w5 hz hO hT; replace hgr := hz; replace hgt := hO _ _ _ (by omega) hgt; replace hH := hT _ _ hH hlr; clear hz hO hT; have cz2 : w5.cell? ⟨w.heap.size, 0, none⟩ = some (.int .i64 N) := (by rw [hH.c0, sqc_get0])))
      try clear cz
      try clear cz2
      go_loopw [41] (fun i wr => ∃ y : Nat, y ≤ N ∧ i = .int .i64 y ∧ Has w wr [(sqc N g, 31), (sqc N h, 31)] ∧ holds wr gt (bls 100 (seenF C N x y)) 71 ∧ holds wr gr (u8s 10 (rowF g x)) 22 ∧ Hid (orthRow C N x y = true)) (fun i _ => 20 - (intOf i).toNat)
      case atStart => exact ⟨0, by omega, rfl, hH, hgt, hgr, hid rfl⟩
      case round =>
        clear hH hgt hgr
        obtain ⟨y, hy, rfl, hH, hgt, hgr, HR⟩ := hrel
        by_cases hlt2 : y < N
        · have hy1 : (y : Int) < N := by omega
          have hy10 : (y : Int) < 10 := by omega
          have hyy : y < 10 := by omega
          obtain ⟨z, v, ez, ev, hz, hv, ec⟩ := HA.out x y hlt hlt2
          have HE := hid ec
          have ca : wr.cell? ⟨gr, y, none⟩ = some (.int .u8 z) := by rw [holds_cell hgr, u8s_get _ _ _ (by omega)]; show some (Value.int .u8 ((g (x * 10 + y)).toNat : Int)) = _; rw [ez]
          have cb : wr.cell? ⟨w.heap.size + 1, 1 + x * 10 + y, none⟩ = some (.int .u8 v) := by rw [hH.c1, Nat.add_assoc, sqc_get _ _ _ (by omega), ev]
          obtain ⟨b, hb⟩ : ∃ b, seenF C N x y (z * 10 + v) = b := ⟨_, rfl⟩
          have cc : wr.cell? ⟨gt, z * 10 + v, none⟩ = some (.bool b) := by rw [holds_cell hgt, bls_get _ _ _ (by omega), hb]
          have fc := holds_frozen hgt (z * 10 + v)
          have hz' : (z : Int) < 10 := by omega
          have hv' : (v : Int) < 10 := by omega
          have HB := hid hb
          clear ez ev ec hb
          cases b with
          | true =>
            have HNO := hid (orth_no hlt hlt2 HE.out HB.out)
            go_wp2
            go_ret2
            exact ⟨by rw [HNO.out]; rfl, hH.below⟩
          | false =>
            have HR2 := hid (orthRow_ok HR.out HE.out HB.out)
            go_wp2
            have hgt2 := holds_set hgt (z * 10 + v) (.bool true)
            rw [bls_step 100 _ (seenF C N x (y + 1)) _ true (fun j _ => seenF_step HE.out j)] at hgt2
            go_roundw
            case rel => exact ⟨y + 1, by omega, by go_num, hH.setCellAbove (by simpa using hlo) _ _, hgt2, holds_other hgr _ _ (by simp; omega), HR2⟩
            case measure => simp [intOf]; omega
        · obtain rfl : y = N := by omega
          have HO2 := hid (orthAll_ok HO.out HR.out)
          go_wp2
          go_roundw
          case rel => exact ⟨x + 1, by omega, by go_num, hH, by rw [seenF_next]; exact hgt, HO2⟩
          case measure => simp [intOf]; omega
    · obtain rfl : x = N := by omega
      go_wp2
      go_ret2
      exact ⟨by rw [HO.out]; rfl, hH.below⟩
end Go.Proofs.Ytbdcbmennblcdaa
