/- Proved: what the functions that check a list of elements and make its set, and the list of a set, return, of program and model alike. Conditions: those that each theorem names. -/
import Derived.Test.YtpfhjbcmlebejabSb0
import Derived.Test.YtpfhjbcmlebejabIa
import Derived.Test.YtpfhjbcmlebejabLc
import Derived.Test.YtpfhjbcmlebejabMl
import Derived.IntWalk
namespace Go.Proofs.Ytpfhjbcmlebejab
set_option linter.unusedVariables false
set_option linter.unusedSimpArgs false
open Go.RowKit
theorem Row.drewS {w : World} {b n : Nat} {f : Nat → Int} (h : Row w b n f) (m : Nat) : Row (w.drewN m) b n f := h.block rfl
theorem Row.setOther {w : World} {b n gb i : Nat} {f : Nat → Int} {v : Value} (h : Row w b n f) (hne : b ≠ gb) : Row (w.setCell ⟨gb, i, none⟩ v) b n f := h.block (heap_setCell_other _ _ _ _ (by simpa using hne))
theorem builtMe : Try.prog.built 91 [] = some (bls 10 fun _ => false) := by kernel_rfl
theorem l01InM_yes (n : Int) (M : Nat) (h : 0 ≤ n ∧ n < M) (w : World) : Calls Try.prog 64 #[.int .i64 n, .int .i64 0, .int .i64 ((M : Int) - 1)] w fun e w' => e = .returned (.bool true) ∧ w' = w := by
  refine (l01In_any n 0 ((M : Int) - 1) w).mono ?_
  rintro e w' ⟨rfl, rfl⟩
  exact ⟨by rw [inB_true h.1 (by omega)], rfl⟩
theorem l01InM_no (n : Int) (M : Nat) (h : ¬ (0 ≤ n ∧ n < M)) (w : World) : Calls Try.prog 64 #[.int .i64 n, .int .i64 0, .int .i64 ((M : Int) - 1)] w fun e w' => e = .returned (.bool false) ∧ w' = w := by
  refine (l01In_any n 0 ((M : Int) - 1) w).mono ?_
  rintro e w' ⟨rfl, rfl⟩
  exact ⟨by rw [inB_false (by omega)], rfl⟩
set_option maxRecDepth 20000 in
set_option maxHeartbeats 4000000 in
theorem l05Set_any (N b n c : Nat) (f : Nat → Int) (w : World) (h10 : N ≤ 10) (hR : Row w b n f) (hok : ∀ i, i < n → OkAt f N i) :
    Calls Try.prog 122 #[.slice (some ⟨b, 0, none⟩) n c] w fun e w' => e = .returned (.agg (bls 10 (inL f n))) ∧ Below w.heap.size w w' := by
  have hn := ok_len hok
  have HO := hid hok
  clear hok
  have hbl := hR.lt
  have hH := Has.start2 w (bls 10 fun _ => false) (bls 10 fun _ => false) 90 90
  replace hR := hid ((hR.alloc (.cells (bls 10 fun _ => false) 90)).alloc (.cells (bls 10 fun _ => false) 90))
  go_enter Try.func122, Try.ntmps122
  go_wp2_with (first | fail | (refine wpL_alloc rfl rfl zeroBo ?_; intro g0 hg0; (try simp at hg0); subst hg0) | (refine wpL_build rfl rfl builtBo ?_) | (refine wpL_storeSame rfl rfl rfl rfl rowBo hH.h1 (bls_ok _ _) ?_))
  go_loopw [4] (fun i wr => ∃ k : Nat, k ≤ n ∧ i = .int .i64 k ∧ Has w wr [(bls 10 fun _ => false, 90), (bls 10 (inL f k), 90)] ∧ Hid (Row wr b n f)) (fun i _ => 20 - (intOf i).toNat)
  case atStart => exact ⟨0, by omega, rfl, by rw [inL_zero]; exact hH, hR⟩
  case round =>
    clear hH hR
    obtain ⟨k, hk, rfl, hH, hR⟩ := hrel
    by_cases hlt : k < n
    · obtain ⟨z, hz⟩ : ∃ z : Nat, f k = z := ⟨(f k).toNat, by have := (HO.out k hlt).1; omega⟩
      have hz10 : z < 10 := by have := (HO.out k hlt).2.1; omega
      have hz1 : (z : Int) < 10 := by omega
      have cl := hR.out.cell hlt
      rw [hz] at cl
      have HZ := hid hz
      clear hz
      have hkn : (k : Int) < n := by omega
      obtain ⟨v1, c1⟩ : ∃ v, wr.cell? ⟨w.heap.size + 1, z, none⟩ = some v := ⟨_, by rw [hH.c1, bls_get _ _ _ hz10]⟩
      have f1 := hH.f1
      go_wp2
      go_roundw
      case rel => exact ⟨k + 1, by omega, by go_num, hH.s1 _ _ (bls_step 10 _ _ z true (fun j _ => inL_step HZ.out j)), hid (hR.out.setOther (by omega))⟩
      case measure => simp [intOf]; omega
    · obtain rfl : k = n := by omega
      go_wp2_with (first | fail | (refine wpL_loadFull rfl rfl rfl rowBo hH.h1 (bls_size _ _) ?_) | (refine wpL_storeFull rfl rfl rfl rfl rowBo hH.h0 (bls_size _ _) (bls_ok _ _) ?_))
      exact ret_c rfl rfl hH.r0.h0 rowBo (bls_size _ _) ⟨rfl, hH.r0.below⟩
set_option maxRecDepth 20000 in
set_option maxHeartbeats 4000000 in
theorem l05Told_any (f : Nat → Bool) (w : World) :
    Calls Try.prog 124 #[.agg (bls 10 f)] w (GotV (selL f 10) w) := by
  have hH := Has.start1 w (bls 10 f) 90
  go_enter Try.func124, Try.ntmps124
  go_wp2
  go_loopw [3, 4] (fun v i wr => ∃ k : Nat, k ≤ 10 ∧ i = .int .i64 k ∧ Has w wr [(bls 10 f, 90)] ∧ Hid (OL wr (w.heap.size + 1) v (selL f k))) (fun _ i _ => 20 - (intOf i).toNat)
  case atStart => exact ⟨0, by omega, rfl, hH.alloc _, hid (by rw [show selL f 0 = [] from rfl]; exact OL.fresh _ (by simp) (by simp))⟩
  case round =>
    clear hH
    obtain ⟨k, hk, rfl, hH, hO⟩ := hrel
    have hsz := hH.size
    simp only [List.length_cons, List.length_nil] at hsz
    have hlen := selL_len f k
    by_cases hlt : k < 10
    · have hk1 : (k : Int) < 10 := by omega
      obtain ⟨fk, hfk⟩ : ∃ fk, f k = fk := ⟨_, rfl⟩
      have c0 : wr.cell? ⟨w.heap.size, k, none⟩ = some (.bool fk) := by rw [hH.c0, bls_get _ _ _ hlt, hfk]
      have HE := hid hfk
      clear hfk
      cases fk with
      | true =>
        go_wp2_with (first | fail | (refine wpL_appI (v := u3) (n := (selL f k).length) (base := w.heap.size + 1) (z := (k : Int)) rfl (by rfl) (by rfl) (by rfl) (World.ownsRow.alloc hO.out _) (by simp) (by omega) (by simp; omega) ?_; intro r cap w2 how hg hor hlt3; have hO2 := hid (OL.add how); replace hH := (hH.alloc _).grown hg (fun x hx => by have := (World.ownsRow.lt hO.out x hx).1; simp; omega); rw [← selL_yes HE.out] at hO2; clear how hg hor hlt3))
        go_roundw
        case rel => exact ⟨k + 1, by omega, by go_num, hH, hO2⟩
        case measure => simp [intOf]; omega
      | false =>
        go_wp2
        go_roundw
        case rel => exact ⟨k + 1, by omega, by go_num, hH, by rw [selL_no HE.out]; exact hO⟩
        case measure => simp [intOf]; omega
    · obtain rfl : k = 10 := by omega
      go_wp2
      go_ret
      exact ⟨_, rfl, hH.below, hO.out.lower (by omega)⟩
set_option maxRecDepth 20000 in
set_option maxHeartbeats 4000000 in
theorem l05List_ok (N b n c : Nat) (g : Nat → UInt8) (f : Nat → Int) (w : World) (h1 : 1 ≤ N) (h10 : N ≤ 10) (hnl : n ≤ 1048576) (hR : Row w b n f) (hok : ∀ i, i < n → OkAt f N i) :
    Calls Try.prog 121 #[.agg (sqc N g), .slice (some ⟨b, 0, none⟩) n c] w fun e w' => e = .returned (.bool true) ∧ Below w.heap.size w w' := by
  have HO := hid hok
  have hn := ok_len hok
  clear hok
  have hN10 : (N : Int) ≤ 10 := by omega
  have hN1 : 1 ≤ (N : Int) := by omega
  have hnl' : (n : Int) ≤ 1048576 := by omega
  have hH := Has.start1 w (sqc N g) 30
  replace hR := hid (hR.alloc (.cells (sqc N g) 30))
  go_enter Try.func121, Try.ntmps121
  go_wp2
  go_loopw [5] (fun i wr => ∃ k : Nat, k ≤ n ∧ i = .int .i64 k ∧ Has w wr [(sqc N g, 30)] ∧ Hid (Row wr b n f)) (fun i _ => 1048580 - (intOf i).toNat)
  case atStart => exact ⟨0, by omega, rfl, hH, hR⟩
  case round =>
    clear hH hR
    obtain ⟨k, hk, rfl, hH, hR⟩ := hrel
    by_cases hlt : k < n
    · have hkn : k < n := by omega
      have hn0 : 0 < n := by omega
      have hkn' : (k : Int) < n := by omega
      by_cases hk00 : k = 0
      · obtain rfl : k = 0 := hk00
        have hC := l01InM_yes (f 0) N ⟨(HO.out 0 hlt).1, (HO.out 0 hlt).2.1⟩
        have cl := hR.out.cell (i := 0) hn0
        have cz : wr.cell? ⟨w.heap.size, 0, none⟩ = some (.int .i64 N) := by rw [hH.c0, sqc_get0]
        go_wp2
        go_quiet ((go_at_call 64; exact Calls.quiet_of_same (hC _)))
        go_wp2
        go_roundw
        case rel => exact ⟨0 + 1, by omega, by first | rfl | go_num, hH.drewN _, hid (hR.out.drewS _)⟩
        case measure => simp [intOf]
      · obtain ⟨j, rfl⟩ : ∃ j, k = j + 1 := ⟨k - 1, by omega⟩
        have hC := l01InM_yes (f (j + 1)) N ⟨(HO.out (j + 1) hlt).1, (HO.out (j + 1) hlt).2.1⟩
        have cl := hR.out.cell (i := j + 1) hkn
        have cp := hR.out.cell (i := j) (by omega)
        have cz : wr.cell? ⟨w.heap.size, 0, none⟩ = some (.int .i64 N) := by rw [hH.c0, sqc_get0]
        have hord : f j < f (j + 1) := by have := (HO.out (j + 1) hlt).2.2 (by omega); simpa using this
        obtain ⟨p, hp⟩ : ∃ p, f j = p := ⟨_, rfl⟩
        obtain ⟨q, hqq⟩ : ∃ q, f (j + 1) = q := ⟨_, rfl⟩
        rw [hp] at cp
        rw [hqq] at cl hC
        rw [hp, hqq] at hord
        clear hp hqq
        have hord2 : ¬ q ≤ p := by omega
        have e1 : IntKind.i64.wrap (((j + 1 : Nat) : Int) - 1) = (j : Int) := by rw [IntWalk.i64_in _ (by omega)]; first | done | omega
        have e2 : IntKind.i64.wrap ((N : Int) - 1) = (N : Int) - 1 := IntWalk.i64_in _ (by omega)
        have e3 : (((j + 1 : Nat) : Int)) > 0 := by omega
        go_wp2
        go_quiet ((go_at_call 64; exact Calls.quiet_of_same (hC _)))
        go_wp2
        go_roundw
        case rel => exact ⟨j + 1 + 1, by omega, by go_num, hH.drewN _, hid (hR.out.drewS _)⟩
        case measure => simp [intOf]; omega
    · obtain rfl : k = n := by omega
      go_wp2
      go_ret
      exact ⟨rfl, hH.below⟩
set_option maxRecDepth 20000 in
set_option maxHeartbeats 4000000 in
theorem l05List_bad (N b n c k0 : Nat) (g : Nat → UInt8) (f : Nat → Int) (w : World) (h1 : 1 ≤ N) (h10 : N ≤ 10) (hnl : n ≤ 1048576) (hR : Row w b n f) (hB : BadA f N n k0) :
    Calls Try.prog 121 #[.agg (sqc N g), .slice (some ⟨b, 0, none⟩) n c] w fun e w' => e = .returned (.bool false) ∧ Below w.heap.size w w' := by
  have HO := hid hB.lo
  have HBad := hid hB.bad
  have hk0 := hB.lt
  clear hB
  have hN10 : (N : Int) ≤ 10 := by omega
  have hN1 : 1 ≤ (N : Int) := by omega
  have hnl' : (n : Int) ≤ 1048576 := by omega
  have hH := Has.start1 w (sqc N g) 30
  replace hR := hid (hR.alloc (.cells (sqc N g) 30))
  go_enter Try.func121, Try.ntmps121
  go_wp2
  go_loopw [5] (fun i wr => ∃ k : Nat, k ≤ k0 ∧ i = .int .i64 k ∧ Has w wr [(sqc N g, 30)] ∧ Hid (Row wr b n f)) (fun i _ => 1048580 - (intOf i).toNat)
  case atStart => exact ⟨0, by omega, rfl, hH, hR⟩
  case round =>
    clear hH hR
    obtain ⟨k, hk, rfl, hH, hR⟩ := hrel
    by_cases hlt : k < k0
    · have hkn : k < n := by omega
      have hn0 : 0 < n := by omega
      have hkn' : (k : Int) < n := by omega
      by_cases hk00 : k = 0
      · obtain rfl : k = 0 := hk00
        have hC := l01InM_yes (f 0) N ⟨(HO.out 0 hlt).1, (HO.out 0 hlt).2.1⟩
        have cl := hR.out.cell (i := 0) hn0
        have cz : wr.cell? ⟨w.heap.size, 0, none⟩ = some (.int .i64 N) := by rw [hH.c0, sqc_get0]
        go_wp2
        go_quiet ((go_at_call 64; exact Calls.quiet_of_same (hC _)))
        go_wp2
        go_roundw
        case rel => exact ⟨0 + 1, by omega, by first | rfl | go_num, hH.drewN _, hid (hR.out.drewS _)⟩
        case measure => simp [intOf]
      · obtain ⟨j, rfl⟩ : ∃ j, k = j + 1 := ⟨k - 1, by omega⟩
        have hC := l01InM_yes (f (j + 1)) N ⟨(HO.out (j + 1) hlt).1, (HO.out (j + 1) hlt).2.1⟩
        have cl := hR.out.cell (i := j + 1) hkn
        have cp := hR.out.cell (i := j) (by omega)
        have cz : wr.cell? ⟨w.heap.size, 0, none⟩ = some (.int .i64 N) := by rw [hH.c0, sqc_get0]
        have hord : f j < f (j + 1) := by have := (HO.out (j + 1) hlt).2.2 (by omega); simpa using this
        obtain ⟨p, hp⟩ : ∃ p, f j = p := ⟨_, rfl⟩
        obtain ⟨q, hqq⟩ : ∃ q, f (j + 1) = q := ⟨_, rfl⟩
        rw [hp] at cp
        rw [hqq] at cl hC
        rw [hp, hqq] at hord
        clear hp hqq
        have hord2 : ¬ q ≤ p := by omega
        have e1 : IntKind.i64.wrap (((j + 1 : Nat) : Int) - 1) = (j : Int) := by rw [IntWalk.i64_in _ (by omega)]; first | done | omega
        have e2 : IntKind.i64.wrap ((N : Int) - 1) = (N : Int) - 1 := IntWalk.i64_in _ (by omega)
        have e3 : (((j + 1 : Nat) : Int)) > 0 := by omega
        go_wp2
        go_quiet ((go_at_call 64; exact Calls.quiet_of_same (hC _)))
        go_wp2
        go_roundw
        case rel => exact ⟨j + 1 + 1, by omega, by go_num, hH.drewN _, hid (hR.out.drewS _)⟩
        case measure => simp [intOf]; omega
    · obtain rfl : k = k0 := by omega
      have hkn : k < n := by omega
      have hn0 : 0 < n := by omega
      have hkn' : (k : Int) < n := by omega
      have cz : wr.cell? ⟨w.heap.size, 0, none⟩ = some (.int .i64 N) := by rw [hH.c0, sqc_get0]
      have e2 : IntKind.i64.wrap ((N : Int) - 1) = (N : Int) - 1 := IntWalk.i64_in _ (by omega)
      by_cases hin : 0 ≤ f k ∧ f k < N
      · have hk1 : 0 < k := by
          rcases Nat.eq_zero_or_pos k with e | e
          · exact absurd ⟨hin.1, hin.2, fun h => by omega⟩ HBad.out
          · exact e
        have hle : f k ≤ f (k - 1) := by
          by_cases e : f k ≤ f (k - 1)
          · exact e
          · exact absurd ⟨hin.1, hin.2, fun _ => by omega⟩ HBad.out
        clear HBad HO
        obtain ⟨j, rfl⟩ : ∃ j, k = j + 1 := ⟨k - 1, by omega⟩
        simp only [Nat.add_sub_cancel] at hle
        have hC := l01InM_yes (f (j + 1)) N hin
        have cl := hR.out.cell (i := j + 1) hkn
        have cp := hR.out.cell (i := j) (by omega)
        obtain ⟨p, hp⟩ : ∃ p, f j = p := ⟨_, rfl⟩
        obtain ⟨q, hqq⟩ : ∃ q, f (j + 1) = q := ⟨_, rfl⟩
        rw [hp] at cp
        rw [hqq] at cl hC hin
        rw [hp, hqq] at hle
        clear hp hqq hin
        have e1 : IntKind.i64.wrap (((j + 1 : Nat) : Int) - 1) = (j : Int) := by rw [IntWalk.i64_in _ (by omega)]; first | done | omega
        have e3 : (((j + 1 : Nat) : Int)) > 0 := by omega
        go_wp2
        go_quiet ((go_at_call 64; exact Calls.quiet_of_same (hC _)))
        go_wp2
        go_ret
        exact ⟨rfl, (hH.drewN _).below⟩
      · have hC := l01InM_no (f k) N hin
        have cl := hR.out.cell hkn
        clear hin HBad HO
        go_wp2
        go_quiet ((go_at_call 64; exact Calls.quiet_of_same (hC _)))
        go_wp2
        go_ret
        exact ⟨rfl, (hH.drewN _).below⟩
set_option maxRecDepth 20000 in
set_option maxHeartbeats 1000000 in
theorem l05Both_no (o : Int) (g : Nat → UInt8) (v : Value) (w : World) (hs : loopB o g = false) :
    Calls Try.prog 80 #[.agg (sqc o g), v] w fun e w' => e = .returned (.int .i64 1) ∧ Below w.heap.size w w' := by
  have hH := Has.start1 w (sqc o g) 30
  go_enter Try.func80, Try.ntmps80
  go_wp2_with (first | fail | (refine wpL_loadFull rfl rfl rfl rowSq hH.h0 (sqc_size _ _) ?_) | (go_at_call 87; refine (l01Loop_any o g _).mono ?_; rintro e w2 ⟨rfl, hb⟩; replace hH := hH.call' hb; clear hb; rw [hs]))
  go_ret
  exact ⟨rfl, hH.below⟩
set_option maxRecDepth 20000 in
set_option maxHeartbeats 1000000 in
theorem l05Both_by (N b n c : Nat) (g : Nat → UInt8) (f : Nat → Int) (r : Bool) (w : World) (hl : loopB (N : Int) g = true) (hR : Row w b n f)
    (hC : Hid (∀ w, Row w b n f → Calls Try.prog 121 #[.agg (sqc N g), .slice (some ⟨b, 0, none⟩) n c] w fun e w' => e = .returned (.bool r) ∧ Below w.heap.size w w')) :
    Calls Try.prog 80 #[.agg (sqc N g), .slice (some ⟨b, 0, none⟩) n c] w fun e w' => e = .returned (.int .i64 (bif r then 0 else 2)) ∧ Below w.heap.size w w' := by
  have hH := Has.start1 w (sqc N g) 30
  replace hR := hid (hR.alloc (.cells (sqc N g) 30))
  cases r
  all_goals
    go_enter Try.func80, Try.ntmps80
    go_wp2_with (first | fail | (refine wpL_loadFull rfl rfl rfl rowSq hH.h0 (sqc_size _ _) ?_) | (go_at_call 87; refine (l01Loop_any N g _).mono ?_; rintro e w2 ⟨rfl, hb⟩; replace hH := hH.call' hb; replace hR := hid (hR.out.below hb); clear hb; rw [hl]) | (go_at_call 121; refine (hC.out _ hR.out).mono ?_; rintro e w3 ⟨rfl, hb⟩; replace hH := hH.call' hb; clear hb))
    go_ret
    exact ⟨rfl, hH.below⟩
set_option maxRecDepth 20000 in
set_option maxHeartbeats 1000000 in
theorem setOf_no (o : Int) (g : Nat → UInt8) (v : Value) (w : World) (hs : loopB o g = false) :
    Calls Try.prog 76 #[.agg (sqc o g), v] w fun e w' => e = .returned (.tuple #[.agg (bls 10 fun _ => false), .int .i64 1]) ∧ Below w.heap.size w w' := by
  have hH := Has.start2 w (sqc o g) (bls 10 fun _ => false) 30 91
  go_enter Try.func76, Try.ntmps76
  go_wp2_with (first | fail | (refine wpL_alloc rfl rfl zeroMe ?_; intro g0 hg0; (try simp at hg0); subst hg0) | (refine wpL_loadFull rfl rfl rfl rowSq hH.h0 (sqc_size _ _) ?_) | (go_at_call 89; refine (IsLoop_any o g _).mono ?_; rintro e w2 ⟨rfl, hb⟩; replace hH := hH.call' hb; clear hb; rw [hs]) | (refine wpL_build rfl rfl builtMe ?_) | (refine wpL_storeSame rfl rfl rfl rfl rowMe hH.h1 (bls_ok _ _) ?_))
  exact ret_ct rfl rfl rfl hH.h1 rowMe (bls_size _ _) ⟨rfl, hH.below⟩
set_option maxRecDepth 20000 in
set_option maxHeartbeats 4000000 in
theorem setOf_ok (N b n c : Nat) (g : Nat → UInt8) (f : Nat → Int) (w : World) (hL : IsLp N g) (hlp : loopB (N : Int) g = true) (hnl : n ≤ 1048576) (hR : Row w b n f) (hok : ∀ i, i < n → OkAt f N i) :
    Calls Try.prog 76 #[.agg (sqc N g), .slice (some ⟨b, 0, none⟩) n c] w fun e w' => e = .returned (.tuple #[.agg (bls 10 (inL f n)), .int .i64 0]) ∧ Below w.heap.size w w' := by
  have HO := hid hok
  clear hok
  have h1 := hL.sq.lo
  have h10 := hL.sq.hi
  have hN10 : (N : Int) ≤ 10 := by omega
  have hnl' : (n : Int) ≤ 1048576 := by omega
  clear hL
  have hH := Has.start2 w (sqc N g) (bls 10 fun _ => false) 30 91
  replace hR := hid ((hR.alloc (.cells (sqc N g) 30)).alloc (.cells (bls 10 fun _ => false) 91))
  go_enter Try.func76, Try.ntmps76
  go_wp2_with (first | fail | (refine wpL_allocN (o := ⟨some 6, _, _, _, _, _⟩) rfl rfl zeroMe ?_; intro gb w4 hgb hl4 hb; have hlo : w.heap.size + 2 ≤ gb := (by have := hH.size; simp only [List.length_cons, List.length_nil] at this; omega); have hbb : b < gb := (by have := hR.out.lt; omega); replace hH := hH.call' hb; replace hR := hid (hR.out.below hb); clear hb hl4) | (refine wpL_alloc rfl rfl zeroMe ?_; intro g0 hg0; (try simp at hg0); subst hg0) | (refine wpL_loadFull rfl rfl rfl rowSq hH.h0 (sqc_size _ _) ?_) | (go_at_call 89; refine (IsLoop_any N g _).mono ?_; rintro e w2 ⟨rfl, hb⟩; replace hH := hH.call' hb; replace hR := hid (hR.out.below hb); clear hb; rw [hlp]))
  go_loopw [7, 16] (fun l i wr => ∃ k : Nat, k ≤ n ∧ i = .int .i64 k ∧ l = .int .i64 (lastF f k) ∧ Has w wr [(sqc N g, 30), (bls 10 fun _ => false, 91)] ∧ holds wr gb (bls 10 (inL f k)) 91 ∧ Hid (Row wr b n f)) (fun _ i _ => 1048580 - (intOf i).toNat)
  case atStart => exact ⟨0, by omega, rfl, rfl, hH, by rw [inL_zero]; exact hgb, hR⟩
  case round =>
    clear hH hR hgb
    obtain ⟨k, hk, rfl, rfl, hH, hgb, hR⟩ := hrel
    have cz : wr.cell? ⟨w.heap.size, 0, none⟩ = some (.int .i64 N) := by rw [hH.c0, sqc_get0]
    by_cases hlt : k < n
    · have hkn : k < n := by omega
      have hkn' : (k : Int) < n := by omega
      have hpre : ∀ i, i < k → OkAt f N i := fun i hi => HO.out i (by omega)
      obtain ⟨hz1, hz2⟩ := (okAt_last hpre).1 (HO.out k hlt)
      have hz0 := (HO.out k hlt).1
      obtain ⟨lv, hlv⟩ : ∃ lv, lastF f k = lv := ⟨_, rfl⟩
      rw [hlv] at hz1 ⊢
      clear hlv hpre
      have cl := hR.out.cell hkn
      have hs : lastF f (k + 1) = f k := lastF_succ f k
      have hin := fun (j : Nat) => inL_step (f := f) (k := k) (z := (f k).toNat) (by omega) j
      obtain ⟨z, hz⟩ : ∃ z : Nat, f k = z := ⟨(f k).toNat, by omega⟩
      rw [hz] at cl hz1 hz2 hz0 hs
      rw [hz, Int.toNat_natCast] at hin
      have HI := hid hin
      have HS := hid hs
      clear hz hin hs
      have hz10 : z < 10 := by omega
      have hz10' : (z : Int) < 10 := by omega
      have hn1 : ¬ (z : Int) ≤ lv := by omega
      have hn2 : ¬ (N : Int) ≤ (z : Int) := by omega
      obtain ⟨v1, c1⟩ : ∃ v, wr.cell? ⟨gb, z, none⟩ = some v := ⟨_, by rw [holds_cell hgb, bls_get _ _ _ hz10]⟩
      have f1 := holds_frozen hgb
      go_wp2_with (first | fail | (refine wpL_guard rfl rfl ?_))
      have hgb2 := holds_set hgb z (.bool true)
      rw [bls_step 10 _ (inL f (k + 1)) z true (fun j _ => HI.out j)] at hgb2
      go_roundw
      case rel => exact ⟨k + 1, by omega, by go_num, by rw [HS.out], hH.setCellAbove hlo z (.bool true), hgb2, hid (hR.out.setOther (by omega))⟩
      case measure => simp [intOf]; omega
    · obtain rfl : k = n := by omega
      go_wp2_with (first | fail | (refine wpL_loadFull rfl rfl rfl rowMe hgb (bls_size _ _) ?_) | (refine wpL_storeFull rfl rfl rfl rfl rowMe hH.h1 (bls_size _ _) (bls_ok _ _) ?_))
      exact ret_ct rfl rfl rfl hH.r1.h1 rowMe (bls_size _ _) ⟨rfl, hH.r1.below⟩
set_option maxRecDepth 20000 in
set_option maxHeartbeats 4000000 in
theorem setOf_bad (N b n c k0 : Nat) (g : Nat → UInt8) (f : Nat → Int) (w : World) (hL : IsLp N g) (hlp : loopB (N : Int) g = true) (hnl : n ≤ 1048576) (hR : Row w b n f) (hB : BadA f N n k0) :
    Calls Try.prog 76 #[.agg (sqc N g), .slice (some ⟨b, 0, none⟩) n c] w fun e w' => e = .returned (.tuple #[.agg (bls 10 fun _ => false), .int .i64 2]) ∧ Below w.heap.size w w' := by
  have HO := hid hB.lo
  have HBad := hid hB.bad
  have hk0 := hB.lt
  clear hB
  have h1 := hL.sq.lo
  have h10 := hL.sq.hi
  have hN10 : (N : Int) ≤ 10 := by omega
  have hnl' : (n : Int) ≤ 1048576 := by omega
  clear hL
  have hH := Has.start2 w (sqc N g) (bls 10 fun _ => false) 30 91
  replace hR := hid ((hR.alloc (.cells (sqc N g) 30)).alloc (.cells (bls 10 fun _ => false) 91))
  go_enter Try.func76, Try.ntmps76
  go_wp2_with (first | fail | (refine wpL_allocN (o := ⟨some 6, _, _, _, _, _⟩) rfl rfl zeroMe ?_; intro gb w4 hgb hl4 hb; have hlo : w.heap.size + 2 ≤ gb := (by have := hH.size; simp only [List.length_cons, List.length_nil] at this; omega); have hbb : b < gb := (by have := hR.out.lt; omega); replace hH := hH.call' hb; replace hR := hid (hR.out.below hb); clear hb hl4) | (refine wpL_alloc rfl rfl zeroMe ?_; intro g0 hg0; (try simp at hg0); subst hg0) | (refine wpL_loadFull rfl rfl rfl rowSq hH.h0 (sqc_size _ _) ?_) | (go_at_call 89; refine (IsLoop_any N g _).mono ?_; rintro e w2 ⟨rfl, hb⟩; replace hH := hH.call' hb; replace hR := hid (hR.out.below hb); clear hb; rw [hlp]))
  go_loopw [7, 16] (fun l i wr => ∃ k : Nat, k ≤ k0 ∧ i = .int .i64 k ∧ l = .int .i64 (lastF f k) ∧ Has w wr [(sqc N g, 30), (bls 10 fun _ => false, 91)] ∧ holds wr gb (bls 10 (inL f k)) 91 ∧ Hid (Row wr b n f)) (fun _ i _ => 1048580 - (intOf i).toNat)
  case atStart => exact ⟨0, by omega, rfl, rfl, hH, by rw [inL_zero]; exact hgb, hR⟩
  case round =>
    clear hH hR hgb
    obtain ⟨k, hk, rfl, rfl, hH, hgb, hR⟩ := hrel
    have cz : wr.cell? ⟨w.heap.size, 0, none⟩ = some (.int .i64 N) := by rw [hH.c0, sqc_get0]
    by_cases hlt : k < k0
    · have hkn : k < n := by omega
      have hkn' : (k : Int) < n := by omega
      have hpre : ∀ i, i < k → OkAt f N i := fun i hi => HO.out i (by omega)
      obtain ⟨hz1, hz2⟩ := (okAt_last hpre).1 (HO.out k hlt)
      have hz0 := (HO.out k hlt).1
      obtain ⟨lv, hlv⟩ : ∃ lv, lastF f k = lv := ⟨_, rfl⟩
      rw [hlv] at hz1 ⊢
      clear hlv hpre
      have cl := hR.out.cell hkn
      have hs : lastF f (k + 1) = f k := lastF_succ f k
      have hin := fun (j : Nat) => inL_step (f := f) (k := k) (z := (f k).toNat) (by omega) j
      obtain ⟨z, hz⟩ : ∃ z : Nat, f k = z := ⟨(f k).toNat, by omega⟩
      rw [hz] at cl hz1 hz2 hz0 hs
      rw [hz, Int.toNat_natCast] at hin
      have HI := hid hin
      have HS := hid hs
      clear hz hin hs
      have hz10 : z < 10 := by omega
      have hz10' : (z : Int) < 10 := by omega
      have hn1 : ¬ (z : Int) ≤ lv := by omega
      have hn2 : ¬ (N : Int) ≤ (z : Int) := by omega
      obtain ⟨v1, c1⟩ : ∃ v, wr.cell? ⟨gb, z, none⟩ = some v := ⟨_, by rw [holds_cell hgb, bls_get _ _ _ hz10]⟩
      have f1 := holds_frozen hgb
      go_wp2_with (first | fail | (refine wpL_guard rfl rfl ?_))
      have hgb2 := holds_set hgb z (.bool true)
      rw [bls_step 10 _ (inL f (k + 1)) z true (fun j _ => HI.out j)] at hgb2
      go_roundw
      case rel => exact ⟨k + 1, by omega, by go_num, by rw [HS.out], hH.setCellAbove hlo z (.bool true), hgb2, hid (hR.out.setOther (by omega))⟩
      case measure => simp [intOf]; omega
    · obtain rfl : k = k0 := by omega
      have hkn' : (k : Int) < n := by omega
      have cl := hR.out.cell hk0
      have hbad : ¬ (lastF f k < f k ∧ f k < N) := fun h => HBad.out ((okAt_last HO.out).2 h)
      obtain ⟨lv, hlv⟩ : ∃ lv, lastF f k = lv := ⟨_, rfl⟩
      obtain ⟨z, hz⟩ : ∃ z, f k = z := ⟨_, rfl⟩
      rw [hlv, hz] at hbad
      rw [hz] at cl
      rw [hlv]
      clear hlv hz
      by_cases hle : z ≤ lv
      · clear hbad
        go_wp2_with (first | fail | (refine wpL_guard rfl rfl ?_) | (refine wpL_build rfl rfl builtMe ?_) | (refine wpL_storeSame rfl rfl rfl rfl rowMe hH.h1 (bls_ok _ _) ?_))
        exact ret_ct rfl rfl rfl hH.h1 rowMe (bls_size _ _) ⟨rfl, hH.below⟩
      · have hge : (N : Int) ≤ z := by omega
        clear hbad
        go_wp2_with (first | fail | (refine wpL_guard rfl rfl ?_) | (refine wpL_build rfl rfl builtMe ?_) | (refine wpL_storeSame rfl rfl rfl rfl rowMe hH.h1 (bls_ok _ _) ?_))
        exact ret_ct rfl rfl rfl hH.h1 rowMe (bls_size _ _) ⟨rfl, hH.below⟩
end Go.Proofs.Ytpfhjbcmlebejab
