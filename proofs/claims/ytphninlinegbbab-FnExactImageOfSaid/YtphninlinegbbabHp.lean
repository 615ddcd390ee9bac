/- Proved: what IsHomomorphism returns, of program and model alike. Conditions: those that each theorem names. -/
import Derived.Test.YtphninlinegbbabHo
import Derived.Test.YtphninlinegbbabIl5
namespace Go.Proofs.Ytphninlinegbbab
set_option linter.unusedVariables false
set_option linter.unusedSimpArgs false
open Go.RowKit
set_option maxHeartbeats 1000000 in
theorem hom1_any (v : Int) (B M : Nat) (h : Nat → UInt8) (w : World) (r : Bool) (hr : r = decide (¬ (0 ≤ v ∧ v < M))) (hB : holds w B (sqc M h) 31) :
    Calls Try.prog 73 #[.int .i64 v, .pointer (some ⟨B, 0, none⟩)] w fun e w' => e = .returned (.bool r) ∧ w = w' := by
  have c0 : w.cell? ⟨B, 0, none⟩ = some (.int .i64 M) := by rw [holds_cell hB, sqc_get0]
  by_cases h1 : v < 0
  · have hr2 : r = true := by rw [hr]; simp; omega
    subst hr2
    clear hr
    go_enter Try.func73, Try.ntmps73
    go_wp2_with (first | fail | (refine wpL_guard rfl rfl ?_))
    go_ret
    exact ⟨rfl, rfl⟩
  · by_cases h2 : v < M
    · have hr2 : r = false := by rw [hr]; simp; omega
      have h3 : ¬ (M : Int) ≤ v := by omega
      subst hr2
      clear hr
      go_enter Try.func73, Try.ntmps73
      go_wp2_with (first | fail | (refine wpL_guard rfl rfl ?_))
      go_ret
      exact ⟨rfl, rfl⟩
    · have hr2 : r = true := by rw [hr]; simp; omega
      subst hr2
      clear hr
      go_enter Try.func73, Try.ntmps73
      go_wp2_with (first | fail | (refine wpL_guard rfl rfl ?_))
      go_ret
      exact ⟨rfl, rfl⟩
set_option maxHeartbeats 1000000 in
theorem homIndex_far (b n c B M k0 : Nat) (h : Nat → UInt8) (f : Nat → Int) (w : World) (hn : n ≤ 1048576) (hR : Row w b n f) (hF : FarN f M n k0) (hB : holds w B (sqc M h) 31) :
    Calls Try.prog 120 #[.slice (some ⟨b, 0, none⟩) n c, .func (.func 73) #[] #[.pointer (some ⟨B, 0, none⟩)]] w fun e w' => e = .returned (.int .i64 k0) ∧ w = w' := by
  have HF := hid hF
  have hkn := hF.lt
  have HR := hid hR
  clear hF hR
  go_enter Try.func120, Try.ntmps120
  go_wp2
  go_loop [8] (fun i => ∃ k : Nat, k ≤ k0 ∧ i = .int .i64 k) (fun i => n - (intOf i).toNat)
  case atStart => exact ⟨0, by omega, rfl⟩
  case round =>
    obtain ⟨k, hk, rfl⟩ := hrel
    have hk1 : k < n := by omega
    have hk2 : (k : Int) < n := by omega
    have cl := HR.out.cell hk1
    by_cases hlt : k < k0
    · have hC := hom1_any (f k) B M h w false (by have := HF.out.lo k hlt; simp; omega) hB
      go_wp2_with (first | fail | (go_at_call 73; refine hC.mono ?_; rintro e w2 ⟨rfl, rfl⟩))
      go_round
      case rel => exact ⟨k + 1, by omega, by go_num⟩
      case measure => simp [intOf]; omega
    · obtain rfl : k = k0 := by omega
      have hC := hom1_any (f k) B M h w true (by have := HF.out.far; simp; omega) hB
      go_wp2_with (first | fail | (go_at_call 73; refine hC.mono ?_; rintro e w2 ⟨rfl, rfl⟩))
      go_ret
      exact ⟨rfl, rfl⟩
set_option maxHeartbeats 1000000 in
theorem homIndex_all (b n c B M : Nat) (h : Nat → UInt8) (f : Nat → Int) (w : World) (hn : n ≤ 1048576) (hR : Row w b n f) (hF : ∀ i, i < n → 0 ≤ f i ∧ f i < M) (hB : holds w B (sqc M h) 31) :
    Calls Try.prog 120 #[.slice (some ⟨b, 0, none⟩) n c, .func (.func 73) #[] #[.pointer (some ⟨B, 0, none⟩)]] w fun e w' => e = .returned (.int .i64 (-1)) ∧ w = w' := by
  have HF := hid hF
  have HR := hid hR
  clear hF hR
  go_enter Try.func120, Try.ntmps120
  go_wp2
  go_loop [8] (fun i => ∃ k : Nat, k ≤ n ∧ i = .int .i64 k) (fun i => n - (intOf i).toNat)
  case atStart => exact ⟨0, by omega, rfl⟩
  case round =>
    obtain ⟨k, hk, rfl⟩ := hrel
    by_cases hlt : k < n
    · have hk2 : (k : Int) < n := by omega
      have cl := HR.out.cell hlt
      have hC := hom1_any (f k) B M h w false (by have := HF.out k hlt; simp; omega) hB
      go_wp2_with (first | fail | (go_at_call 73; refine hC.mono ?_; rintro e w2 ⟨rfl, rfl⟩))
      go_round
      case rel => exact ⟨k + 1, by omega, by go_num⟩
      case measure => simp [intOf]; omega
    · obtain rfl : k = n := by omega
      go_wp2
      go_ret
      exact ⟨rfl, rfl⟩
theorem homContains_far (b n c B M k0 : Nat) (h : Nat → UInt8) (f : Nat → Int) (w : World) (hn : n ≤ 1048576) (hR : Row w b n f) (hF : FarN f M n k0) (hB : holds w B (sqc M h) 31) :
    Calls Try.prog 74 #[.slice (some ⟨b, 0, none⟩) n c, .func (.func 73) #[] #[.pointer (some ⟨B, 0, none⟩)]] w fun e w' => e = .returned (.bool true) ∧ w = w' := by
  have hC := hid (homIndex_far b n c B M k0 h f w hn hR hF hB)
  clear hR hF hB
  go_enter Try.func74, Try.ntmps74
  go_wp2_with (first | fail | (go_at_call 120; refine hC.out.mono ?_; rintro e w2 ⟨rfl, rfl⟩))
  go_ret
  exact ⟨rfl, rfl⟩
theorem homContains_all (b n c B M : Nat) (h : Nat → UInt8) (f : Nat → Int) (w : World) (hn : n ≤ 1048576) (hR : Row w b n f) (hF : ∀ i, i < n → 0 ≤ f i ∧ f i < M) (hB : holds w B (sqc M h) 31) :
    Calls Try.prog 74 #[.slice (some ⟨b, 0, none⟩) n c, .func (.func 73) #[] #[.pointer (some ⟨B, 0, none⟩)]] w fun e w' => e = .returned (.bool false) ∧ w = w' := by
  have hC := hid (homIndex_all b n c B M h f w hn hR hF hB)
  clear hR hF hB
  go_enter Try.func74, Try.ntmps74
  go_wp2_with (first | fail | (go_at_call 120; refine hC.out.mono ?_; rintro e w2 ⟨rfl, rfl⟩))
  go_ret
  exact ⟨rfl, rfl⟩
set_option maxRecDepth 20000 in
set_option maxHeartbeats 2000000 in
theorem implIsHomomorphism_no (o p : Int) (g h : Nat → UInt8) (v : Value) (w : World) (hs : (sqB o g && sqB p h) = false) :
    Calls Try.prog 39 #[.agg (sqc o g), .agg (sqc p h), v] w fun e w' => e = .returned (.tuple #[.bool false, .int .i64 1]) ∧ Below w.heap.size w w' := by
  have hH := Has.start2 w (sqc o g) (sqc p h) 31 31
  cases h1 : sqB o g with
  | false =>
    go_enter Try.func39, Try.ntmps39
    go_wp2_with (first | fail | (refine wpL_loadFull rfl rfl rfl rowSq hH.h0 (sqc_size _ _) ?_) | (go_at_call 55; refine (IsSquare_any o g _).mono ?_; rintro e w2 ⟨rfl, hb⟩; replace hH := hH.call' hb; clear hb; rw [h1]))
    go_ret2
    exact ⟨rfl, hH.below⟩
  | true =>
    have h2 : sqB p h = false := by simpa [h1] using hs
    clear hs
    go_enter Try.func39, Try.ntmps39
    go_wp2_with (first | fail | (refine wpL_guard rfl rfl ?_) | (refine wpL_loadFull rfl rfl rfl rowSq hH.h0 (sqc_size _ _) ?_) | (refine wpL_loadFull rfl rfl rfl rowSq hH.h1 (sqc_size _ _) ?_) | (go_at_call 55; with_reducible refine (IsSquare_any o g _).mono ?_; rintro e w2 ⟨rfl, hb⟩; replace hH := hH.call' hb; clear hb; rw [h1]) | (go_at_call 55; with_reducible refine (IsSquare_any p h _).mono ?_; rintro e w3 ⟨rfl, hb⟩; replace hH := hH.call' hb; clear hb; rw [h2]))
    go_ret2
    exact ⟨rfl, hH.below⟩
set_option maxRecDepth 20000 in
set_option maxHeartbeats 2000000 in
theorem implIsHomomorphism_len (N M n b c : Nat) (g h : Nat → UInt8) (w : World) (h1 : sqB (N : Int) g = true) (h2 : sqB (M : Int) h = true) (hn : n ≠ N) :
    Calls Try.prog 39 #[.agg (sqc N g), .agg (sqc M h), .slice (some ⟨b, 0, none⟩) n c] w fun e w' => e = .returned (.tuple #[.bool false, .int .i64 2]) ∧ Below w.heap.size w w' := by
  have hne : ¬ (n : Int) = (N : Int) := by omega
  have hH := Has.start2 w (sqc N g) (sqc M h) 31 31
  go_enter Try.func39, Try.ntmps39
  go_wp2_with (first | fail | (refine wpL_guard rfl rfl ?_) | (refine wpL_loadFull rfl rfl rfl rowSq hH.h0 (sqc_size _ _) ?_) | (refine wpL_loadFull rfl rfl rfl rowSq hH.h1 (sqc_size _ _) ?_) | (go_at_call 55; with_reducible refine (IsSquare_any N g _).mono ?_; rintro e w2 ⟨rfl, hb⟩; replace hH := hH.call' hb; clear hb; rw [h1]) | (go_at_call 55; with_reducible refine (IsSquare_any M h _).mono ?_; rintro e w3 ⟨rfl, hb⟩; replace hH := hH.call' hb; clear hb; rw [h2]; have c0 := hH.c0 0; rw [sqc_get0] at c0))
  go_ret2
  exact ⟨rfl, hH.below⟩
set_option maxRecDepth 20000 in
set_option maxHeartbeats 2000000 in
theorem implIsHomomorphism_far (N M b c k0 : Nat) (g h : Nat → UInt8) (f : Nat → Int) (w : World) (h1 : sqB (N : Int) g = true) (h2 : sqB (M : Int) h = true) (hR : Row w b N f) (hF : FarN f M N k0) :
    Calls Try.prog 39 #[.agg (sqc N g), .agg (sqc M h), .slice (some ⟨b, 0, none⟩) N c] w fun e w' => e = .returned (.tuple #[.bool false, .int .i64 2]) ∧ Below w.heap.size w w' := by
  have HF := hid hF
  have h10 := (sqB_range h1).2
  clear hF
  replace hR := hid ((hR.alloc (.cells (sqc N g) 31)).alloc (.cells (sqc M h) 31))
  have hH := Has.start2 w (sqc N g) (sqc M h) 31 31
  go_enter Try.func39, Try.ntmps39
  go_wp2_with (first | fail | (refine wpL_guard rfl rfl ?_) | (refine wpL_loadFull rfl rfl rfl rowSq hH.h0 (sqc_size _ _) ?_) | (refine wpL_loadFull rfl rfl rfl rowSq hH.h1 (sqc_size _ _) ?_) | (go_at_call 55; with_reducible refine (IsSquare_any N g _).mono ?_; rintro e w2 ⟨rfl, hb⟩; replace hH := hH.call' hb; replace hR := hid (hR.out.below hb); clear hb; rw [h1]) | (go_at_call 55; with_reducible refine (IsSquare_any M h _).mono ?_; rintro e w3 ⟨rfl, hb⟩; replace hH := hH.call' hb; replace hR := hid (hR.out.below hb); clear hb; rw [h2]; have c0 := hH.c0 0; rw [sqc_get0] at c0) | (go_at_call 74; refine (homContains_far b N c _ M k0 h f _ (by omega) hR.out HF.out hH.h1).mono ?_; rintro e w4 ⟨rfl, rfl⟩))
  go_ret2
  exact ⟨rfl, hH.below⟩
set_option maxRecDepth 20000 in
set_option maxHeartbeats 4000000 in
theorem implIsHomomorphism_in (N M b c : Nat) (g h : Nat → UInt8) (a : Nat → Nat) (w : World) (h1 : sqB (N : Int) g = true) (h2 : sqB (M : Int) h = true) (hq : IsSq N g) (hr : IsSq M h) (ha : ∀ i, i < N → a i < M) (hR : Row w b N (fun i => (a i : Int))) :
    Calls Try.prog 39 #[.agg (sqc N g), .agg (sqc M h), .slice (some ⟨b, 0, none⟩) N c] w fun e w' => e = .returned (.tuple #[.bool (homB N g h a), .int .i64 0]) ∧ Below w.heap.size w w' := by
  have n1 := hq.lo
  have h10 := hq.hi
  have m10 := hr.hi
  have hN2 : (N : Int) ≤ 10 := by omega
  have HQ := hid hq
  have HA := hid ha
  have HF := hid (show ∀ i, i < N → 0 ≤ ((a i : Nat) : Int) ∧ ((a i : Nat) : Int) < M from fun i hi => by have := ha i hi; omega)
  clear hq hr ha
  replace hR := hid ((hR.alloc (.cells (sqc N g) 31)).alloc (.cells (sqc M h) 31))
  have hH := Has.start2 w (sqc N g) (sqc M h) 31 31
  go_enter Try.func39, Try.ntmps39
  go_wp2_with (first | fail | (refine wpL_guard rfl rfl ?_) | (refine wpL_loadFull rfl rfl rfl rowSq hH.h0 (sqc_size _ _) ?_) | (refine wpL_loadFull rfl rfl rfl rowSq hH.h1 (sqc_size _ _) ?_) | (go_at_call 55; with_reducible refine (IsSquare_any N g _).mono ?_; rintro e w2 ⟨rfl, hb⟩; replace hH := hH.call' hb; replace hR := hid (hR.out.below hb); clear hb; rw [h1]) | (go_at_call 55; with_reducible refine (IsSquare_any M h _).mono ?_; rintro e w3 ⟨rfl, hb⟩; replace hH := hH.call' hb; replace hR := hid (hR.out.below hb); clear hb; rw [h2]; have c0 := hH.c0 0; rw [sqc_get0] at c0) | (go_at_call 74; refine (homContains_all b N c _ M h _ _ (by omega) hR.out HF.out hH.h1).mono ?_; rintro e w4 ⟨rfl, rfl⟩))
  try clear c0
  go_loopw [39] (fun i wr => ∃ k : Nat, k ≤ N ∧ i = .int .i64 k ∧ Has w wr [(sqc N g, 31), (sqc M h, 31)] ∧ Hid (Row wr b N (fun i => (a i : Int))) ∧ Hid (∀ x, x < k → ∀ y, y < N → a (mu g x y) = mu h (a x) (a y))) (fun i _ => 20 - (intOf i).toNat)
  case atStart => exact ⟨0, by omega, rfl, hH, hR, hid (fun x hx => absurd hx (Nat.not_lt_zero x))⟩
  case round =>
    clear hH hR
    obtain ⟨k, hk, rfl, hH, hR, hU⟩ := hrel
    have hsz := hH.size
    simp only [List.length_cons, List.length_nil] at hsz
    by_cases hlt : k < N
    · have hk1 : (k : Int) < 10 := by omega
      have hkN : (k : Int) < N := by omega
      have hoff : k * 10 + 10 ≤ 100 := by omega
      go_wp2_with (first | fail | (refine wpL_loadRowSq rfl rfl rfl rowB10 hH.h0 hoff ?_) | (refine wpL_allocN (o := ⟨some 10, _, _, _, _, _⟩) rfl rfl zeroB10 ?_; intro gr w4 hgr hl hb; have hlo : w.heap.size + 2 ≤ gr := (by omega); have hbr : b ≠ gr := (by have := hR.out.lt; omega); replace hH := hH.call' hb; replace hR := hid (hR.out.below hb); clear hb) | (refine wpL_storeN (x := .tmp 10) rfl rfl rfl rfl rowB10 hgr (u8s_size _ _) (u8s_ok _ _) ?_; intro w5 hz hOo hT; replace hgr := hz; replace hH := hT _ _ hH hlo; replace hR : Hid (Row w5 b N (fun i => (a i : Int))) := (by obtain ⟨cs, e1, e2⟩ := hR.out; exact hid ⟨cs, hOo _ _ _ hbr e1, e2⟩); clear hz hOo hT; have c0 := hH.c0 0; rw [sqc_get0] at c0))
      try clear c0
      go_loopw [48] (fun i wx => ∃ j : Nat, j ≤ N ∧ i = .int .i64 j ∧ Has w wx [(sqc N g, 31), (sqc M h, 31)] ∧ Hid (Row wx b N (fun i => (a i : Int))) ∧ Hid (holds wx gr (u8s 10 (rowF g k)) 22) ∧ Hid (∀ y, y < j → a (mu g k y) = mu h (a k) (a y))) (fun i _ => 20 - (intOf i).toNat)
      case atStart => exact ⟨0, by omega, rfl, hH, hR, hid hgr, hid (fun x hx => absurd hx (Nat.not_lt_zero x))⟩
      case round =>
        clear hH hR hgr
        obtain ⟨j, hj, rfl, hH, hR, hgr, hV⟩ := hrel
        by_cases hlt2 : j < N
        · have hj1 : (j : Int) < 10 := by omega
          have hjN : (j : Int) < N := by omega
          obtain ⟨z, hz⟩ : ∃ z, g (k * 10 + j) = z := ⟨_, rfl⟩
          have hzl : z.toNat < N := by rw [← hz]; exact mu_lt HQ.out hlt hlt2
          have hzl' : (z.toNat : Int) < N := by omega
          obtain ⟨u, hu⟩ : ∃ u, h (a k * 10 + a j) = u := ⟨_, rfl⟩
          have hak := HA.out k hlt
          have haj := HA.out j hlt2
          have c1 : wr.cell? ⟨gr, j, none⟩ = some (.int .u8 z.toNat) := by rw [holds_cell hgr.out, u8s_get _ _ _ (by omega)]; show some (Value.int .u8 (g (k * 10 + j)).toNat) = _; rw [hz]
          have c2 := hR.out.cell hzl
          have c3 := hR.out.cell hlt
          have c4 := hR.out.cell hlt2
          have c5 : wr.cell? ⟨w.heap.size + 1, 1 + a k * 10 + a j, none⟩ = some (.int .u8 u.toNat) := by rw [hH.c1, Nat.add_assoc, sqc_get _ _ _ (by omega), hu]
          have hak' : ((a k : Nat) : Int) < 10 := by omega
          have haj' : ((a j : Nat) : Int) < 10 := by omega
          have bu := u8_bd u
          have HE := hid (show a (mu g k j) = mu h (a k) (a j) ↔ a z.toNat = u.toNat by unfold mu; rw [hz, hu])
          clear hz hu
          by_cases ea : a z.toNat = u.toNat
          · have hV' : Hid (∀ y, y < j + 1 → a (mu g k y) = mu h (a k) (a y)) := hid (fun y hy => by
              by_cases e : y = j
              · subst e; exact HE.out.2 ea
              · exact hV.out y (by omega))
            have ea' : (u.toNat : Int) = ((a z.toNat : Nat) : Int) := by omega
            clear ea
            go_wp2
            go_quiet (fail)
            go_wp2
            go_roundw
            case rel => exact ⟨j + 1, by omega, by go_num, hH.drewN _, hid (hR.out.drew _), hid hgr.out, hV'⟩
            case measure => simp [intOf]; omega
          · have hno := hid (homB_no hlt hlt2 (fun h => ea (HE.out.1 h)))
            have ea' : ¬ (u.toNat : Int) = ((a z.toNat : Nat) : Int) := by omega
            go_wp2
            go_quiet (fail)
            go_wp2
            go_ret2
            exact ⟨by rw [hno.out]; rfl, (hH.drewN _).below⟩
        · obtain rfl : j = N := by omega
          have hU' : Hid (∀ x, x < k + 1 → ∀ y, y < j → a (mu g x y) = mu h (a x) (a y)) := hid (fun x hx => by
            by_cases e : x = k
            · subst e; exact hV.out
            · exact hU.out x (by omega))
          go_wp2
          go_roundw
          case rel => exact ⟨k + 1, by omega, by go_num, hH, hR, hU'⟩
          case measure => simp [intOf]; omega
    · obtain rfl : k = N := by omega
      have hyes := hid (homB_iff.2 hU.out)
      go_wp2
      go_ret2
      exact ⟨by rw [hyes.out]; rfl, hH.below⟩
set_option maxRecDepth 20000 in
set_option maxHeartbeats 2000000 in
theorem specIsHomomorphism_err (o p : Int) (g h : Nat → UInt8) (n b c : Nat) (z : Int) (w : World) (hz : (z == 0) = false) (f : Nat → Int) (hR : Row w b n f)
    (hC : Hid (∀ w, Row w b n f → Calls Try.prog 71 #[.agg (sqc o g), .agg (sqc p h), .slice (some ⟨b, 0, none⟩) n c] w fun e w' => e = .returned (.int .i64 z) ∧ Below w.heap.size w w')) :
    Calls Try.prog 37 #[.agg (sqc o g), .agg (sqc p h), .slice (some ⟨b, 0, none⟩) n c] w fun e w' => e = .returned (.tuple #[.bool false, .int .i64 z]) ∧ Below w.heap.size w w' := by
  have hz2 : ¬ (z = 0) := by simpa using hz
  replace hR := hid ((hR.alloc (.cells (sqc o g) 31)).alloc (.cells (sqc p h) 31))
  have hH := Has.start2 w (sqc o g) (sqc p h) 31 31
  go_enter Try.func37, Try.ntmps37
  go_wp2_with (first | fail | (refine wpL_loadFull rfl rfl rfl rowSq hH.h0 (sqc_size _ _) ?_) | (refine wpL_loadFull rfl rfl rfl rowSq hH.h1 (sqc_size _ _) ?_) | (go_at_call 71; refine (hC.out _ hR.out).mono ?_; rintro e w2 ⟨rfl, hb⟩; replace hH := hH.call' hb; clear hb))
  go_ret2
  exact ⟨rfl, hH.below⟩
set_option maxRecDepth 20000 in
set_option maxHeartbeats 2000000 in
theorem specIsHomomorphism_in (N M b c : Nat) (g h : Nat → UInt8) (a : Nat → Nat) (w : World) (h1 : sqB (N : Int) g = true) (h2 : sqB (M : Int) h = true) (hq : IsSq N g) (hr : IsSq M h) (ha : ∀ i, i < N → a i < M) (hR : Row w b N (fun i => (a i : Int))) :
    Calls Try.prog 37 #[.agg (sqc N g), .agg (sqc M h), .slice (some ⟨b, 0, none⟩) N c] w fun e w' => e = .returned (.tuple #[.bool (homB N g h a), .int .i64 0]) ∧ Below w.heap.size w w' := by
  have h10 := hq.hi
  have HQ := hid hq
  have HM := hid hr
  have HA := hid ha
  have HF := hid (show ∀ i, i < N → 0 ≤ ((a i : Nat) : Int) ∧ ((a i : Nat) : Int) < M from fun i hi => by have := ha i hi; omega)
  clear hq hr ha
  replace hR := hid ((hR.alloc (.cells (sqc N g) 31)).alloc (.cells (sqc M h) 31))
  have hH := Has.start2 w (sqc N g) (sqc M h) 31 31
  go_enter Try.func37, Try.ntmps37
  go_wp2_with (first | fail | (refine wpL_loadFull rfl rfl rfl rowSq hH.h0 (sqc_size _ _) ?_) | (refine wpL_loadFull rfl rfl rfl rowSq hH.h1 (sqc_size _ _) ?_) | (go_at_call 71; refine (l06Two_all N M N b c g h _ _ h1 h2 (by omega) hR.out HF.out 0 (.inl ⟨rfl, rfl⟩)).mono ?_; rintro e w2 ⟨rfl, hb⟩; replace hH := hH.call' hb; replace hR := hid (hR.out.below hb); clear hb) | (go_at_call 72; refine (l06Is_any N M b c g h a _ HQ.out HM.out HA.out hR.out).mono ?_; rintro e w2 ⟨rfl, hb⟩; replace hH := hH.call' hb; clear hb))
  go_ret2
  exact ⟨rfl, hH.below⟩
end Go.Proofs.Ytphninlinegbbab
