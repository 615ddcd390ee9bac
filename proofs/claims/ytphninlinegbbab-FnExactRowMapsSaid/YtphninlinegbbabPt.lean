/- Proved: what RowMaps and ColumnMaps return, of program and model alike. Conditions: those that each theorem names. -/
import Derived.Test.YtphninlinegbbabPq
import Derived.Test.YtphninlinegbbabQs
import Derived.Test.YtphninlinegbbabIl5
namespace Go.Proofs.Ytphninlinegbbab
set_option linter.unusedVariables false
set_option linter.unusedSimpArgs false
open Go.RowKit
theorem OP.hold {w w' : World} {B n gr : Nat} {v : Value} {F : Nat → UInt8} (h : OP w B v n F) (hgr : w.heap.size ≤ gr ∨ v.ownBlock ≠ some gr) (hO : ∀ b c u, b ≠ gr → holds w b c u → holds w' b c u) : OP w' B v n F := by
  refine ⟨h.1, ?_⟩
  rcases h.2 with h2 | ⟨g, cap, cur, hv, hB, hg, hr⟩
  · exact .inl h2
  · refine .inr ⟨g, cap, cur, hv, hB, hO g cur _ ?_ hg, hr⟩
    intro e
    subst e
    rcases hgr with h1 | h1
    · have := (Array.getElem?_eq_some_iff.1 hg).1; omega
    · exact h1 (by rw [hv]; rfl)
theorem OP.fresh (w : World) {B n : Nat} (F : Nat → UInt8) (h : B ≤ w.heap.size) (hn : w.heap.size = n) : OP (w.alloc (.cells #[] 64)) B (.slice (some ⟨n, 0, none⟩) 0 0) 0 F := by
  subst hn
  exact ⟨rfl, .inr ⟨w.heap.size, 0, #[], rfl, h, heap_alloc_new w _, Nat.le_refl _, by unfold maxLen; omega, rfl, rfl⟩⟩
theorem l01Row_nat (N k : Nat) (g : Nat → UInt8) (w : World) (hk : k < 10) :
    Calls Try.prog 96 #[.agg (sqc N g), .int .u8 k] w fun e w' => e = .returned (.agg (u8s 10 (rowF g k))) ∧ Below w.heap.size w w' := by
  have := l01Row_any N g (UInt8.ofNat k) w (by rw [u8_of k (by omega)]; exact hk)
  rw [u8_of k (by omega)] at this
  exact this
theorem l01Column_nat (N k : Nat) (g : Nat → UInt8) (w : World) (hq : IsSq N g) (hk : k < 10) :
    Calls Try.prog 102 #[.agg (sqc N g), .int .u8 k] w fun e w' => e = .returned (.agg (u8s 10 (colF g k))) ∧ Below w.heap.size w w' := by
  have := l01Column_any N g (UInt8.ofNat k) w hq (by rw [u8_of k (by omega)]; exact hk)
  rw [u8_of k (by omega)] at this
  exact this
set_option maxRecDepth 20000 in
set_option maxHeartbeats 4000000 in
theorem rowMapsOf_any (N : Nat) (g : Nat → UInt8) (w : World) (h1 : 1 ≤ N) (h10 : N ≤ 10) :
    Calls Try.prog 56 #[.agg (sqc N g)] w (GotP N g w) := by
  have hN2 : (N : Int) ≤ 10 := by omega
  have hH := Has.start1 w (sqc N g) 31
  have c0 := hH.c0 0
  rw [sqc_get0] at c0
  go_enter Try.func56, Try.ntmps56
  go_wp2_with (refine wpL_makeP (n := N) (base := w.heap.size + 1) rfl (by rfl) g (by rfl) (by rfl) (by omega) hH.size ?_; intro w3 hown hgm; replace hH := hH.grown hgm (fun x hx => by cases hx); clear c0; have c0 := hH.c0 0; rw [sqc_get0] at c0)
  clear c0
  go_loopw [3, 14] (fun v i wr => ∃ k : Nat, k ≤ N ∧ i = .int .i64 k ∧ Has w wr [(sqc N g, 31)] ∧ Hid (OP wr (w.heap.size + 1) v k g)) (fun _ i _ => 20 - (intOf i).toNat)
  case atStart => exact ⟨0, by omega, rfl, hH, hid (by simpa using hown)⟩
  case round =>
    clear hH hown hgm
    obtain ⟨k, hk, rfl, hH, hO⟩ := hrel
    have hsz := hH.size
    simp only [List.length_cons, List.length_nil] at hsz
    by_cases hlt : k < N
    · have hk10 : k < 10 := by omega
      have hk10' : (k : Int) < 10 := by omega
      have hoff : k * 10 + 10 ≤ 100 := by omega
      have har := arr10
      go_wp2_with (first | fail | (refine wpL_loadRowSq rfl rfl rfl rowB10 hH.h0 hoff ?_) | (refine wpL_allocN (o := ⟨some 5, _, _, _, _, _⟩) rfl rfl zeroB10 ?_; intro gr w4 hgr hl hb; have hlo : w.heap.size + 1 ≤ gr := (by omega); have hne : u3.ownBlock ≠ some gr := (fun e => by have := (World.ownsRow.lt hO.out gr e).2; omega); replace hH := hH.call' hb; replace hO := hid (hO.out.below hb); have hs4 := hb.size; clear hb) | (refine wpL_storeN (x := .tmp 5) rfl rfl rfl rfl rowB10 hgr (u8s_size _ _) (u8s_ok _ _) ?_; intro w5 hz hOo hT; replace hgr := hz; replace hH := hT _ _ hH hlo; replace hO := hid (hO.out.hold (.inr hne) hOo); clear hz hOo hT) | (refine wpL_loadFull (x := .tmp 20) rfl rfl rfl rowPl hgr (u8s_size _ _) ?_) | (refine wpL_sliceP (f := rowF g k) rfl (by rfl) (by rfl) ?_) | (refine wpL_appP (v := u3) (n := k) (base := w.heap.size + 1) (f := rowF g k) rfl (by rfl) g (by rfl) (by rfl) (hO.out.alloc _) (holds_new _ _ _) (by omega) (by have := hH.size; simp at this; simp; omega) (fun i _ => rfl) (fun j hj => rfl) ?_; intro r cap w6 how hg hor hlt3))
      have hO2 := hid how
      replace hH := (hH.alloc _).grown hg (fun x hx => by have := (World.ownsRow.lt hO.out x hx).1; simp; omega)
      clear how hg hor hlt3 hO hgr
      go_wp2
      go_roundw
      case rel => exact ⟨k + 1, by omega, by go_num, hH, hO2⟩
      case measure => simp [intOf]; omega
    · obtain rfl : k = N := by omega
      go_wp2
      go_ret
      exact ⟨_, rfl, hH.below, hO.out.lower (by omega)⟩
set_option maxRecDepth 20000 in
set_option maxHeartbeats 4000000 in
theorem l04Rows_any (N : Nat) (g : Nat → UInt8) (w : World) (h1 : 1 ≤ N) (h10 : N ≤ 10) :
    Calls Try.prog 53 #[.agg (sqc N g)] w (GotP N g w) := by
  have hH := Has.start1 w (sqc N g) 31
  go_enter Try.func53, Try.ntmps53
  go_wp2
  go_loopw [3, 4] (fun v i wr => ∃ k : Nat, k ≤ N ∧ i = .int .i64 k ∧ Has w wr [(sqc N g, 31)] ∧ Hid (OP wr (w.heap.size + 1) v k g)) (fun _ i _ => 20 - (intOf i).toNat)
  case atStart => exact ⟨0, by omega, rfl, hH.alloc _, hid (OP.fresh _ g (by simp) (by simp))⟩
  case round =>
    clear hH
    obtain ⟨k, hk, rfl, hH, hO⟩ := hrel
    have hsz := hH.size
    simp only [List.length_cons, List.length_nil] at hsz
    have cz : wr.cell? ⟨w.heap.size, 0, none⟩ = some (.int .i64 N) := by rw [hH.c0, sqc_get0]
    by_cases hlt : k < N
    · have hk10 : k < 10 := by omega
      have hk10' : (k : Int) < 10 := by omega
      go_wp2_with (first | fail | (refine wpL_loadFull rfl rfl rfl rowSq hH.h0 (sqc_size _ _) ?_) | (go_at_call 96; refine (l01Row_nat N k g _ hk10).mono ?_; rintro e w3 ⟨rfl, hb⟩; replace hH := hH.call' hb; replace hO := hid (hO.out.below hb); have hs3 := hb.size; clear hb cz) | (refine wpL_sliceP (f := rowF g k) rfl (by rfl) (by rfl) ?_) | (refine wpL_appP (v := u3) (n := k) (base := w.heap.size + 1) (f := rowF g k) rfl (by rfl) g (by rfl) (by rfl) (hO.out.alloc _) (holds_new _ _ _) (by omega) (by simp; omega) (fun i _ => rfl) (fun j hj => rfl) ?_; intro r cap w6 how hg hor hlt3))
      have hO2 := hid how
      replace hH := (hH.alloc _).grown hg (fun x hx => by have := (World.ownsRow.lt hO.out x hx).1; simp; omega)
      clear how hg hor hlt3 hO
      go_wp2
      go_roundw
      case rel => exact ⟨k + 1, by omega, by go_num, hH, hO2⟩
      case measure => simp [intOf]; omega
    · obtain rfl : k = N := by omega
      go_wp2
      go_ret
      exact ⟨_, rfl, hH.below, hO.out.lower (by omega)⟩
set_option maxRecDepth 20000 in
set_option maxHeartbeats 4000000 in
theorem l04Columns_any (N : Nat) (g : Nat → UInt8) (w : World) (hq : IsSq N g) :
    Calls Try.prog 58 #[.agg (sqc N g)] w (GotP N (turn g) w) := by
  have h1 := hq.lo
  have h10 := hq.hi
  have HQ := hid hq
  clear hq
  have hH := Has.start1 w (sqc N g) 31
  go_enter Try.func58, Try.ntmps58
  go_wp2
  go_loopw [3, 4] (fun v i wr => ∃ k : Nat, k ≤ N ∧ i = .int .i64 k ∧ Has w wr [(sqc N g, 31)] ∧ Hid (OP wr (w.heap.size + 1) v k (turn g))) (fun _ i _ => 20 - (intOf i).toNat)
  case atStart => exact ⟨0, by omega, rfl, hH.alloc _, hid (OP.fresh _ (turn g) (by simp) (by simp))⟩
  case round =>
    clear hH
    obtain ⟨k, hk, rfl, hH, hO⟩ := hrel
    have hsz := hH.size
    simp only [List.length_cons, List.length_nil] at hsz
    have cz : wr.cell? ⟨w.heap.size, 0, none⟩ = some (.int .i64 N) := by rw [hH.c0, sqc_get0]
    by_cases hlt : k < N
    · have hk10 : k < 10 := by omega
      have hk10' : (k : Int) < 10 := by omega
      go_wp2_with (first | fail | (refine wpL_loadFull rfl rfl rfl rowSq hH.h0 (sqc_size _ _) ?_) | (go_at_call 102; refine (l01Column_nat N k g _ HQ.out hk10).mono ?_; rintro e w3 ⟨rfl, hb⟩; replace hH := hH.call' hb; replace hO := hid (hO.out.below hb); have hs3 := hb.size; clear hb cz) | (refine wpL_sliceP (f := colF g k) rfl (by rfl) (by rfl) ?_) | (refine wpL_appP (v := u3) (n := k) (base := w.heap.size + 1) (f := colF g k) rfl (by rfl) (turn g) (by rfl) (by rfl) (hO.out.alloc _) (holds_new _ _ _) (by omega) (by simp; omega) (fun i _ => rfl) (fun j hj => turn_col g k j hj) ?_; intro r cap w6 how hg hor hlt3))
      have hO2 := hid how
      replace hH := (hH.alloc _).grown hg (fun x hx => by have := (World.ownsRow.lt hO.out x hx).1; simp; omega)
      clear how hg hor hlt3 hO
      go_wp2
      go_roundw
      case rel => exact ⟨k + 1, by omega, by go_num, hH, hO2⟩
      case measure => simp [intOf]; omega
    · obtain rfl : k = N := by omega
      go_wp2
      go_ret
      exact ⟨_, rfl, hH.below, hO.out.lower (by omega)⟩
set_option maxRecDepth 20000 in
theorem specRowMaps_no (o : Int) (g : Nat → UInt8) (w : World) (hs : sqB o g = false) :
    Calls Try.prog 15 #[.agg (sqc o g)] w fun e w' => e = .returned (.tuple #[.slice none 0 0, .int .i64 1]) ∧ Below w.heap.size w w' := by
  have hH := Has.start1 w (sqc o g) 31
  go_enter Try.func15, Try.ntmps15
  go_wp2_with (first | (refine wpL_loadFull rfl rfl rfl rowSq hH.h0 (sqc_size _ _) ?_) | (go_at_call 52; refine (l01Is_any o g _).mono ?_; rintro e w2 ⟨rfl, hb⟩; replace hH := hH.call' hb; clear hb; rw [hs]))
  go_ret2
  exact ⟨rfl, hH.below⟩
set_option maxRecDepth 20000 in
theorem specRowMaps_yes (N : Nat) (g : Nat → UInt8) (w : World) (hs : sqB (N : Int) g = true) (hq : IsSq N g) :
    Calls Try.prog 15 #[.agg (sqc N g)] w (GotPP N (g) 0 w) := by
  have h1 := hq.lo
  have h10 := hq.hi
  have HQ := hid hq
  clear hq
  have hH := Has.start1 w (sqc N g) 31
  go_enter Try.func15, Try.ntmps15
  go_wp2_with (first | (refine wpL_loadFull rfl rfl rfl rowSq hH.h0 (sqc_size _ _) ?_) | (go_at_call 52; refine (l01Is_any N g _).mono ?_; rintro e w2 ⟨rfl, hb⟩; replace hH := hH.call' hb; clear hb; rw [hs]) | (go_at_call 53; refine (l04Rows_any N g _ h1 h10).mono ?_; rintro e w3 ⟨v, rfl, hb, hO⟩; have hlo := hH.size; simp only [List.length_cons, List.length_nil] at hlo; replace hH := hH.call' hb; clear hb))
  go_ret2
  exact hO.got (by omega) hH.below (by omega)
set_option maxRecDepth 20000 in
theorem implRowMaps_no (o : Int) (g : Nat → UInt8) (w : World) (hs : sqB o g = false) :
    Calls Try.prog 17 #[.agg (sqc o g)] w fun e w' => e = .returned (.tuple #[.slice none 0 0, .int .i64 1]) ∧ Below w.heap.size w w' := by
  have hH := Has.start1 w (sqc o g) 31
  go_enter Try.func17, Try.ntmps17
  go_wp2_with (first | (refine wpL_loadFull rfl rfl rfl rowSq hH.h0 (sqc_size _ _) ?_) | (go_at_call 55; refine (IsSquare_any o g _).mono ?_; rintro e w2 ⟨rfl, hb⟩; replace hH := hH.call' hb; clear hb; rw [hs]))
  go_ret2
  exact ⟨rfl, hH.below⟩
set_option maxRecDepth 20000 in
theorem implRowMaps_yes (N : Nat) (g : Nat → UInt8) (w : World) (hs : sqB (N : Int) g = true) (hq : IsSq N g) :
    Calls Try.prog 17 #[.agg (sqc N g)] w (GotPP N (g) 0 w) := by
  have h1 := hq.lo
  have h10 := hq.hi
  have HQ := hid hq
  clear hq
  have hH := Has.start1 w (sqc N g) 31
  go_enter Try.func17, Try.ntmps17
  go_wp2_with (first | (refine wpL_loadFull rfl rfl rfl rowSq hH.h0 (sqc_size _ _) ?_) | (go_at_call 55; refine (IsSquare_any N g _).mono ?_; rintro e w2 ⟨rfl, hb⟩; replace hH := hH.call' hb; clear hb; rw [hs]) | (go_at_call 56; refine (rowMapsOf_any N g _ h1 h10).mono ?_; rintro e w3 ⟨v, rfl, hb, hO⟩; have hlo := hH.size; simp only [List.length_cons, List.length_nil] at hlo; replace hH := hH.call' hb; clear hb))
  go_ret2
  exact hO.got (by omega) hH.below (by omega)
set_option maxRecDepth 20000 in
theorem specColumnMaps_no (o : Int) (g : Nat → UInt8) (w : World) (hs : sqB o g = false) :
    Calls Try.prog 21 #[.agg (sqc o g)] w fun e w' => e = .returned (.tuple #[.slice none 0 0, .int .i64 1]) ∧ Below w.heap.size w w' := by
  have hH := Has.start1 w (sqc o g) 31
  go_enter Try.func21, Try.ntmps21
  go_wp2_with (first | (refine wpL_loadFull rfl rfl rfl rowSq hH.h0 (sqc_size _ _) ?_) | (go_at_call 52; refine (l01Is_any o g _).mono ?_; rintro e w2 ⟨rfl, hb⟩; replace hH := hH.call' hb; clear hb; rw [hs]))
  go_ret2
  exact ⟨rfl, hH.below⟩
set_option maxRecDepth 20000 in
theorem specColumnMaps_yes (N : Nat) (g : Nat → UInt8) (w : World) (hs : sqB (N : Int) g = true) (hq : IsSq N g) :
    Calls Try.prog 21 #[.agg (sqc N g)] w (GotPP N (turn g) 0 w) := by
  have h1 := hq.lo
  have h10 := hq.hi
  have HQ := hid hq
  clear hq
  have hH := Has.start1 w (sqc N g) 31
  go_enter Try.func21, Try.ntmps21
  go_wp2_with (first | (refine wpL_loadFull rfl rfl rfl rowSq hH.h0 (sqc_size _ _) ?_) | (go_at_call 52; refine (l01Is_any N g _).mono ?_; rintro e w2 ⟨rfl, hb⟩; replace hH := hH.call' hb; clear hb; rw [hs]) | (go_at_call 58; refine (l04Columns_any N g _ HQ.out).mono ?_; rintro e w3 ⟨v, rfl, hb, hO⟩; have hlo := hH.size; simp only [List.length_cons, List.length_nil] at hlo; replace hH := hH.call' hb; clear hb))
  go_ret2
  exact hO.got (by omega) hH.below (by omega)
set_option maxRecDepth 20000 in
theorem implColumnMaps_no (o : Int) (g : Nat → UInt8) (w : World) (hs : sqB o g = false) :
    Calls Try.prog 22 #[.agg (sqc o g)] w fun e w' => e = .returned (.tuple #[.slice none 0 0, .int .i64 1]) ∧ Below w.heap.size w w' := by
  have hH := Has.start1 w (sqc o g) 31
  go_enter Try.func22, Try.ntmps22
  go_wp2_with (first | (refine wpL_loadFull rfl rfl rfl rowSq hH.h0 (sqc_size _ _) ?_) | (go_at_call 55; refine (IsSquare_any o g _).mono ?_; rintro e w2 ⟨rfl, hb⟩; replace hH := hH.call' hb; clear hb; rw [hs]))
  go_ret2
  exact ⟨rfl, hH.below⟩
set_option maxRecDepth 20000 in
theorem implColumnMaps_yes (N : Nat) (g : Nat → UInt8) (w : World) (hs : sqB (N : Int) g = true) (hq : IsSq N g) :
    Calls Try.prog 22 #[.agg (sqc N g)] w (GotPP N (turn g) 0 w) := by
  have h1 := hq.lo
  have h10 := hq.hi
  have HQ := hid hq
  clear hq
  have hH := Has.start1 w (sqc N g) 31
  go_enter Try.func22, Try.ntmps22
  go_wp2_with (first | (refine wpL_loadFull rfl rfl rfl rowSq hH.h0 (sqc_size _ _) ?_) | (go_at_call 55; refine (IsSquare_any N g _).mono ?_; rintro e w2 ⟨rfl, hb⟩; replace hH := hH.call' hb; clear hb; rw [hs]) | (go_at_call 59; refine (columnMapsOf_any N g _ h1 h10).mono ?_; rintro e w3 ⟨v, rfl, hb, hO⟩; have hlo := hH.size; simp only [List.length_cons, List.length_nil] at hlo; replace hH := hH.call' hb; clear hb))
  go_ret2
  exact hO.got (by omega) hH.below (by omega)
end Go.Proofs.Ytphninlinegbbab
