/- Proved: with which codes functions of a group and of permutations end in the program. Conditions: those that each theorem names. -/
import Derived.Test.YtcdlnkjljijlmaaMk1
import Derived.Test.YtcdlnkjljijlmaaGr
import Derived.Test.YtcdlnkjljijlmaaPs
namespace Go.Proofs.Ytcdlnkjljijlmaa
set_option linter.unusedVariables false
set_option linter.unusedSimpArgs false
open Go.RowKit
set_option maxRecDepth 20000 in
set_option maxHeartbeats 1000000 in
theorem isNone_any (o : Int) (g p : Nat → UInt8) (qb : Nat) (w : World) (hq : holds w qb (sqc o g) 28) :
    Calls Try.prog 99 #[.agg (u8s 10 p), .pointer (some ⟨qb, 0, none⟩)] w fun e w' => e = .returned (.bool (!permB p o)) ∧ Below w.heap.size w w' := by
  have hlt := holds_lt hq
  have hH := Has.start1 w (u8s 10 p) 36
  have c0 : (w.alloc (.cells (u8s 10 p) 36)).cell? ⟨qb, 0, none⟩ = some (.int .i64 o) := by rw [holds_cell (holds_alloc hq _), sqc_get0]
  go_enter Try.func99, Try.ntmps99
  go_wp2_with (first | fail | (refine wpL_loadFull rfl rfl rfl rowPl hH.h0 (u8s_size _ _) ?_) | (go_at_call 100; refine (IsPermutation_any _ _ _).mono ?_; rintro e w3 ⟨rfl, hb⟩; replace hH := hH.call' hb; clear hb))
  go_ret
  exact ⟨rfl, hH.below⟩
theorem isNone_enters : Enters Try.prog 99 := enters_of Try.func99 (by kernel_rfl) rfl
set_option maxRecDepth 20000 in
set_option maxHeartbeats 1000000 in
theorem indexFunc_none (fv : Value) (w : World) :
    Calls Try.prog 114 #[.slice none 0 0, fv] w fun e w' => e = .returned (.int .i64 (-1)) ∧ Below w.heap.size w w' := by
  go_enter Try.func114, Try.ntmps114
  go_wp2
  go_loopw [8] (fun i wr => i = .int .i64 0 ∧ Has w wr []) (fun _ _ => 0)
  case atStart => exact ⟨rfl, Has.nil w⟩
  case round =>
    obtain ⟨rfl, hH⟩ := hrel
    go_wp2
    go_ret
    exact ⟨rfl, hH.below⟩
set_option maxRecDepth 20000 in
set_option maxHeartbeats 1000000 in
theorem indexFunc_yes (o : Int) (g p : Nat → UInt8) (qb b : Nat) (w : World) (hq : holds w qb (sqc o g) 28) (hp : holds w b (u8s 10 p) 36) (HP : Hid (permB p o = true)) :
    Calls Try.prog 114 #[.slice (some ⟨b, 0, none⟩) 1 1, .func (.func 99) #[] #[.pointer (some ⟨qb, 0, none⟩)]] w fun e w' => e = .returned (.int .i64 (-1)) ∧ Below w.heap.size w w' := by
  have hEn : ∀ (args : Array Value) (w : World), (callFunc 99 args).run Try.prog w = .ok (.enter 99 args) w := isNone_enters
  go_enter Try.func114, Try.ntmps114
  go_wp2
  go_loopw [8] (fun i wr => ∃ k : Nat, k ≤ 1 ∧ i = .int .i64 k ∧ Has w wr [] ∧ holds wr qb (sqc o g) 28 ∧ holds wr b (u8s 10 p) 36) (fun i _ => 1 - (intOf i).toNat)
  case atStart => exact ⟨0, by omega, rfl, Has.nil w, hq, hp⟩
  case round =>
    clear hq hp
    obtain ⟨k, hk, rfl, hH, hq, hp⟩ := hrel
    by_cases hlt : k < 1
    · obtain rfl : k = 0 := by omega
      go_wp2_with (first | fail | (refine wpL_loadFull rfl rfl rfl rowPl hp (u8s_size _ _) ?_) | (go_at_fn 99; refine (isNone_any o g p qb _ hq).mono ?_; rintro e w3 ⟨rfl, hb⟩; rw [HP.out]; replace hH := hH.call' hb; replace hq := holds_below hq hb (holds_lt hq); replace hp := holds_below hp hb (holds_lt hp); clear hb))
      go_roundw
      case rel => exact ⟨1, by omega, by go_num, hH, hq, hp⟩
      case measure => simp [intOf]
    · obtain rfl : k = 1 := by omega
      go_wp2
      go_ret
      exact ⟨rfl, hH.below⟩
set_option maxRecDepth 20000 in
set_option maxHeartbeats 1000000 in
theorem indexFunc_no (o : Int) (g p : Nat → UInt8) (qb b : Nat) (w : World) (hq : holds w qb (sqc o g) 28) (hp : holds w b (u8s 10 p) 36) (HP : Hid (permB p o = false)) :
    Calls Try.prog 114 #[.slice (some ⟨b, 0, none⟩) 1 1, .func (.func 99) #[] #[.pointer (some ⟨qb, 0, none⟩)]] w fun e w' => e = .returned (.int .i64 (0)) ∧ Below w.heap.size w w' := by
  have hEn : ∀ (args : Array Value) (w : World), (callFunc 99 args).run Try.prog w = .ok (.enter 99 args) w := isNone_enters
  go_enter Try.func114, Try.ntmps114
  go_wp2
  go_loopw [8] (fun i wr => ∃ k : Nat, k ≤ 0 ∧ i = .int .i64 k ∧ Has w wr [] ∧ holds wr qb (sqc o g) 28 ∧ holds wr b (u8s 10 p) 36) (fun i _ => 1 - (intOf i).toNat)
  case atStart => exact ⟨0, by omega, rfl, Has.nil w, hq, hp⟩
  case round =>
    clear hq hp
    obtain ⟨k, hk, rfl, hH, hq, hp⟩ := hrel
    obtain rfl : k = 0 := by omega
    go_wp2_with (first | fail | (refine wpL_loadFull rfl rfl rfl rowPl hp (u8s_size _ _) ?_) | (go_at_fn 99; refine (isNone_any o g p qb _ hq).mono ?_; rintro e w3 ⟨rfl, hb⟩; rw [HP.out]; replace hH := hH.call' hb; replace hq := holds_below hq hb (holds_lt hq); replace hp := holds_below hp hb (holds_lt hp); clear hb))
    go_ret
    exact ⟨rfl, hH.below⟩
set_option maxRecDepth 20000 in
set_option maxHeartbeats 1000000 in
theorem containsFunc_none (fv : Value) (w : World) :
    Calls Try.prog 101 #[.slice none 0 0, fv] w fun e w' => e = .returned (.bool false) ∧ Below w.heap.size w w' := by
  have hH := Has.nil w
  go_enter Try.func101, Try.ntmps101
  go_wp2_with (first | fail | (go_at_call 114; refine (indexFunc_none _ _).mono ?_; rintro e w3 ⟨rfl, hb⟩; replace hH := hH.call' hb; clear hb))
  go_ret
  exact ⟨rfl, hH.below⟩
set_option maxRecDepth 20000 in
set_option maxHeartbeats 1000000 in
theorem containsFunc_one (o : Int) (g p : Nat → UInt8) (qb b : Nat) (w : World) (hq : holds w qb (sqc o g) 28) (hp : holds w b (u8s 10 p) 36) :
    Calls Try.prog 101 #[.slice (some ⟨b, 0, none⟩) 1 1, .func (.func 99) #[] #[.pointer (some ⟨qb, 0, none⟩)]] w fun e w' => e = .returned (.bool (!permB p o)) ∧ Below w.heap.size w w' := by
  have hH := Has.nil w
  cases hpb : permB p o with
  | true =>
    have HP := hid hpb
    clear hpb
    go_enter Try.func101, Try.ntmps101
    go_wp2_with (first | fail | (go_at_call 114; refine (indexFunc_yes o g p qb b _ hq hp HP).mono ?_; rintro e w3 ⟨rfl, hb⟩; replace hH := hH.call' hb; clear hb))
    go_ret
    exact ⟨rfl, hH.below⟩
  | false =>
    have HP := hid hpb
    clear hpb
    go_enter Try.func101, Try.ntmps101
    go_wp2_with (first | fail | (go_at_call 114; refine (indexFunc_no o g p qb b _ hq hp HP).mono ?_; rintro e w3 ⟨rfl, hb⟩; replace hH := hH.call' hb; clear hb))
    go_ret
    exact ⟨rfl, hH.below⟩
set_option maxRecDepth 20000 in
set_option maxHeartbeats 1000000 in
theorem placesCode_no (o : Int) (g : Nat → UInt8) (A : Option Addr) (n c : Nat) (w : World) (hs : sqB o g = false) :
    Calls Try.prog 65 #[.agg (sqc o g), .slice A n c] w fun e w' => e = .returned (.int .i64 1) ∧ Below w.heap.size w w' := by
  have hH := Has.start1 w (sqc o g) 28
  go_enter Try.func65, Try.ntmps65
  go_wp2_with (first | fail | (refine wpL_guard rfl rfl ?_) | (refine wpL_loadFull rfl rfl rfl rowSq hH.h0 (sqc_size _ _) ?_) | (go_at_call 87; refine (IsSquare_any _ _ _).mono ?_; rintro e w3 ⟨rfl, hb⟩; rw [hs]; replace hH := hH.call' hb; clear hb))
  go_ret
  exact ⟨rfl, hH.below⟩
set_option maxRecDepth 20000 in
set_option maxHeartbeats 1000000 in
theorem placesCode_0 (o : Int) (g : Nat → UInt8) (w : World) (hs : sqB o g = true) :
    Calls Try.prog 65 #[.agg (sqc o g), .slice none 0 0] w fun e w' => e = .returned (.int .i64 0) ∧ Below w.heap.size w w' := by
  have hH := Has.start1 w (sqc o g) 28
  go_enter Try.func65, Try.ntmps65
  go_wp2_with (first | fail | (refine wpL_guard rfl rfl ?_) | (refine wpL_loadFull rfl rfl rfl rowSq hH.h0 (sqc_size _ _) ?_) | (go_at_call 87; refine (IsSquare_any _ _ _).mono ?_; rintro e w3 ⟨rfl, hb⟩; rw [hs]; replace hH := hH.call' hb; clear hb) | (go_at_call 101; refine (containsFunc_none _ _).mono ?_; rintro e w4 ⟨rfl, hb⟩; replace hH := hH.call' hb; clear hb))
  go_ret
  exact ⟨rfl, hH.below⟩
set_option maxRecDepth 20000 in
set_option maxHeartbeats 1000000 in
theorem placesCode_1 (o : Int) (g p : Nat → UInt8) (b : Nat) (w : World) (hs : sqB o g = true) (hp : holds w b (u8s 10 p) 36) :
    Calls Try.prog 65 #[.agg (sqc o g), .slice (some ⟨b, 0, none⟩) 1 1] w fun e w' => e = .returned (.int .i64 (if permB p o = true then 0 else 1)) ∧ Below w.heap.size w w' := by
  have hlt := holds_lt hp
  have hH := Has.start1 w (sqc o g) 28
  replace hp := holds_alloc hp (.cells (sqc o g) 28)
  cases hpb : permB p o with
  | true =>
    have HP := hid hpb
    clear hpb
    go_enter Try.func65, Try.ntmps65
    go_wp2_with (first | fail | (refine wpL_guard rfl rfl ?_) | (refine wpL_loadFull rfl rfl rfl rowSq hH.h0 (sqc_size _ _) ?_) | (go_at_call 87; refine (IsSquare_any _ _ _).mono ?_; rintro e w3 ⟨rfl, hb⟩; rw [hs]; replace hH := hH.call' hb; replace hp := holds_below hp hb (holds_lt hp); clear hb) | (go_at_call 101; refine (containsFunc_one o g p _ b _ hH.h0 hp).mono ?_; rintro e w4 ⟨rfl, hb⟩; rw [HP.out]; replace hH := hH.call' hb; clear hb))
    go_ret
    exact ⟨by simp, hH.below⟩
  | false =>
    have HP := hid hpb
    clear hpb
    go_enter Try.func65, Try.ntmps65
    go_wp2_with (first | fail | (refine wpL_guard rfl rfl ?_) | (refine wpL_loadFull rfl rfl rfl rowSq hH.h0 (sqc_size _ _) ?_) | (go_at_call 87; refine (IsSquare_any _ _ _).mono ?_; rintro e w3 ⟨rfl, hb⟩; rw [hs]; replace hH := hH.call' hb; replace hp := holds_below hp hb (holds_lt hp); clear hb) | (go_at_call 101; refine (containsFunc_one o g p _ b _ hH.h0 hp).mono ?_; rintro e w4 ⟨rfl, hb⟩; rw [HP.out]; replace hH := hH.call' hb; clear hb))
    go_ret
    exact ⟨by simp, hH.below⟩
/-- The code of a group: ok tells whether the permutations are. -/
noncomputable def gcode (o : Int) (g : Nat → UInt8) (ok : Bool) : Int := if (sqB o g && ok) = true then (if groupB o g = true then 0 else 5) else 1
set_option maxRecDepth 20000 in
set_option maxHeartbeats 1000000 in
theorem onGroupCode_by (o : Int) (g : Nat → UInt8) (A : Option Addr) (n c : Nat) (ok : Bool) (w : World)
    (hC : Hid (∀ w', Below w.heap.size w w' → Calls Try.prog 65 #[.agg (sqc o g), .slice A n c] w' fun e w'' => e = .returned (.int .i64 (if (sqB o g && ok) = true then 0 else 1)) ∧ Below w'.heap.size w' w'')) :
    Calls Try.prog 55 #[.agg (sqc o g), .slice A n c] w fun e w' => e = .returned (.int .i64 (gcode o g ok)) ∧ Below w.heap.size w w' := by
  have hH := Has.start1 w (sqc o g) 28
  cases hk : (sqB o g && ok) with
  | false =>
    have hv : gcode o g ok = 1 := by unfold gcode; rw [hk]; rfl
    have HK := hid hk
    rw [hv]
    clear hv hk
    go_enter Try.func55, Try.ntmps55
    go_wp2_with (first | fail | (refine wpL_loadFull rfl rfl rfl rowSq hH.h0 (sqc_size _ _) ?_) | (go_at_call 65; refine (hC.out _ hH.below).mono ?_; rintro e w3 ⟨rfl, hb⟩; rw [HK.out, if_neg (by decide)]; replace hH := hH.call' hb; clear hb))
    go_ret
    exact ⟨rfl, hH.below⟩
  | true =>
    cases hg : groupB o g with
    | false =>
      have hv : gcode o g ok = 5 := by unfold gcode; rw [hk, hg]; rfl
      have HK := hid hk
      have HG := hid hg
      rw [hv]
      clear hv hk hg
      go_enter Try.func55, Try.ntmps55
      go_wp2_with (first | fail | (refine wpL_loadFull rfl rfl rfl rowSq hH.h0 (sqc_size _ _) ?_) | (go_at_call 65; refine (hC.out _ hH.below).mono ?_; rintro e w3 ⟨rfl, hb⟩; rw [HK.out, if_pos rfl]; replace hH := hH.call' hb; clear hb) | (go_at_call 95; refine (IsGroup_any _ _ _).mono ?_; rintro e w3 ⟨rfl, hb⟩; rw [HG.out]; replace hH := hH.call' hb; clear hb))
      go_ret
      exact ⟨rfl, hH.below⟩
    | true =>
      have hv : gcode o g ok = 0 := by unfold gcode; rw [hk, hg]; rfl
      have HK := hid hk
      have HG := hid hg
      rw [hv]
      clear hv hk hg
      go_enter Try.func55, Try.ntmps55
      go_wp2_with (first | fail | (refine wpL_loadFull rfl rfl rfl rowSq hH.h0 (sqc_size _ _) ?_) | (go_at_call 65; refine (hC.out _ hH.below).mono ?_; rintro e w3 ⟨rfl, hb⟩; rw [HK.out, if_pos rfl]; replace hH := hH.call' hb; clear hb) | (go_at_call 95; refine (IsGroup_any _ _ _).mono ?_; rintro e w3 ⟨rfl, hb⟩; rw [HG.out]; replace hH := hH.call' hb; clear hb))
      go_ret
      exact ⟨rfl, hH.below⟩
theorem placesCode_v0 (o : Int) (g : Nat → UInt8) (w : World) :
    Calls Try.prog 65 #[.agg (sqc o g), .slice none 0 0] w fun e w' => e = .returned (.int .i64 (if (sqB o g && true) = true then 0 else 1)) ∧ Below w.heap.size w w' := by
  cases hs : sqB o g with
  | false => exact placesCode_no o g none 0 0 w hs
  | true => exact placesCode_0 o g w hs
theorem placesCode_v1 (o : Int) (g p : Nat → UInt8) (b : Nat) (w : World) (hp : holds w b (u8s 10 p) 36) :
    Calls Try.prog 65 #[.agg (sqc o g), .slice (some ⟨b, 0, none⟩) 1 1] w fun e w' => e = .returned (.int .i64 (if (sqB o g && permB p o) = true then 0 else 1)) ∧ Below w.heap.size w w' := by
  cases hs : sqB o g with
  | false => exact placesCode_no o g _ 1 1 w hs
  | true => exact placesCode_1 o g p b w hs hp
theorem onGroupCode_0 (o : Int) (g : Nat → UInt8) (w : World) :
    Calls Try.prog 55 #[.agg (sqc o g), .slice none 0 0] w fun e w' => e = .returned (.int .i64 (gcode o g true)) ∧ Below w.heap.size w w' :=
  onGroupCode_by o g none 0 0 true w (hid fun w' _ => placesCode_v0 o g w')
theorem onGroupCode_1 (o : Int) (g p : Nat → UInt8) (b : Nat) (w : World) (hp : holds w b (u8s 10 p) 36) :
    Calls Try.prog 55 #[.agg (sqc o g), .slice (some ⟨b, 0, none⟩) 1 1] w fun e w' => e = .returned (.int .i64 (gcode o g (permB p o))) ∧ Below w.heap.size w w' :=
  onGroupCode_by o g _ 1 1 (permB p o) w (hid fun w' hb => placesCode_v1 o g p b w' (holds_below hp hb (holds_lt hp)))
end Go.Proofs.Ytcdlnkjljijlmaa
