/- Proved: what the model's commutant and centre are. Conditions: those that each theorem names. -/
import Derived.Test.YtphninlinegbbaaNr
namespace Go.Proofs.Ytphninlinegbbaa
set_option linter.unusedVariables false
set_option linter.unusedSimpArgs false
open Go.RowKit
noncomputable def comB (g : Nat → UInt8) (N a : Nat) : Bool := @decide (∀ x, x < N → mu g a x = mu g x a) (Classical.propDecidable _)
theorem comB_iff {g : Nat → UInt8} {N a : Nat} : comB g N a = true ↔ ∀ x, x < N → mu g a x = mu g x a := by unfold comB; exact @decide_eq_true_iff _ (Classical.propDecidable _)
/-- Is a central? -/
noncomputable def cenB (g : Nat → UInt8) (N a : Nat) : Bool := (regB g N 0 a && (regB g N 1 a && regB g N 2 a)) && comB g N a
/-- b tells whether a commutes with all elements before j. -/
structure CMid (g : Nat → UInt8) (a j : Nat) (b : Bool) : Prop where
  iff : b = true ↔ ∀ x, x < j → mu g a x = mu g x a
theorem bool_of_iff {c : Bool} {p : Prop} (h : c = true ↔ p) {b : Bool} (hb : b = true ↔ p) : c = b := by
  cases c <;> cases b <;> simp_all
theorem OL.row {w : World} {B : Nat} {v : Value} {l : List Int} (h : OL w B v l) (hn : 0 < l.length) : ∃ g cap, v = .slice (some ⟨g, 0, none⟩) l.length cap ∧ B ≤ g ∧ Row w g l.length (fun i => l.getD i 0) := by
  rcases IL.of_own h with ⟨_, e⟩ | ⟨g, cap, e, h1, h2, h3⟩
  · rw [e] at hn; simp at hn
  · exact ⟨g, cap, e, h1, h3⟩
set_option maxRecDepth 20000 in
set_option maxHeartbeats 4000000 in
theorem l05Commutant_any (N : Nat) (g : Nat → UInt8) (w : World) (h1 : 1 ≤ N) (h10 : N ≤ 10) :
    Calls Try.prog 66 #[.agg (sqc N g)] w (GotV (selL (comB g N) N) w) := by
  have hH := Has.start1 w (sqc N g) 31
  go_enter Try.func66, Try.ntmps66
  go_wp2
  go_loopw [3, 4] (fun v i wr => ∃ k : Nat, k ≤ N ∧ i = .int .i64 k ∧ Has w wr [(sqc N g, 31)] ∧ Hid (OL wr (w.heap.size + 1) v (selL (comB g N) k))) (fun _ i _ => 20 - (intOf i).toNat)
  case atStart => exact ⟨0, by omega, rfl, hH.alloc _, hid (by rw [show selL (comB g N) 0 = [] from rfl]; exact OL.fresh _ (by simp) (by simp))⟩
  case round =>
    clear hH
    obtain ⟨k, hk, rfl, hH, hO⟩ := hrel
    have hsz := hH.size
    simp only [List.length_cons, List.length_nil] at hsz
    have hlen := selL_len (comB g N) k
    have cz : wr.cell? ⟨w.heap.size, 0, none⟩ = some (.int .i64 N) := by rw [hH.c0, sqc_get0]
    by_cases hlt : k < N
    · have hk10 : k < 10 := by omega
      have hk1 : (k : Int) < 10 := by omega
      go_wp2
      clear cz
      go_loopw [5, 6] (fun c i wx => ∃ (j : Nat) (b : Bool), j ≤ N ∧ c = .bool b ∧ i = .int .i64 j ∧ Has w wx [(sqc N g, 31)] ∧ Hid (OL wx (w.heap.size + 1) u3 (selL (comB g N) k)) ∧ CMid g k j b) (fun _ i _ => 20 - (intOf i).toNat)
      case atStart => exact ⟨0, true, by omega, rfl, rfl, hH, hO, ⟨⟨fun _ x hx => absurd hx (Nat.not_lt_zero x), fun _ => rfl⟩⟩⟩
      case round =>
        clear hH hO hsz
        obtain ⟨j, b, hj, rfl, rfl, hH, hO, hB⟩ := hrel
        have hsz := hH.size
        simp only [List.length_cons, List.length_nil] at hsz
        have cz : wr.cell? ⟨w.heap.size, 0, none⟩ = some (.int .i64 N) := by rw [hH.c0, sqc_get0]
        by_cases hlt2 : j < N
        · have hj10 : j < 10 := by omega
          have hj1 : (j : Int) < 10 := by omega
          cases b with
          | false =>
            have hB' : CMid g k (j + 1) false := ⟨⟨fun h => (by cases h), fun h => hB.iff.2 (fun x hx => h x (by omega))⟩⟩
            go_wp2
            go_quiet (fail)
            go_wp2
            go_roundw
            case rel => exact ⟨j + 1, false, by omega, rfl, by go_num, hH.drewN _, hid (own_kept hO.out fun _ _ => rfl), hB'⟩
            case measure => simp [intOf]; omega
          | true =>
            have ca : wr.cell? ⟨w.heap.size, 1 + k * 10 + j, none⟩ = some (.int .u8 (g (k * 10 + j)).toNat) := by rw [hH.c0, Nat.add_assoc, sqc_get _ _ _ (by omega)]
            have cb : wr.cell? ⟨w.heap.size, 1 + j * 10 + k, none⟩ = some (.int .u8 (g (j * 10 + k)).toNat) := by rw [hH.c0, Nat.add_assoc, sqc_get _ _ _ (by omega)]
            have hB' : CMid g k (j + 1) (((g (k * 10 + j)).toNat : Int) == ((g (j * 10 + k)).toNat : Int)) := ⟨by
              rw [beq_iff_eq]
              constructor
              · intro e x hx
                by_cases ex : x = j
                · subst ex; exact Int.ofNat_inj.1 e
                · exact hB.iff.1 rfl x (by omega)
              · intro h; exact Int.ofNat_inj.2 (h j (by omega))⟩
            go_wp2
            go_quiet (fail)
            go_wp2
            go_roundw
            case rel => exact ⟨j + 1, _, by omega, rfl, by go_num, hH.drewN _, hid (own_kept hO.out fun _ _ => rfl), hB'⟩
            case measure => simp [intOf]; omega
        · obtain rfl : j = N := by omega
          cases b with
          | true =>
            have HE := hid (comB_iff.2 (hB.iff.1 rfl))
            go_wp2_with (refine wpL_appI (v := u3) (n := (selL (comB g j) k).length) (base := w.heap.size + 1) (z := (k : Int)) rfl (by rfl) (by rfl) (by rfl) (World.ownsRow.alloc hO.out _) (by simp) (by omega) (by simp; omega) ?_; intro r cap w2 how hg hor hlt3; have hO2 := hid (OL.add how); replace hH := (hH.alloc _).grown hg (fun x hx => by have := (World.ownsRow.lt hO.out x hx).1; simp; omega); rw [← selL_yes HE.out] at hO2; clear how hg hor hlt3)
            go_roundw
            case rel => exact ⟨k + 1, by omega, by go_num, hH, hO2⟩
            case measure => simp [intOf]; omega
          | false =>
            have HE : Hid (comB g j k = false) := hid (by
              cases e : comB g j k with
              | false => rfl
              | true => exact absurd (hB.iff.2 (comB_iff.1 e)) (by simp))
            go_wp2
            go_roundw
            case rel => exact ⟨k + 1, by omega, by go_num, hH, by rw [selL_no HE.out]; exact hO⟩
            case measure => simp [intOf]; omega
    · obtain rfl : k = N := by omega
      go_wp2
      go_ret
      exact ⟨_, rfl, hH.below, hO.out.lower (by omega)⟩
set_option maxRecDepth 20000 in
theorem specCommutantOf_no (o : Int) (g : Nat → UInt8) (w : World) (hs : loopB o g = false) :
    Calls Try.prog 36 #[.agg (sqc o g)] w fun e w' => e = .returned (.tuple #[.slice none 0 0, .int .i64 1]) ∧ Below w.heap.size w w' := by
  have hH := Has.start1 w (sqc o g) 31
  go_enter Try.func36, Try.ntmps36
  go_wp2_with (first | (refine wpL_loadFull rfl rfl rfl rowSq hH.h0 (sqc_size _ _) ?_) | (go_at_call 60; refine (l01Loop_any o g _).mono ?_; rintro e w2 ⟨rfl, hb⟩; replace hH := hH.call' hb; clear hb; rw [hs]))
  go_ret2
  exact ⟨rfl, hH.below⟩
set_option maxRecDepth 20000 in
theorem specCommutantOf_yes (N : Nat) (g : Nat → UInt8) (w : World) (hl : loopB (N : Int) g = true) (hq : IsSq N g) :
    Calls Try.prog 36 #[.agg (sqc N g)] w (GotL (selL (comB g N) N) 0 w) := by
  have h1 := hq.lo
  have h10 := hq.hi
  clear hq
  have hH := Has.start1 w (sqc N g) 31
  go_enter Try.func36, Try.ntmps36
  go_wp2_with (first | (refine wpL_loadFull rfl rfl rfl rowSq hH.h0 (sqc_size _ _) ?_) | (go_at_call 60; refine (l01Loop_any N g _).mono ?_; rintro e w2 ⟨rfl, hb⟩; replace hH := hH.call' hb; clear hb; rw [hl]) | (go_at_call 66; refine (l05Commutant_any N g _ h1 h10).mono ?_; rintro e w3 ⟨v, rfl, hb, hO⟩; have hlo := hH.size; simp only [List.length_cons, List.length_nil] at hlo; replace hH := hH.call' hb; clear hb))
  go_ret2
  exact hO.got hH.below (by omega)
end Go.Proofs.Ytphninlinegbbaa
