/- Proved: what RowMaps and ColumnMaps return, of program and model alike. Conditions: those that each theorem names. -/
import Derived.Test.YtbhjbllgmenbaabPq
import Derived.Test.YtbhjbllgmenbaabQs
import Derived.Test.YtbhjbllgmenbaabIl5
namespace Go.Proofs.Ytbhjbllgmenbaab
set_option linter.unusedVariables false
set_option linter.unusedSimpArgs false
open Go.RowKit
theorem OP.hold {w w' : World} {B n gr : Nat} {v : Value} {F : Nat → UInt8} (h : OP w B v n F) (hgr : w.heap.size ≤ gr ∨ v.ownBlock ≠ some gr) (hO : ∀ b c u, b ≠ gr → holds w b c u → holds w' b c u) : OP w' B v n F := by
  refine ⟨h.1, ?_⟩
  rcases h.2 with h2 | ⟨g, cap, cur, hv, hB, hg, hr⟩
  · exact .inl h2
  · refine .inr ⟨g, cap, cur, hv, hB, hO g cur _ ?_ hg, hr⟩
    intro e
    subst e
    rcases hgr with h1 | h1
    · have := (Array.getElem?_eq_some_iff.1 hg).1; omega
    · exact h1 (by rw [hv]; rfl)
theorem OP.fresh (w : World) {B n : Nat} (F : Nat → UInt8) (h : B ≤ w.heap.size) (hn : w.heap.size = n) : OP (w.alloc (.cells #[] 97)) B (.slice (some ⟨n, 0, none⟩) 0 0) 0 F := by
  subst hn
  exact ⟨rfl, .inr ⟨w.heap.size, 0, #[], rfl, h, heap_alloc_new w _, Nat.le_refl _, by unfold maxLen; omega, rfl, rfl⟩⟩
theorem l01Row_nat (N k : Nat) (g : Nat → UInt8) (w : World) (hk : k < 10) :
    Calls Try.prog 153 #[.agg (sqc N g), .int .u8 k] w fun e w' => e = .returned (.agg (u8s 10 (rowF g k))) ∧ Below w.heap.size w w' := by
  have := l01Row_any N g (UInt8.ofNat k) w (by rw [u8_of k (by omega)]; exact hk)
  rw [u8_of k (by omega)] at this
  exact this
theorem l01Column_nat (N k : Nat) (g : Nat → UInt8) (w : World) (hq : IsSq N g) (hk : k < 10) :
    Calls Try.prog 155 #[.agg (sqc N g), .int .u8 k] w fun e w' => e = .returned (.agg (u8s 10 (colF g k))) ∧ Below w.heap.size w w' := by
  have := l01Column_any N g (UInt8.ofNat k) w hq (by rw [u8_of k (by omega)]; exact hk)
  rw [u8_of k (by omega)] at this
  exact this
set_option maxRecDepth 20000 in
set_option maxHeartbeats 4000000 in
theorem rowMapsOf_any (N : Nat) (g : Nat → UInt8) (w : World) (h1 : 1 ≤ N) (h10 : N ≤ 10) :
    Calls Try.prog 138 #[.agg (sqc N g)] w (GotP N g w) := by
  have hN2 : (N : Int) ≤ 10 := by omega
  have hH := Has.start1 w (sqc N g) 32
  have c0 := hH.c0 0
  rw [sqc_get0] at c0
  go_enter Try.func138, Try.ntmps138
  go_wp2_with (refine wpL_makeP (n := N) (base := w.heap.size + 1) rfl (by rfl) g (by rfl) (by rfl) (by omega) hH.size ?_; intro w3 hown hgm; replace hH := hH.grown hgm (fun x hx => by cases hx); clear c0; have c0 := hH.c0 0; rw [sqc_get0] at c0)
  clear c0
  go_loopw [3, 14] (fun v i wr => ∃ k : Nat, k ≤ N ∧ i = .int .i64 k ∧ Has w wr [(sqc N g, 32)] ∧ Hid (OP wr (w.heap.size + 1) v k g)) (fun _ i _ => 20 - (intOf i).toNat)
  case atStart => exact ⟨0, by omega, rfl, hH, hid (by simpa using hown)⟩
  case round =>
    clear hH hown hgm
    obtain ⟨k, hk, rfl, hH, hO⟩ := hrel
    have hsz := hH.size
    simp only [List.length_cons, List.length_nil] at hsz
    by_cases hlt : k < N
    · have hk10 : k < 10 := by omega
      have hk10' : (k : Int) < 10 := by omega
      have hoff : k * 10 + 10 ≤ 100 := by omega
      have har := arr10
      go_wp2_with (first | fail | (refine wpL_loadRowSq rfl rfl rfl rowB10 hH.h0 hoff ?_) | (refine wpL_allocN (o := ⟨some 5, _, _, _, _, _⟩) rfl rfl zeroB10 ?_; intro gr w4 hgr hl hb; have hlo : w.heap.size + 1 ≤ gr := (by omega); have hne : u3.ownBlock ≠ some gr := (fun e => by have := (World.ownsRow.lt hO.out gr e).2; omega); replace hH := hH.call' hb; replace hO := hid (hO.out.below hb); have hs4 := hb.size; clear hb) | (refine wpL_storeN (x := .tmp 5) rfl rfl rfl rfl rowB10 hgr (u8s_size _ _) (u8s_ok _ _) ?_; intro w5 hz hOo hT; replace hgr := hz; replace hH := hT _ _ hH hlo; replace hO := hid (hO.out.hold (.inr hne) hOo); clear hz hOo hT) | (refine wpL_loadFull (x := .tmp 20) rfl rfl rfl rowPl hgr (u8s_size _ _) ?_) | (refine wpL_sliceP (f := rowF g k) rfl (by rfl) (by rfl) ?_) | (refine wpL_appP (v := u3) (n := k) (base := w.heap.size + 1) (f := rowF g k) rfl (by rfl) g (by rfl) (by rfl) (hO.out.alloc _) (holds_new _ _ _) (by omega) (by have := hH.size; simp at this; simp; omega) (fun i _ => rfl) (fun j hj => rfl) ?_; intro r cap w6 how hg hor hlt3))
      have hO2 := hid how
      replace hH := (hH.alloc _).grown hg (fun x hx => by have := (World.ownsRow.lt hO.out x hx).1; simp; omega)
      clear how hg hor hlt3 hO hgr
      go_wp2
      go_roundw
      case rel => exact ⟨k + 1, by omega, by go_num, hH, hO2⟩
      case measure => simp [intOf]; omega
    · obtain rfl : k = N := by omega
      go_wp2
      go_ret
      exact ⟨_, rfl, hH.below, hO.out.lower (by omega)⟩
end Go.Proofs.Ytbhjbllgmenbaab
