/- Proved: what both functions IsPartial return. Conditions: those that each theorem names. -/
import Derived.Test.YtbhjbllgmenbaaaBo4
namespace Go.Proofs.Ytbhjbllgmenbaaa
set_option linter.unusedVariables false
set_option linter.unusedSimpArgs false
open Go.RowKit
theorem l09Is_par (b n : Nat) (m : Nat → Nat) (f : Nat → Nat → Int) (w : World) (hn : n ≤ 1048576) (hm : ∀ i, i < n → m i ≤ 1048576) (hL : SL w b n m f) :
    Calls Try.prog 72 #[.slice (some ⟨b, 0, none⟩) n n] w fun e w' => e = .returned (.bool (parB n m f)) ∧ Below w.heap.size w w' := by
  by_cases h : 1 ≤ n ∧ n ≤ 10
  · exact l09Is_any b n m f w h.1 h.2 hm hL
  · rw [parB_no (fun q : ParG n m f => h ⟨q.1, q.2.1⟩)]
    exact l09Is_out b n w hn h
/-- The program's board, if there is one. -/
theorem boardOf_par (b n : Nat) (m : Nat → Nat) (f : Nat → Nat → Int) (hn : n ≤ 1048576) (hm : ∀ i, i < n → m i ≤ 1048576) :
    ∃ V, V.size = 401 ∧ CellsOk V 401 ∧ (parB n m f = true → V = bdc n (Tfn n f n 0) (Ffn n f n 0) (Rfn n f n 0) (Cfn n f n 0)) ∧ ∀ w, SL w b n m f → Calls Try.prog 73 #[.slice (some ⟨b, 0, none⟩) n n] w fun e w' => e = .returned (.tuple #[.agg V, .bool (parB n m f)]) ∧ Below w.heap.size w w' := by
  obtain ⟨Z, hZ, hB0⟩ := bd0_ex
  by_cases h : 1 ≤ n ∧ n ≤ 10
  · cases hp : parB n m f with
    | true => exact ⟨_, bdc_size _ _ _ _ _, bdc_ok _ _ _ _ _, fun _ => rfl, fun w hL => by have := boardOf_any b n m f w h.1 h.2 hm hL; rw [hp] at this; exact this⟩
    | false => exact ⟨Z, hB0.s, hB0.o, (fun q => by cases q), fun w hL => by have := boardOf_any b n m f w h.1 h.2 hm hL; rw [hp, hZ] at this; exact this⟩
  · have hp := parB_no (fun q : ParG n m f => h ⟨q.1, q.2.1⟩)
    rw [hp]
    exact ⟨Z, hB0.s, hB0.o, (fun q => by cases q), fun w hL => by have := boardOf_out b n w hn h; rw [hZ] at this; exact this⟩
set_option maxRecDepth 20000 in
set_option maxHeartbeats 2000000 in
theorem implIsPartial_any (b n : Nat) (m : Nat → Nat) (f : Nat → Nat → Int) (w : World) (hn : n ≤ 1048576) (hm : ∀ i, i < n → m i ≤ 1048576) (hL : SL w b n m f) :
    Calls Try.prog 32 #[.slice (some ⟨b, 0, none⟩) n n] w fun e w' => e = .returned (.bool (parB n m f)) ∧ Below w.heap.size w w' := by
  obtain ⟨V, hVs, hVo, _, hC⟩ := boardOf_par b n m f hn hm
  obtain ⟨Z, _, hB0⟩ := bd0_ex
  have HC := hid (hC _ hL)
  have hH := Has.nil w
  clear hC hL hm
  go_enter Try.func32, Try.ntmps32
  go_wp2_with (first | fail | (go_at_call 73; refine HC.out.mono ?_; rintro e w2 ⟨rfl, hb⟩; replace hH := hH.call' hb; clear hb) | (refine wpL_storeN (x := .tmp 3) rfl rfl rfl rfl rowBd hgq hB0.s hVo ?_; intro w5 hz hO hT; replace hH := hT _ _ hH (by simp; omega); clear hz hO hT) | (refine wpL_allocN (o := ⟨some 3, _, _, _, _, _⟩) rfl rfl hB0.z ?_; intro gq w4 hgq hlq hb; have hs := hH.size; simp only [List.length_nil] at hs; replace hH := hH.call' hb; clear hb))
  go_ret
  exact ⟨rfl, hH.below⟩
set_option maxRecDepth 20000 in
set_option maxHeartbeats 2000000 in
theorem specIsPartial_any (b n : Nat) (m : Nat → Nat) (f : Nat → Nat → Int) (w : World) (hn : n ≤ 1048576) (hm : ∀ i, i < n → m i ≤ 1048576) (hL : SL w b n m f) :
    Calls Try.prog 30 #[.slice (some ⟨b, 0, none⟩) n n] w fun e w' => e = .returned (.bool (parB n m f)) ∧ Below w.heap.size w w' := by
  go_enter Try.func30, Try.ntmps30
  go_wp2_with (first | fail | (go_at_call 72; refine (l09Is_par b n m f _ hn hm hL).mono ?_; rintro e w2 ⟨rfl, hb⟩))
  go_ret
  exact ⟨rfl, hb⟩
end Go.Proofs.Ytbhjbllgmenbaaa
