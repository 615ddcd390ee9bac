/- Proved: what the program's differingWithin returns, for differences that have contracts of their own. Conditions: those that the theorem names. -/
import Derived.Test.YtpfhjbcmlebejabAs
import Derived.Test.YtpfhjbcmlebejabMl
import Derived.Deep.LoopGhost
import Derived.Shelf.Abstract
namespace Go.Proofs.Ytpfhjbcmlebejab
set_option linter.unusedVariables false
set_option linter.unusedSimpArgs false
open Go.RowKit
/-- Block b begins with the m functions ids. -/
def DRow (w : World) (b m : Nat) (ids : Nat → FuncId) : Prop := ∃ cs, holds w b cs 157 ∧ ∀ j, j < m → cs[j]? = some (.func (.func (ids j)) #[] #[])
theorem DRow.lt {w : World} {b m : Nat} {ids : Nat → FuncId} (h : DRow w b m ids) : b < w.heap.size := by
  obtain ⟨cs, h1, _⟩ := h; exact holds_lt h1
theorem DRow.block {w w' : World} {b m : Nat} {ids : Nat → FuncId} (h : DRow w b m ids) (e : w'.heap[b]? = w.heap[b]?) : DRow w' b m ids := by
  obtain ⟨cs, h1, h2⟩ := h; exact ⟨cs, by show w'.heap[b]? = _; rw [e]; exact h1, h2⟩
theorem DRow.below {w w' : World} {b m : Nat} {ids : Nat → FuncId} (h : DRow w b m ids) (hb : Below w.heap.size w w') : DRow w' b m ids := h.block (hb.block b h.lt)
theorem DRow.alloc {w : World} {b m : Nat} {ids : Nat → FuncId} (h : DRow w b m ids) (o : Obj) : DRow (w.alloc o) b m ids := h.block (heap_alloc_old w o h.lt)
theorem DRow.cell {w : World} {b m : Nat} {ids : Nat → FuncId} (h : DRow w b m ids) {j : Nat} (hj : j < m) : w.cell? ⟨b, j, none⟩ = some (.func (.func (ids j)) #[] #[]) := by
  obtain ⟨cs, h1, h2⟩ := h; rw [holds_cell h1]; exact h2 j hj
theorem Dv.alloc {w : World} {gb N : Nat} {g : Nat → UInt8} (h : Dv w gb N g) (o : Obj) : Dv (w.alloc o) gb N g := holds_alloc h o
/-- All m differences of a are in the set s. -/
def winP (N m : Nat) (s : Nat → Bool) (D : Nat → Nat → Nat → Nat → UInt8) (a : Nat) : Prop := ∀ x, x < N → ∀ y, y < N → ∀ j, j < m → s (D j a x y).toNat = true
noncomputable def winB (N m : Nat) (s : Nat → Bool) (D : Nat → Nat → Nat → Nat → UInt8) (a : Nat) : Bool := @decide (winP N m s D a) (Classical.propDecidable _)
theorem winB_iff {N m : Nat} {s : Nat → Bool} {D : Nat → Nat → Nat → Nat → UInt8} {a : Nat} : winB N m s D a = true ↔ winP N m s D a := by unfold winB; exact @decide_eq_true_iff _ (Classical.propDecidable _)
theorem winB_no {N m : Nat} {s : Nat → Bool} {D : Nat → Nat → Nat → Nat → UInt8} {a x y j : Nat} (hx : x < N) (hy : y < N) (hj : j < m) (h : s (D j a x y).toNat = false) : winB N m s D a = false := by
  cases e : winB N m s D a with
  | false => rfl
  | true => rw [winB_iff.1 e x hx y hy j hj] at h; cases h
noncomputable def foF (N m : Nat) (s : Nat → Bool) (D : Nat → Nat → Nat → Nat → UInt8) (k : Nat) : Nat → Bool := fun i => decide (i < k) && winB N m s D i
theorem foF_zero (N m : Nat) (s : Nat → Bool) (D : Nat → Nat → Nat → Nat → UInt8) : foF N m s D 0 = fun _ => false := by funext i; simp [foF]
theorem foF_yes {N m : Nat} {s : Nat → Bool} {D : Nat → Nat → Nat → Nat → UInt8} {k : Nat} (h : winB N m s D k = true) (j : Nat) : foF N m s D (k + 1) j = if j = k then true else foF N m s D k j := by
  unfold foF
  by_cases e : j = k
  · subst e; simp [h]
  · rw [if_neg e]
    congr 1
    simp only [decide_eq_decide]; omega
theorem foF_no {N m : Nat} {s : Nat → Bool} {D : Nat → Nat → Nat → Nat → UInt8} {k : Nat} (h : winB N m s D k = false) : foF N m s D (k + 1) = foF N m s D k := by
  funext j
  unfold foF
  by_cases e : j = k
  · subst e; simp [h]
  · congr 1
    simp only [decide_eq_decide]; omega
/-- The boxes of the walk. -/
abbrev DBox (w wr : World) (N m : Nat) (s : Nat → Bool) (D : Nat → Nat → Nat → Nat → UInt8) (k : Nat) : Prop :=
  Has w wr [(bls 10 s, 91), (bls 10 fun _ => false, 91), (bls 10 (foF N m s D k), 91)]
set_option maxRecDepth 20000 in
set_option maxHeartbeats 4000000 in
theorem differingWithin_any (N gb b m : Nat) (g : Nat → UInt8) (s : Nat → Bool) (ids : Nat → FuncId) (D : Nat → Nat → Nat → Nat → UInt8) (w : World) (h1 : 1 ≤ N) (h10 : N ≤ 10) (hm : m ≤ 4) (hE : Hid (∀ j, j < m → Enters Try.prog (ids j))) (hg : Dv w gb N g) (hd : DRow w b m ids)
    (hD : Hid (∀ j, j < m → ∀ a x y w, a < N → x < N → y < N → Dv w gb N g → Calls Try.prog (ids j) #[.pointer (some ⟨gb, 0, none⟩), .int .u8 (a : Nat), .int .u8 (x : Nat), .int .u8 (y : Nat)] w fun e w' => e = .returned (.int .u8 (D j a x y).toNat) ∧ Below w.heap.size w w'))
    (hlt : Hid (∀ j a x y, j < m → a < N → x < N → y < N → (D j a x y).toNat < 10)) :
    Calls Try.prog 151 #[.pointer (some ⟨gb, 0, none⟩), .agg (bls 10 s), .slice (some ⟨b, 0, none⟩) m m] w fun e w' => e = .returned (.agg (bls 10 (foF N m s D N))) ∧ Below w.heap.size w w' := by
  have hgb := holds_lt hg
  have hbb := hd.lt
  have hH : DBox w (((w.alloc (.cells (bls 10 s) 91)).alloc (.cells (bls 10 fun _ => false) 91)).alloc (.cells (bls 10 fun _ => false) 91)) N m s D 0 := by
    unfold DBox; rw [foF_zero]; exact Has.start3 w _ _ _ _ _ _
  have hN10 : (N : Int) ≤ 10 := by omega
  have cN : (((w.alloc (.cells (bls 10 s) 91)).alloc (.cells (bls 10 fun _ => false) 91)).alloc (.cells (bls 10 fun _ => false) 91)).cell? ⟨gb, 0, none⟩ = some (.int .i64 N) := by
    rw [holds_cell (((Dv.alloc hg _).alloc _).alloc _), dvc_get0 _ _ _ _ _ (by omega), sqc_get0]
  replace hg := hid (((Dv.alloc hg (.cells (bls 10 s) 91)).alloc (.cells (bls 10 fun _ => false) 91)).alloc (.cells (bls 10 fun _ => false) 91))
  replace hd := hid (((hd.alloc (.cells (bls 10 s) 91)).alloc (.cells (bls 10 fun _ => false) 91)).alloc (.cells (bls 10 fun _ => false) 91))
  go_enter Try.func151, Try.ntmps151
  go_wp2_with (first | fail | (refine wpL_alloc rfl rfl zeroMe ?_; intro g0 hg0; (try simp at hg0); subst hg0))
  go_step3
  go_wp2_with (first | fail | (refine wpL_alloc rfl rfl zeroMe ?_; intro g0 hg0; (try simp at hg0); subst hg0))
  go_step3
  go_wp2
  clear cN
  go_loopg [21] N (fun gh i wx => ∃ k : Nat, k + gh = N ∧ i = .int .u8 k ∧ DBox w wx N m s D k ∧ Hid (Dv wx gb N g) ∧ Hid (DRow wx b m ids))
  case atStart => exact ⟨0, by omega, rfl, hH, hg, hd⟩
  case round =>
    clear hH hg hd
    obtain ⟨k, hkg, rfl, hH, hg, hd⟩ := hrel
    cases gk with
    | zero =>
      obtain rfl : k = N := by omega
      go_wp2_with (first | fail | (refine wpL_loadFull rfl rfl rfl rowMe hH.h2 (bls_size _ _) ?_) | (refine wpL_storeFull rfl rfl rfl rfl rowMe hH.h1 (bls_size _ _) (bls_ok _ _) ?_))
      (try rw [Exit.noGoto_ret])
      exact ret_c rfl rfl hH.r1.h1 rowMe (bls_size _ _) ⟨rfl, hH.r1.below⟩
    | succ gh =>
      have hk : k < N := by omega
      have hk' : (k : Int) < N := by omega
      have hk10 : (k : Int) < 10 := by omega
      go_wp2
      go_loopg [25] N (fun g2 i wx => ∃ x : Nat, x + g2 = N ∧ i = .int .u8 x ∧ DBox w wx N m s D k ∧ Hid (Dv wx gb N g) ∧ Hid (DRow wx b m ids) ∧ Hid (∀ x', x' < x → ∀ y, y < N → ∀ j, j < m → s (D j k x' y).toNat = true))
      case atStart => exact ⟨0, by omega, rfl, hH, hg, hd, hid (fun x hx => absurd hx (Nat.not_lt_zero x))⟩
      case round =>
        clear hH hg hd
        obtain ⟨x, hxg, rfl, hH, hg, hd, hX⟩ := hrel
        cases gk with
        | zero =>
          obtain rfl : x = N := by omega
          have hW := hid (winB_iff.2 (show winP x m s D k from hX.out))
          have c2 : wr.cell? ⟨w.heap.size + 2, k, none⟩ = some (.bool (foF x m s D k k)) := by rw [hH.c2, bls_get _ _ _ (by omega)]
          have f2 := hH.f2
          go_wp2
          go_roundg gh
          case measure => omega
          case rel => exact ⟨k + 1, by omega, by go_num, hH.s2 _ _ (bls_step 10 _ _ k true (fun j hj => foF_yes hW.out j)), hid (holds_other hg.out _ _ (by simp; omega)), hid (hd.out.block (heap_setCell_other _ _ _ _ (by simp; omega)))⟩
        | succ g2 =>
          have hx : x < N := by omega
          have hx' : (x : Int) < N := by omega
          have hx10 : (x : Int) < 10 := by omega
          go_wp2
          go_loopg [29] N (fun g3 i wx => ∃ y : Nat, y + g3 = N ∧ i = .int .u8 y ∧ DBox w wx N m s D k ∧ Hid (Dv wx gb N g) ∧ Hid (DRow wx b m ids) ∧ Hid (∀ y', y' < y → ∀ j, j < m → s (D j k x y').toNat = true))
          case atStart => exact ⟨0, by omega, rfl, hH, hg, hd, hid (fun x hx => absurd hx (Nat.not_lt_zero x))⟩
          case round =>
            clear hH hg hd
            obtain ⟨y, hyg, rfl, hH, hg, hd, hY⟩ := hrel
            cases gk with
            | zero =>
              obtain rfl : y = N := by omega
              have hX' : Hid (∀ x', x' < x + 1 → ∀ y', y' < y → ∀ j, j < m → s (D j k x' y').toNat = true) := hid (fun x' hx' => by
                by_cases e : x' = x
                · subst e; exact hY.out
                · exact hX.out x' (by omega))
              go_wp2
              go_roundg g2
              case measure => omega
              case rel => exact ⟨x + 1, by omega, by go_num, hH, hg, hd, hX'⟩
            | succ g3 =>
              have hy : y < N := by omega
              have hy' : (y : Int) < N := by omega
              have hy10 : (y : Int) < 10 := by omega
              go_wp2
              go_loopg [34] m (fun g4 i wx => ∃ j : Nat, j + g4 = m ∧ i = .int .i64 j ∧ DBox w wx N m s D k ∧ Hid (Dv wx gb N g) ∧ Hid (DRow wx b m ids) ∧ Hid (∀ j', j' < j → s (D j' k x y).toNat = true))
              case atStart => exact ⟨0, by omega, rfl, hH, hg, hd, hid (fun x hx => absurd hx (Nat.not_lt_zero x))⟩
              case round =>
                clear hH hg hd
                obtain ⟨j, hjg, rfl, hH, hg, hd, hJ⟩ := hrel
                cases gk with
                | zero =>
                  obtain rfl : j = m := by omega
                  have hY' : Hid (∀ y', y' < y + 1 → ∀ j', j' < j → s (D j' k x y').toNat = true) := hid (fun y' hy' => by
                    by_cases e : y' = y
                    · subst e; exact hJ.out
                    · exact hY.out y' (by omega))
                  go_wp2
                  go_roundg g3
                  case measure => omega
                  case rel => exact ⟨y + 1, by omega, by go_num, hH, hg, hd, hY'⟩
                | succ g4 =>
                  have hj : j < m := by omega
                  have hj' : (j : Int) < m := by omega
                  have cj := hd.out.cell hj
                  have he : ∀ (args : Array Value) (w : World), (callFunc (ids j) args).run Try.prog w = .ok (.enter (ids j) args) w := hE.out j hj
                  have hdl := hlt.out j k x y hj hk hx hy
                  obtain ⟨dv, hdv⟩ : ∃ dv, D j k x y = dv := ⟨_, rfl⟩
                  rw [hdv] at hdl
                  have HD := hid hdv
                  clear hdv
                  have hdl' : (dv.toNat : Int) < 10 := by omega
                  cases es : s dv.toNat with
                  | true =>
                    have hJ' : Hid (∀ j', j' < j + 1 → s (D j' k x y).toNat = true) := hid (fun j' hj' => by
                      by_cases e : j' = j
                      · subst e; rw [HD.out]; exact es
                      · exact hJ.out j' (by omega))
                    have ES := hid es
                    clear es
                    go_wp2_with (first | fail | (go_at_fn (ids j); refine (hD.out j hj k x y _ hk hx hy hg.out).mono ?_; rintro e w3 ⟨rfl, hb⟩; rw [HD.out]; replace hH := hH.call' hb; replace hg := hid (hg.out.below hb); replace hd := hid (hd.out.below hb); clear hb cj; have cs : w3.cell? ⟨w.heap.size, dv.toNat, none⟩ = some (.bool true) := (by rw [hH.c0, bls_get _ _ _ hdl, ES.out])))
                    go_roundg g4
                    case measure => omega
                    case rel => exact ⟨j + 1, by omega, by go_num, hH, hg, hd, hJ'⟩
                  | false =>
                    have hW : Hid (winB N m s D k = false) := hid (winB_no hx hy hj (by rw [HD.out]; exact es))
                    have ES := hid es
                    clear es
                    go_wp2_with (first | fail | (go_at_fn (ids j); refine (hD.out j hj k x y _ hk hx hy hg.out).mono ?_; rintro e w3 ⟨rfl, hb⟩; rw [HD.out]; replace hH := hH.call' hb; replace hg := hid (hg.out.below hb); replace hd := hid (hd.out.below hb); clear hb cj; have cs : w3.cell? ⟨w.heap.size, dv.toNat, none⟩ = some (.bool false) := (by rw [hH.c0, bls_get _ _ _ hdl, ES.out])))
                    go_roundg gh
                    case measure => omega
                    case rel => exact ⟨k + 1, by omega, by go_num, by unfold DBox; rw [foF_no hW.out]; exact hH, hg, hd⟩
end Go.Proofs.Ytpfhjbcmlebejab
