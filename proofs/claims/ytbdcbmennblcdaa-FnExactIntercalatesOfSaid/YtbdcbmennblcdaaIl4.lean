/- Proved: what the model's ListsOfSquare returns. Conditions: those that each theorem names. -/
import Derived.Test.YtbdcbmennblcdaaIl3
import Derived.Test.YtbdcbmennblcdaaSq3b
namespace Go.Proofs.Ytbdcbmennblcdaa
set_option linter.unusedVariables false
set_option linter.unusedSimpArgs false
open Go.RowKit
set_option maxRecDepth 20000 in
theorem specListsOfSquare_no (o : Int) (g : Nat → UInt8) (w : World) (hs : sqB o g = false) :
    Calls Try.prog 15 #[.agg (sqc o g)] w fun e w' => e = .returned (.tuple #[.slice none 0 0, .int .i64 1]) ∧ Below w.heap.size w w' := by
  have hH := Has.start1 w (sqc o g) 31
  go_enter Try.func15, Try.ntmps15
  go_wp2_with (first | (refine wpL_loadFull rfl rfl rfl rowSq hH.h0 (sqc_size _ _) ?_) | (go_at_call 53; refine (l01Is_any o g _).mono ?_; rintro e w2 ⟨rfl, hb⟩; replace hH := hH.call' hb; rw [hs]))
  go_ret2
  exact ⟨rfl, hH.below⟩
/-- The state at the head of a round: k lists have been made. -/
structure Mid (w wr : World) (N k : Nat) (g : Nat → UInt8) (v : Value) : Prop where
  has : Has w wr [(sqc N g, 31)]
  ps : ∃ b, PS wr (w.heap.size + 1) v k N (fun x y => ((g (x * 10 + y)).toNat : Int)) b
/-- The state at the head of an inner round: j numbers of the next list have been put into row; ws is the world at the outer round's head. -/
structure Sub (w ws wr : World) (N k j : Nat) (g : Nat → UInt8) (row : Value) : Prop where
  has : Has w wr [(sqc N g, 31)]
  bel : Below ws.heap.size ws wr
  own : wr.ownsRow ws.heap.size 2 1 row j (ints j fun y => ((g (k * 10 + y)).toNat : Int))
theorem Sub.next {w ws wr w' : World} {N k j : Nat} {g : Nat → UInt8} {row : Value} {o : Obj} {r cap : Nat} (h : Sub w ws wr N k j g row) (hw : w.heap.size + 1 ≤ ws.heap.size)
    (how : w'.ownsRow ws.heap.size 2 1 (.slice (some ⟨r, 0, none⟩) (j + 1) cap) (j + 1) (ints j (fun y => ((g (k * 10 + y)).toNat : Int)) ++ [.int .i64 (g (k * 10 + j)).toNat])) (hg : (wr.alloc o).grownBy w' row.ownBlock) :
    Sub w ws w' N k (j + 1) g (.slice (some ⟨r, 0, none⟩) (j + 1) cap) :=
  ⟨(h.has.alloc o).grown hg (fun x hx => by have := (h.own.lt x hx).1; simp; omega),
   Below.grown (h.bel.alloc h.bel.size o) hg (fun x hx => (h.own.lt x hx).1) (Nat.le_refl _),
   by rw [← ints_succ]; exact how⟩
theorem Mid.next {w ws wr w' : World} {N k : Nat} {g : Nat → UInt8} {v row : Value} {o : Obj} {r cap g2 cap2 : Nat} {xs : List Value} (hM : Mid w ws N k g v) (h : Sub w ws wr N k N g row) (hN : 0 < N) (hrow : row = .slice (some ⟨r, 0, none⟩) N cap)
    {b : Nat → Nat} (hp : PS ws (w.heap.size + 1) v k N (fun x y => ((g (x * 10 + y)).toNat : Int)) b) (hx : ∀ j, j < k → ∃ cap, xs[j]? = some (.slice (some ⟨b j, 0, none⟩) N cap)) (hl : xs.length = k)
    (how : w'.ownsRow (w.heap.size + 1) 38 1 (.slice (some ⟨g2, 0, none⟩) (k + 1) cap2) (k + 1) (xs ++ [.slice (some ⟨r, 0, none⟩) N cap])) (hg : (wr.alloc o).grownBy w' v.ownBlock) (hor : v.ownBlock = some g2 ∨ g2 = (wr.alloc o).heap.size) :
    Mid w w' N (k + 1) g (.slice (some ⟨g2, 0, none⟩) (k + 1) cap2) := by
  have hs := hM.has.size
  simp at hs
  obtain ⟨r', cap', e, hb, hR⟩ := own_row h.own hN
  rw [hrow] at e
  obtain ⟨rfl, rfl⟩ : r = r' ∧ cap = cap' := by simpa using e
  exact ⟨(h.has.alloc o).grown hg (fun x hx => by have := (hp.lt x hx).1; simp; omega), _, hp.push hx hl h.bel hR hb hs how hg hor⟩
theorem Mid.parts {w ws : World} {N k : Nat} {g : Nat → UInt8} {v : Value} (h : Mid w ws N k g v) : ∃ b xs, PS ws (w.heap.size + 1) v k N (fun x y => ((g (x * 10 + y)).toNat : Int)) b ∧ ws.ownsRow (w.heap.size + 1) 38 1 v k xs ∧ (∀ j, j < k → ∃ cap, xs[j]? = some (.slice (some ⟨b j, 0, none⟩) N cap)) ∧ xs.length = k := by
  obtain ⟨b, hp⟩ := h.ps
  obtain ⟨xs, h1, h2⟩ := hp.own
  exact ⟨b, xs, hp, h1, h2, by have := h1.1; omega⟩
theorem Mid.got {w wr : World} {N : Nat} {g : Nat → UInt8} {v : Value} (h : Mid w wr N N g v) (hN : 0 < N) : Got N g w (.returned (.tuple #[v, .int .i64 0])) wr := by
  obtain ⟨b, hp⟩ := h.ps
  obtain ⟨bo, c, rfl, hb, hS⟩ := hp.done hN
  exact ⟨bo, c, b, rfl, h.has.below, hS, by omega, fun j hj => by have := hp.lo j hj; omega⟩
set_option maxRecDepth 20000 in
set_option maxHeartbeats 4000000 in
theorem specListsOfSquare_yes (N : Nat) (g : Nat → UInt8) (w : World) (hs : sqB (N : Int) g = true) :
    Calls Try.prog 15 #[.agg (sqc N g)] w (Got N g w) := by
  have h1 : 1 ≤ N := by have := sqB_range hs; omega
  have h10 : N ≤ 10 := by have := sqB_range hs; omega
  have hH := Has.start1 w (sqc N g) 31
  go_enter Try.func15, Try.ntmps15
  go_wp2_with (first | (refine wpL_loadFull rfl rfl rfl rowSq hH.h0 (sqc_size _ _) ?_) | (go_at_call 53; refine (l01Is_any N g _).mono ?_; rintro e w2 ⟨rfl, hb⟩; replace hH := hH.call' hb; clear hb; rw [hs]))
  go_loopw [4, 5] (fun v i wr => ∃ k : Nat, k ≤ N ∧ i = .int .i64 k ∧ Hid (Mid w wr N k g v)) (fun _ i _ => 10 - (intOf i).toNat)
  case atStart => exact ⟨0, by omega, rfl, hid ⟨hH.alloc _, fun _ => 0, PS.start (World.ownsRow_made _ #[] 0 (by have := hH.size; simpa using this) (by unfold maxLen; omega) rfl)⟩⟩
  case round =>
    clear hH
    obtain ⟨k, hk, rfl, hM⟩ := hrel
    obtain ⟨ws, hws⟩ : ∃ ws : World, ws = wr := ⟨_, rfl⟩
    subst hws
    have hsz : w.heap.size + 1 ≤ ws.heap.size := by have := hM.out.has.size; simpa using this
    have c0 : ws.cell? ⟨w.heap.size, 0, none⟩ = some (.int .i64 N) := by rw [hM.out.has.c0, sqc_get0]
    by_cases hlt : k < N
    · have hk10 : k < 10 := by omega
      go_wp2
      clear c0
      go_loopw [6, 7] (fun row i wr => ∃ j : Nat, j ≤ N ∧ i = .int .i64 j ∧ Hid (Sub w ws wr N k j g row)) (fun _ i _ => 10 - (intOf i).toNat)
      case atStart => exact ⟨0, by omega, rfl, hid ⟨hM.out.has.alloc _, (Below.refl _ _).alloc (Nat.le_refl _) _, World.ownsRow_made _ #[] 0 (Nat.le_refl _) (by unfold maxLen; omega) rfl⟩⟩
      case round =>
        obtain ⟨j, hj, rfl, hS⟩ := hrel
        have c0 : wr.cell? ⟨w.heap.size, 0, none⟩ = some (.int .i64 N) := by rw [hS.out.has.c0, sqc_get0]
        by_cases hlt2 : j < N
        · have hj10 : j < 10 := by omega
          have bd := u8_bd (g (k * 10 + j))
          have ca : wr.cell? ⟨w.heap.size, 1 + k * 10 + j, none⟩ = some (.int .u8 (g (k * 10 + j)).toNat) := by rw [hS.out.has.c0, Nat.add_assoc, sqc_get _ _ _ (by omega)]
          go_wp2_with (refine wpL_appI (v := u6) (n := j) (base := ws.heap.size) (z := ((g (k * 10 + j)).toNat : Int)) rfl (by rfl) (by rfl) (by rfl) (hS.out.own.alloc _) ?_ (by omega) ?_ ?_)
          · simp
          · have := hS.out.bel.size; simp; omega
          · intro r cap w2 how hg hor hlt3
            have hS2 := hid (hS.out.next hsz how hg)
            clear how hg hor hlt3
            go_wp2
            go_roundw
            case rel => exact ⟨j + 1, by omega, by go_num, hS2⟩
            case measure => simp [intOf]; omega
        · obtain rfl : j = N := by omega
          obtain ⟨r, cap, rfl, hb, hR⟩ := own_row hS.out.own h1
          obtain ⟨b, xs, hp, how0, hx, hl⟩ := hM.out.parts
          have HP := hid hp
          have HX := hid hx
          have HL := hid hl
          have HO := hid (own_kept how0 hS.out.bel.block)
          have hsw := hS.out.bel.size
          clear hp hx hl how0 hR hb
          go_wp2_with (refine wpL_appS (v := u4) (n := k) (base := w.heap.size + 1) (p := some ⟨r, 0, none⟩) (l := j) (k := cap) rfl (by rfl) (by rfl) (by rfl) (HO.out.alloc _) ?_ (by omega) ?_ ?_)
          · simp
          · simp; omega
          · intro g2 cap2 w2 how2 hg2 hor2 hlt3
            have hM2 := hid (hM.out.next hS.out h1 rfl HP.out HX.out HL.out how2 hg2 (by simpa using hor2))
            clear how2 hg2 hor2 hlt3
            go_wp2
            go_roundw
            case rel => exact ⟨k + 1, by omega, by go_num, hM2⟩
            case measure => simp [intOf]; omega
    · obtain rfl : k = N := by omega
      have hG := hid (hM.out.got h1)
      go_wp2
      go_ret2
      exact hG.out
end Go.Proofs.Ytbdcbmennblcdaa
