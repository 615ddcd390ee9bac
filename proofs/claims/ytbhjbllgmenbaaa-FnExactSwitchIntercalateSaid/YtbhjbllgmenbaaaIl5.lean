/- Proved: what the program's ListsOfSquare returns. Conditions: those that each theorem names. -/
import Derived.Test.YtbhjbllgmenbaaaIl4
import Derived.Test.YtbhjbllgmenbaaaSq5
namespace Go.Proofs.Ytbhjbllgmenbaaa
set_option linter.unusedVariables false
set_option linter.unusedSimpArgs false
open Go.RowKit
section
variable {ops : Array Oper} {rest : List Oper} {o : Oper} {a : Act} {w : World} {Q : Exit → Act → World → Prop}
theorem wpL_makeI {l c : Operand} (hgd : o.guard = none) (ho : o.op = .makeSlice 26 l c) {n base : Nat} (hl : a.eval l = .int .i64 0) (hc : a.eval c = .int .i64 n) (hn : n ≤ 1000) (hbase : base ≤ w.heap.size)
    (h : ∀ w', w'.ownsRow base 2 1 (.slice (some ⟨w.heap.size, 0, none⟩) 0 n) 0 [] → w.grownBy w' none → wpList Try.prog ops Q rest (a.put o.dst (.slice (some ⟨w.heap.size, 0, none⟩) 0 n)) w') : wpList Try.prog ops Q (o :: rest) a w := by
  obtain ⟨i, hi, hz, h1, h2⟩ := info_parts infoI
  exact wpList_make_own w hgd l c 26 ho base 2 i (.int .i64 0) 1 Try.underlying26 hi hz h1 .i64 .i64 n n hl hc rfl (by rw [h2]; omega) (by unfold maxLen; omega) hbase h
theorem wpL_makeS {l c : Operand} (hgd : o.guard = none) (ho : o.op = .makeSlice 46 l c) {n base : Nat} (hl : a.eval l = .int .i64 0) (hc : a.eval c = .int .i64 n) (hn : n ≤ 1000) (hbase : base ≤ w.heap.size)
    (h : ∀ w', w'.ownsRow base 26 1 (.slice (some ⟨w.heap.size, 0, none⟩) 0 n) 0 [] → w.grownBy w' none → wpList Try.prog ops Q rest (a.put o.dst (.slice (some ⟨w.heap.size, 0, none⟩) 0 n)) w') : wpList Try.prog ops Q (o :: rest) a w := by
  obtain ⟨i, hi, hz, h1, h2⟩ := info_parts infoS
  exact wpList_make_own w hgd l c 46 ho base 26 i (.slice none 0 0) 1 Try.underlying46 hi hz h1 .i64 .i64 n n hl hc rfl (by rw [h2]; omega) (by unfold maxLen; omega) hbase h
end
theorem holds_grown {w w' : World} {b : Nat} {cs : Array Value} {t : TypeId} {r : Option Nat} (h : holds w b cs t) (hg : w.grownBy w' r) (hne : r ≠ some b) : holds w' b cs t := by
  show w'.heap[b]? = _
  rw [hg.block b (holds_lt h) (fun e => hne e.symm)]; exact h
/-- What rowListsOf gives back. -/
def GotR (N : Nat) (g : Nat → UInt8) (w : World) (e : Ending) (w' : World) : Prop := ∃ bo c b, e = .returned (.slice (some ⟨bo, 0, none⟩) N c) ∧ Below w.heap.size w w' ∧ SS w' bo b N N (fun x y => ((g (x * 10 + y)).toNat : Int)) ∧ w.heap.size ≤ bo ∧ ∀ j, j < N → w.heap.size ≤ b j
theorem Mid.gotR {w wr : World} {N : Nat} {g : Nat → UInt8} {v : Value} (h : Mid w wr N N g v) (hN : 0 < N) : GotR N g w (.returned v) wr := by
  obtain ⟨b, hp⟩ := h.ps
  obtain ⟨bo, c, rfl, hb, hS⟩ := hp.done hN
  exact ⟨bo, c, b, rfl, h.has.below, hS, by omega, fun j hj => by have := hp.lo j hj; omega⟩
set_option maxRecDepth 20000 in
set_option maxHeartbeats 4000000 in
theorem rowListsOf_any (N : Nat) (g : Nat → UInt8) (w : World) (h1 : 1 ≤ N) (h10 : N ≤ 10) :
    Calls Try.prog 114 #[.agg (sqc N g)] w (GotR N g w) := by
  have hN2 : (N : Int) ≤ 10 := by omega
  have hH := Has.start1 w (sqc N g) 29
  go_enter Try.func114, Try.ntmps114
  have c0 := hH.c0 0
  rw [sqc_get0] at c0
  go_wp2_with (first | fail | (refine wpL_makeS (n := N) (base := w.heap.size + 1) rfl (by rfl) (by rfl) (by rfl) (by omega) hH.size ?_; intro w3 hown hgm; replace hH := hH.grown hgm (fun x hx => by cases hx); clear c0; have c0 := hH.c0 0; rw [sqc_get0] at c0))
  have hM0 : Mid w w3 N 0 g (.slice (some ⟨w.heap.size + 1, 0, none⟩) 0 N) := ⟨hH, fun _ => 0, PS.start (by simpa using hown)⟩
  have HM0 := hid hM0
  clear hM0 hown hgm c0
  go_loopw [3, 17] (fun v i wr => ∃ k : Nat, k ≤ N ∧ i = .int .i64 k ∧ Hid (Mid w wr N k g v)) (fun _ i _ => 10 - (intOf i).toNat)
  case atStart => exact ⟨0, by omega, rfl, HM0⟩
  case round =>
    clear hH HM0
    obtain ⟨k, hk, rfl, hM⟩ := hrel
    obtain ⟨ws, hws⟩ : ∃ ws : World, ws = wr := ⟨_, rfl⟩
    subst hws
    have hsz : w.heap.size + 1 ≤ ws.heap.size := by have := hM.out.has.size; simpa using this
    by_cases hlt : k < N
    · have hk10 : k < 10 := by omega
      have hoff : k * 10 + 10 ≤ 100 := by omega
      have hH := hM.out.has
      go_wp2_with (first
        | (refine wpL_loadRowSq rfl rfl rfl rowB10 hH.h0 hoff ?_)
        | (refine wpL_allocN (o := ⟨some 5, _, _, _, _, _⟩) rfl rfl zeroB10 ?_; intro gr w4 hgr hl hb; have hlo : w.heap.size + 1 ≤ gr := (by omega); have hB : Has ws w4 [] := (Has.nil ws).call' hb; replace hH := hH.call' hb; clear hb)
        | (refine wpL_storeN (x := .tmp 5) rfl rfl rfl rfl rowB10 hgr (u8s_size _ _) (u8s_ok _ _) ?_; intro w5 hz hO hT; replace hgr := hz; replace hH := hT _ _ hH hlo; replace hB := hT _ _ hB (by simpa using hl); clear hz hO hT; have c0 := hH.c0 0; rw [sqc_get0] at c0)
        | (refine wpL_makeI (n := N) (base := ws.heap.size) rfl (by rfl) (by rfl) (by rfl) (by omega) (by simpa using hB.size) ?_; intro w6 hown hgm; have hr0 := holds_lt hgr; replace hH := hH.grown hgm (fun x hx => by cases hx); replace hB := hB.grown hgm (fun x hx => by cases hx); replace hgr := holds_grown hgr hgm (by simp); clear c0; have c0 := hH.c0 0; rw [sqc_get0] at c0))
      have hS0 : Sub w ws w6 N k 0 g (.slice (some ⟨w5.heap.size, 0, none⟩) 0 N) := ⟨hH, hB.below, hown⟩
      have HS0 := hid hS0
      have hne0 : (Value.slice (some ⟨w5.heap.size, 0, none⟩) 0 N).ownBlock ≠ some gr := by simp [Value.ownBlock]; omega
      have HN0 := hid hne0
      clear hS0 hne0 hown hgm c0 hH hB
      go_loopw [6, 28] (fun row i wr => ∃ j : Nat, j ≤ N ∧ i = .int .i64 j ∧ Hid (Sub w ws wr N k j g row) ∧ Hid (row.ownBlock ≠ some gr) ∧ holds wr gr (u8s 10 (rowF g k)) 22) (fun _ i _ => 10 - (intOf i).toNat)
      case atStart => exact ⟨0, by omega, rfl, HS0, HN0, hgr⟩
      case round =>
        clear hgr HS0 HN0
        obtain ⟨j, hj, rfl, hS, hne, hgr⟩ := hrel
        by_cases hlt2 : j < N
        · have hj10 : j < 10 := by omega
          have bd := u8_bd (g (k * 10 + j))
          have ca : wr.cell? ⟨gr, j, none⟩ = some (.int .u8 (g (k * 10 + j)).toNat) := by rw [holds_cell hgr, u8s_get _ _ _ (by omega)]; rfl
          go_wp2_with (refine wpL_appI (v := u6) (n := j) (base := ws.heap.size) (z := ((g (k * 10 + j)).toNat : Int)) rfl (by rfl) (by rfl) (by rfl) (hS.out.own.alloc _) ?_ (by omega) ?_ ?_)
          · simp
          · have := hS.out.bel.size; simp; omega
          · intro r cap w7 how hg hor hlt3
            have hS2 := hid (hS.out.next hsz how hg)
            have hgl := holds_lt hgr
            have hne2 : (Value.slice (some ⟨r, 0, none⟩) (j + 1) cap).ownBlock ≠ some gr := by
              rcases hor with e | e
              · have := hne.out; rw [e] at this; exact this
              · have : r = wr.heap.size + 1 := by simpa using e
                simp [Value.ownBlock]; omega
            have HN2 := hid hne2
            have hgr2 := holds_grown (holds_alloc hgr _) hg hne.out
            clear how hg hor hlt3 hne2
            go_wp2
            go_roundw
            case rel => exact ⟨j + 1, by omega, by go_num, hS2, HN2, hgr2⟩
            case measure => simp [intOf]; omega
        · obtain rfl : j = N := by omega
          clear hgr hne
          obtain ⟨r, cap, rfl, hb, hR⟩ := own_row hS.out.own h1
          obtain ⟨b, xs, hp, how0, hx, hl⟩ := hM.out.parts
          have HP := hid hp
          have HX := hid hx
          have HL := hid hl
          have HO := hid (own_kept how0 hS.out.bel.block)
          have hsw := hS.out.bel.size
          clear hp hx hl how0 hR hb
          go_wp2_with (refine wpL_appS (v := u3) (n := k) (base := w.heap.size + 1) (p := some ⟨r, 0, none⟩) (l := j) (k := cap) rfl (by rfl) (by rfl) (by rfl) (HO.out.alloc _) ?_ (by omega) ?_ ?_)
          · simp
          · simp; omega
          · intro g2 cap2 w2 how2 hg2 hor2 hlt3
            have hM2 := hid (hM.out.next hS.out h1 rfl HP.out HX.out HL.out how2 hg2 (by simpa using hor2))
            clear how2 hg2 hor2 hlt3
            go_wp2
            go_roundw
            case rel => exact ⟨k + 1, by omega, by go_num, hM2⟩
            case measure => simp [intOf]; omega
    · obtain rfl : k = N := by omega
      have hG := hid (hM.out.gotR h1)
      go_wp2
      go_ret
      exact hG.out
end Go.Proofs.Ytbhjbllgmenbaaa
