/- Proved: what the model's l09Pair, l09Rows and l09Cycle return. Conditions: those that each theorem names. -/
import Derived.Test.YtbhjbllgmenbaaaSw0
import Derived.Test.YtbhjbllgmenbaaaPi
import Derived.Test.YtbhjbllgmenbaaaSq3b
import Derived.Test.YtbhjbllgmenbaaaSq5
import Derived.Test.YtbhjbllgmenbaaaSr
namespace Go.Proofs.Ytbhjbllgmenbaaa
set_option linter.unusedVariables false
set_option linter.unusedSimpArgs false
open Go.RowKit
section
variable {P : Program} {ops : Array Oper} {rest : List Oper} {o : Oper} {a : Act} {w : World} {Q : Exit → Act → World → Prop}
theorem wpL_cellW {T : Nat} {x y : Operand} {g off : Nat} {v : Value} {cs cs' : Array Value} {t : TypeId} (hgd : o.guard = none) (ho : o.op = .store T x y) (hx : a.eval x = .pointer (some ⟨g, off, none⟩)) (hy : a.eval y = v) (hs : (P.info? T).map (·.size) = some 1) (h1 : v.oneCell' = true)
    (hg : holds w g cs t) (hb : off < cs.size) (e : cs.setIfInBounds off v = cs')
    (h : wpList P ops Q rest (a.put o.dst undef) (w.setRow g cs')) : wpList P ops Q (o :: rest) a w :=
  wpList_plain hgd fun K hK => by
    have hc : v.cells = #[v] := by cases v <;> first | rfl | cases h1
    have hst := run_storeCells_at P g off t [v] 0 cs w hg (by simp; omega) (fun u hu => by simp at hu; subst hu; exact h1)
    have he : over cs off #[v] = cs' := by
      rw [← e]
      apply Array.ext_getElem?
      intro i
      rw [over_get cs off #[v] (by simp; omega) i, Array.getElem?_setIfInBounds]
      by_cases q : off = i
      · subst q; rw [if_pos (by simp), if_pos rfl, if_pos hb]; simp
      · rw [if_neg (by simp; omega), if_neg q]
    simp only [Nat.add_zero] at hst
    have hst' : (storeCells ⟨g, off, none⟩ [v]).run P w = .ok () (w.setRow g cs') := by rw [← he]; exact hst
    cases hq : P.info? T with
    | none => simp [hq] at hs
    | some i =>
      have hs' : i.size = 1 := by simpa [hq] using hs
      have hrun : (storeVar T ⟨g, off, none⟩ v).run P w = .ok () (w.setRow g cs') := by
        simp [storeVar, sizeOf, typeInfo, hq, hc, hs', hst']
      unfold Oper.wp execOp
      simp only [ho, hx, hy, Instr.storeAt, Instr.sureAddr, Sem.run_bind, Sem.run_pure, Result.andThen_ok, hrun]
      exact hK _ _ h
end
/-- Has the cell c of block g not been marked yet? -/
def freshB (w : World) (g c : Nat) : Bool := match w.cell? ⟨g, c, none⟩ with
  | some (.bool true) => false
  | _ => true
theorem fresh_of {w : World} {gb c k : Nat} {f : Nat → Nat} {t : TypeId} (h : holds w gb (bls 10 (inO f c k)) t) (hc : c < 10) : freshB w gb c = decide (k = 0) := by
  unfold freshB
  rw [holds_cell h, bls_get _ _ _ hc]
  by_cases e : k = 0
  · subst e; rw [inO_zero]; simp
  · have : inO f c k c = true := inO_iff.2 ⟨0, by omega, rfl⟩
    rw [this]; simp [e]
set_option maxRecDepth 20000 in
set_option maxHeartbeats 4000000 in
theorem l09Cycle_any (N c t : Nat) (p : Nat → UInt8) (f : Nat → Nat) (w : World) (h10 : N ≤ 10) (hc : c < N) (hP : Pmt N f) (hf : ∀ i, i < N → (p i).toNat = f i) (hC : Cyc N f c t) :
    Calls Try.prog 103 #[.agg (u8s 10 p), .int .u8 c] w fun e w' => e = .returned (.agg (bls 10 (inO f c t))) ∧ Below w.heap.size w w' := by
  have HP := hid hP
  have HF := hid hf
  have HC := hid hC
  have htN := hC.le
  clear hP hf hC
  have hH := Has.start3 w (u8s 10 p) (bls 10 fun _ => false) (bls 10 fun _ => false) 71 77 77
  go_enter Try.func103, Try.ntmps103
  go_wp2_with (first | fail | (refine wpL_alloc rfl rfl zeroBo ?_; intro g0 hg0; (try simp at hg0); subst hg0) | (refine wpL_build rfl rfl builtBo ?_) | (refine wpL_storeSame rfl rfl rfl rfl rowBo hH.h2 (bls_ok _ _) ?_))
  go_loopw [1] (fun v wr => ∃ k : Nat, k ≤ t ∧ v = .int .u8 (it f c k : Nat) ∧ Has w wr [(u8s 10 p, 71), (bls 10 (fun _ => false), 77), (bls 10 (inO f c k), 77)]) (fun v wr => leftO f c t (freshB wr (w.heap.size + 1 + 1) c) (intOf v).toNat)
  case atStart => exact ⟨0, by omega, rfl, by rw [inO_zero]; exact hH⟩
  case round =>
    clear hH
    obtain ⟨k, hk, rfl, hH⟩ := hrel
    have hul := it_lt HP.out hc k
    obtain ⟨u, hu⟩ : ∃ u, it f c k = u := ⟨_, rfl⟩
    have HU := hid hu
    have hf2 := fresh_of hH.h2 (show c < 10 by omega)
    rw [hu] at hul ⊢
    have hu10 : (u : Int) < 10 := by omega
    by_cases hkt : k < t
    · have hfr := HC.out.fresh HP.out hc hkt
      rw [hu] at hfr
      have cm : wr.cell? ⟨w.heap.size + 1 + 1, u, none⟩ = some (.bool false) := by rw [hH.c2, bls_get _ _ _ (by omega), hfr]
      have fm := hH.f2 u
      have hpu := HF.out u hul
      have hnx : f u = it f c (k + 1) := by show f u = f (it f c k); rw [hu]
      obtain ⟨v, hv⟩ : ∃ v, f u = v := ⟨_, rfl⟩
      rw [hv] at hpu hnx
      have hvl : v < N := by rw [hnx]; exact it_lt HP.out hc (k + 1)
      have hv256 : (v : Int) < 256 := by omega
      have cv : wr.cell? ⟨w.heap.size, u, none⟩ = some (.int .u8 v) := by rw [hH.c0, u8s_get _ _ _ (by omega), hpu]
      have HNX := hid hnx
      have HLS := hid (HC.out.less HP.out hc hkt)
      have HF2 := hid hf2
      have hH2 := hid (hH.s2 u (.bool true) (bls_step 10 (inO f c k) (inO f c (k + 1)) u true (fun j _ => by rw [← hu]; exact inO_succ f c k j)))
      clear hv hpu hnx hfr hf2 hu
      go_wp2
      refine ⟨⟨k + 1, by omega, by rw [HNX.out], hH2.out⟩, ?_⟩
      rw [fresh_of hH2.out.h2 (show c < 10 by omega), HF2.out]
      have := HLS.out
      rw [← HNX.out, HU.out] at this
      simpa [intOf] using this
    · obtain rfl : k = t := by omega
      have hfu := HC.out.full
      rw [hu] at hfu
      have cm : wr.cell? ⟨w.heap.size + 1 + 1, u, none⟩ = some (.bool true) := by rw [hH.c2, bls_get _ _ _ (by omega), hfu]
      clear hfu hf2 hu
      go_wp2_with (first | fail | (refine wpL_loadFull (x := .tmp 5) rfl rfl rfl rowBo hH.h2 (bls_size _ _) ?_) | (refine wpL_storeFull (x := .tmp 4) rfl rfl rfl rfl rowBo hH.h1 (bls_size _ _) (bls_ok _ _) ?_))
      exact ret_c rfl rfl hH.r1.h1 rowBo (bls_size _ _) ⟨rfl, hH.r1.below⟩
/-- The model's map of rows, as far as the columns before k. -/
def rwF (g : Nat → UInt8) (N a b k : Nat) : Nat → UInt8 := fun v => if v < N ∧ (backF (rowF g a) N v).toNat < k then g (b * 10 + (backF (rowF g a) N v).toNat) else 0
theorem rwF_zero (g : Nat → UInt8) (N a b : Nat) : rwF g N a b 0 = fun _ => 0 := by funext v; simp [rwF]
theorem rwF_step {g : Nat → UInt8} {N a b k u : Nat} (h : IsSq N g) (ha : a < N) (hk : k < N) (hu : (g (a * 10 + k)).toNat = u) (v : Nat) : rwF g N a b (k + 1) v = if v = u then g (b * 10 + k) else rwF g N a b k v := by
  have hul : u < N := by rw [← hu]; exact sq_lt h ha hk
  have hbk : (backF (rowF g a) N u).toNat = k := by rw [← hu]; exact back_at (h.rows a ha) hk
  unfold rwF
  by_cases e : v = u
  · subst e
    rw [if_pos ⟨hul, by omega⟩, if_pos rfl, hbk]
  · rw [if_neg e]
    by_cases c : v < N
    · have hne : (backF (rowF g a) N v).toNat ≠ k := fun e2 => e (by
        have h2 := (back_lt (h.rows a ha) c).2
        rw [e2] at h2
        have h3 : (rowF g a k).toNat = u := hu
        omega)
      by_cases c2 : (backF (rowF g a) N v).toNat < k
      · rw [if_pos ⟨c, by omega⟩, if_pos ⟨c, c2⟩]
      · rw [if_neg (fun hh => by have := hh.2; omega), if_neg (fun hh => c2 hh.2)]
    · rw [if_neg (fun hh => c hh.1), if_neg (fun hh => c hh.1)]
theorem rwF_at {g : Nat → UInt8} {N a b v : Nat} (h : IsSq N g) (ha : a < N) (hv : v < N) : (rwF g N a b N v).toNat = swV g N a b v := by
  have := (back_lt (h.rows a ha) hv).1
  unfold rwF swV
  rw [if_pos ⟨hv, this⟩]
set_option maxRecDepth 20000 in
set_option maxHeartbeats 4000000 in
theorem l09Rows_any (N a b : Nat) (g : Nat → UInt8) (w : World) (hq : IsSq N g) (ha : a < N) (hb : b < N) :
    Calls Try.prog 101 #[.agg (sqc N g), .int .u8 a, .int .u8 b] w fun e w' => e = .returned (.agg (u8s 10 (rwF g N a b N))) ∧ Below w.heap.size w w' := by
  have h10 := hq.hi
  have HQ := hid hq
  have HST := hid (fun k u (hk : k < N) (hu : (g (a * 10 + k)).toNat = u) (v : Nat) => rwF_step (b := b) hq ha hk hu v)
  have HLT := hid (fun k (hk : k < N) => (show (g (a * 10 + k)).toNat < N from sq_lt hq ha hk))
  clear hq
  have hN10 : (N : Int) ≤ 10 := by omega
  have ha10 : (a : Int) < 10 := by omega
  have hb10 : (b : Int) < 10 := by omega
  have hH := Has.start3 w (sqc N g) (u8s 10 fun _ => 0) (u8s 10 fun _ => 0) 29 71 71
  go_enter Try.func101, Try.ntmps101
  go_wp2_with (first | fail | (refine wpL_alloc rfl rfl zeroPl ?_; intro g0 hg0; (try simp at hg0); subst hg0) | (refine wpL_build rfl rfl builtPl ?_) | (refine wpL_storeSame rfl rfl rfl rfl rowPl hH.h2 (u8s_ok _ _) ?_))
  go_loopw [8] (fun i wr => ∃ k : Nat, k ≤ N ∧ i = .int .i64 k ∧ Has w wr [(sqc N g, 29), (u8s 10 (fun _ => 0), 71), (u8s 10 (rwF g N a b k), 71)]) (fun i _ => 20 - (intOf i).toNat)
  case atStart => exact ⟨0, by omega, rfl, by rw [rwF_zero]; exact hH⟩
  case round =>
    clear hH
    obtain ⟨k, hk, rfl, hH⟩ := hrel
    have cz : wr.cell? ⟨w.heap.size, 0, none⟩ = some (.int .i64 N) := by rw [hH.c0, sqc_get0]
    by_cases hlt : k < N
    · have hk1 : (k : Int) < N := by omega
      have hk10 : (k : Int) < 10 := by omega
      obtain ⟨u, hu⟩ : ∃ u, (g (a * 10 + k)).toNat = u := ⟨_, rfl⟩
      have hul := HLT.out k hlt
      rw [hu] at hul
      have hst := HST.out k u hlt hu
      have HU := hid hu
      obtain ⟨r, hr⟩ : ∃ r, g (b * 10 + k) = r := ⟨_, rfl⟩
      have HR := hid hr
      rw [hr] at hst
      obtain ⟨T0, hT0⟩ : ∃ T, rwF g N a b k = T := ⟨_, rfl⟩
      obtain ⟨T1, hT1⟩ : ∃ T, rwF g N a b (k + 1) = T := ⟨_, rfl⟩
      have HT1 := hid hT1
      rw [hT0, hT1] at hst
      rw [hT0] at hH
      have HSS := hid hst
      clear hu hr hT0 hT1 hst
      have hu10 : (u : Int) < 10 := by omega
      go_wp2
      clear cz
      refine wp_region_frame (X := Unit) (fun d _ => [(16, bif d 0 then .int .u8 a else u16), (17, bif d 1 then .int .i64 k else u17), (18, bif d 2 then .pointer (some ⟨w.heap.size, 1, none⟩) else u18), (19, bif d 3 then .pointer (some ⟨w.heap.size, 1 + a * 10, none⟩) else u19), (20, bif d 4 then .pointer (some ⟨w.heap.size, 1 + a * 10 + k, none⟩) else u20), (21, bif d 5 then .int .u8 u else u21), (22, bif d 6 then .int .u8 b else u22), (23, bif d 7 then .int .i64 k else u23), (24, bif d 8 then .pointer (some ⟨w.heap.size, 1, none⟩) else u24), (25, bif d 9 then .pointer (some ⟨w.heap.size, 1 + b * 10, none⟩) else u25), (26, bif d 10 then .pointer (some ⟨w.heap.size, 1 + b * 10 + k, none⟩) else u26), (27, bif d 11 then .int .u8 r.toNat else u27), (28, bif d 12 then .pointer (some ⟨w.heap.size + 1 + 1, u, none⟩) else u28)])
        (fun d _ w' => Has w w' [(sqc N g, 29), (u8s 10 (fun _ => 0), 71), (u8s 10 (bif d 13 then T1 else T0), 71)]) (by kernel_rfl) (by kernel_rfl) ?h0_rw ?hs_rw ?hq_rw
      case h0_rw => exact ⟨(), (by simp [lput]), hH.drew⟩
      case hs_rw =>
        refine ⟨?_, ?_, ?_, ?_, ?_, ?_, ?_, ?_, ?_, ?_, ?_, ?_, ?_, ?_, trivial⟩
        all_goals
          clear hH
          intro d _ w1 hd hn hJ
          simp only [needs, Region.binds, reduceCtorEq, Bool.false_eq_true, false_implies, true_and, and_true, true_implies, forall_const] at hn
          simp only [lput, List.set, hn, cond_true]
          try simp only [hd, cond_false] at hJ
          have hH := hJ; clear hJ
          have c1 : w1.cell? ⟨w.heap.size, 1 + a * 10 + k, none⟩ = some (.int .u8 u) := by rw [hH.c0, Nat.add_assoc, sqc_get _ _ _ (by omega), HU.out]
          have c2 : w1.cell? ⟨w.heap.size, 1 + b * 10 + k, none⟩ = some (.int .u8 r.toNat) := by rw [hH.c0, Nat.add_assoc, sqc_get _ _ _ (by omega), HR.out]
          go_wp2_with (first | fail | (refine wpL_cellW (g := w.heap.size + 1 + 1) (v := .int .u8 r.toNat) (cs' := u8s 10 T1) (off := u) rfl rfl rfl rfl (by kernel_rfl) (by rfl) hH.h2 (by rw [u8s_size]; omega) (u8s_step 10 _ _ u r (fun j _ => HSS.out j)) ?_; replace hH := hH.r2 (cs' := u8s 10 T1)))
          first
            | (refine ⟨(), ?_, hH⟩; (simp [lput, done, hn]; done))
            | (refine ⟨?_, hH⟩; (simp [lput, done, hn]; done))
            | (refine ⟨(), ?_, hH⟩; (simp [lput, done, hn]; rfl))
            | (refine ⟨?_, hH⟩; (simp [lput, done, hn]; rfl))
            | (refine ⟨(), ?_, hH⟩; (simp [lput, done]; done))
            | (refine ⟨?_, hH⟩; (simp [lput, done]; done))
            | (refine ⟨(), ?_, hH⟩; (simp [lput, done]; rfl))
            | (refine ⟨?_, hH⟩; (simp [lput, done]; rfl))
      case hq_rw =>
        clear hH
        intro d _ w1 hd hJ
        simp only [allDone, List.length_cons, List.length_nil, Nat.reduceAdd, and_true] at hd
        have hH := hJ; clear hJ
        simp only [hd, cond_true] at hH
        simp only [lput, List.set, hd, cond_true]
        clear hd
        go_wp2
        go_roundw
        case rel => exact ⟨k + 1, by omega, by go_num, by rw [HT1.out]; exact hH⟩
        case measure => simp [intOf]; omega
    · obtain rfl : k = N := by omega
      go_wp2_with (first | fail | (refine wpL_loadFull (x := .tmp 7) rfl rfl rfl rowPl hH.h2 (u8s_size _ _) ?_) | (refine wpL_storeFull (x := .tmp 6) rfl rfl rfl rfl rowPl hH.h1 (u8s_size _ _) (u8s_ok _ _) ?_))
      exact ret_c rfl rfl hH.r1.h1 rowPl (u8s_size _ _) ⟨rfl, hH.r1.below⟩
end Go.Proofs.Ytbhjbllgmenbaaa
