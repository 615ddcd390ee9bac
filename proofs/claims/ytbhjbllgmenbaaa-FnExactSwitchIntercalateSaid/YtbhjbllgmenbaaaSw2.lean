/- Proved: what the program's switchCycle returns. Conditions: those that each theorem names. -/
import Derived.Test.YtbhjbllgmenbaaaSw1
import Derived.Test.YtbhjbllgmenbaaaPl3
namespace Go.Proofs.Ytbhjbllgmenbaaa
set_option linter.unusedVariables false
set_option linter.unusedSimpArgs false
open Go.RowKit
/-- The square while both entries of the column u are being written: s tells whether that of row a has been, t that of row b. -/
def swG (g : Nat → UInt8) (a b : Nat) (S : Nat → Bool) (u : Nat) (s t : Bool) : Nat → UInt8 := fun j => if t = true ∧ j = b * 10 + u then g (a * 10 + u) else if s = true ∧ j = a * 10 + u then g (b * 10 + u) else swF g a b S j
section
variable {g : Nat → UInt8} {a b u : Nat} {S S' : Nat → Bool}
theorem swG_none : swG g a b S u false false = swF g a b S := by funext j; simp [swG]
theorem swG_a (hne : a ≠ b) (t : Bool) (j : Nat) : swG g a b S u true t j = if j = a * 10 + u then g (b * 10 + u) else swG g a b S u false t j := by
  unfold swG
  by_cases e : j = a * 10 + u
  · subst e
    rw [if_neg (fun h => by have := h.2; omega), if_pos ⟨rfl, rfl⟩, if_pos rfl]
  · rw [if_neg e]
    by_cases c : t = true ∧ j = b * 10 + u
    · rw [if_pos c, if_pos c]
    · rw [if_neg c, if_neg c, if_neg (fun h => e h.2), if_neg (fun h => e h.2)]
theorem swG_b (s : Bool) (j : Nat) : swG g a b S u s true j = if j = b * 10 + u then g (a * 10 + u) else swG g a b S u s false j := by
  unfold swG
  by_cases e : j = b * 10 + u
  · rw [if_pos ⟨rfl, e⟩, if_pos e]
  · simp [e]
theorem swG_both (hu : u < 10) (hne : a ≠ b) (hS : ∀ y, S' y = if y = u then true else S y) : swG g a b S u true true = swF g a b S' := by
  funext j
  rw [swF_step hu hne hS j, swG_b, swG_a hne, swH]
  by_cases e : j = b * 10 + u
  · rw [if_pos e, if_pos e]
  · rw [if_neg e, if_neg e, swG_none]
end
theorem imp_nW {a b : Bool} (h : a = true → b = true) (hb : b = false) : a = false := by
  cases a with
  | false => rfl
  | true => rw [h rfl] at hb; cases hb
def freshS (w : World) (gs off : Nat) (z : Nat) : Bool := match w.cell? ⟨gs, off, none⟩ with
  | some (.int _ n) => n == (z : Int)
  | _ => true
theorem freshS_of {w : World} {gs N a b c k : Nat} {g : Nat → UInt8} {f : Nat → Nat} {t : TypeId} (h : holds w gs (sqc N (swF g a b (inO f c k))) t) (ha : a < 10) (hc : c < 10) (hne : (g (a * 10 + c)).toNat ≠ (g (b * 10 + c)).toNat) : freshS w gs (1 + (a * 10 + c)) (g (a * 10 + c)).toNat = decide (k = 0) := by
  unfold freshS
  rw [holds_cell h, sqc_get _ _ _ (by omega), swF_a hc]
  by_cases e : k = 0
  · subst e; rw [inO_zero]; simp
  · have : inO f c k c = true := inO_iff.2 ⟨0, by omega, rfl⟩
    rw [this, if_pos rfl]
    simp only [e, decide_false, beq_eq_false_iff_ne, ne_eq]
    intro h2; exact hne (by omega)
set_option maxRecDepth 100000 in
set_option maxHeartbeats 8000000 in
theorem switchCycle_any (N a b c t : Nat) (g : Nat → UInt8) (w : World) (hq : IsSq N g) (ha : a < N) (hb : b < N) (hc : c < N) (hne : a ≠ b) (hC : Cyc N (swC g N a b) c t) :
    Calls Try.prog 59 #[.agg (sqc N g), .int .u8 a, .int .u8 b, .int .u8 c] w fun e w' => e = .returned (.agg (sqc N (swF g a b (inO (swC g N a b) c t)))) ∧ Below w.heap.size w w' := by
  have h10 := hq.hi
  have htN := hC.le
  have HQ := hid hq
  have HC := hid hC
  have HPM := hid (swC_pmt hq ha hb)
  have HNE := hid (fun y (hy : y < N) => rows_ne hq ha hb hne hy)
  have HRL := hid (fun i (hi : i < N) => (show (rowF g a i).toNat < 10 from by have := (hq.rows a ha).lt i hi; omega))
  have HBL := hid (fun y (hy : y < N) => (show (g (b * 10 + y)).toNat < N from sq_lt hq hb hy))
  have HCY := hid hne
  clear hq hC
  obtain ⟨f, hf⟩ : ∃ f, swC g N a b = f := ⟨_, rfl⟩
  have HF := hid (fun y => (show (backF (rowF g a) N (g (b * 10 + y)).toNat).toNat = f y by rw [← hf]; rfl))
  rw [hf] at HC HPM ⊢
  clear hf
  have hN10 : (N : Int) ≤ 10 := by omega
  have ha10 : (a : Int) < 10 := by omega
  have hb10 : (b : Int) < 10 := by omega
  have hoff : a * 10 + 10 ≤ 100 := by omega
  have hH := Has.start2 w (sqc N g) (sqc 0 fun _ => 0) 29 29
  go_enter Try.func59, Try.ntmps59
  go_wp2_with (first | fail | (refine wpL_allocN (o := ⟨some 9, _, _, _, _, _⟩) rfl rfl zeroSq ?_; intro gs w4 hgs hl4 hb4; have hlo : w.heap.size + 2 ≤ gs := (by simpa using hl4); replace hH := hH.call' hb4; clear hb4 hl4) | (refine wpL_alloc rfl rfl zeroSq ?_; intro g0 hg0; (try simp at hg0); subst hg0) | (refine wpL_loadFull (x := .tmp 4) rfl rfl rfl rowSq hH.h0 (sqc_size _ _) ?_) | (refine wpL_storeN (x := .tmp 9) rfl rfl rfl rfl rowSq hgs (sqc_size _ _) (sqc_ok _ _) ?_; intro w5 hz hOo hT; replace hgs := hz; replace hH := hT _ _ hH hlo; clear hz hOo hT))
  obtain ⟨BK, hBK⟩ : ∃ B, backF (rowF g a) N = B := ⟨_, rfl⟩
  have HBK := hid hBK
  rw [hBK] at HF
  clear hBK
  simp only [Act.put, List.setIfInBounds_toArray, List.set_cons_zero, List.set_cons_succ]
  refine wp_region_frame (X := Nat) (fun d x => [(13, bif d 0 then .int .u8 a else undef), (14, bif d 1 then .pointer (some ⟨w.heap.size, 1, none⟩) else undef), (15, bif d 2 then .pointer (some ⟨w.heap.size, 1 + a * 10, none⟩) else undef), (16, bif d 3 then .agg (u8s 10 (rowF g a)) else undef), (17, bif d 4 then .pointer (some ⟨w.heap.size, 0, none⟩) else undef), (18, bif d 5 then .int .i64 N else undef), (19, bif d 6 then .agg (u8s 10 BK) else undef), (10, bif d 7 then .pointer (some ⟨x, 0, none⟩) else undef)])
    (fun d x w' => Has w w' [(sqc N g, 29), (sqc 0 (fun _ => 0), 29)] ∧ holds w' gs (sqc N g) 29 ∧ (d 7 = true → (w.heap.size + 2 ≤ x ∧ gs ≠ x) ∧ holds w' x (bif d 8 then u8s 10 BK else u8s 10 fun _ => 0) 71) ∧ (d 8 = true → d 7 = true) ∧ (d 8 = true → d 6 = true)) (by kernel_rfl) (by kernel_rfl) ?h0_sx ?hs_sx ?hq_sx
  case h0_sx => exact ⟨0, (by simp [lput]), hH.drew, (show _ from hgs), (fun h => by cases h), (fun h => by cases h), (fun h => by cases h)⟩
  case hs_sx =>
    refine ⟨?_, ?_, ?_, ?_, ?_, ?_, ?_, ?_, ?_, trivial⟩
    all_goals
      clear hH hgs
      intro d x w1 hd hn hJ
      simp only [needs, Region.binds, reduceCtorEq, Bool.false_eq_true, false_implies, true_and, and_true, true_implies, forall_const] at hn
      simp only [lput, List.set, hn, cond_true]
      try simp only [hd, cond_false] at hJ
      obtain ⟨hH, hgs, hB, I8_7, I8_6⟩ := hJ
      (try have hB_ := hB (by simp only [hn]))
      have c0 := hH.c0 0
      rw [sqc_get0] at c0
      have zz := hH.size
      simp only [List.length_cons, List.length_nil] at zz
      have hgl := holds_lt hgs
      go_wp2_with (first | fail | (refine wpL_loadRowSq rfl rfl rfl rowB10 hH.h0 hoff ?_) | (go_at_call 96; refine (backOf_any (rowF g a) N _ h10 HRL.out).mono ?_; rintro e w3 ⟨rfl, hb⟩; rw [HBK.out]; replace hH := hH.call' hb; replace hgs := holds_below hgs hb hgl; replace hB := fun e => And.intro (hB e).1 (holds_below (hB e).2 hb (holds_lt (hB e).2)); clear hb) | (refine wpL_storeN (x := .tmp 10) rfl rfl rfl rfl rowPl hB_.2 (u8s_size _ _) (u8s_ok _ _) ?_; intro w5 hz5 hOo hT; replace hH := hT _ _ hH hB_.1.1; replace hgs := hOo _ _ _ hB_.1.2 hgs; clear hOo hT) | (refine wpL_allocN (o := ⟨some 10, _, _, _, _, _⟩) rfl rfl zeroPl ?_; intro mb w4 hz4 hl4 hb4; have z8 : d 8 = false := (by first | exact imp_nW I8_7 hd | exact imp_nW I8_7 rfl); replace hH := hH.call' hb4; replace hgs := holds_below hgs hb4 hgl; have hmb : (w.heap.size + 2 ≤ mb ∧ gs ≠ mb) := (by omega)))
      first
        | (refine ⟨mb, ?_, hH, hgs, (fun _ => ⟨hmb, by simpa [done, z8] using hz4⟩), (by intro e; simp [done]), (by intro e; simp [done, z8] at e)⟩; (simp [lput, done, hn, z8]; done))
        | (refine ⟨x, ?_, hH, hgs, (fun _ => ⟨hB_.1, by simpa [done] using hz5⟩), (by intro e; simp [done, hn]), (by intro e; simp [done, hn])⟩; (simp [lput, done, hn]; done))
        | (refine ⟨x, ?_, hH, hgs, (fun e => hB (done_ne e (by decide))), (by intro e; first | (simp [done]; done) | (have e2 := I8_7 (done_ne e (by decide)); simp [done, e2]; done) | (simp [done, hn]; done)), (by intro e; first | (simp [done]; done) | (have e2 := I8_6 (done_ne e (by decide)); simp [done, e2]; done) | (simp [done, hn]; done))⟩; (simp [lput, done, hn]; done))
        | (refine ⟨?_, hH, hgs, (fun e => hB (done_ne e (by decide))), (by intro e; first | (simp [done]; done) | (have e2 := I8_7 (done_ne e (by decide)); simp [done, e2]; done) | (simp [done, hn]; done)), (by intro e; first | (simp [done]; done) | (have e2 := I8_6 (done_ne e (by decide)); simp [done, e2]; done) | (simp [done, hn]; done))⟩; (simp [lput, done, hn]; done))
        | (refine ⟨x, ?_, hH, hgs, (fun e => hB (done_ne e (by decide))), (by intro e; first | (simp [done]; done) | (have e2 := I8_7 (done_ne e (by decide)); simp [done, e2]; done) | (simp [done, hn]; done)), (by intro e; first | (simp [done]; done) | (have e2 := I8_6 (done_ne e (by decide)); simp [done, e2]; done) | (simp [done, hn]; done))⟩; (simp [lput, done, hn]; rfl))
        | (refine ⟨?_, hH, hgs, (fun e => hB (done_ne e (by decide))), (by intro e; first | (simp [done]; done) | (have e2 := I8_7 (done_ne e (by decide)); simp [done, e2]; done) | (simp [done, hn]; done)), (by intro e; first | (simp [done]; done) | (have e2 := I8_6 (done_ne e (by decide)); simp [done, e2]; done) | (simp [done, hn]; done))⟩; (simp [lput, done, hn]; rfl))
        | (refine ⟨x, ?_, hH, hgs, (fun e => hB (done_ne e (by decide))), (by intro e; first | (simp [done]; done) | (have e2 := I8_7 (done_ne e (by decide)); simp [done, e2]; done) | (simp [done, hn]; done)), (by intro e; first | (simp [done]; done) | (have e2 := I8_6 (done_ne e (by decide)); simp [done, e2]; done) | (simp [done, hn]; done))⟩; (simp [lput, done]; done))
        | (refine ⟨?_, hH, hgs, (fun e => hB (done_ne e (by decide))), (by intro e; first | (simp [done]; done) | (have e2 := I8_7 (done_ne e (by decide)); simp [done, e2]; done) | (simp [done, hn]; done)), (by intro e; first | (simp [done]; done) | (have e2 := I8_6 (done_ne e (by decide)); simp [done, e2]; done) | (simp [done, hn]; done))⟩; (simp [lput, done]; done))
        | (refine ⟨x, ?_, hH, hgs, (fun e => hB (done_ne e (by decide))), (by intro e; first | (simp [done]; done) | (have e2 := I8_7 (done_ne e (by decide)); simp [done, e2]; done) | (simp [done, hn]; done)), (by intro e; first | (simp [done]; done) | (have e2 := I8_6 (done_ne e (by decide)); simp [done, e2]; done) | (simp [done, hn]; done))⟩; (simp [lput, done]; rfl))
        | (refine ⟨?_, hH, hgs, (fun e => hB (done_ne e (by decide))), (by intro e; first | (simp [done]; done) | (have e2 := I8_7 (done_ne e (by decide)); simp [done, e2]; done) | (simp [done, hn]; done)), (by intro e; first | (simp [done]; done) | (have e2 := I8_6 (done_ne e (by decide)); simp [done, e2]; done) | (simp [done, hn]; done))⟩; (simp [lput, done]; rfl))
  case hq_sx =>
    clear hH hgs
    intro d x w1 hd hJ
    simp only [allDone, List.length_cons, List.length_nil, Nat.reduceAdd, and_true] at hd
    obtain ⟨hH, hgs, hB, I8_7, I8_6⟩ := hJ
    replace hB := hB (by simp only [hd])
    clear I8_7
    clear I8_6
    simp only [hd, cond_true] at hH hB
    simp only [lput, List.set, hd, cond_true]
    clear hd
    obtain ⟨gc, hgc⟩ : ∃ q, x = q := ⟨_, rfl⟩
    rw [hgc] at hB ⊢
    obtain ⟨⟨hlc, hsc⟩, hBk⟩ := hB
    replace hBk : holds w1 gc (u8s 10 BK) 71 := hBk
    clear hgc
    go_wp2
    go_loopw [11] (fun v wr => ∃ k : Nat, k ≤ t ∧ v = .int .u8 (it f c k : Nat) ∧ Has w wr [(sqc N g, 29), (sqc 0 (fun _ => 0), 29)] ∧ holds wr gs (sqc N (swF g a b (inO f c k))) 29 ∧ holds wr gc (u8s 10 BK) 71) (fun v wr => leftO f c t (freshS wr gs (1 + (a * 10 + c)) (g (a * 10 + c)).toNat) (intOf v).toNat)
    case atStart => exact ⟨0, by omega, rfl, hH, by rw [inO_zero, swF_none _ (fun _ => rfl)]; exact hgs, hBk⟩
    case round =>
      clear hH hgs hBk
      obtain ⟨k, hk, rfl, hH, hgs, hBk⟩ := hrel
      have hul := it_lt HPM.out hc k
      have hfs := freshS_of hgs (show a < 10 by omega) (show c < 10 by omega) (HNE.out c hc)
      obtain ⟨u, hu⟩ : ∃ u, it f c k = u := ⟨_, rfl⟩
      have HU := hid hu
      rw [hu] at hul ⊢
      have hu10 : (u : Int) < 10 := by omega
      obtain ⟨p, hp⟩ : ∃ p, g (a * 10 + u) = p := ⟨_, rfl⟩
      obtain ⟨q, hqq⟩ : ∃ q, g (b * 10 + u) = q := ⟨_, rfl⟩
      have HP := hid hp
      have HQQ := hid hqq
      have hpq := HNE.out u hul
      have hql := HBL.out u hul
      rw [hp, hqq] at hpq
      rw [hqq] at hql
      have cp : wr.cell? ⟨w.heap.size, 1 + a * 10 + u, none⟩ = some (.int .u8 p.toNat) := by rw [hH.c0, Nat.add_assoc, sqc_get _ _ _ (by omega), hp]
      clear hp hqq
      by_cases hkt : k < t
      · have hfr := HC.out.fresh HPM.out hc hkt
        rw [hu] at hfr
        have cs : wr.cell? ⟨gs, 1 + a * 10 + u, none⟩ = some (.int .u8 p.toNat) := by rw [holds_cell hgs, Nat.add_assoc, sqc_get _ _ _ (by omega), swF_a (by omega), hfr, ← HP.out]; rfl
        go_wp2
        go_quiet (fail)
        clear cp cs
        obtain ⟨wd, hwd⟩ : ∃ q, wr.drewN nq = q := ⟨_, rfl⟩
        obtain ⟨SK, hSK⟩ : ∃ S, inO f c k = S := ⟨_, rfl⟩
        have HSS := hid (fun j => (show inO f c (k + 1) j = if j = u then true else SK j by rw [← hSK, ← hu]; exact inO_succ f c k j))
        have HLS := hid (HC.out.less HPM.out hc hkt)
        have HFS := hid hfs
        replace hH : Has w wd [(sqc N g, 29), (sqc 0 (fun _ => 0), 29)] := by rw [← hwd]; exact hH.drewN _
        obtain ⟨X00, hX00⟩ : ∃ X, sqc N (swG g a b SK u false false) = X := ⟨_, rfl⟩
        obtain ⟨X01, hX01⟩ : ∃ X, sqc N (swG g a b SK u false true) = X := ⟨_, rfl⟩
        obtain ⟨X10, hX10⟩ : ∃ X, sqc N (swG g a b SK u true false) = X := ⟨_, rfl⟩
        obtain ⟨X11, hX11⟩ : ∃ X, sqc N (swG g a b SK u true true) = X := ⟨_, rfl⟩
        have HX11 := hid hX11
        have HZA := hid (fun (t : Bool) => (show (bif t then X01 else X00).size = 101 by rw [← hX01, ← hX00]; cases t <;> exact sqc_size _ _))
        have HZB := hid (fun (t : Bool) => (show (bif t then X10 else X00).size = 101 by rw [← hX10, ← hX00]; cases t <;> exact sqc_size _ _))
        have HXA := hid (fun (t : Bool) => (show (bif t then X01 else X00).setIfInBounds (1 + a * 10 + u) (.int .u8 q.toNat) = (bif t then X11 else X10) by
          rw [← hX01, ← hX00, ← hX11, ← hX10, Nat.add_assoc, ← HQQ.out]
          cases t
          · exact sqc_set _ _ _ _ _ (fun j _ => swG_a HCY.out _ j)
          · exact sqc_set _ _ _ _ _ (fun j _ => swG_a HCY.out _ j)))
        have HXB := hid (fun (t : Bool) => (show (bif t then X10 else X00).setIfInBounds (1 + b * 10 + u) (.int .u8 p.toNat) = (bif t then X11 else X01) by
          rw [← hX01, ← hX00, ← hX11, ← hX10, Nat.add_assoc, ← HP.out]
          cases t
          · exact sqc_set _ _ _ _ _ (fun j _ => swG_b _ j)
          · exact sqc_set _ _ _ _ _ (fun j _ => swG_b _ j)))
        replace hgs : holds wd gs X00 29 := by rw [← hwd, ← hX00, swG_none, ← hSK]; exact hgs
        clear hX00 hX01 hX10 hX11
        replace hBk : holds wd gc (u8s 10 BK) 71 := by rw [← hwd]; exact hBk
        rw [hwd]
        clear hwd hSK hfs hfr
        go_wp2
        refine wp_region_frame (X := Unit) (fun d _ => [(42, bif d 0 then .int .u8 a else u42), (43, bif d 1 then .int .u8 u else u43), (44, bif d 2 then .int .u8 b else u44), (45, bif d 3 then .int .u8 u else u45), (46, bif d 4 then .int .u8 b else u46), (47, bif d 5 then .int .u8 u else u47), (48, bif d 6 then .pointer (some ⟨w.heap.size, 1, none⟩) else u48), (49, bif d 7 then .pointer (some ⟨w.heap.size, 1 + b * 10, none⟩) else u49), (50, bif d 8 then .pointer (some ⟨w.heap.size, 1 + b * 10 + u, none⟩) else u50), (51, bif d 9 then .int .u8 q.toNat else u51), (52, bif d 10 then .int .u8 a else u52), (53, bif d 11 then .int .u8 u else u53), (54, bif d 12 then .pointer (some ⟨w.heap.size, 1, none⟩) else u54), (55, bif d 13 then .pointer (some ⟨w.heap.size, 1 + a * 10, none⟩) else u55), (56, bif d 14 then .pointer (some ⟨w.heap.size, 1 + a * 10 + u, none⟩) else u56), (57, bif d 15 then .int .u8 p.toNat else u57), (58, bif d 16 then .pointer (some ⟨gs, 1, none⟩) else u58), (59, bif d 17 then .pointer (some ⟨gs, 1 + a * 10, none⟩) else u59), (60, bif d 18 then .pointer (some ⟨gs, 1 + a * 10 + u, none⟩) else u60), (61, bif d 20 then .pointer (some ⟨gs, 1, none⟩) else u61), (62, bif d 21 then .pointer (some ⟨gs, 1 + b * 10, none⟩) else u62), (63, bif d 22 then .pointer (some ⟨gs, 1 + b * 10 + u, none⟩) else u63)])
          (fun d _ w' => Has w w' [(sqc N g, 29), (sqc 0 (fun _ => 0), 29)] ∧ holds w' gs (bif d 19 then (bif d 23 then X11 else X10) else (bif d 23 then X01 else X00)) 29 ∧ holds w' gc (u8s 10 BK) 71) (by kernel_rfl) (by kernel_rfl) ?h0_sy ?hs_sy ?hq_sy
        case h0_sy => exact ⟨(), (by simp [lput]), hH.drew, (show _ from hgs), (show _ from hBk)⟩
        case hs_sy =>
          refine ⟨?_, ?_, ?_, ?_, ?_, ?_, ?_, ?_, ?_, ?_, ?_, ?_, ?_, ?_, ?_, ?_, ?_, ?_, ?_, ?_, ?_, ?_, ?_, ?_, trivial⟩
          all_goals
            clear hH hgs hBk
            intro d _ w1 hd hn hJ
            simp only [needs, Region.binds, reduceCtorEq, Bool.false_eq_true, false_implies, true_and, and_true, true_implies, forall_const] at hn
            simp only [lput, List.set, hn, cond_true]
            try simp only [hd, cond_false] at hJ
            obtain ⟨hH, hgs, hBk⟩ := hJ
            have c1 : w1.cell? ⟨w.heap.size, 1 + b * 10 + u, none⟩ = some (.int .u8 q.toNat) := by rw [hH.c0, Nat.add_assoc, sqc_get _ _ _ (by omega), HQQ.out]
            have c2 : w1.cell? ⟨w.heap.size, 1 + a * 10 + u, none⟩ = some (.int .u8 p.toNat) := by rw [hH.c0, Nat.add_assoc, sqc_get _ _ _ (by omega), HP.out]
            go_wp2_with (first | fail | (refine wpL_cellW (g := gs) (v := .int .u8 q.toNat) (cs' := (bif d 23 then X11 else X10)) (off := 1 + a * 10 + u) rfl rfl rfl rfl (by kernel_rfl) (by rfl) hgs (by rw [HZA.out]; omega) (HXA.out _) ?_; replace hH := hH.setRowAbove (by simpa using hlo) (bif d 23 then X11 else X10); have hgA : holds (w1.setRow gs (bif d 23 then X11 else X10)) gs (bif d 23 then X11 else X10) 29 := holds_row hgs; replace hBk : holds (w1.setRow gs (bif d 23 then X11 else X10)) gc (u8s 10 BK) 71 := holds_row_other hBk (Ne.symm hsc)) | (have y19 : d 19 = true := (by simp only [hn]); have hg10 : holds w1 gs X10 29 := (by simpa only [y19, cond_true] using hgs); refine wpL_cellW (g := gs) (v := .int .u8 p.toNat) (cs' := X11) (off := 1 + b * 10 + u) rfl rfl rfl rfl (by kernel_rfl) (by rfl) hg10 (by have := HZB.out true; simp only [cond_true] at this; omega) (HXB.out true) ?_; replace hH := hH.setRowAbove (by simpa using hlo) X11; have hgB : holds (w1.setRow gs X11) gs X11 29 := holds_row hg10; replace hBk : holds (w1.setRow gs X11) gc (u8s 10 BK) 71 := holds_row_other hBk (Ne.symm hsc)))
            first
              | (refine ⟨?_, hH, (by simpa [done] using hgA), hBk⟩; (simp [lput, done, hn]; done))
              | (refine ⟨?_, hH, (by simpa [done, y19] using hgB), hBk⟩; (simp [lput, done, hn]; done))
              | (refine ⟨(), ?_, hH, hgs, hBk⟩; (simp [lput, done, hn]; done))
              | (refine ⟨?_, hH, hgs, hBk⟩; (simp [lput, done, hn]; done))
              | (refine ⟨(), ?_, hH, hgs, hBk⟩; (simp [lput, done, hn]; rfl))
              | (refine ⟨?_, hH, hgs, hBk⟩; (simp [lput, done, hn]; rfl))
              | (refine ⟨(), ?_, hH, hgs, hBk⟩; (simp [lput, done]; done))
              | (refine ⟨?_, hH, hgs, hBk⟩; (simp [lput, done]; done))
              | (refine ⟨(), ?_, hH, hgs, hBk⟩; (simp [lput, done]; rfl))
              | (refine ⟨?_, hH, hgs, hBk⟩; (simp [lput, done]; rfl))
        case hq_sy =>
          clear hH hgs hBk
          intro d _ w1 hd hJ
          simp only [allDone, List.length_cons, List.length_nil, Nat.reduceAdd, and_true] at hd
          obtain ⟨hH, hgs, hBk⟩ := hJ
          simp only [hd, cond_true] at hH hgs
          simp only [lput, List.set, hd, cond_true]
          clear hd
          rw [← HX11.out, swG_both (S' := inO f c (k + 1)) (by omega) HCY.out HSS.out] at hgs
          have hfq := HF.out u
          rw [HQQ.out] at hfq
          obtain ⟨v, hv⟩ : ∃ v, f u = v := ⟨_, rfl⟩
          have hvn : v = it f c (k + 1) := by rw [← hv]; show f u = f (it f c k); rw [HU.out]
          have HV := hid hvn
          have hvl : v < N := by rw [hvn]; exact it_lt HPM.out hc (k + 1)
          rw [hv] at hfq
          have cw : w1.cell? ⟨w.heap.size, 1 + b * 10 + u, none⟩ = some (.int .u8 q.toNat) := by rw [hH.c0, Nat.add_assoc, sqc_get _ _ _ (by omega), HQQ.out]
          have cb : w1.cell? ⟨gc, q.toNat, none⟩ = some (.int .u8 v) := by rw [holds_cell hBk, u8s_get _ _ _ (by omega), hfq]
          have hq10 : (q.toNat : Int) < 10 := by omega
          clear hv hvn hfq
          go_wp2
          refine ⟨⟨k + 1, by omega, by rw [HV.out], hH, hgs, hBk⟩, ?_⟩
          rw [freshS_of hgs (show a < 10 by omega) (show c < 10 by omega) (HNE.out c hc), HFS.out]
          have := HLS.out
          rw [← HV.out, HU.out] at this
          simpa [intOf] using this
      · obtain rfl : k = t := by omega
        have hfu := HC.out.full
        rw [hu] at hfu
        have cs : wr.cell? ⟨gs, 1 + a * 10 + u, none⟩ = some (.int .u8 q.toNat) := by rw [holds_cell hgs, Nat.add_assoc, sqc_get _ _ _ (by omega), swF_a (by omega), hfu, ← HQQ.out]; rfl
        have hpq' : ¬ (q.toNat : Int) = (p.toNat : Int) := by omega
        go_wp2
        go_quiet (fail)
        go_wp2_with (first | fail | (refine wpL_loadFull (x := .tmp 9) rfl rfl rfl rowSq (show holds _ gs _ 29 from hgs) (sqc_size _ _) ?_) | (refine wpL_storeFull (x := .tmp 8) rfl rfl rfl rfl rowSq (hH.drewN nq).h1 (sqc_size _ _) (sqc_ok _ _) ?_))
        exact ret_c rfl rfl (hH.drewN nq).r1.h1 rowSq (sqc_size _ _) ⟨rfl, (hH.drewN nq).r1.below⟩
end Go.Proofs.Ytbhjbllgmenbaaa
