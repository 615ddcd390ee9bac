/- Proved: what OrthomorphismSquare returns, of program and model alike. Conditions: those that each theorem names. -/
import Derived.Test.YtcdlnkjljijlmaaMk4
namespace Go.Proofs.Ytcdlnkjljijlmaa
set_option linter.unusedVariables false
set_option linter.unusedSimpArgs false
open Go.RowKit
structure Duo where
  a : Nat
  b : Nat
theorem holds_ne {w : World} {b b' : Nat} {cs cs' : Array Value} {t t' : TypeId} (h : holds w b cs t) (h' : holds w b' cs' t') (ht : t ≠ t') : b ≠ b' := fun e => by
  subst e
  have h2 : some (Obj.cells cs t (0, 0)) = some (Obj.cells cs' t' (0, 0)) := h.symm.trans h'
  injection h2 with h3
  injection h3 with _ h4
  exact ht h4
section
variable {P : Program} {ops : Array Oper} {rest : List Oper} {o : Oper} {a : Act} {w : World} {Q : Exit → Act → World → Prop}
theorem wpL_cellR {T : Nat} {x y : Operand} {g off : Nat} {v : Value} {cs cs' : Array Value} {t : TypeId} (hgd : o.guard = none) (ho : o.op = .store T x y) (hx : a.eval x = .pointer (some ⟨g, off, none⟩)) (hy : a.eval y = v) (hs : (P.info? T).map (·.size) = some 1) (h1 : v.oneCell' = true)
    (hg : holds w g cs t) (hb : off < cs.size) (e : cs.setIfInBounds off v = cs')
    (h : wpList P ops Q rest (a.put o.dst undef) (w.setRow g cs')) : wpList P ops Q (o :: rest) a w :=
  wpList_plain hgd fun K hK => by
    have hc : v.cells = #[v] := by cases v <;> first | rfl | cases h1
    have hst := run_storeCells_at P g off t [v] 0 cs w hg (by simp; omega) (fun u hu => by simp at hu; subst hu; exact h1)
    have he : over cs off #[v] = cs' := by
      rw [← e]
      apply Array.ext_getElem?
      intro i
      rw [over_get cs off #[v] (by simp; omega) i, Array.getElem?_setIfInBounds]
      by_cases q : off = i
      · subst q; rw [if_pos (by simp), if_pos rfl, if_pos hb]; simp
      · rw [if_neg (by simp; omega), if_neg q]
    simp only [Nat.add_zero] at hst
    have hst' : (storeCells ⟨g, off, none⟩ [v]).run P w = .ok () (w.setRow g cs') := by rw [← he]; exact hst
    cases hq : P.info? T with
    | none => simp [hq] at hs
    | some i =>
      have hs' : i.size = 1 := by simpa [hq] using hs
      have hrun : (storeVar T ⟨g, off, none⟩ v).run P w = .ok () (w.setRow g cs') := by
        simp [storeVar, sizeOf, typeInfo, hq, hc, hs', hst']
      unfold Oper.wp execOp
      simp only [ho, hx, hy, Instr.storeAt, Instr.sureAddr, Sem.run_bind, Sem.run_pure, Result.andThen_ok, hrun]
      exact hK _ _ h
theorem wpL_bu04 {T : Nat} {x y : Operand} {v u : Value} {Z : Array Value} (hgd : o.guard = none) (ho : o.op = .build T #[(0, x), (4, y)]) (hx : a.eval x = v) (hy : a.eval y = u) (hz : P.built T [(0, v), (4, u)] = some Z)
    (h : wpList P ops Q rest (a.put o.dst (.agg Z)) w) : wpList P ops Q (o :: rest) a w := by
  refine wpList_build hgd T #[(0, x), (4, y)] ho ?_ ?_
  · simp [hx, hy, hz]
  · simpa [hx, hy, hz] using h
end
theorem leftQ_nat (N gb x y : Nat) (g : Nat → UInt8) (w : World) (h10 : N ≤ 10) (hx : x < N) (hy : y < N) (hg : Dv w gb N g) :
    Calls Try.prog 98 #[.pointer (some ⟨gb, 0, none⟩), .int .u8 (x : Nat), .int .u8 (y : Nat)] w fun e w' => e = .returned (.int .u8 (ld g N x y).toNat) ∧ Below w.heap.size w w' := by
  obtain ⟨X, hX⟩ := byte_of x (by omega)
  obtain ⟨Y, hY⟩ := byte_of y (by omega)
  subst hX hY
  exact leftQuotient_any N gb g X Y w h10 hx hy hg
theorem product_nat (N gb x y : Nat) (g : Nat → UInt8) (w : World) (h10 : N ≤ 10) (hx : x < N) (hy : y < N) (hg : Dv w gb N g) :
    Calls Try.prog 67 #[.pointer (some ⟨gb, 0, none⟩), .int .u8 (x : Nat), .int .u8 (y : Nat)] w fun e w' => e = .returned (.int .u8 (g (x * 10 + y)).toNat) ∧ Below w.heap.size w w' := by
  obtain ⟨X, hX⟩ := byte_of x (by omega)
  obtain ⟨Y, hY⟩ := byte_of y (by omega)
  subst hX hY
  exact product_any N gb g X Y w h10 hx hy hg
/-- The products of the square of an orthomorphism. -/
def orV (g p : Nat → UInt8) (N x y : Nat) : UInt8 := g (x * 10 + (p (ld g N x y).toNat).toNat)
set_option maxRecDepth 20000 in
set_option maxHeartbeats 4000000 in
theorem differing_any (N gb x y : Nat) (g p : Nat → UInt8) (ts co : Value) (fa : UInt8) (w : World) (hq : IsSq N g) (hp : IsPerm p N) (hx : x < N) (hy : y < N) (hg : Dv w gb N g) :
    Calls Try.prog (mkId 4) #[.agg (matc (.pointer (some ⟨gb, 0, none⟩)) ts fa co p), .int .u8 (x : Nat), .int .u8 (y : Nat)] w fun e w' => e = .returned (.int .u8 (orV g p N x y).toNat) ∧ Below w.heap.size w w' := by
  show Calls Try.prog 112 _ _ _
  have h10 := hq.hi
  have hH := Has.start1 w (matc (.pointer (some ⟨gb, 0, none⟩)) ts fa co p) 66
  have hD := hid (holds_alloc hg (.cells (matc (.pointer (some ⟨gb, 0, none⟩)) ts fa co p) 66))
  obtain ⟨l, hl⟩ : ∃ l, ld g N x y = l := ⟨_, rfl⟩
  have hll : l.toNat < N := by rw [← hl]; exact ld_lt hq hx hy
  obtain ⟨q, hq2⟩ : ∃ q, p l.toNat = q := ⟨_, rfl⟩
  have hql : q.toNat < N := by rw [← hq2]; exact hp.lt _ hll
  obtain ⟨r, hr⟩ : ∃ r, g (x * 10 + q.toNat) = r := ⟨_, rfl⟩
  have HV := hid (show orV g p N x y = r by unfold orV; rw [hl, hq2, hr])
  rw [HV.out]
  have HL := hid hl
  have HQ2 := hid hq2
  have HR := hid hr
  clear hg hq hp hl hq2 hr
  have l1 : (l.toNat : Int) < 10 := by omega
  have l2 : (q.toNat : Int) < 10 := by omega
  go_enter Try.func112, Try.ntmps112
  go_wp2
  refine wp_region_frame (X := Unit) (fun d _ => [(7, bif d 0 then .pointer (some ⟨w.heap.size, 0, none⟩) else undef), (8, bif d 1 then .pointer (some ⟨gb, 0, none⟩) else undef), (9, bif d 2 then .int .u8 x else undef), (10, bif d 3 then .pointer (some ⟨w.heap.size, 0, none⟩) else undef), (11, bif d 4 then .pointer (some ⟨gb, 0, none⟩) else undef), (12, bif d 5 then .int .u8 x else undef), (13, bif d 6 then .int .u8 y else undef), (14, bif d 7 then .int .u8 l.toNat else undef), (15, bif d 8 then .pointer (some ⟨w.heap.size, 4, none⟩) else undef), (16, bif d 9 then .pointer (some ⟨w.heap.size, 4 + l.toNat, none⟩) else undef), (17, bif d 10 then .int .u8 q.toNat else undef), (18, bif d 11 then .int .u8 r.toNat else undef), (6, bif d 12 then .int .u8 r.toNat else .int .u8 0)])
    (fun d _ w' => Has w w' [(matc (.pointer (some ⟨gb, 0, none⟩)) ts fa co p, 66)] ∧ Hid (Dv w' gb N g)) (by kernel_rfl) (by kernel_rfl) ?h0_df ?hs_df ?hq_df
  case h0_df => exact ⟨(), (by simp [lput]), hH.drew, hid (holds_drew hD.out)⟩
  case hs_df =>
    refine ⟨?_, ?_, ?_, ?_, ?_, ?_, ?_, ?_, ?_, ?_, ?_, ?_, ?_, trivial⟩
    all_goals
      clear hH hD
      intro d _ w1 hd hn hJ
      simp only [needs, Region.binds, reduceCtorEq, Bool.false_eq_true, false_implies, true_and, and_true, true_implies, forall_const] at hn
      simp only [lput, List.set, hn, cond_true]
      obtain ⟨hH, hD⟩ := hJ
      have c0 : w1.cell? ⟨w.heap.size, 0, none⟩ = some (.pointer (some ⟨gb, 0, none⟩)) := by rw [hH.c0, matc_0]
      have c1 : w1.cell? ⟨w.heap.size, 4 + l.toNat, none⟩ = some (.int .u8 q.toNat) := by rw [hH.c0, matc_pl _ _ _ _ _ _ (by omega), HQ2.out]
      go_wp2_with (first | fail | (go_at_call 98; refine (leftQ_nat N gb x y g _ h10 hx hy hD.out).mono ?_; rintro e w3 ⟨rfl, hb⟩; rw [HL.out]; replace hH := hH.call' hb; replace hD := hid (Dv.below hD.out hb)) | (go_at_call 67; refine (product_nat N gb x q.toNat g _ h10 hx hql hD.out).mono ?_; rintro e w3 ⟨rfl, hb⟩; rw [HR.out]; replace hH := hH.call' hb; replace hD := hid (Dv.below hD.out hb)))
      first
        | (refine ⟨(), ?_, hH, hD⟩; (simp [lput, done, hn]; done))
        | (refine ⟨?_, hH, hD⟩; (simp [lput, done, hn]; done))
        | (refine ⟨(), ?_, hH, hD⟩; (simp [lput, done, hn]; rfl))
        | (refine ⟨?_, hH, hD⟩; (simp [lput, done, hn]; rfl))
        | (refine ⟨(), ?_, hH, hD⟩; (simp [lput, done]; done))
        | (refine ⟨?_, hH, hD⟩; (simp [lput, done]; done))
        | (refine ⟨(), ?_, hH, hD⟩; (simp [lput, done]; rfl))
        | (refine ⟨?_, hH, hD⟩; (simp [lput, done]; rfl))
  case hq_df =>
    clear hH hD
    intro d _ w1 hd hJ
    simp only [allDone, List.length_cons, List.length_nil, Nat.reduceAdd, and_true] at hd
    obtain ⟨hH, hD⟩ := hJ
    simp only [lput, List.set, hd, cond_true]
    clear hd
    go_wp2
    go_ret
    exact ⟨rfl, hH.below⟩
set_option maxRecDepth 20000 in
set_option maxHeartbeats 2000000 in
theorem implOrthoSq_bad (o : Int) (g p : Nat → UInt8) (z : Int) (w : World) (hz : gcode o g (permB p o) = z) (hzz : (z == 0) = false) :
    Calls Try.prog 23 #[.agg (sqc o g), .agg (u8s 10 p)] w fun e w' => e = .returned (.tuple #[.agg (sqc 0 fun _ => 0), .int .i64 z]) ∧ Below w.heap.size w w' := by
  have HZ := hid hz
  clear hz
  have hz2 : ¬ (z = 0) := by simpa using hzz
  have h0 := Has.start3 w (sqc o g) (u8s 10 p) (sqc 0 fun _ => 0) 28 36 28
  have hH := Has.start4 w (sqc o g) (u8s 10 p) (sqc 0 fun _ => 0) (u8s 10 p) 28 36 28 36
  go_enter Try.func23, Try.ntmps23
  go_wp2_with (first | fail | (refine wpL_alloc rfl rfl zeroSq ?_; intro g hg; (try simp at hg); subst hg) | (refine wpL_loadFull rfl rfl rfl rowSq h0.h0 (sqc_size _ _) ?_) | (refine wpL_loadFull rfl rfl rfl rowPl h0.h1 (u8s_size _ _) ?_) | (refine wpL_sliceP (f := p) rfl (by rfl) (by rfl) ?_) | (go_at_call 55; refine (onGroupCode_1 o g p _ _ hH.h3).mono ?_; rintro e w3 ⟨rfl, hb⟩; rw [HZ.out]; replace hH := hH.call' hb; clear hb h0) | (refine wpL_build rfl rfl builtSq ?_) | (refine wpL_storeSame rfl rfl rfl rfl rowSq hH.h2 (sqc_ok _ _) ?_))
  exact ret_ct rfl rfl rfl hH.h2 rowSq (sqc_size _ _) ⟨rfl, hH.below⟩
set_option maxRecDepth 20000 in
set_option maxHeartbeats 1600000 in
theorem implOrthoSq_in (N : Nat) (g p : Nat → UInt8) (r : Bool) (w : World) (hz : gcode (N : Int) g (permB p (N : Int)) = 0) (hq : IsSq N g) (hp : IsPerm p N) (hr : difB (orD g p N) N = r) :
    Calls Try.prog 23 #[.agg (sqc N g), .agg (u8s 10 p)] w fun e w' => e = .returned (if r = true then .tuple #[.agg (sqc N (fillT N (orV g p N) N 0)), .int .i64 0] else .tuple #[.agg (sqc 0 fun _ => 0), .int .i64 5]) ∧ Below w.heap.size w w' := by
  have HZ := hid hz
  have HQ := hid hq
  have HP := hid hp
  have HR := hid hr
  have h10 := hq.hi
  have hDif := hid (fun (gb : Nat) (w0 : World) (hD : Dv w0 gb N g) (w' : World) (x y : Nat) (hb : Below w0.heap.size w0 w') (hx : x < N) (hy : y < N) => differing_any N gb x y g p (.slice none 0 0) (.slice none 0 0) 0 w' hq hp hx hy (Dv.below hD hb))
  clear hz hq hp hr
  have h0 := Has.start3 w (sqc N g) (u8s 10 p) (sqc 0 fun _ => 0) 28 36 28
  have hH := Has.start4 w (sqc N g) (u8s 10 p) (sqc 0 fun _ => 0) (u8s 10 p) 28 36 28 36
  go_enter Try.func23, Try.ntmps23
  go_wp2_with (first | fail | (refine wpL_alloc rfl rfl zeroSq ?_; intro g hg; (try simp at hg); subst hg) | (refine wpL_loadFull rfl rfl rfl rowSq h0.h0 (sqc_size _ _) ?_) | (refine wpL_loadFull rfl rfl rfl rowPl h0.h1 (u8s_size _ _) ?_) | (refine wpL_sliceP (f := p) rfl (by rfl) (by rfl) ?_) | (go_at_call 55; refine (onGroupCode_1 N g p _ _ hH.h3).mono ?_; rintro e w3 ⟨rfl, hb⟩; rw [HZ.out]; replace hH := hH.call' hb; clear hb h0))
  refine wp_region_frame (X := Duo) (fun d x => [(16, bif d 0 then .agg (sqc N g) else undef), (17, bif d 1 then .pointer (some ⟨x.a, 0, none⟩) else undef), (18, bif d 2 then .agg (u8s 10 p) else undef), (19, bif d 3 then .agg (matc (.pointer (some ⟨x.a, 0, none⟩)) (.slice none 0 0) 0 (.slice none 0 0) p) else undef), (7, bif d 4 then .pointer (some ⟨x.b, 0, none⟩) else undef)])
    (fun d x w' => Has w w' [(sqc N g, 28), (u8s 10 p, 36), (sqc 0 (fun _ => 0), 28), (u8s 10 p, 36)] ∧ (d 1 = true → Hid (Dv w' x.a N g)) ∧ (d 4 = true → w.heap.size + 4 ≤ x.b ∧ holds w' x.b (bif d 5 then matc (.pointer (some ⟨x.a, 0, none⟩)) (.slice none 0 0) 0 (.slice none 0 0) p else matc (.pointer none) (.slice none 0 0) 0 (.slice none 0 0) fun _ => 0) 66) ∧ (d 3 = true → d 1 = true) ∧ (d 5 = true → d 3 = true) ∧ (d 5 = true → d 4 = true)) (by kernel_rfl) (by kernel_rfl) ?h0_os ?hs_os ?hq_os
  case h0_os => exact ⟨⟨0, 0⟩, (by simp [lput]), hH.drew, (fun h => by cases h), (fun h => by cases h), (fun h => by cases h), (fun h => by cases h), (fun h => by cases h)⟩
  case hs_os =>
    refine ⟨?_, ?_, ?_, ?_, ?_, ?_, trivial⟩
    all_goals
      clear hH
      intro d x w1 hd hn hJ
      simp only [needs, Region.binds, reduceCtorEq, Bool.false_eq_true, false_implies, true_and, and_true, true_implies, forall_const] at hn
      simp only [lput, List.set, hn, cond_true]
      try simp only [hd, cond_false] at hJ
      obtain ⟨hH, hD, hM, I3_1, I5_3, I5_4⟩ := hJ
      (try have hD_ := hD (by simp only [hn]))
      (try have hM_ := hM (by simp only [hn]))
      have zz := hH.size
      simp only [List.length_cons, List.length_nil] at zz
      go_wp2_with (first | fail | (refine wpL_loadFull rfl rfl rfl rowSq hH.h0 (sqc_size _ _) ?_) | (refine wpL_loadFull rfl rfl rfl rowPl hH.h1 (u8s_size _ _) ?_) | (go_at_call 56; refine (divide_any N g _ HQ.out).mono ?_; rintro e w3 ⟨gb, rfl, hb, hD0, hlo⟩; replace hH := hH.call' hb; replace hM := fun e => And.intro (hM e).1 (holds_below (hM e).2 hb (holds_lt (hM e).2))) | (refine wpL_bu04 rfl rfl rfl rfl (builtMat2 _ p) ?_) | (refine wpL_storeN (x := .tmp 7) rfl rfl rfl rfl rowMat hM_.2 (matc_size _ _ _ _ _) (matc_ok _ _ _ _ _ _ _ _ _) ?_; intro w5 hz5 hO hT; replace hH := hT _ _ hH hM_.1; replace hD := fun e => hid (hO _ _ _ (holds_ne (hD e).out hM_.2 (by decide)) (hD e).out)) | (refine wpL_allocN (o := ⟨some 7, _, _, _, _, _⟩) rfl rfl zeroMat ?_; intro mb w4 hz4 hl hb; replace hH := hH.call' hb; replace hD := fun e => hid (Dv.below (hD e).out hb)))
      first
        | (have z3 : d 3 = false := (by first | exact imp_no I3_1 hd | exact imp_no I3_1 rfl); have z5 : d 5 = false := imp_no I5_3 z3; refine ⟨⟨gb, x.b⟩, ?_, hH, (fun _ => hid hD0), (fun e => ⟨(hM (done_ne e (by decide))).1, by have := (hM (done_ne e (by decide))).2; simpa [done, z5] using this⟩), (by intro e; simp [done]), (by intro e; simp [done, z5] at e), (by intro e; simp [done, z5] at e)⟩; (simp [lput, done, hn, z3, z5]; done))
        | (have z5 : d 5 = false := (by first | exact imp_no I5_4 hd | exact imp_no I5_4 rfl); have hmb : w.heap.size + 4 ≤ mb := (by omega); refine ⟨⟨x.a, mb⟩, ?_, hH, (fun e => hD (done_ne e (by decide))), (fun _ => ⟨hmb, by simpa [done, z5] using hz4⟩), (by intro e; have := I3_1 (done_ne e (by decide)); simp [done, this]), (by intro e; simp [done, z5] at e), (by intro e; simp [done])⟩; (simp [lput, done, hn, z5]; done))
        | (refine ⟨x, ?_, hH, (fun e => hD (done_ne e (by decide))), (fun _ => ⟨hM_.1, by simpa [done] using hz5⟩), (by intro e; have := I3_1 (done_ne e (by decide)); simp [done, this]), (by intro e; simp [done, hn]), (by intro e; simp [done, hn])⟩; (simp [lput, done, hn]; done))
        | (refine ⟨x, ?_, hH, (fun e => hD (done_ne e (by decide))), (fun e => hM (done_ne e (by decide))), (by intro e; first | (simp [done]; done) | (have e2 := I3_1 (done_ne e (by decide)); simp [done, e2]; done) | (simp [done, hn]; done)), (by intro e; first | (simp [done]; done) | (have e2 := I5_3 (done_ne e (by decide)); simp [done, e2]; done) | (simp [done, hn]; done)), (by intro e; first | (simp [done]; done) | (have e2 := I5_4 (done_ne e (by decide)); simp [done, e2]; done) | (simp [done, hn]; done))⟩; (simp [lput, done, hn]; done))
        | (refine ⟨?_, hH, (fun e => hD (done_ne e (by decide))), (fun e => hM (done_ne e (by decide))), (by intro e; first | (simp [done]; done) | (have e2 := I3_1 (done_ne e (by decide)); simp [done, e2]; done) | (simp [done, hn]; done)), (by intro e; first | (simp [done]; done) | (have e2 := I5_3 (done_ne e (by decide)); simp [done, e2]; done) | (simp [done, hn]; done)), (by intro e; first | (simp [done]; done) | (have e2 := I5_4 (done_ne e (by decide)); simp [done, e2]; done) | (simp [done, hn]; done))⟩; (simp [lput, done, hn]; done))
        | (refine ⟨x, ?_, hH, (fun e => hD (done_ne e (by decide))), (fun e => hM (done_ne e (by decide))), (by intro e; first | (simp [done]; done) | (have e2 := I3_1 (done_ne e (by decide)); simp [done, e2]; done) | (simp [done, hn]; done)), (by intro e; first | (simp [done]; done) | (have e2 := I5_3 (done_ne e (by decide)); simp [done, e2]; done) | (simp [done, hn]; done)), (by intro e; first | (simp [done]; done) | (have e2 := I5_4 (done_ne e (by decide)); simp [done, e2]; done) | (simp [done, hn]; done))⟩; (simp [lput, done, hn]; rfl))
        | (refine ⟨?_, hH, (fun e => hD (done_ne e (by decide))), (fun e => hM (done_ne e (by decide))), (by intro e; first | (simp [done]; done) | (have e2 := I3_1 (done_ne e (by decide)); simp [done, e2]; done) | (simp [done, hn]; done)), (by intro e; first | (simp [done]; done) | (have e2 := I5_3 (done_ne e (by decide)); simp [done, e2]; done) | (simp [done, hn]; done)), (by intro e; first | (simp [done]; done) | (have e2 := I5_4 (done_ne e (by decide)); simp [done, e2]; done) | (simp [done, hn]; done))⟩; (simp [lput, done, hn]; rfl))
        | (refine ⟨x, ?_, hH, (fun e => hD (done_ne e (by decide))), (fun e => hM (done_ne e (by decide))), (by intro e; first | (simp [done]; done) | (have e2 := I3_1 (done_ne e (by decide)); simp [done, e2]; done) | (simp [done, hn]; done)), (by intro e; first | (simp [done]; done) | (have e2 := I5_3 (done_ne e (by decide)); simp [done, e2]; done) | (simp [done, hn]; done)), (by intro e; first | (simp [done]; done) | (have e2 := I5_4 (done_ne e (by decide)); simp [done, e2]; done) | (simp [done, hn]; done))⟩; (simp [lput, done]; done))
        | (refine ⟨?_, hH, (fun e => hD (done_ne e (by decide))), (fun e => hM (done_ne e (by decide))), (by intro e; first | (simp [done]; done) | (have e2 := I3_1 (done_ne e (by decide)); simp [done, e2]; done) | (simp [done, hn]; done)), (by intro e; first | (simp [done]; done) | (have e2 := I5_3 (done_ne e (by decide)); simp [done, e2]; done) | (simp [done, hn]; done)), (by intro e; first | (simp [done]; done) | (have e2 := I5_4 (done_ne e (by decide)); simp [done, e2]; done) | (simp [done, hn]; done))⟩; (simp [lput, done]; done))
        | (refine ⟨x, ?_, hH, (fun e => hD (done_ne e (by decide))), (fun e => hM (done_ne e (by decide))), (by intro e; first | (simp [done]; done) | (have e2 := I3_1 (done_ne e (by decide)); simp [done, e2]; done) | (simp [done, hn]; done)), (by intro e; first | (simp [done]; done) | (have e2 := I5_3 (done_ne e (by decide)); simp [done, e2]; done) | (simp [done, hn]; done)), (by intro e; first | (simp [done]; done) | (have e2 := I5_4 (done_ne e (by decide)); simp [done, e2]; done) | (simp [done, hn]; done))⟩; (simp [lput, done]; rfl))
        | (refine ⟨?_, hH, (fun e => hD (done_ne e (by decide))), (fun e => hM (done_ne e (by decide))), (by intro e; first | (simp [done]; done) | (have e2 := I3_1 (done_ne e (by decide)); simp [done, e2]; done) | (simp [done, hn]; done)), (by intro e; first | (simp [done]; done) | (have e2 := I5_3 (done_ne e (by decide)); simp [done, e2]; done) | (simp [done, hn]; done)), (by intro e; first | (simp [done]; done) | (have e2 := I5_4 (done_ne e (by decide)); simp [done, e2]; done) | (simp [done, hn]; done))⟩; (simp [lput, done]; rfl))
  case hq_os =>
    clear hH
    intro d x w1 hd hJ
    simp only [allDone, List.length_cons, List.length_nil, Nat.reduceAdd, and_true] at hd
    obtain ⟨hH, hD, hM, I3_1, I5_3, I5_4⟩ := hJ
    replace hD := hD (by simp only [hd])
    replace hM := hM (by simp only [hd])
    clear I3_1
    clear I5_3
    clear I5_4
    simp only [hd, cond_true] at hH hM
    simp only [lput, List.set, hd, cond_true]
    clear hd
    rcases x with ⟨gb, mb⟩
    replace hD : Dv w1 gb N g := hD.out
    obtain ⟨hmb, hM⟩ := hM
    replace hM : holds w1 mb (matc (.pointer (some ⟨gb, 0, none⟩)) (.slice none 0 0) 0 (.slice none 0 0) p) 66 := hM
    have cM : w1.cell? ⟨mb, 0, none⟩ = some (.pointer (some ⟨gb, 0, none⟩)) := by rw [holds_cell hM, matc_0]
    cases r with
    | true =>
      go_wp2_with (first | fail | (refine wpL_loadFull rfl rfl rfl rowPl hH.h1 (u8s_size _ _) ?_) | (go_at_call 61; refine (isOrthomorphism_any N gb g p _ h10 hD HP.out).mono ?_; rintro e w4 ⟨rfl, hb⟩; rw [HR.out]; replace hH := hH.call' hb; replace hD := Dv.below hD hb; replace hM := holds_below hM hb (holds_lt hM); clear hb cM; have c0 := hH.c0 0; rw [sqc_get0] at c0) | (refine wpL_loadFull rfl rfl rfl rowMat hM (matc_size _ _ _ _ _) ?_) | (go_at_call 57; refine (squareBy_any 4 N _ (orV g p N) _ (by decide) h10 (matc_size _ _ _ _ _) (hid (hDif.out _ _ hD))).mono ?_; rintro e w4 ⟨rfl, hb⟩; replace hH := hH.call' hb; clear hb) | (refine wpL_storeFull rfl rfl rfl rfl rowSq hH.h2 (sqc_size _ _) (sqc_ok _ _) ?_))
      exact ret_ct rfl rfl rfl hH.r2.h2 rowSq (sqc_size _ _) ⟨rfl, hH.r2.below⟩
    | false =>
      go_wp2_with (first | fail | (refine wpL_loadFull rfl rfl rfl rowPl hH.h1 (u8s_size _ _) ?_) | (go_at_call 61; refine (isOrthomorphism_any N gb g p _ h10 hD HP.out).mono ?_; rintro e w4 ⟨rfl, hb⟩; rw [HR.out]; replace hH := hH.call' hb; replace hD := Dv.below hD hb; replace hM := holds_below hM hb (holds_lt hM); clear hb cM) | (refine wpL_build rfl rfl builtSq ?_) | (refine wpL_storeSame rfl rfl rfl rfl rowSq hH.h2 (sqc_ok _ _) ?_))
      exact ret_ct rfl rfl rfl hH.h2 rowSq (sqc_size _ _) ⟨rfl, hH.below⟩
/-- The products as the model makes them. -/
def orW (g p : Nat → UInt8) (N x y : Nat) : UInt8 := g (x * 10 + (p (g ((iv g N x).toNat * 10 + y)).toNat).toNat)
theorem fillT_same {N : Nat} {v v' : Nat → Nat → UInt8} (h : ∀ x y, x < N → y < N → v x y = v' x y) : fillT N v N 0 = fillT N v' N 0 := by
  funext i
  unfold fillT
  by_cases c : (i / 10 < N ∧ i % 10 < N) ∨ (i / 10 = N ∧ i % 10 < 0)
  · rw [if_pos c, if_pos c]
    exact h _ _ (by omega) (by omega)
  · rw [if_neg c, if_neg c]
theorem orW_eq {g p : Nat → UInt8} {N : Nat} (hG : IsGp N g) : fillT N (orW g p N) N 0 = fillT N (orV g p N) N 0 :=
  fillT_same fun x y hx hy => by unfold orW orV; rw [ld_iv hG hy hx]
set_option maxRecDepth 20000 in
set_option maxHeartbeats 3000000 in
theorem l08Made_any (N : Nat) (g p : Nat → UInt8) (w : World) (hq : IsSq N g) (hp : IsPerm p N) :
    Calls Try.prog 62 #[.agg (sqc N g), .agg (u8s 10 p)] w fun e w' => e = .returned (.agg (sqc N (fillT N (orW g p N) N 0))) ∧ Below w.heap.size w w' := by
  have h10 := hq.hi
  have HQ := hid hq
  have HP := hid hp
  clear hq hp
  have c0 : (((w.alloc (.cells (sqc N g) 28)).alloc (.cells (u8s 10 p) 36)).alloc (.cells (sqc 0 fun _ => 0) 28)).cell? ⟨w.heap.size, 0, none⟩ = some (.int .i64 N) := by rw [(Has.start3 w (sqc N g) (u8s 10 p) (sqc 0 fun _ => 0) 28 36 28).c0, sqc_get0]
  have hH := Has.start4 w (sqc N g) (u8s 10 p) (sqc 0 fun _ => 0) (sqc 0 fun _ => 0) 28 36 28 28
  go_enter Try.func62, Try.ntmps62
  go_wp2_with (first | fail | (refine wpL_alloc rfl rfl zeroSq ?_; intro g hg; (try simp at hg); subst hg) | (refine wpL_build1 rfl rfl rfl (builtSqO _) ?_) | (refine wpL_storeFull rfl rfl rfl rfl rowSq hH.h3 (sqc_size _ _) (sqc_ok _ _) ?_; replace hH := hH.r3 (cs' := sqc N fun _ => 0); clear c0))
  go_loopw [6] (fun i wr => ∃ k : Nat, k ≤ N ∧ i = .int .i64 k ∧ Has w wr [(sqc N g, 28), (u8s 10 p, 36), (sqc 0 (fun _ => 0), 28), (sqc N (fillT N (orW g p N) k 0), 28)]) (fun i _ => 10 - (intOf i).toNat)
  case atStart => exact ⟨0, by omega, rfl, by rw [fillT_zero]; exact hH⟩
  case round =>
    clear hH
    obtain ⟨k, hk, rfl, hH⟩ := hrel
    have c0 : wr.cell? ⟨w.heap.size, 0, none⟩ = some (.int .i64 N) := by rw [hH.c0, sqc_get0]
    by_cases hlt : k < N
    · have hk10 : (k : Int) < 10 := by omega
      have hlt' : (k : Int) < N := by omega
      obtain ⟨b, hb⟩ : ∃ b, iv g N k = b := ⟨_, rfl⟩
      have hbl : b.toNat < N := by rw [← hb]; exact iv_lt HQ.out hlt
      have HB := hid hb
      clear hb
      have hb' : (b.toNat : Int) < 10 := by omega
      go_wp2_with (first | fail | (refine wpL_loadFull rfl rfl rfl rowSq hH.h0 (sqc_size _ _) ?_) | (go_at_call 53; refine (l08Inverse_nat N k g _ HQ.out hlt).mono ?_; rintro e w3 ⟨rfl, hb⟩; rw [HB.out]; replace hH := hH.call' hb; clear hb c0))
      go_loopw [8] (fun i wx => ∃ j : Nat, j ≤ N ∧ i = .int .i64 j ∧ Has w wx [(sqc N g, 28), (u8s 10 p, 36), (sqc 0 (fun _ => 0), 28), (sqc N (fillT N (orW g p N) k j), 28)]) (fun i _ => 10 - (intOf i).toNat)
      case atStart => exact ⟨0, by omega, rfl, hH⟩
      case round =>
        clear hH
        obtain ⟨j, hj, rfl, hH⟩ := hrel
        have c0 : wr.cell? ⟨w.heap.size, 0, none⟩ = some (.int .i64 N) := by rw [hH.c0, sqc_get0]
        by_cases hlt2 : j < N
        · have hj10 : (j : Int) < 10 := by omega
          have hj10n : j < 10 := by omega
          have hlt2' : (j : Int) < N := by omega
          obtain ⟨u, hu⟩ : ∃ u, g (b.toNat * 10 + j) = u := ⟨_, rfl⟩
          have hul : u.toNat < N := by rw [← hu]; exact (HQ.out.rows _ hbl).lt _ hlt2
          obtain ⟨v, hv⟩ : ∃ v, p u.toNat = v := ⟨_, rfl⟩
          have hvl : v.toNat < N := by rw [← hv]; exact HP.out.lt _ hul
          obtain ⟨t, ht⟩ : ∃ t, g (k * 10 + v.toNat) = t := ⟨_, rfl⟩
          have HE := hid (show orW g p N k j = t by unfold orW; rw [HB.out, hu, hv, ht])
          have hst := hid (fun i (hi : i < 100) => show fillT N (orW g p N) k (j + 1) i = if i = k * 10 + j then t else fillT N (orW g p N) k j i by rw [fillT_step N _ k j hj10n i, HE.out])
          have HU := hid hu
          have HV := hid hv
          have HT := hid ht
          clear hu hv ht
          have hu' : (u.toNat : Int) < 10 := by omega
          have hv' : (v.toNat : Int) < 10 := by omega
          go_wp2
          clear c0
          refine wp_region_frame (X := Unit) (fun d _ => [(28, bif d 0 then .int .i64 k else u28), (29, bif d 1 then .int .i64 j else u29), (30, bif d 2 then .int .i64 k else u30), (31, bif d 3 then .int .u8 b.toNat else u31), (32, bif d 4 then .int .i64 j else u32), (33, bif d 5 then .pointer (some ⟨w.heap.size, 1, none⟩) else u33), (34, bif d 6 then .pointer (some ⟨w.heap.size, 1 + b.toNat * 10, none⟩) else u34), (35, bif d 7 then .pointer (some ⟨w.heap.size, 1 + b.toNat * 10 + j, none⟩) else u35), (36, bif d 8 then .int .u8 u.toNat else u36), (37, bif d 9 then .pointer (some ⟨w.heap.size + 1, u.toNat, none⟩) else u37), (38, bif d 10 then .int .u8 v.toNat else u38), (39, bif d 11 then .pointer (some ⟨w.heap.size, 1, none⟩) else u39), (40, bif d 12 then .pointer (some ⟨w.heap.size, 1 + k * 10, none⟩) else u40), (41, bif d 13 then .pointer (some ⟨w.heap.size, 1 + k * 10 + v.toNat, none⟩) else u41), (42, bif d 14 then .int .u8 t.toNat else u42), (43, bif d 15 then .pointer (some ⟨w.heap.size + 1 + 1 + 1, 1, none⟩) else u43), (44, bif d 16 then .pointer (some ⟨w.heap.size + 1 + 1 + 1, 1 + k * 10, none⟩) else u44), (45, bif d 17 then .pointer (some ⟨w.heap.size + 1 + 1 + 1, 1 + k * 10 + j, none⟩) else u45)])
            (fun d _ w' => Has w w' [(sqc N g, 28), (u8s 10 p, 36), (sqc 0 (fun _ => 0), 28), (sqc N (bif d 18 then fillT N (orW g p N) k (j + 1) else fillT N (orW g p N) k j), 28)]) (by kernel_rfl) (by kernel_rfl) ?h0_mm ?hs_mm ?hq_mm
          case h0_mm => exact ⟨(), (by simp [lput]), hH.drew⟩
          case hs_mm =>
            refine ⟨?_, ?_, ?_, ?_, ?_, ?_, ?_, ?_, ?_, ?_, ?_, ?_, ?_, ?_, ?_, ?_, ?_, ?_, ?_, trivial⟩
            all_goals
              clear hH
              intro d _ w1 hd hn hJ
              simp only [needs, Region.binds, reduceCtorEq, Bool.false_eq_true, false_implies, true_and, and_true, true_implies, forall_const] at hn
              simp only [lput, List.set, hn, cond_true]
              try simp only [hd, cond_false] at hJ
              have hH := hJ; clear hJ
              have c1 : w1.cell? ⟨w.heap.size, 1 + b.toNat * 10 + j, none⟩ = some (.int .u8 u.toNat) := by rw [hH.c0, Nat.add_assoc, sqc_get _ _ _ (by omega), HU.out]
              have c2 : w1.cell? ⟨w.heap.size + 1, u.toNat, none⟩ = some (.int .u8 v.toNat) := by rw [hH.c1, u8s_get _ _ _ (by omega), HV.out]
              have c3 : w1.cell? ⟨w.heap.size, 1 + k * 10 + v.toNat, none⟩ = some (.int .u8 t.toNat) := by rw [hH.c0, Nat.add_assoc, sqc_get _ _ _ (by omega), HT.out]
              go_wp2_with (first | fail | (refine wpL_cellR (g := w.heap.size + 1 + 1 + 1) (v := .int .u8 t.toNat) (cs' := sqc N (fillT N (orW g p N) k (j + 1))) (off := 1 + k * 10 + j) rfl rfl rfl rfl (by kernel_rfl) (by rfl) hH.h3 (by rw [sqc_size]; omega) (by rw [Nat.add_assoc]; exact sqc_set _ _ _ _ _ hst.out) ?_; replace hH := hH.r3 (cs' := sqc N (fillT N (orW g p N) k (j + 1)))))
              first
                | (refine ⟨(), ?_, hH⟩; (simp [lput, done, hn]; done))
                | (refine ⟨?_, hH⟩; (simp [lput, done, hn]; done))
                | (refine ⟨(), ?_, hH⟩; (simp [lput, done, hn]; rfl))
                | (refine ⟨?_, hH⟩; (simp [lput, done, hn]; rfl))
                | (refine ⟨(), ?_, hH⟩; (simp [lput, done]; done))
                | (refine ⟨?_, hH⟩; (simp [lput, done]; done))
                | (refine ⟨(), ?_, hH⟩; (simp [lput, done]; rfl))
                | (refine ⟨?_, hH⟩; (simp [lput, done]; rfl))
          case hq_mm =>
            clear hH
            intro d _ w1 hd hJ
            simp only [allDone, List.length_cons, List.length_nil, Nat.reduceAdd, and_true] at hd
            have hH := hJ; clear hJ
            simp only [hd, cond_true] at hH
            simp only [lput, List.set, hd, cond_true]
            clear hd
            go_wp2
            go_roundw
            case rel => exact ⟨j + 1, by omega, by go_num, hH⟩
            case measure => simp [intOf]; omega
        · obtain rfl : j = N := by omega
          go_wp2
          go_roundw
          case rel => exact ⟨k + 1, by omega, by go_num, by rw [fillT_row]; exact hH⟩
          case measure => simp [intOf]; omega
    · obtain rfl : k = N := by omega
      go_wp2_with (first | fail | (refine wpL_loadFull rfl rfl rfl rowSq hH.h3 (sqc_size _ _) ?_) | (refine wpL_storeFull rfl rfl rfl rfl rowSq hH.h2 (sqc_size _ _) (sqc_ok _ _) ?_))
      exact ret_c rfl rfl hH.r2.h2 rowSq (sqc_size _ _) ⟨rfl, hH.r2.below⟩
set_option maxRecDepth 20000 in
set_option maxHeartbeats 1600000 in
theorem specOrthoSq_bad (o : Int) (g p : Nat → UInt8) (z : Int) (w : World) (hz : gcode o g (permB p o) = z) (hzz : (z == 0) = false) :
    Calls Try.prog 22 #[.agg (sqc o g), .agg (u8s 10 p)] w fun e w' => e = .returned (.tuple #[.agg (sqc 0 fun _ => 0), .int .i64 z]) ∧ Below w.heap.size w w' := by
  have HZ := hid hz
  clear hz
  have hz2 : ¬ (z = 0) := by simpa using hzz
  have hH := Has.start3 w (sqc o g) (u8s 10 p) (sqc 0 fun _ => 0) 28 36 28
  go_enter Try.func22, Try.ntmps22
  go_wp2_with (first | fail | (refine wpL_guard rfl rfl ?_) | (refine wpL_alloc rfl rfl zeroSq ?_; intro g hg; (try simp at hg); subst hg) | (refine wpL_loadFull rfl rfl rfl rowSq hH.h0 (sqc_size _ _) ?_) | (refine wpL_loadFull rfl rfl rfl rowPl hH.h1 (u8s_size _ _) ?_) | (go_at_call 59; refine (l08Code_any o g p _).mono ?_; rintro e w3 ⟨rfl, hb⟩; rw [HZ.out]; replace hH := hH.call' hb; clear hb) | (refine wpL_build rfl rfl builtSq ?_) | (refine wpL_storeSame rfl rfl rfl rfl rowSq hH.h2 (sqc_ok _ _) ?_))
  exact ret_ct rfl rfl rfl hH.h2 rowSq (sqc_size _ _) ⟨rfl, hH.below⟩
set_option maxRecDepth 20000 in
set_option maxHeartbeats 1600000 in
theorem specOrthoSq_in (N : Nat) (g p : Nat → UInt8) (r : Bool) (w : World) (hz : gcode (N : Int) g (permB p (N : Int)) = 0) (hG : IsGp N g) (hp : IsPerm p N) (hr : difB (orD g p N) N = r) :
    Calls Try.prog 22 #[.agg (sqc N g), .agg (u8s 10 p)] w fun e w' => e = .returned (if r = true then .tuple #[.agg (sqc N (fillT N (orV g p N) N 0)), .int .i64 0] else .tuple #[.agg (sqc 0 fun _ => 0), .int .i64 5]) ∧ Below w.heap.size w w' := by
  have HZ := hid hz
  have HQ := hid hG.lp.sq
  have HP := hid hp
  have HR := hid ((orE_eq hG hp).trans hr)
  have HM := hid (orW_eq (p := p) hG)
  clear hz hG hp hr
  have hH := Has.start3 w (sqc N g) (u8s 10 p) (sqc 0 fun _ => 0) 28 36 28
  cases r with
  | true =>
    go_enter Try.func22, Try.ntmps22
    go_wp2_with (first | fail | (refine wpL_guard rfl rfl ?_) | (refine wpL_alloc rfl rfl zeroSq ?_; intro g hg; (try simp at hg); subst hg) | (refine wpL_loadFull rfl rfl rfl rowSq hH.h0 (sqc_size _ _) ?_) | (refine wpL_loadFull rfl rfl rfl rowPl hH.h1 (u8s_size _ _) ?_) | (go_at_call 59; refine (l08Code_any N g p _).mono ?_; rintro e w3 ⟨rfl, hb⟩; rw [HZ.out]; replace hH := hH.call' hb; clear hb) | (go_at_call 60; refine (l08Ortho_any N g p _ HQ.out HP.out).mono ?_; rintro e w3 ⟨rfl, hb⟩; rw [HR.out]; replace hH := hH.call' hb; clear hb) | (go_at_call 62; refine (l08Made_any N g p _ HQ.out HP.out).mono ?_; rintro e w3 ⟨rfl, hb⟩; rw [HM.out]; replace hH := hH.call' hb; clear hb) | (refine wpL_storeFull rfl rfl rfl rfl rowSq hH.h2 (sqc_size _ _) (sqc_ok _ _) ?_))
    exact ret_ct rfl rfl rfl hH.r2.h2 rowSq (sqc_size _ _) ⟨rfl, hH.r2.below⟩
  | false =>
    go_enter Try.func22, Try.ntmps22
    go_wp2_with (first | fail | (refine wpL_guard rfl rfl ?_) | (refine wpL_alloc rfl rfl zeroSq ?_; intro g hg; (try simp at hg); subst hg) | (refine wpL_loadFull rfl rfl rfl rowSq hH.h0 (sqc_size _ _) ?_) | (refine wpL_loadFull rfl rfl rfl rowPl hH.h1 (u8s_size _ _) ?_) | (go_at_call 59; refine (l08Code_any N g p _).mono ?_; rintro e w3 ⟨rfl, hb⟩; rw [HZ.out]; replace hH := hH.call' hb; clear hb) | (go_at_call 60; refine (l08Ortho_any N g p _ HQ.out HP.out).mono ?_; rintro e w3 ⟨rfl, hb⟩; rw [HR.out]; replace hH := hH.call' hb; clear hb) | (refine wpL_build rfl rfl builtSq ?_) | (refine wpL_storeSame rfl rfl rfl rfl rowSq hH.h2 (sqc_ok _ _) ?_))
    exact ret_ct rfl rfl rfl hH.h2 rowSq (sqc_size _ _) ⟨rfl, hH.below⟩
end Go.Proofs.Ytcdlnkjljijlmaa
