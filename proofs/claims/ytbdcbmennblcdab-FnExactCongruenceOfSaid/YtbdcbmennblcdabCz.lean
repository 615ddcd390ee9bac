/- Proved: what CongruenceOf returns, of program and model alike. Conditions: those that each theorem names. -/
import Derived.Test.YtbdcbmennblcdabNz
import Derived.Test.YtbdcbmennblcdabLx
namespace Go.Proofs.Ytbdcbmennblcdab
set_option linter.unusedVariables false
set_option linter.unusedSimpArgs false
open Go.RowKit
section
variable {N m : Nat} {M : Nat → Nat → Nat} {I : Nat → Nat → Prop} {x y z : Nat}
theorem cgr_symm (hx : x < N) (hy : y < N) (h : Cgr N m M I x y) : Cgr N m M I y x := fun E hE hK hI => hE.symm x y hx hy (h E hE hK hI)
theorem cgr_trans (hx : x < N) (hy : y < N) (hz : z < N) (h : Cgr N m M I x y) (k : Cgr N m M I y z) : Cgr N m M I x z := fun E hE hK hI => hE.trans x y z hx hy hz (h E hE hK hI) (k E hE hK hI)
theorem cgMin_spec (hx : x < N) : Cgr N m M I x (cgMin N m M I x) ∧ ∀ k, k < cgMin N m M I x → ¬ Cgr N m M I x k := by
  unfold cgMin
  rw [dif_pos hx]
  exact (Classical.choose_spec (least (fun y => Cgr N m M I x y) x (cgr_refl hx))).2
theorem cgMin_eq (hx : x < N) (hy : y < N) : cgMin N m M I x = cgMin N m M I y ↔ Cgr N m M I x y := by
  have h1 := cgMin_spec (m := m) (M := M) (I := I) hx
  have h2 := cgMin_spec (m := m) (M := M) (I := I) hy
  have l1 := cgMin_lt (m := m) (M := M) (I := I) hx
  have l2 := cgMin_lt (m := m) (M := M) (I := I) hy
  constructor
  · intro e
    refine cgr_trans hx (show cgMin N m M I x < N by omega) hy h1.1 ?_
    rw [e]
    exact cgr_symm hy (by omega) h2.1
  · intro h
    have a1 : Cgr N m M I x (cgMin N m M I y) := cgr_trans hx hy (by omega) h h2.1
    have a2 : Cgr N m M I y (cgMin N m M I x) := cgr_trans hy hx (by omega) (cgr_symm hx hy h) h1.1
    rcases Nat.lt_trichotomy (cgMin N m M I x) (cgMin N m M I y) with c | c | c
    · exact absurd a2 (h2.2 _ c)
    · exact c
    · exact absurd a1 (h1.2 _ c)
theorem cgD_nat (h10 : N ≤ 10) (hx : x < N) : natF (cgD N m M I) x = cgMin N m M I x := by
  have := cgMin_lt (m := m) (M := M) (I := I) hx
  unfold natF cgD
  exact u8_of _ (by omega)
theorem cgD_eq (h10 : N ≤ 10) (hx : x < N) (hy : y < N) : natF (cgD N m M I) x = natF (cgD N m M I) y ↔ Cgr N m M I x y := by
  rw [cgD_nat h10 hx, cgD_nat h10 hy, cgMin_eq hx hy]
theorem cgD_min (h10 : N ≤ 10) : MinRep N (natF (cgD N m M I)) := fun x hx => by
  have l1 := cgMin_lt (m := m) (M := M) (I := I) hx
  have h1 := cgMin_spec (m := m) (M := M) (I := I) hx
  rw [cgD_nat h10 hx]
  have hc : cgMin N m M I x < N := by omega
  refine ⟨hc, ?_, fun y hy e => ?_⟩
  · rw [cgD_nat h10 hc]
    exact (cgMin_eq hc hx).2 (cgr_symm hx hc h1.1)
  · rw [cgD_nat h10 hy] at e
    have l2 := cgMin_lt (m := m) (M := M) (I := I) hy
    omega
/-- A number is the least of its class exactly if it is what its class is told by. -/
theorem isRep_min {d : Nat → Nat} (h : MinRep N d) (hx : x < N) : isRep d x = decide (d x = x) := by
  obtain ⟨h1, h2, h3⟩ := h x hx
  have hle := h3 x hx rfl
  cases hb : isRep d x with
  | true =>
    refine (decide_eq_true ?_).symm
    rcases Nat.lt_or_ge (d x) x with c | c
    · exact absurd h2 (isRep_iff.1 hb (d x) c)
    · omega
  | false =>
    refine (decide_eq_false fun e => ?_).symm
    have : isRep d x = true := isRep_iff.2 fun y hy e2 => by
      have := h3 y (by omega) e2
      omega
    rw [this] at hb; cases hb
end
theorem OQ.one (w : World) {B n : Nat} (p q : Nat) (h : B ≤ w.heap.size) (hn : w.heap.size = n) : OQ (w.alloc (.cells #[.int .i64 (p : Nat), .int .i64 (q : Nat)] 65)) B (.slice (some ⟨n, 0, none⟩) 1 1) [(p, q)] := by
  subst hn
  exact ⟨rfl, .inr ⟨_, 1, _, rfl, h, heap_alloc_new w _, Nat.le_refl _, by unfold maxLen; omega, rfl, rfl⟩⟩
set_option maxRecDepth 20000 in
set_option maxHeartbeats 4000000 in
theorem setWith_any (N x : Nat) (E : Nat → UInt8) (w : World) (h10 : N ≤ 10) (hx : x < N) :
    Calls Try.prog 104 #[.agg (u8s 10 E), .int .i64 x, .int .i64 N] w (GotV (clsL (natF E) N x) w) := by
  have hN10 : (N : Int) ≤ 10 := by omega
  have hx10 : (x : Int) < 10 := by omega
  have hH := Has.start1 w (u8s 10 E) 69
  obtain ⟨p, hp⟩ : ∃ p : Nat → Bool, (fun y => decide (natF E y = natF E x)) = p := ⟨_, rfl⟩
  have HPV := hid (fun y => (congrFun hp y : decide (natF E y = natF E x) = p y))
  have HCL := hid (show clsL (natF E) N x = selL p N by unfold clsL; rw [hp])
  clear hp
  go_enter Try.func104, Try.ntmps104
  go_wp2
  go_loopw [7, 10] (fun v i wr => ∃ k : Nat, k ≤ N ∧ i = .int .i64 k ∧ Has w wr [(u8s 10 E, 69)] ∧ Hid (OL wr (w.heap.size + 1) v (selL p k))) (fun _ i _ => 20 - (intOf i).toNat)
  case atStart => exact ⟨0, by omega, rfl, hH, hid (by rw [show selL p 0 = [] from rfl]; exact OL.nil _ _)⟩
  case round =>
    clear hH
    obtain ⟨k, hk, rfl, hH, hO⟩ := hrel
    have hsz := hH.size
    simp only [List.length_cons, List.length_nil] at hsz
    have hlen := selL_len p k
    by_cases hlt : k < N
    · have hk1 : (k : Int) < N := by omega
      have hk10 : (k : Int) < 10 := by omega
      obtain ⟨a, ha⟩ : ∃ a, E k = a := ⟨_, rfl⟩
      obtain ⟨b, hb⟩ : ∃ b, E x = b := ⟨_, rfl⟩
      have ca : wr.cell? ⟨w.heap.size, k, none⟩ = some (.int .u8 a.toNat) := by rw [hH.c0, u8s_get _ _ _ (by omega), ha]
      have cb : wr.cell? ⟨w.heap.size, x, none⟩ = some (.int .u8 b.toNat) := by rw [hH.c0, u8s_get _ _ _ (by omega), hb]
      have hpk := HPV.out k
      unfold natF at hpk
      rw [ha, hb] at hpk
      by_cases e : a.toNat = b.toNat
      · have e' : (a.toNat : Int) = (b.toNat : Int) := by omega
        have HE := hid (show selL p (k + 1) = selL p k ++ [(k : Int)] from selL_yes (by rw [← hpk]; exact decide_eq_true e))
        clear hpk e ha hb
        go_wp2
        go_quiet (fail)
        clear ca cb
        obtain ⟨wd, hwd⟩ : ∃ q, wr.drewN nq = q := ⟨_, rfl⟩
        replace hH : Has w wd [(u8s 10 E, 69)] := by rw [← hwd]; exact hH.drewN _
        replace hO : Hid (OL wd (w.heap.size + 1) u7 (selL p k)) := hid (by rw [← hwd]; exact own_keptO hO.out fun _ _ => rfl)
        replace hsz : w.heap.size + (0 + 1) ≤ wd.heap.size := by rw [← hwd]; exact hsz
        rw [hwd]
        clear hwd
        go_wp2_with (first | fail | (refine wpL_appI (v := u7) (n := (selL p k).length) (base := w.heap.size + 1) (z := (k : Int)) rfl (by rfl) (by rfl) (by rfl) (World.ownsRow.alloc hO.out _) (by simp) (by omega) (by simp; omega) ?_; intro r cap w2 how hg hor hlt3; have hO2 := hid (OL.add how); replace hH := (hH.alloc _).grown hg (fun x hx => by have := (World.ownsRow.lt hO.out x hx).1; simp; omega); clear how hg hor hlt3))
        go_roundw
        case rel => exact ⟨k + 1, by omega, by go_num, hH, by rw [HE.out]; exact hO2⟩
        case measure => simp [intOf]; omega
      · have e' : ¬ (a.toNat : Int) = (b.toNat : Int) := by omega
        have HE := hid (show selL p (k + 1) = selL p k from selL_no (by rw [← hpk]; exact decide_eq_false e))
        clear hpk e ha hb
        go_wp2
        go_quiet (fail)
        go_wp2
        go_roundw
        case rel => exact ⟨k + 1, by omega, by go_num, hH.drewN _, hid (by rw [HE.out]; exact own_keptO hO.out fun _ _ => rfl)⟩
        case measure => simp [intOf]; omega
    · obtain rfl : k = N := by omega
      go_wp2
      go_ret
      exact ⟨_, rfl, hH.below, by rw [HCL.out]; exact hO.out.lower (by omega)⟩
set_option maxRecDepth 100000 in
set_option maxHeartbeats 4000000 in
theorem sets_any (N : Nat) (E : Nat → UInt8) (w : World) (h1 : 1 ≤ N) (h10 : N ≤ 10) (hM : MinRep N (natF E)) :
    Calls Try.prog 58 #[.agg (u8s 10 E), .int .i64 N] w (GotLP (cntR (natF E) N) (toldL (natF E) N) w) := by
  have hN10 : (N : Int) ≤ 10 := by omega
  have HMR := hid (fun x (hx : x < N) => isRep_min hM hx)
  clear hM
  have hH := Has.start1 w (u8s 10 E) 69
  go_enter Try.func58, Try.ntmps58
  go_wp2
  go_loopw [5, 8] (fun v i wr => ∃ k : Nat, k ≤ N ∧ i = .int .i64 k ∧ Has w wr [(u8s 10 E, 69)] ∧ Hid (LP wr (w.heap.size + 1) v (cntR (natF E) k) (toldL (natF E) N))) (fun _ i _ => 20 - (intOf i).toNat)
  case atStart => exact ⟨0, by omega, rfl, hH, hid (LP.nil _ _ _)⟩
  case round =>
    clear hH
    obtain ⟨k, hk, rfl, hH, HP⟩ := hrel
    have hsz := hH.size
    simp only [List.length_cons, List.length_nil] at hsz
    by_cases hlt : k < N
    · have hk1 : (k : Int) < N := by omega
      have hk10 : (k : Int) < 10 := by omega
      have hcle := cntR_le (C := natF E) k
      obtain ⟨a, ha⟩ : ∃ a, (E k).toNat = a := ⟨_, rfl⟩
      have ca : wr.cell? ⟨w.heap.size, k, none⟩ = some (.int .u8 a) := by rw [hH.c0, u8s_get _ _ _ (by omega), ha]
      have hr := HMR.out k hlt
      have hab : (a : Int) < 256 := by rw [← ha]; have := (E k).toNat_lt; omega
      rw [show natF E k = a from ha] at hr
      by_cases e : a = k
      · have hrt : isRep (natF E) k = true := by rw [hr]; exact decide_eq_true e
        have HE2 := hid (cntR_yes hrt)
        have HTx := hid (show toldL (natF E) N (cntR (natF E) k) = clsL (natF E) N k by unfold toldL; rw [repOf_cnt hlt hrt])
        clear hr hrt ha
        subst e
        obtain ⟨xs, X, p, q, hLx⟩ := HP.out
        have HLx := hid hLx
        obtain ⟨L3, hL3⟩ : ∃ L, cntR (natF E) a = L := ⟨_, rfl⟩
        rw [hL3] at HLx HE2 HTx hcle
        clear hLx HP hL3
        go_wp2_with (first | fail | (refine wpL_loadFull rfl rfl rfl rowDi hH.h0 (u8s_size _ _) ?_) | (go_at_call 104; refine (setWith_any N a E _ h10 hlt).mono ?_; rintro e w3 ⟨v3, rfl, hb, hO⟩; obtain ⟨a0, c0, rfl⟩ := (IL.of_own hO).form; have HI := hid (IL.of_own hO); have HB := hid hb; have HOw := hid (own_kept HLx.out.own hb.block); have hs3 := hb.size; replace hH := hH.call' hb; clear hb hO) | (refine wpL_appS (v := u5) (n := L3) (base := w.heap.size + 1) (xs := xs) (p := a0) (l := (clsL (natF E) N a).length) (k := c0) rfl (by rfl) (by rfl) (by rfl) (World.ownsRow.alloc HOw.out _) (by simp) (by omega) (by simp; omega) ?_; intro r cap w2 how hgr hor hlt3; have HP3 := hid (HLx.out.push (by omega) HB.out (by rw [HTx.out]; exact HI.out) how hgr hor); replace hH := (hH.alloc (.cells #[.slice a0 (clsL (natF E) N a).length c0] 36)).grown hgr (fun x hx => by have := (World.ownsRow.lt HLx.out.own x hx).1; simp; omega); clear how hgr hor hlt3))
        go_roundw
        case rel => exact ⟨a + 1, by omega, by go_num, hH, by rw [HE2.out]; exact HP3⟩
        case measure => simp [intOf]; omega
      · have e' : ¬ (a : Int) = (k : Int) := by omega
        have HE2 := hid (cntR_no (C := natF E) (x := k) (by rw [hr]; exact decide_eq_false e))
        clear hr ha
        go_wp2
        go_roundw
        case rel => exact ⟨k + 1, by omega, by go_num, hH, by rw [HE2.out]; exact HP⟩
        case measure => simp [intOf]; omega
    · obtain rfl : k = N := by omega
      go_wp2
      go_ret
      exact ⟨_, rfl, hH.below, HP.out.lower (by omega)⟩
theorem builtQ1 (z : Int) : (Try.prog).builtSlice 2 1 [(0, Value.int .i64 z)] = some #[.int .i64 z] := by kernel_rfl
section
variable {ops : Array Oper} {rest : List Oper} {o : Oper} {a : Act} {w : World} {Q : Exit → Act → World → Prop}
theorem wpL_slice1Q {p : Operand} {x : Int} (hgd : o.guard = none) (ho : o.op = .buildSlice 36 1 #[(0, p)]) (hx : a.eval p = .int .i64 x)
    (h : wpList Try.prog ops Q rest (a.put o.dst (.slice (some ⟨w.heap.size, 0, none⟩) 1 1)) (w.alloc (.cells #[.int .i64 x] 2))) : wpList Try.prog ops Q (o :: rest) a w := by
  refine Great.wpList_buildSliceTo hgd 36 2 1 _ ho _ rfl o.dst rfl Try.underlying36 #[.int .i64 x] ?_ h
  have hp : ((#[(0, p)] : Array (Nat × Operand)).map fun (i, x) => (i, a.eval x)).toList = [(0, Value.int .i64 x)] := by simp [hx]
  rw [hp]
  exact builtQ1 x
end
theorem nin_one {w : World} {b q : Nat} (h : holds w b #[.int .i64 (q : Nat)] 2) : NIn w (.slice (some ⟨b, 0, none⟩) 1 1) 1 (fun _ => ((q : Nat) : Int)) :=
  .inr ⟨⟨b, 0, none⟩, 1, rfl, fun i hi => by
    obtain rfl : i = 0 := by omega
    show w.cell? ⟨b, 0, none⟩ = _
    rw [holds_cell h]; rfl⟩
structure QV2 where
  b : Nat
  C : Nat → Nat
  v : Value
set_option maxRecDepth 20000 in
set_option maxHeartbeats 2000000 in
theorem specCongruenceOf_no (o : Int) (g : Nat → UInt8) (p q : UInt8) (w : World) (hs : sqB o g = false) :
    Calls Try.prog 15 #[.agg (sqc o g), .int .u8 p.toNat, .int .u8 q.toNat] w fun e w' => e = .returned (.tuple #[.slice none 0 0, .int .i64 1]) ∧ Below w.heap.size w w' := by
  have hH := Has.start1 w (sqc o g) 31
  go_enter Try.func15, Try.ntmps15
  go_wp2_with (first | fail | (refine wpL_loadFull rfl rfl rfl rowSq hH.h0 (sqc_size _ _) ?_) | (go_at_call 52; refine (l01Is_any o g _).mono ?_; rintro e w2 ⟨rfl, hb⟩; replace hH := hH.call' hb; rw [hs]))
  go_ret2
  exact ⟨rfl, hH.below⟩
set_option maxRecDepth 20000 in
set_option maxHeartbeats 2000000 in
theorem specCongruenceOf_far (N : Nat) (g : Nat → UInt8) (p q : UInt8) (w : World) (hs : sqB (N : Int) g = true) (h : N ≤ p.toNat ∨ N ≤ q.toNat) :
    Calls Try.prog 15 #[.agg (sqc N g), .int .u8 p.toNat, .int .u8 q.toNat] w fun e w' => e = .returned (.tuple #[.slice none 0 0, .int .i64 2]) ∧ Below w.heap.size w w' := by
  have hH := Has.start1 w (sqc N g) 31
  have bp := u8_bd p
  have bq := u8_bd q
  by_cases hp : N ≤ p.toNat
  · have hp' : (N : Int) ≤ (p.toNat : Int) := by omega
    go_enter Try.func15, Try.ntmps15
    go_wp2_with (first | fail | (refine wpL_guard rfl rfl ?_) | (refine wpL_loadFull rfl rfl rfl rowSq hH.h0 (sqc_size _ _) ?_) | (go_at_call 52; refine (l01Is_any N g _).mono ?_; rintro e w2 ⟨rfl, hb⟩; replace hH := hH.call' hb; clear hb; rw [hs]; have c0 := hH.c0 0; rw [sqc_get0] at c0))
    go_ret2
    exact ⟨rfl, hH.below⟩
  · have hp' : ¬ (N : Int) ≤ (p.toNat : Int) := by omega
    have hq' : (N : Int) ≤ (q.toNat : Int) := by omega
    go_enter Try.func15, Try.ntmps15
    go_wp2_with (first | fail | (refine wpL_guard rfl rfl ?_) | (refine wpL_loadFull rfl rfl rfl rowSq hH.h0 (sqc_size _ _) ?_) | (go_at_call 52; refine (l01Is_any N g _).mono ?_; rintro e w2 ⟨rfl, hb⟩; replace hH := hH.call' hb; clear hb; rw [hs]; have c0 := hH.c0 0; rw [sqc_get0] at c0))
    go_ret2
    exact ⟨rfl, hH.below⟩
set_option maxRecDepth 100000 in
set_option maxHeartbeats 4000000 in
theorem specCongruenceOf_in (N : Nat) (g : Nat → UInt8) (p q : UInt8) (w : World) (hs : sqB (N : Int) g = true) (hq : IsSq N g) (hp : p.toNat < N) (hqq : q.toNat < N) :
    Calls Try.prog 15 #[.agg (sqc N g), .int .u8 p.toNat, .int .u8 q.toNat] w (GotLL (cntR (natF (cgD N (N + N) (mapF (rcF g N)) (StI p.toNat (fun _ => q.toNat) 1))) N) (toldL (natF (cgD N (N + N) (mapF (rcF g N)) (StI p.toNat (fun _ => q.toNat) 1))) N) 0 w) := by
  have h1 := hq.lo
  have h10 := hq.hi
  have HQ := hid hq
  have HSM := hid (fun (C : Nat → Nat) (hC : ∀ x y, x < N → y < N → (C x = C y ↔ Cgr N (N + N) (mapF (rcF g N)) (StI p.toNat (fun _ => q.toNat) 1) x y)) => (show ∀ x y, x < N → y < N → (C x = C y ↔ natF (cgD N (N + N) (mapF (rcF g N)) (StI p.toNat (fun _ => q.toNat) 1)) x = natF (cgD N (N + N) (mapF (rcF g N)) (StI p.toNat (fun _ => q.toNat) 1)) y) from fun x y hx hy => (hC x y hx hy).trans (cgD_eq h10 hx hy).symm))
  have hp' : ¬ (N : Int) ≤ (p.toNat : Int) := by omega
  have hq' : ¬ (N : Int) ≤ (q.toNat : Int) := by omega
  have bp := u8_bd p
  have bq := u8_bd q
  have HL2 : Hid (∀ r, r ∈ [(p.toNat, q.toNat)] → r.1 < N ∧ r.2 < N) := hid (fun r hr => by rw [List.mem_singleton] at hr; subst hr; exact ⟨hp, hqq⟩)
  have HST : Hid (∀ a b, StI p.toNat (fun _ => q.toNat) 1 a b ↔ (a, b) ∈ [(p.toNat, q.toNat)]) := hid (fun a b => startL_mem)
  clear hq
  obtain ⟨J, hJ⟩ : ∃ J, StI p.toNat (fun _ => q.toNat) 1 = J := ⟨_, rfl⟩
  rw [hJ] at HSM HST ⊢
  clear hJ
  have hH := Has.start1 w (sqc N g) 31
  obtain ⟨S, hS⟩ : ∃ S, w.heap.size + 1 = S := ⟨_, rfl⟩
  have HS := hid hS
  go_enter Try.func15, Try.ntmps15
  go_wp2_with (first | fail | (refine wpL_guard rfl rfl ?_) | (refine wpL_loadFull rfl rfl rfl rowSq hH.h0 (sqc_size _ _) ?_) | (go_at_call 52; refine (l01Is_any N g _).mono ?_; rintro e w2 ⟨rfl, hb⟩; replace hH := hH.call' hb; clear hb; rw [hs]; have c0 := hH.c0 0; rw [sqc_get0] at c0))
  try clear c0
  refine wp_region_frame (X := QV2) (fun d x => [(25, bif d 0 then .agg (sqc N g) else undef), (26, bif d 1 then .int .u8 p.toNat else undef), (27, bif d 2 then .int .i64 p.toNat else undef), (28, bif d 3 then .int .u8 q.toNat else undef), (29, bif d 4 then .int .i64 q.toNat else undef), (30, bif d 5 then .agg #[.int .i64 (p.toNat : Nat), .int .i64 (q.toNat : Nat)] else undef), (31, bif d 6 then .slice (some ⟨x.b, 0, none⟩) 1 1 else undef), (32, bif d 7 then .agg (zns 10 x.C) else undef), (33, bif d 8 then .pointer (some ⟨w.heap.size, 0, none⟩) else undef), (34, bif d 9 then .int .i64 N else undef), (35, bif d 10 then x.v else undef), (6, bif d 11 then x.v else .slice none 0 0), (7, bif d 12 then .int .i64 0 else .int .i64 0)])
    (fun d x w' => Has w w' [(sqc N g, 31)] ∧ (d 6 = true → (d 7 = false → Hid (OQ w' S (.slice (some ⟨x.b, 0, none⟩) 1 1) [(p.toNat, q.toNat)]))) ∧ (d 7 = true → Hid (∀ a b, a < N → b < N → (x.C a = x.C b ↔ Cgr N (N + N) (mapF (rcF g N)) J a b))) ∧ (d 10 = true → Hid (LP w' S x.v (cntR x.C N) (toldL x.C N))) ∧ (d 7 = true → d 6 = true) ∧ (d 7 = true → d 0 = true) ∧ (d 10 = true → d 7 = true) ∧ (d 11 = true → d 10 = true)) (by kernel_rfl) (by kernel_rfl) ?h0_sc ?hs_sc ?hq_sc
  case h0_sc => exact ⟨⟨0, fun _ => 0, .bool false⟩, (by simp [lput]), hH.drew, (fun h => by cases h), (fun h => by cases h), (fun h => by cases h), (fun h => by cases h), (fun h => by cases h), (fun h => by cases h), (fun h => by cases h)⟩
  case hs_sc =>
    refine ⟨?_, ?_, ?_, ?_, ?_, ?_, ?_, ?_, ?_, ?_, ?_, ?_, ?_, trivial⟩
    all_goals
      clear hH
      intro d x w1 hd hn hJ
      simp only [needs, Region.binds, reduceCtorEq, Bool.false_eq_true, false_implies, true_and, and_true, true_implies, forall_const] at hn
      simp only [lput, List.set, hn, cond_true]
      obtain ⟨hH, hB, hC, hV, I7_6, I7_0, I10_7, I11_10⟩ := hJ
      (try have hB_ := hB (by simp only [hn]))
      (try have hC_ := hC (by simp only [hn]))
      (try have hV_ := hV (by simp only [hn]))
      have c0 := hH.c0 0
      rw [sqc_get0] at c0
      have zz := hH.size
      simp only [List.length_cons, List.length_nil] at zz
      go_wp2_with (first | fail | (refine wpL_loadFull rfl rfl rfl rowSq hH.h0 (sqc_size _ _) ?_) | (refine wpL_build2Z (x := (p.toNat : Nat)) (y := (q.toNat : Nat)) rfl rfl (by rfl) (by rfl) ?_) | (refine wpL_sliceZ1 (x := (p.toNat : Nat)) (y := (q.toNat : Nat)) rfl (by rfl) (by rfl) ?_; have z7 := imp_no I7_6 hd; have z10 := imp_no I10_7 z7; have z11 := imp_no I11_10 z10; have HOne := hid (OQ.one w1 (B := S) p.toNat q.toNat (by omega) rfl)) | (go_at_call 54; have z10 := imp_no I10_7 hd; have z11 := imp_no I11_10 z10; refine (l06Classes_any N S g J [(p.toNat, q.toNat)] _ _ HQ.out HL2.out HST.out (by simp) (by omega) (hB_ hd).out).mono ?_; rintro e w3 ⟨C, rfl, hC3, hb⟩; have HC3 := hid hC3; replace hH := hH.call hb (by simp; omega); clear hC3 hb) | (go_at_call 53; have z11 := imp_no I11_10 hd; refine (l06Told_any N x.C _ h1 h10).mono ?_; rintro e w3 ⟨v3, rfl, hb, hLP⟩; have HLP := hid (hLP.lower (B' := S) (by omega)); replace hH := hH.call' hb; clear hb hLP))
      first
        | (refine ⟨{ x with b := w1.heap.size }, ?_, hH.alloc _, (fun _ _ => HOne), (fun e => by simp [done, z7] at e), (fun e => by simp [done, z10] at e), (by intro e; simp [done]), (by intro e; simp [done, z7] at e), (by intro e; simp [done, z10] at e), (by intro e; simp [done, z11] at e)⟩; (simp [lput, done, hn, hp, hqq, z7, z10, z11]; done))
        | (refine ⟨{ x with C := C }, ?_, hH, (fun _ f => by simp [done] at f), (fun _ => HC3), (fun e => by simp [done, z10] at e), (by intro e; simp [done, hn]), (by intro e; simp [done, hn]), (by intro e; simp [done]), (by intro e; simp [done, z11] at e)⟩; (simp [lput, done, hn, hp, hqq, z10, z11]; done))
        | (have y7 : d 7 = true := (by simp only [hn]); have y6 := I7_6 y7; have y0 := I7_0 y7; refine ⟨{ x with v := v3 }, ?_, hH, (fun _ f => by simp [done, y7] at f), (fun e => hC (done_ne e (by decide))), (fun _ => HLP), (by intro e; simp [done, y6]), (by intro e; simp [done, y0]), (by intro e; simp [done, y7]), (by intro e; simp [done])⟩; (first | (simp [lput, done, hn, hp, hqq, z11, y0, y6, y7]; done) | (simp [lput, done, hn, hp, hqq, z11]; done)))
        | (have y10 : d 10 = true := (by simp only [hn]); have y7 := I10_7 y10; have y6 := I7_6 y7; have y0 := I7_0 y7; refine ⟨x, ?_, hH, (fun e f => by simp [done, y7] at f), (fun e => hC (done_ne e (by decide))), (fun e => hV (done_ne e (by decide))), (by intro e; simp [done, y6]), (by intro e; simp [done, y0]), (by intro e; simp [done, y7]), (by intro e; simp [done, y10])⟩; (simp [lput, done, hn, hp, hqq, y0, y6, y7, y10]; done))
        | (refine ⟨x, ?_, hH, (fun e f => hB (done_ne e (by decide)) (done_no f)), (fun e => hC (done_ne e (by decide))), (fun e => hV (done_ne e (by decide))), (by intro e; first | (simp [done]; done) | (have e2 := I7_6 (done_ne e (by decide)); simp [done, e2]; done) | (simp [done, hn]; done)), (by intro e; first | (simp [done]; done) | (have e2 := I7_0 (done_ne e (by decide)); simp [done, e2]; done) | (simp [done, hn]; done)), (by intro e; first | (simp [done]; done) | (have e2 := I10_7 (done_ne e (by decide)); simp [done, e2]; done) | (simp [done, hn]; done)), (by intro e; first | (simp [done]; done) | (have e2 := I11_10 (done_ne e (by decide)); simp [done, e2]; done) | (simp [done, hn]; done))⟩; (simp [lput, done, hn, hp, hqq]; done))
        | (refine ⟨x, ?_, hH, (fun e => hB (done_ne e (by decide))), (fun e => hC (done_ne e (by decide))), (fun e => hV (done_ne e (by decide))), (by intro e; first | (simp [done]; done) | (have e2 := I7_6 (done_ne e (by decide)); simp [done, e2]; done) | (simp [done, hn]; done)), (by intro e; first | (simp [done]; done) | (have e2 := I7_0 (done_ne e (by decide)); simp [done, e2]; done) | (simp [done, hn]; done)), (by intro e; first | (simp [done]; done) | (have e2 := I10_7 (done_ne e (by decide)); simp [done, e2]; done) | (simp [done, hn]; done)), (by intro e; first | (simp [done]; done) | (have e2 := I11_10 (done_ne e (by decide)); simp [done, e2]; done) | (simp [done, hn]; done))⟩; (simp [lput, done, hn, hp, hqq]; done))
        | (refine ⟨?_, hH, (fun e => hB (done_ne e (by decide))), (fun e => hC (done_ne e (by decide))), (fun e => hV (done_ne e (by decide))), (by intro e; first | (simp [done]; done) | (have e2 := I7_6 (done_ne e (by decide)); simp [done, e2]; done) | (simp [done, hn]; done)), (by intro e; first | (simp [done]; done) | (have e2 := I7_0 (done_ne e (by decide)); simp [done, e2]; done) | (simp [done, hn]; done)), (by intro e; first | (simp [done]; done) | (have e2 := I10_7 (done_ne e (by decide)); simp [done, e2]; done) | (simp [done, hn]; done)), (by intro e; first | (simp [done]; done) | (have e2 := I11_10 (done_ne e (by decide)); simp [done, e2]; done) | (simp [done, hn]; done))⟩; (simp [lput, done, hn, hp, hqq]; done))
        | (refine ⟨x, ?_, hH, (fun e => hB (done_ne e (by decide))), (fun e => hC (done_ne e (by decide))), (fun e => hV (done_ne e (by decide))), (by intro e; first | (simp [done]; done) | (have e2 := I7_6 (done_ne e (by decide)); simp [done, e2]; done) | (simp [done, hn]; done)), (by intro e; first | (simp [done]; done) | (have e2 := I7_0 (done_ne e (by decide)); simp [done, e2]; done) | (simp [done, hn]; done)), (by intro e; first | (simp [done]; done) | (have e2 := I10_7 (done_ne e (by decide)); simp [done, e2]; done) | (simp [done, hn]; done)), (by intro e; first | (simp [done]; done) | (have e2 := I11_10 (done_ne e (by decide)); simp [done, e2]; done) | (simp [done, hn]; done))⟩; (simp [lput, done, hn, hp, hqq]; rfl))
        | (refine ⟨?_, hH, (fun e => hB (done_ne e (by decide))), (fun e => hC (done_ne e (by decide))), (fun e => hV (done_ne e (by decide))), (by intro e; first | (simp [done]; done) | (have e2 := I7_6 (done_ne e (by decide)); simp [done, e2]; done) | (simp [done, hn]; done)), (by intro e; first | (simp [done]; done) | (have e2 := I7_0 (done_ne e (by decide)); simp [done, e2]; done) | (simp [done, hn]; done)), (by intro e; first | (simp [done]; done) | (have e2 := I10_7 (done_ne e (by decide)); simp [done, e2]; done) | (simp [done, hn]; done)), (by intro e; first | (simp [done]; done) | (have e2 := I11_10 (done_ne e (by decide)); simp [done, e2]; done) | (simp [done, hn]; done))⟩; (simp [lput, done, hn, hp, hqq]; rfl))
        | (refine ⟨x, ?_, hH, (fun e => hB (done_ne e (by decide))), (fun e => hC (done_ne e (by decide))), (fun e => hV (done_ne e (by decide))), (by intro e; first | (simp [done]; done) | (have e2 := I7_6 (done_ne e (by decide)); simp [done, e2]; done) | (simp [done, hn]; done)), (by intro e; first | (simp [done]; done) | (have e2 := I7_0 (done_ne e (by decide)); simp [done, e2]; done) | (simp [done, hn]; done)), (by intro e; first | (simp [done]; done) | (have e2 := I10_7 (done_ne e (by decide)); simp [done, e2]; done) | (simp [done, hn]; done)), (by intro e; first | (simp [done]; done) | (have e2 := I11_10 (done_ne e (by decide)); simp [done, e2]; done) | (simp [done, hn]; done))⟩; (simp [lput, done, hp, hqq]; done))
        | (refine ⟨?_, hH, (fun e => hB (done_ne e (by decide))), (fun e => hC (done_ne e (by decide))), (fun e => hV (done_ne e (by decide))), (by intro e; first | (simp [done]; done) | (have e2 := I7_6 (done_ne e (by decide)); simp [done, e2]; done) | (simp [done, hn]; done)), (by intro e; first | (simp [done]; done) | (have e2 := I7_0 (done_ne e (by decide)); simp [done, e2]; done) | (simp [done, hn]; done)), (by intro e; first | (simp [done]; done) | (have e2 := I10_7 (done_ne e (by decide)); simp [done, e2]; done) | (simp [done, hn]; done)), (by intro e; first | (simp [done]; done) | (have e2 := I11_10 (done_ne e (by decide)); simp [done, e2]; done) | (simp [done, hn]; done))⟩; (simp [lput, done, hp, hqq]; done))
        | (refine ⟨x, ?_, hH, (fun e => hB (done_ne e (by decide))), (fun e => hC (done_ne e (by decide))), (fun e => hV (done_ne e (by decide))), (by intro e; first | (simp [done]; done) | (have e2 := I7_6 (done_ne e (by decide)); simp [done, e2]; done) | (simp [done, hn]; done)), (by intro e; first | (simp [done]; done) | (have e2 := I7_0 (done_ne e (by decide)); simp [done, e2]; done) | (simp [done, hn]; done)), (by intro e; first | (simp [done]; done) | (have e2 := I10_7 (done_ne e (by decide)); simp [done, e2]; done) | (simp [done, hn]; done)), (by intro e; first | (simp [done]; done) | (have e2 := I11_10 (done_ne e (by decide)); simp [done, e2]; done) | (simp [done, hn]; done))⟩; (simp [lput, done, hp, hqq]; rfl))
        | (refine ⟨?_, hH, (fun e => hB (done_ne e (by decide))), (fun e => hC (done_ne e (by decide))), (fun e => hV (done_ne e (by decide))), (by intro e; first | (simp [done]; done) | (have e2 := I7_6 (done_ne e (by decide)); simp [done, e2]; done) | (simp [done, hn]; done)), (by intro e; first | (simp [done]; done) | (have e2 := I7_0 (done_ne e (by decide)); simp [done, e2]; done) | (simp [done, hn]; done)), (by intro e; first | (simp [done]; done) | (have e2 := I10_7 (done_ne e (by decide)); simp [done, e2]; done) | (simp [done, hn]; done)), (by intro e; first | (simp [done]; done) | (have e2 := I11_10 (done_ne e (by decide)); simp [done, e2]; done) | (simp [done, hn]; done))⟩; (simp [lput, done, hp, hqq]; rfl))
  case hq_sc =>
    clear hH
    intro d x w1 hd hJ
    simp only [allDone, List.length_cons, List.length_nil, Nat.reduceAdd, and_true] at hd
    obtain ⟨hH, hB, hC, hV, I7_6, I7_0, I10_7, I11_10⟩ := hJ
    replace hB := hB (by simp only [hd])
    replace hC := hC (by simp only [hd])
    replace hV := hV (by simp only [hd])
    clear I7_6
    clear I7_0
    clear I10_7
    clear I11_10
    simp only [lput, List.set, hd, cond_true]
    clear hd
    have HH := HSM.out x.C hC.out
    go_wp2
    go_ret2
    have := (hV.out.congr (l' := toldL (natF (cgD N (N + N) (mapF (rcF g N)) J)) N) (fun j _ => (toldL_same HH (by omega) j).symm)).got hH.below (by have := HS.out; omega)
    rw [cntR_same HH] at this
    exact this
set_option maxRecDepth 20000 in
set_option maxHeartbeats 1000000 in
theorem implCongruenceOf_no (o : Int) (g : Nat → UInt8) (p q : UInt8) (w : World) (hs : sqB o g = false) :
    Calls Try.prog 17 #[.agg (sqc o g), .int .u8 p.toNat, .int .u8 q.toNat] w fun e w' => e = .returned (.tuple #[.slice none 0 0, .int .i64 1]) ∧ Below w.heap.size w w' := by
  have hH := Has.start2 w (sqc o g) (u8s 2 (pairF p q)) 31 5
  have h0 := Has.start1 w (sqc o g) 31
  go_enter Try.func17, Try.ntmps17
  go_wp2_with (first | fail | (refine wpL_loadFull rfl rfl rfl rowSq h0.h0 (sqc_size _ _) ?_) | (refine wpL_slice2 (x := p) (y := q) rfl rfl rfl rfl ?_) | (go_at_call 56; refine (elementCode_no o g 2 _ _ hs).mono ?_; rintro e w2 ⟨rfl, hb⟩; replace hH := hH.call' hb))
  go_ret2
  exact ⟨rfl, hH.below⟩
set_option maxRecDepth 20000 in
set_option maxHeartbeats 1000000 in
theorem implCongruenceOf_far (N : Nat) (g : Nat → UInt8) (p q : UInt8) (w : World) (hs : sqB (N : Int) g = true) (h : N ≤ p.toNat ∨ N ≤ q.toNat) :
    Calls Try.prog 17 #[.agg (sqc N g), .int .u8 p.toNat, .int .u8 q.toNat] w fun e w' => e = .returned (.tuple #[.slice none 0 0, .int .i64 2]) ∧ Below w.heap.size w w' := by
  obtain ⟨k0, hf⟩ := pairF_far h
  have HF := hid hf; clear hf h
  have hH := Has.start2 w (sqc N g) (u8s 2 (pairF p q)) 31 5
  have h0 := Has.start1 w (sqc N g) 31
  go_enter Try.func17, Try.ntmps17
  go_wp2_with (first | fail | (refine wpL_loadFull rfl rfl rfl rowSq h0.h0 (sqc_size _ _) ?_) | (refine wpL_slice2 (x := p) (y := q) rfl rfl rfl rfl ?_) | (go_at_call 56; refine (elementCode_far N g (pairF p q) 2 _ k0 _ (by omega) hs hH.h1 HF.out).mono ?_; rintro e w2 ⟨rfl, hb⟩; replace hH := hH.call' hb))
  go_ret2
  exact ⟨rfl, hH.below⟩
set_option maxRecDepth 100000 in
set_option maxHeartbeats 4000000 in
theorem implCongruenceOf_in (N : Nat) (g : Nat → UInt8) (p q : UInt8) (w : World) (hs : sqB (N : Int) g = true) (hq : IsSq N g) (hp : p.toNat < N) (hqq : q.toNat < N) :
    Calls Try.prog 17 #[.agg (sqc N g), .int .u8 p.toNat, .int .u8 q.toNat] w (GotLL (cntR (natF (cgD N (N + N) (mapF (rcF g N)) (StI p.toNat (fun _ => q.toNat) 1))) N) (toldL (natF (cgD N (N + N) (mapF (rcF g N)) (StI p.toNat (fun _ => q.toNat) 1))) N) 0 w) := by
  have h1 := hq.lo
  have h10 := hq.hi
  have HQ := hid hq
  have HF := hid (pairF_lt hp hqq)
  have HMI := hid (cgD_min (m := N + N) (M := mapF (rcF g N)) (I := StI p.toNat (fun _ => q.toNat) 1) h10)
  have bp := u8_bd p
  have bq := u8_bd q
  clear hq
  have hH := Has.start2 w (sqc N g) (u8s 2 (pairF p q)) 31 5
  have h0 := Has.start1 w (sqc N g) 31
  obtain ⟨E, hE⟩ : ∃ E, cgD N (N + N) (mapF (rcF g N)) (StI p.toNat (fun _ => q.toNat) 1) = E := ⟨_, rfl⟩
  have HE := hid hE
  rw [hE] at HMI ⊢
  clear hE
  go_enter Try.func17, Try.ntmps17
  go_wp2_with (first | fail | (refine wpL_loadFull rfl rfl rfl rowSq h0.h0 (sqc_size _ _) ?_) | (refine wpL_slice2 (x := p) (y := q) rfl rfl rfl rfl ?_) | (go_at_call 56; refine (elementCode_in N g (pairF p q) 2 _ _ (by omega) hs hH.h1 HF.out).mono ?_; rintro e w2 ⟨rfl, hb⟩; replace hH := hH.call' hb; clear hb h0))
  refine wp_region_frame (X := QV2) (fun d x => [(17, bif d 0 then .agg (sqc N g) else undef), (18, bif d 1 then .int .u8 p.toNat else undef), (19, bif d 2 then .int .i64 p.toNat else undef), (20, bif d 3 then .int .u8 q.toNat else undef), (21, bif d 4 then .int .i64 q.toNat else undef), (22, bif d 5 then .slice (some ⟨x.b, 0, none⟩) 1 1 else undef), (23, bif d 6 then .agg (u8s 10 E) else undef), (24, bif d 7 then .pointer (some ⟨w.heap.size, 0, none⟩) else undef), (25, bif d 8 then .int .i64 N else undef), (26, bif d 9 then x.v else undef), (6, bif d 10 then x.v else .slice none 0 0), (7, bif d 11 then .int .i64 0 else .int .i64 0)])
    (fun d x w' => Has w w' [(sqc N g, 31), (u8s 2 (pairF p q), 5)] ∧ (d 5 = true → holds w' x.b #[.int .i64 (q.toNat : Nat)] 2) ∧ (d 9 = true → Hid (LP w' (w.heap.size + 2) x.v (cntR (natF E) N) (toldL (natF E) N))) ∧ (d 6 = true → d 5 = true) ∧ (d 9 = true → d 6 = true) ∧ (d 10 = true → d 9 = true)) (by kernel_rfl) (by kernel_rfl) ?h0_pc ?hs_pc ?hq_pc
  case h0_pc => exact ⟨⟨0, fun _ => 0, .bool false⟩, (by simp [lput]), hH.drew, (fun h => by cases h), (fun h => by cases h), (fun h => by cases h), (fun h => by cases h), (fun h => by cases h)⟩
  case hs_pc =>
    refine ⟨?_, ?_, ?_, ?_, ?_, ?_, ?_, ?_, ?_, ?_, ?_, ?_, trivial⟩
    all_goals
      clear hH
      intro d x w1 hd hn hJ
      simp only [needs, Region.binds, reduceCtorEq, Bool.false_eq_true, false_implies, true_and, and_true, true_implies, forall_const] at hn
      simp only [lput, List.set, hn, cond_true]
      obtain ⟨hH, hB, hV, I6_5, I9_6, I10_9⟩ := hJ
      (try have hB_ := hB (by simp only [hn]))
      (try have hV_ := hV (by simp only [hn]))
      have c0 := hH.c0 0
      rw [sqc_get0] at c0
      have zz := hH.size
      simp only [List.length_cons, List.length_nil] at zz
      go_wp2_with (first | fail | (refine wpL_loadFull rfl rfl rfl rowSq hH.h0 (sqc_size _ _) ?_) | (refine wpL_slice1Q (x := (q.toNat : Nat)) rfl (by rfl) (by rfl) ?_; have z6 := imp_no I6_5 hd; have z9 := imp_no I9_6 z6; have HBN := hid (holds_new w1 #[.int .i64 ((q.toNat : Nat) : Int)] 2)) | (go_at_call 57; have z9 := imp_no I9_6 hd; refine (congruenceOf_any N p.toNat 1 1 g (some ⟨x.b, 0, none⟩) (fun _ => q.toNat) _ HQ.out (nin_one hB_) hp (fun i _ => hqq) (by omega)).mono ?_; rintro e w3 ⟨rfl, hb⟩; rw [HE.out]; replace hH := hH.call' hb; replace hB := fun e => holds_below (hB e) hb (holds_lt (hB e)); clear hb) | (go_at_call 58; have z10 := imp_no I10_9 hd; refine (sets_any N E _ h1 h10 HMI.out).mono ?_; rintro e w3 ⟨v3, rfl, hb, hLP⟩; have HLP := hid (hLP.lower (B' := w.heap.size + 2) (by omega)); replace hH := hH.call' hb; replace hB := fun e => holds_below (hB e) hb (holds_lt (hB e)); clear hb hLP))
      first
        | (refine ⟨{ x with b := w1.heap.size }, ?_, hH.alloc _, (fun _ => HBN.out), (fun e => by simp [done, z9] at e), (by intro e; simp [done]), (by intro e; simp [done, z9] at e), (by intro e; first | (simp [done]; done) | (have e2 := I10_9 (done_ne e (by decide)); simp [done, e2]; done))⟩; (simp [lput, done, hn, z6, z9, imp_no I10_9 z9]; done))
        | (refine ⟨x, ?_, hH, (fun e => hB (done_ne e (by decide))), (fun e => by simp [done, z9] at e), (by intro e; simp [done, hn]), (by intro e; simp [done]), (by intro e; have z10 := imp_no I10_9 z9; simp [done, z10] at e)⟩; (simp [lput, done, hn, z9]; done))
        | (have y6 : d 6 = true := (by simp only [hn]); have y5 := I6_5 y6; refine ⟨{ x with v := v3 }, ?_, hH, (fun e => hB (done_ne e (by decide))), (fun _ => HLP), (by intro e; simp [done, y5]), (by intro e; simp [done, y6]), (by intro e; simp [done])⟩; (first | (simp [lput, done, hn, z10, y5, y6]; done) | (simp [lput, done, hn, z10]; done)))
        | (have y9 : d 9 = true := (by simp only [hn]); have y6 := I9_6 y9; have y5 := I6_5 y6; refine ⟨x, ?_, hH, (fun e => hB (done_ne e (by decide))), (fun e => hV (done_ne e (by decide))), (by intro e; simp [done, y5]), (by intro e; simp [done, y6]), (by intro e; simp [done, y9])⟩; (simp [lput, done, hn, y5, y6, y9]; done))
        | (refine ⟨x, ?_, hH, (fun e => hB (done_ne e (by decide))), (fun e => hV (done_ne e (by decide))), (by intro e; first | (simp [done]; done) | (have e2 := I6_5 (done_ne e (by decide)); simp [done, e2]; done) | (simp [done, hn]; done)), (by intro e; first | (simp [done]; done) | (have e2 := I9_6 (done_ne e (by decide)); simp [done, e2]; done) | (simp [done, hn]; done)), (by intro e; first | (simp [done]; done) | (have e2 := I10_9 (done_ne e (by decide)); simp [done, e2]; done) | (simp [done, hn]; done))⟩; (simp [lput, done, hn]; done))
        | (refine ⟨?_, hH, (fun e => hB (done_ne e (by decide))), (fun e => hV (done_ne e (by decide))), (by intro e; first | (simp [done]; done) | (have e2 := I6_5 (done_ne e (by decide)); simp [done, e2]; done) | (simp [done, hn]; done)), (by intro e; first | (simp [done]; done) | (have e2 := I9_6 (done_ne e (by decide)); simp [done, e2]; done) | (simp [done, hn]; done)), (by intro e; first | (simp [done]; done) | (have e2 := I10_9 (done_ne e (by decide)); simp [done, e2]; done) | (simp [done, hn]; done))⟩; (simp [lput, done, hn]; done))
        | (refine ⟨x, ?_, hH, (fun e => hB (done_ne e (by decide))), (fun e => hV (done_ne e (by decide))), (by intro e; first | (simp [done]; done) | (have e2 := I6_5 (done_ne e (by decide)); simp [done, e2]; done) | (simp [done, hn]; done)), (by intro e; first | (simp [done]; done) | (have e2 := I9_6 (done_ne e (by decide)); simp [done, e2]; done) | (simp [done, hn]; done)), (by intro e; first | (simp [done]; done) | (have e2 := I10_9 (done_ne e (by decide)); simp [done, e2]; done) | (simp [done, hn]; done))⟩; (simp [lput, done, hn]; rfl))
        | (refine ⟨?_, hH, (fun e => hB (done_ne e (by decide))), (fun e => hV (done_ne e (by decide))), (by intro e; first | (simp [done]; done) | (have e2 := I6_5 (done_ne e (by decide)); simp [done, e2]; done) | (simp [done, hn]; done)), (by intro e; first | (simp [done]; done) | (have e2 := I9_6 (done_ne e (by decide)); simp [done, e2]; done) | (simp [done, hn]; done)), (by intro e; first | (simp [done]; done) | (have e2 := I10_9 (done_ne e (by decide)); simp [done, e2]; done) | (simp [done, hn]; done))⟩; (simp [lput, done, hn]; rfl))
        | (refine ⟨x, ?_, hH, (fun e => hB (done_ne e (by decide))), (fun e => hV (done_ne e (by decide))), (by intro e; first | (simp [done]; done) | (have e2 := I6_5 (done_ne e (by decide)); simp [done, e2]; done) | (simp [done, hn]; done)), (by intro e; first | (simp [done]; done) | (have e2 := I9_6 (done_ne e (by decide)); simp [done, e2]; done) | (simp [done, hn]; done)), (by intro e; first | (simp [done]; done) | (have e2 := I10_9 (done_ne e (by decide)); simp [done, e2]; done) | (simp [done, hn]; done))⟩; (simp [lput, done]; done))
        | (refine ⟨?_, hH, (fun e => hB (done_ne e (by decide))), (fun e => hV (done_ne e (by decide))), (by intro e; first | (simp [done]; done) | (have e2 := I6_5 (done_ne e (by decide)); simp [done, e2]; done) | (simp [done, hn]; done)), (by intro e; first | (simp [done]; done) | (have e2 := I9_6 (done_ne e (by decide)); simp [done, e2]; done) | (simp [done, hn]; done)), (by intro e; first | (simp [done]; done) | (have e2 := I10_9 (done_ne e (by decide)); simp [done, e2]; done) | (simp [done, hn]; done))⟩; (simp [lput, done]; done))
        | (refine ⟨x, ?_, hH, (fun e => hB (done_ne e (by decide))), (fun e => hV (done_ne e (by decide))), (by intro e; first | (simp [done]; done) | (have e2 := I6_5 (done_ne e (by decide)); simp [done, e2]; done) | (simp [done, hn]; done)), (by intro e; first | (simp [done]; done) | (have e2 := I9_6 (done_ne e (by decide)); simp [done, e2]; done) | (simp [done, hn]; done)), (by intro e; first | (simp [done]; done) | (have e2 := I10_9 (done_ne e (by decide)); simp [done, e2]; done) | (simp [done, hn]; done))⟩; (simp [lput, done]; rfl))
        | (refine ⟨?_, hH, (fun e => hB (done_ne e (by decide))), (fun e => hV (done_ne e (by decide))), (by intro e; first | (simp [done]; done) | (have e2 := I6_5 (done_ne e (by decide)); simp [done, e2]; done) | (simp [done, hn]; done)), (by intro e; first | (simp [done]; done) | (have e2 := I9_6 (done_ne e (by decide)); simp [done, e2]; done) | (simp [done, hn]; done)), (by intro e; first | (simp [done]; done) | (have e2 := I10_9 (done_ne e (by decide)); simp [done, e2]; done) | (simp [done, hn]; done))⟩; (simp [lput, done]; rfl))
  case hq_pc =>
    clear hH
    intro d x w1 hd hJ
    simp only [allDone, List.length_cons, List.length_nil, Nat.reduceAdd, and_true] at hd
    obtain ⟨hH, hB, hV, I6_5, I9_6, I10_9⟩ := hJ
    replace hB := hB (by simp only [hd])
    replace hV := hV (by simp only [hd])
    clear I6_5
    clear I9_6
    clear I10_9
    simp only [lput, List.set, hd, cond_true]
    clear hd
    go_wp2
    go_ret2
    exact hV.out.got hH.below (by omega)
end Go.Proofs.Ytbdcbmennblcdab
