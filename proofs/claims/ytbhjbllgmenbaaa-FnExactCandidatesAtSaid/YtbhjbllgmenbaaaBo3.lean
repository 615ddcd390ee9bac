/- Proved: what the program's boardOf returns for lists that are a partial square and for others. Conditions: those that each theorem names. -/
import Derived.Test.YtbhjbllgmenbaaaBo2
import Derived.Test.YtbhjbllgmenbaaaSn
namespace Go.Proofs.Ytbhjbllgmenbaaa
set_option linter.unusedVariables false
set_option linter.unusedSimpArgs false
open Go.RowKit
theorem SU.grown {w w' : World} {b n B gB : Nat} {m : Nat → Nat} {f : Nat → Nat → Int} (h : SU w b n m f B) (hg : w.grownBy w' (some gB)) (hx : B ≤ gB) : SU w' b n m f B := by
  obtain ⟨h0, cs, h1, h2, h3⟩ := h
  have hB : ∀ g cs t, g < B → holds w g cs t → holds w' g cs t := fun g cs t hgB hh => (hg.block g (holds_lt hh) (fun e => by have := Option.some.inj e; omega)).trans hh
  refine ⟨h0, cs, hB b cs _ h0 h1, h2, fun i hi => ?_⟩
  obtain ⟨g, hgc, ⟨rc, r1, r2, r3⟩, hl, hgB⟩ := h3 i hi
  exact ⟨g, hgc, ⟨rc, hB g rc _ hgB r1, r2, r3⟩, hl, hgB⟩
theorem SU.alloc' {w : World} {b n B : Nat} {m : Nat → Nat} {f : Nat → Nat → Int} (h : SU w b n m f B) (o : Obj) : SU (w.alloc o) b n m f B := by
  obtain ⟨h0, cs, h1, h2, h3⟩ := h
  refine ⟨h0, cs, holds_alloc h1 o, h2, fun i hi => ?_⟩
  obtain ⟨g, hgc, ⟨rc, r1, r2, r3⟩, hl, hgB⟩ := h3 i hi
  exact ⟨g, hgc, ⟨rc, holds_alloc r1 o, r2, r3⟩, hl, hgB⟩
theorem SU.row {w : World} {b n B : Nat} {m : Nat → Nat} {f : Nat → Nat → Int} (h : SU w b n m f B) (gB : Nat) (cs' : Array Value) (hx : B ≤ gB) : SU (w.setRow gB cs') b n m f B :=
  h.away (x := gB) (fun b c u hb hc => holds_row_other hc hb) hx
theorem SU.cell' {w : World} {b n B x : Nat} {m : Nat → Nat} {f : Nat → Nat → Int} (h : SU w b n m f B) (hx : x < n) : ∃ g, w.cell? ⟨b, x, none⟩ = some (.slice (some ⟨g, 0, none⟩) (m x) (m x)) ∧ Row w g (m x) (f x) ∧ g < B := by
  obtain ⟨h0, cs, h1, h2, h3⟩ := h
  obtain ⟨g, hgc, hr, _, hgB⟩ := h3 x hx
  exact ⟨g, by rw [holds_cell h1]; exact hgc, hr, hgB⟩
theorem okc_lo {n x y : Nat} {f : Nat → Nat → Int} {z : Int} (e : f x y = z) (h1 : ¬ z = -1) (h : z < 0) : ¬ okc n f x y := fun o => by
  unfold okc at o; rw [e] at o; omega
theorem okc_hi {n x y : Nat} {f : Nat → Nat → Int} {z : Int} (e : f x y = z) (h : (n : Int) ≤ z) : ¬ okc n f x y := fun o => by
  unfold okc at o; rw [e] at o; omega
theorem okc_row {n x y : Nat} {f : Nat → Nat → Int} {z : Int} (e : f x y = z) (h1 : ¬ z = -1) (h : ∃ y', y' < y ∧ f x y' = z) : ¬ okc n f x y := fun o => by
  unfold okc at o; rw [e] at o
  obtain ⟨y', h2, h3⟩ := h
  rcases o with o | ⟨_, _, o, _⟩
  · exact h1 o
  · exact o y' h2 h3
theorem okc_col {n x y : Nat} {f : Nat → Nat → Int} {z : Int} (e : f x y = z) (h1 : ¬ z = -1) (h : ∃ x', x' < x ∧ f x' y = z) : ¬ okc n f x y := fun o => by
  unfold okc at o; rw [e] at o
  obtain ⟨x', h2, h3⟩ := h
  rcases o with o | ⟨_, _, _, o⟩
  · exact h1 o
  · exact o x' h2 h3
theorem Has.one {w0 w : World} {c : Array Value × TypeId} {L : List (Array Value × TypeId)} (h : Has w0 w (c :: L)) : Has w0 w [c] :=
  ⟨h.1, by have := h.size; simp only [List.length_cons, List.length_nil] at this ⊢; omega, fun i cs t hi => by
    cases i with
    | zero => exact h.2.2 0 cs t (by simpa using hi)
    | succ i => simp at hi⟩
/-- The cells of an empty board. -/
def bd0 : Array Value := bdc 0 (fun _ => 0) (fun _ => false) (fun _ => false) (fun _ => false)
/-- What is to be known of an empty board. -/
structure Bd0 (Z : Array Value) : Prop where
  z : ZeroIs Try.prog 81 Z
  b : Try.prog.built 81 [] = some Z
  s : Z.size = 401
  o : CellsOk Z 401
theorem bd0_ex : ∃ Z, bd0 = Z ∧ Bd0 Z := ⟨_, rfl, ⟨zeroBd, builtBd, bdc_size _ _ _ _ _, bdc_ok _ _ _ _ _⟩⟩
theorem builtCellB (x y : Int) : Try.prog.built 87 [(0, .int .i64 x), (1, .int .i64 y)] = some #[.int .i64 x, .int .i64 y] := by kernel_rfl
theorem ParG_len {n x : Nat} {m : Nat → Nat} {f : Nat → Nat → Int} (hx : x < n) (h : m x ≠ n) : ¬ ParG n m f := fun q => h (q.2.2.1 x hx)
theorem ParG_cell {n x y : Nat} {m : Nat → Nat} {f : Nat → Nat → Int} (hx : x < n) (hy : y < n) (h : ¬ okc n f x y) : ¬ ParG n m f := fun q => h (q.2.2.2 x y hx hy)
set_option maxRecDepth 100000 in
set_option maxHeartbeats 4000000 in
theorem boardOf_out (b n : Nat) (w : World) (hn : n ≤ 1048576) (h : ¬ (1 ≤ n ∧ n ≤ 10)) :
    Calls Try.prog 73 #[.slice (some ⟨b, 0, none⟩) n n] w fun e w' => e = .returned (.tuple #[.agg bd0, .bool false]) ∧ Below w.heap.size w w' := by
  obtain ⟨Z, hZ, hB0⟩ := bd0_ex
  rw [hZ]
  clear hZ
  have hH := Has.start1 w Z 81
  have hin : inB (n : Int) 1 10 = false := inB_false (by omega)
  go_enter Try.func73, Try.ntmps73
  go_wp2_with (first | fail | (refine wpL_alloc rfl rfl hB0.z ?_; intro g0 hg0; (try simp at hg0); subst hg0) | (go_at_call 92; refine (isOrder_any n _).mono ?_; rintro e w2 ⟨rfl, rfl⟩; rw [hin]) | (refine wpL_build rfl rfl hB0.b ?_) | (refine wpL_storeSame rfl rfl rfl rfl rowBd hH.h0 hB0.o ?_))
  exact ret_ct rfl rfl rfl hH.h0 rowBd hB0.s ⟨rfl, hH.below⟩
set_option maxRecDepth 100000 in
set_option maxHeartbeats 8000000 in
theorem boardOf_any (b n : Nat) (m : Nat → Nat) (f : Nat → Nat → Int) (w : World) (h1 : 1 ≤ n) (h10 : n ≤ 10) (hm : ∀ i, i < n → m i ≤ 1048576) (hL : SL w b n m f) :
    Calls Try.prog 73 #[.slice (some ⟨b, 0, none⟩) n n] w fun e w' => e = .returned (.tuple #[.agg (bif parB n m f then bdc n (Tfn n f n 0) (Ffn n f n 0) (Rfn n f n 0) (Cfn n f n 0) else bd0), .bool (parB n m f)]) ∧ Below w.heap.size w w' := by
  have HM := hid hm
  clear hm
  have hn10 : (n : Int) ≤ 10 := by omega
  have hU0 := hL.bound (B := w.heap.size) (Nat.le_refl _)
  obtain ⟨Z, hZ, hB0⟩ := bd0_ex
  rw [hZ]
  clear hZ
  obtain ⟨Y, hY⟩ : ∃ Y, bdc n (fun _ => 0) (fun _ => false) (fun _ => false) (fun _ => false) = Y := ⟨_, rfl⟩
  have hYb := builtBdO n
  have hYs := bdc_size n (fun _ => 0) (fun _ => false) (fun _ => false) (fun _ => false)
  have hYo := bdc_ok n (fun _ => 0) (fun _ => false) (fun _ => false) (fun _ => false)
  rw [hY] at hYb hYs hYo
  have HY := hid hY
  clear hY
  have hH := Has.start2 w Z Z 81 81
  have hin : inB (n : Int) 1 10 = true := inB_true (by omega) (by omega)
  go_enter Try.func73, Try.ntmps73
  go_wp2_with (first | fail | (refine wpL_alloc rfl rfl hB0.z ?_; intro g0 hg0; (try simp at hg0); subst hg0) | (go_at_call 92; refine (isOrder_any n _).mono ?_; rintro e w2 ⟨rfl, rfl⟩; rw [hin]) | (refine wpL_build1 (T := 29) rfl rfl rfl (builtSqO _) ?_) | (refine wpL_build1 (T := 81) rfl rfl rfl hYb ?_) | (refine wpL_storeFull (x := .tmp 5) rfl rfl rfl rfl rowBd hH.h1 hB0.s hYo ?_))
  replace hH := hH.r1 (cs' := Y)
  have hgB := hH.h1
  have hU := ((hU0.alloc' (.cells Z 81)).alloc' (.cells Z 81)).row (w.heap.size + 1) Y (by omega)
  obtain ⟨w9, hw9⟩ : ∃ w9, ((w.alloc (.cells Z 81)).alloc (.cells Z 81)).setRow (w.heap.size + 1) Y = w9 := ⟨_, rfl⟩
  rw [hw9] at hH hgB hU ⊢
  have hH1 := hH.one
  clear hw9 hH hU0 hL
  obtain ⟨b1, b2, b3, b4⟩ := bd_zero (n := n) (f := f)
  have HY2 := hid (show Y = bdc n (Tfn n f 0 0) (Ffn n f 0 0) (Rfn n f 0 0) (Cfn n f 0 0) by rw [b1, b2, b3, b4, HY.out])
  clear b1 b2 b3 b4
  go_loopw [21] (fun i wr => ∃ x : Nat, x ≤ n ∧ i = .int .i64 x ∧ Has w wr [(Z, 81)] ∧ holds wr (w.heap.size + 1) (bdc n (Tfn n f x 0) (Ffn n f x 0) (Rfn n f x 0) (Cfn n f x 0)) 81 ∧ Hid (SU wr b n m f w.heap.size) ∧ Hid (ParTo n m f x 0)) (fun i _ => 20 - (intOf i).toNat)
  case atStart => exact ⟨0, by omega, rfl, hH1, by rw [← HY2.out]; exact hgB, hid hU, hid ParTo.start⟩
  case round =>
    clear hH1 hgB hU
    obtain ⟨x, hx, rfl, hH, hgB, hU, hP⟩ := hrel
    by_cases hlt : x < n
    · have hx1 : (x : Int) < n := by omega
      obtain ⟨g, c1, hR0, hgl⟩ := hU.out.cell' hlt
      obtain ⟨q, hq⟩ : ∃ q, m x = q := ⟨_, rfl⟩
      have hqb := HM.out x hlt
      rw [hq] at c1 hR0 hqb
      have HQ := hid hq
      clear hq
      by_cases hqn : q = n
      · subst hqn
        have HR := hid hR0
        clear hR0
        go_wp2
        clear c1
        go_loopw [33] (fun i wr => ∃ y : Nat, y ≤ q ∧ i = .int .i64 y ∧ Has w wr [(Z, 81)] ∧ holds wr (w.heap.size + 1) (bdc q (Tfn q f x y) (Ffn q f x y) (Rfn q f x y) (Cfn q f x y)) 81 ∧ Hid (SU wr b q m f w.heap.size) ∧ Hid (ParTo q m f x y) ∧ Hid (Row wr g q (f x))) (fun i _ => 20 - (intOf i).toNat)
        case atStart => exact ⟨0, by omega, rfl, hH, hgB, hU, hP, HR⟩
        case round =>
          clear hH hgB hU hP HR
          obtain ⟨y, hy, rfl, hH, hgB, hU, hP, HR⟩ := hrel
          by_cases hyl : y < q
          · have hy1 : (y : Int) < q := by omega
            have hx10 : (x : Int) < 10 := by omega
            have hy10 : (y : Int) < 10 := by omega
            have c2 := HR.out.cell hyl
            obtain ⟨z, hz⟩ : ∃ z, f x y = z := ⟨_, rfl⟩
            rw [hz] at c2
            have HZ := hid hz
            clear hz
            by_cases hz1 : z = -1
            · subst hz1
              obtain ⟨b1, b2, b3, b4⟩ := bd_skip (x := x) hyl (show f x y < 0 by rw [HZ.out]; omega)
              have HB := hid (And.intro b1 (And.intro b2 (And.intro b3 b4)))
              have HP2 := hid (hP.out.step hyl (.inl HZ.out))
              clear b1 b2 b3 b4
              go_wp2
              go_roundw
              case rel => exact ⟨y + 1, by omega, by go_num, hH, by rw [HB.out.1, HB.out.2.1, HB.out.2.2.1, HB.out.2.2.2]; exact hgB, hU, HP2, HR⟩
              case measure => simp [intOf]; omega
            · have hz1' : ¬ z = -1 := hz1
              have hz1b : (z == -1) = false := by simpa using hz1
              by_cases hz0 : z < 0
              · have HV := hid (parB_no (ParG_cell (m := m) (f := f) hlt hyl (okc_lo HZ.out hz1 hz0)))
                go_wp2_with (first | fail | (refine wpL_guard rfl rfl ?_) | (refine wpL_build rfl rfl hB0.b ?_) | (refine wpL_storeSame (x := .tmp 2) rfl rfl rfl rfl rowBd hH.h0 hB0.o ?_))
                exact ret_ct rfl rfl rfl hH.h0 rowBd hB0.s ⟨by rw [HV.out]; rfl, hH.below⟩
              · by_cases hzn : (q : Int) ≤ z
                · have hz0' : ¬ z < 0 := hz0
                  have hz0b : decide (z < 0) = false := decide_eq_false hz0
                  have HV := hid (parB_no (ParG_cell (m := m) (f := f) hlt hyl (okc_hi HZ.out hzn)))
                  go_wp2_with (first | fail | (refine wpL_guard rfl rfl ?_) | (refine wpL_build rfl rfl hB0.b ?_) | (refine wpL_storeSame (x := .tmp 2) rfl rfl rfl rfl rowBd hH.h0 hB0.o ?_))
                  exact ret_ct rfl rfl rfl hH.h0 rowBd hB0.s ⟨by rw [HV.out]; rfl, hH.below⟩
                · obtain ⟨zu, hzu⟩ : ∃ zu : UInt8, (zu.toNat : Int) = z := ⟨UInt8.ofNat z.toNat, by rw [u8_of _ (by omega)]; omega⟩
                  have hzl : zu.toNat < q := by omega
                  have HZU := hid hzu
                  subst hzu
                  have cr : wr.cell? ⟨w.heap.size + 1, 201 + x * 10 + zu.toNat, none⟩ = some (.bool (Rfn q f x y (x * 10 + zu.toNat))) := by rw [holds_cell hgB, Nat.add_assoc, bdc_R (by omega)]
                  have cc : wr.cell? ⟨w.heap.size + 1, 301 + y * 10 + zu.toNat, none⟩ = some (.bool (Cfn q f x y (y * 10 + zu.toNat))) := by rw [holds_cell hgB, Nat.add_assoc, bdc_C (by omega)]
                  have hRi := Rfn_at hP.out hyl h10 hzl
                  have hCi := Cfn_at hP.out hyl h10 hzl
                  obtain ⟨rb, hrb⟩ : ∃ r, Rfn q f x y (x * 10 + zu.toNat) = r := ⟨_, rfl⟩
                  obtain ⟨cb, hcb⟩ : ∃ r, Cfn q f x y (y * 10 + zu.toNat) = r := ⟨_, rfl⟩
                  rw [hrb] at cr hRi
                  rw [hcb] at cc hCi
                  have HRI := hid hRi
                  have HCI := hid hCi
                  clear hrb hcb hRi hCi
                  have hz0' : ¬ (zu.toNat : Int) < 0 := by omega
                  have hzn' : ¬ (q : Int) ≤ (zu.toNat : Int) := by omega
                  have hzn2 : decide ((zu.toNat : Int) ≥ (q : Int)) = false := decide_eq_false (by omega)
                  have hz10 : (zu.toNat : Int) < 10 := by omega
                  cases rb with
                  | true =>
                    have HV := hid (parB_no (ParG_cell (m := m) (f := f) hlt hyl (okc_row HZ.out hz1 (HRI.out.1 rfl))))
                    go_wp2_with (first | fail | (refine wpL_guard rfl rfl ?_) | (refine wpL_build rfl rfl hB0.b ?_) | (refine wpL_storeSame (x := .tmp 2) rfl rfl rfl rfl rowBd hH.h0 hB0.o ?_))
                    exact ret_ct rfl rfl rfl hH.h0 rowBd hB0.s ⟨by rw [HV.out]; rfl, hH.below⟩
                  | false =>
                    cases cb with
                    | true =>
                      have HV := hid (parB_no (ParG_cell (m := m) (f := f) hlt hyl (okc_col HZ.out hz1 (HCI.out.1 rfl))))
                      go_wp2_with (first | fail | (refine wpL_guard rfl rfl ?_) | (refine wpL_build rfl rfl hB0.b ?_) | (refine wpL_storeSame (x := .tmp 2) rfl rfl rfl rfl rowBd hH.h0 hB0.o ?_))
                      exact ret_ct rfl rfl rfl hH.h0 rowBd hB0.s ⟨by rw [HV.out]; rfl, hH.below⟩
                    | false =>
                      obtain ⟨b1, b2, b3, b4⟩ := bd_put (x := x) (y := y) hyl h10 (show 0 ≤ f x y by rw [HZ.out]; omega) zu HZ.out.symm
                      have HB := hid (And.intro b1 (And.intro b2 (And.intro b3 b4)))
                      have HP2 := hid (hP.out.step hyl (.inr ⟨by rw [HZ.out]; omega, by rw [HZ.out]; omega, fun y' hy' e => (by have := HRI.out.2 ⟨y', hy', by rw [e, HZ.out]⟩; cases this), fun x' hx' e => (by have := HCI.out.2 ⟨x', hx', by rw [e, HZ.out]⟩; cases this)⟩))
                      clear b1 b2 b3 b4
                      go_wp2_with (first | fail | (refine wpL_guard rfl rfl ?_) | (go_at_call 109; refine (put_any q (w.heap.size + 1) x y _ _ _ _ zu _ (by omega) (by omega) (by omega) hgB).mono ?_; rintro e w4 ⟨rfl, hg, hgn⟩; replace hH := hH.grown hg (fun k hk => by have e9 : w.heap.size + 1 = k := Option.some.inj hk; simp; omega); replace hU := hid (hU.out.grown hg (by omega)); replace HR := hid (HR.out.grown' hg (fun e => by have e9 : w.heap.size + 1 = g := Option.some.inj e; omega)); clear hgB hg cr cc c2))
                      go_roundw
                      case rel => exact ⟨y + 1, by omega, by go_num, hH, by rw [HB.out.1, HB.out.2.1, HB.out.2.2.1, HB.out.2.2.2]; exact hgn, hU, HP2, HR⟩
                      case measure => simp [intOf]; omega
          · obtain rfl : y = q := by omega
            obtain ⟨b1, b2, b3, b4⟩ := bd_row (n := y) (f := f) (x := x)
            have HB := hid (And.intro b1 (And.intro b2 (And.intro b3 b4)))
            have HP2 := hid (hP.out.row HQ.out)
            clear b1 b2 b3 b4
            go_wp2
            go_roundw
            case rel => exact ⟨x + 1, by omega, by go_num, hH, by rw [HB.out.1, HB.out.2.1, HB.out.2.2.1, HB.out.2.2.2]; exact hgB, hU, HP2⟩
            case measure => simp [intOf]; omega
      · have hqn' : ¬ (q : Int) = n := by omega
        have HV := hid (parB_no (ParG_len (m := m) (f := f) hlt (by rw [HQ.out]; exact hqn)))
        have hq2 : (q : Int) ≤ 1048576 := by omega
        go_wp2_with (first | fail | (refine wpL_build rfl rfl hB0.b ?_) | (refine wpL_storeSame (x := .tmp 2) rfl rfl rfl rfl rowBd hH.h0 hB0.o ?_))
        exact ret_ct rfl rfl rfl hH.h0 rowBd hB0.s ⟨by rw [HV.out]; rfl, hH.below⟩
    · obtain rfl : x = n := by omega
      have HV := hid (parB_yes (hP.out.done h1 h10))
      obtain ⟨X, hX⟩ : ∃ X, bdc x (Tfn x f x 0) (Ffn x f x 0) (Rfn x f x 0) (Cfn x f x 0) = X := ⟨_, rfl⟩
      have hXs := bdc_size x (Tfn x f x 0) (Ffn x f x 0) (Rfn x f x 0) (Cfn x f x 0)
      have hXo := bdc_ok x (Tfn x f x 0) (Ffn x f x 0) (Rfn x f x 0) (Cfn x f x 0)
      rw [hX] at hgB hXs hXo
      have HX := hid hX
      clear hX
      go_wp2_with (first | fail | (refine wpL_loadFull (x := .tmp 5) rfl rfl rfl rowBd hgB hXs ?_) | (refine wpL_storeFull (x := .tmp 2) rfl rfl rfl rfl rowBd hH.h0 hB0.s hXo ?_))
      exact ret_ct rfl rfl rfl hH.r0.h0 rowBd hXs ⟨by rw [HV.out, HX.out]; rfl, hH.r0.below⟩
end Go.Proofs.Ytbhjbllgmenbaaa
