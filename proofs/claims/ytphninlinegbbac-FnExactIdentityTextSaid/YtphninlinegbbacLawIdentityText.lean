/- Proved: the law FnExactIdentityText returns true, and old memory is left alone. Conditions: those that the theorem names. -/
import Derived.Test.YtphninlinegbbacId3
namespace Go.Proofs.Ytphninlinegbbac
set_option linter.unusedVariables false
set_option linter.unusedSimpArgs false
open Go.RowKit
set_option maxRecDepth 20000 in
set_option maxHeartbeats 2000000 in
theorem implIdentityText_any (b1 b2 n m : Nat) (f g : Nat → UInt8) (w : World) (hn : n ≤ 1048576) (hm : m ≤ 1048576) (h : IdR w b1 b2 n m f g) :
    Calls Try.prog 25 #[.agg #[.slice (some ⟨b1, 0, none⟩) n n, .slice (some ⟨b2, 0, none⟩) m m]] w fun e w' => e = .returned (.tuple #[.string (idS (termT f n) (termT g m)), .int .i64 (idZ (termT f n) (termT g m))]) ∧ Below w.heap.size w w' := by
  have hH := Has.start1 w #[.slice (some ⟨b1, 0, none⟩) n n, .slice (some ⟨b2, 0, none⟩) m m] 45
  have R := hid (h.below hH.below)
  clear h
  obtain ⟨V, hV⟩ : ∃ V, treeV (termT f n) = V := ⟨_, rfl⟩
  obtain ⟨U, hU⟩ : ∃ U, treeV (termT g m) = U := ⟨_, rfl⟩
  have HV := hid hV
  have HU := hid hU
  cases hs : (termT f n).isSome && (termT g m).isSome with
  | false =>
    have hS : idS (termT f n) (termT g m) = ⟨#[]⟩ ∧ idZ (termT f n) (termT g m) = 1 := by
      cases h1 : termT f n <;> cases h2 : termT g m <;> simp [h1, h2] at hs <;> exact ⟨rfl, rfl⟩
    rw [hS.1, hS.2]
    have HS := hid hs
    clear hs hS hV hU
    go_enter Try.func25, Try.ntmps25
    go_wp2_with (first | fail | (refine wpL_loadFull rfl rfl rfl rowId hH.h0 rfl ?_) | (go_at_call 62; refine (treesOf_any b1 b2 n m f g _ hn hm R.out _ _ rfl rfl V U HV.out HU.out).mono ?_; rintro e w2 ⟨rfl, hb⟩; rw [HS.out]; replace hH := hH.call' hb))
    go_ret2
    exact ⟨rfl, hH.below⟩
  | true =>
    simp only [Bool.and_eq_true, Option.isSome_iff_exists] at hs
    obtain ⟨⟨t, ht⟩, ⟨s, hs⟩⟩ := hs
    have HS : Hid (((termT f n).isSome && (termT g m).isSome) = true) := hid (by rw [ht, hs]; rfl)
    have hS : idS (termT f n) (termT g m) = twoB t s ∧ idZ (termT f n) (termT g m) = 0 := by rw [ht, hs]; exact ⟨rfl, rfl⟩
    rw [hS.1, hS.2]
    have zt : (textB t).size ≤ 4000 := by have := textB_size t; have := (termT_some ht).2.2; have := (termT_some ht).1; omega
    have zs : (textB s).size ≤ 4000 := by have := textB_size s; have := (termT_some hs).2.2; have := (termT_some hs).1; omega
    have z61 : (⟨#[61]⟩ : ByteArray).size = 1 := rfl
    have W1 := hid (writes t (by have := (termT_some ht).2.2; have := (termT_some ht).1; omega))
    have W2 := hid (writes s (by have := (termT_some hs).2.2; have := (termT_some hs).1; omega))
    have V1 := hid (show encT t = V by rw [← hV, ht]; rfl)
    have V2 := hid (show encT s = U by rw [← hU, hs]; rfl)
    clear ht hs hS hV hU
    have hB := hH.below
    go_enter Try.func25, Try.ntmps25
    go_wp2_with (first | fail | (refine wpL_loadFull rfl rfl rfl rowId hH.h0 rfl ?_) | (go_at_call 62; refine (treesOf_any b1 b2 n m f g _ hn hm R.out _ _ rfl rfl V U HV.out HU.out).mono ?_; rintro e w2 ⟨rfl, hb⟩; rw [HS.out]; replace hB := hB.trans (hb.mono hB.size); clear hb) | (refine wpL_text V1.out rfl (by rfl) (by rfl) W1.out ?_; intro w3 hb; replace hB := hB.trans (hb.mono hB.size); clear hb V1) | (refine wpL_text V2.out rfl (by rfl) (by rfl) W2.out ?_; intro w3 hb; replace hB := hB.trans (hb.mono hB.size); clear hb V2))
    go_ret2
    exact ⟨rfl, hB⟩
structure XI where
  a : Nat
  b : Nat
theorem BRow.kept {w w' : World} {b k n : Nat} {f : Nat → UInt8} (h : BRow w b n f) (hO : ∀ b c u, b ≠ k → holds w b c u → holds w' b c u) (hb : b ≠ k) : BRow w' b n f := by
  obtain ⟨cs, h1, h2⟩ := h; exact ⟨cs, hO _ _ _ hb h1, h2⟩
set_option maxRecDepth 20000 in
set_option maxHeartbeats 4000000 in
theorem lawIdentityText_any (v u : Value) (n m : Nat) (f g : Nat → UInt8) (w : World) (h1 : BIn w v n f ∧ n ≤ 9223372036854775807) (h2 : BIn w u m g ∧ m ≤ 9223372036854775807) :
    Calls Try.prog 5 #[.agg #[v, u]] w fun e w' => e = .returned (.bool true) ∧ Below w.heap.size w w' := by
  obtain ⟨A, c1, hv⟩ := h1.1.form
  obtain ⟨B, e1, hu⟩ := h2.1.form
  subst hv hu
  have hH := Has.start1 w #[.slice A n c1, .slice B m e1] 42
  by_cases hnm : n + m ≤ 1048576
  · have hna : n ≤ 1048576 := by omega
    have hma : m ≤ 1048576 := by omega
    have hl : ((n : Int) + m ≤ 1048576) := by omega
    have H1 := hid h1.1
    have H2 := hid h2.1
    clear h1 h2 hnm
    obtain ⟨S, hS⟩ : ∃ S, idS (termT f n) (termT g m) = S := ⟨_, rfl⟩
    obtain ⟨Z, hZ⟩ : ∃ Z, idZ (termT f n) (termT g m) = Z := ⟨_, rfl⟩
    have HS := hid hS
    have HZ := hid hZ
    clear hS hZ
    go_enter Try.func5, Try.ntmps5
    go_wp2_with (first | fail | (refine wpL_loadFull rfl rfl rfl rowIl hH.h0 rfl ?_) | (go_at_call 22; refine (szIdentity_ok A B n m c1 e1 1048576 _ (by omega) (by omega) hl).mono ?_; rintro e w2 ⟨z, rfl, hz, hb⟩; replace hH := hH.call' hb; clear hb) | (go_at_call 24; refine (toIdentity_any (.slice A n c1) (.slice B m e1) n m f g _ hna hma (H1.out.below hH.below) (H2.out.below hH.below)).mono ?_; intro e w2 hg; obtain ⟨x1, x2, rfl, hb, HI, hlo, hx⟩ := hg; unfold idV slV; replace hH := hH.call' hb; clear hb) | (go_at_call 23; refine (specIdentityText_any x1 x2 n m f g _ hna hma HI.out).mono ?_; rintro e w3 ⟨rfl, hb⟩; rw [HS.out, HZ.out]; replace hH := hH.call' hb; clear hb HI hlo hx) | (refine wpL_allocN (o := ⟨some 6, _, _, _, _, _⟩) rfl rfl zeroId ?_; intro g6 w2 hg6 hl6 hb; have hb6 : w.heap.size + 1 ≤ g6 := (by have := hH.size; simp only [List.length_cons, List.length_nil] at this; omega); have hq1 := HI.out.one.lt; have hq2 := HI.out.two.lt; have hn1 : x1 ≠ g6 := (by omega); have hn2 : x2 ≠ g6 := (by omega); replace hH := hH.call' hb; replace HI := hid (HI.out.below hb); clear hb hl6) | (refine wpL_storeN (x := .tmp 6) rfl rfl rfl rfl rowId hg6 rfl (two_ok _ _ rfl rfl) ?_; intro w2 hz hO hT; replace HI := hid (IdR.mk (HI.out.one.kept hO hn1) (HI.out.two.kept hO hn2)); replace hg6 := hz; replace hH := hT _ _ hH hb6; clear hz hO hT) | (refine wpL_loadFull (x := .tmp 6) rfl rfl rfl rowId hg6 rfl ?_) | (go_at_call 25; refine (implIdentityText_any x1 x2 n m f g _ hna hma HI.out).mono ?_; rintro e w3 ⟨rfl, hb⟩; rw [HS.out, HZ.out]; replace hH := hH.call' hb; replace HI := hid (HI.out.below hb); replace hg6 := holds_below hg6 hb (holds_lt hg6); clear hb))
    refine wp_region_frame (X := XI) (fun d x => [(35, bif d 0 then .agg #[.slice (some ⟨x1, 0, none⟩) n n, .slice (some ⟨x2, 0, none⟩) m m] else undef), (36, bif d 1 then .agg #[.slice A n c1, .slice B m e1] else undef), (37, bif d 2 then .agg #[.slice (some ⟨x.a, 0, none⟩) n n, .slice (some ⟨x.b, 0, none⟩) m m] else undef), (38, bif d 3 then .bool true else undef), (39, bif d 4 then .bool false else undef)])
      (fun d x w' => Has w w' [(#[.slice A n c1, .slice B m e1], 42)] ∧ holds w' g6 #[.slice (some ⟨x1, 0, none⟩) n n, .slice (some ⟨x2, 0, none⟩) m m] 45 ∧ Hid (IdR w' x1 x2 n m f g) ∧ (d 2 = true → Hid (IdR w' x.a x.b n m f g))) (by kernel_rfl) (by kernel_rfl) ?h0_ra ?hs_ra ?hq_ra
    case h0_ra => exact ⟨⟨0, 0⟩, (by simp [lput]), hH.drew, (show _ from hg6), hid HI.out.drew, (fun h => by cases h)⟩
    case hs_ra =>
      refine ⟨?_, ?_, ?_, ?_, ?_, trivial⟩
      all_goals
        clear hH hg6 HI
        intro d x w1 hd hn hJ
        simp only [needs, Region.binds, reduceCtorEq, Bool.false_eq_true, false_implies, true_and, and_true, true_implies, forall_const] at hn
        simp only [lput, List.set, hn, cond_true]
        obtain ⟨hH, hg6, HI, hY⟩ := hJ
        (try have hY_ := hY (by simp only [hn]))
        go_wp2_with (first | fail | (refine wpL_loadFull (x := .tmp 6) rfl rfl rfl rowId hg6 rfl ?_) | (refine wpL_loadFull rfl rfl rfl rowIl hH.h0 rfl ?_) | (go_at_call 24; refine (toIdentity_any (.slice A n c1) (.slice B m e1) n m f g _ hna hma (H1.out.below hH.below) (H2.out.below hH.below)).mono ?_; intro e w2 hg; obtain ⟨y1, y2, rfl, hb, HY, hlo, hy⟩ := hg; unfold idV slV; replace hH := hH.call' hb; replace HI := hid (HI.out.below hb); replace hg6 := holds_below hg6 hb (holds_lt hg6); clear hb) | (go_at_call 26; refine (eqIdentity_same x1 x2 x.a x.b n m f g _ hna hma HI.out hY_.out).mono ?_; rintro e w3 ⟨rfl, hb⟩; replace hH := hH.call' hb; replace HI := hid (HI.out.below hb); replace hg6 := holds_below hg6 hb (holds_lt hg6); replace hY := fun e => hid ((hY e).out.below hb); clear hb))
        first
          | (refine ⟨⟨y1, y2⟩, ?_, hH, hg6, HI, (fun _ => HY)⟩; (simp [lput, done, hn]; done))
          | (refine ⟨x, ?_, hH, hg6, HI, (fun e => hY (done_ne e (by decide)))⟩; (simp [lput, done, hn]; done))
          | (refine ⟨?_, hH, hg6, HI, (fun e => hY (done_ne e (by decide)))⟩; (simp [lput, done, hn]; done))
          | (refine ⟨x, ?_, hH, hg6, HI, (fun e => hY (done_ne e (by decide)))⟩; (simp [lput, done, hn]; rfl))
          | (refine ⟨?_, hH, hg6, HI, (fun e => hY (done_ne e (by decide)))⟩; (simp [lput, done, hn]; rfl))
          | (refine ⟨x, ?_, hH, hg6, HI, (fun e => hY (done_ne e (by decide)))⟩; (simp [lput, done]; done))
          | (refine ⟨?_, hH, hg6, HI, (fun e => hY (done_ne e (by decide)))⟩; (simp [lput, done]; done))
          | (refine ⟨x, ?_, hH, hg6, HI, (fun e => hY (done_ne e (by decide)))⟩; (simp [lput, done]; rfl))
          | (refine ⟨?_, hH, hg6, HI, (fun e => hY (done_ne e (by decide)))⟩; (simp [lput, done]; rfl))
    case hq_ra =>
      clear hH hg6 HI
      intro d x w1 hd hJ
      simp only [allDone, List.length_cons, List.length_nil, Nat.reduceAdd, and_true] at hd
      obtain ⟨hH, hg6, HI, hY⟩ := hJ
      replace hY := hY (by simp only [hd])
      simp only [lput, List.set, hd, cond_true]
      clear hd
      go_wp2
      go_ret
      exact ⟨rfl, hH.below⟩
  · have hgt : (1048576 : Int) < (n : Int) + m := by omega
    have hna := h1.2
    have hma := h2.2
    clear h1 h2
    go_enter Try.func5, Try.ntmps5
    go_wp2_with (first | fail | (refine wpL_loadFull rfl rfl rfl rowIl hH.h0 rfl ?_) | (go_at_call 22; refine (szIdentity_big A B n m c1 e1 1048576 _ (by omega) (by omega) hna hma hgt).mono ?_; rintro e w2 ⟨rfl, hb⟩; replace hH := hH.call' hb))
    go_ret
    exact ⟨rfl, hH.below⟩
end Go.Proofs.Ytphninlinegbbac
