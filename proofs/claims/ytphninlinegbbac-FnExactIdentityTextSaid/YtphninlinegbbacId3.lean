/- Proved: the texts of identities of the model and of the program; the comparison of an identity with its copy. Conditions: those that each theorem names. -/
import Derived.Test.YtphninlinegbbacId2
namespace Go.Proofs.Ytphninlinegbbac
set_option linter.unusedVariables false
set_option linter.unusedSimpArgs false
open Go.RowKit
def twoB (t s : Tr) : ByteArray := textB t ++ ⟨#[61]⟩ ++ textB s
def idS : Option Tr → Option Tr → ByteArray
  | some t, some s => twoB t s
  | _, _ => ⟨#[]⟩
def idZ : Option Tr → Option Tr → Int
  | some _, some _ => 0
  | _, _ => 1
set_option maxRecDepth 20000 in
theorem eqIdentity_same (b1 b2 d1 d2 n m : Nat) (f g : Nat → UInt8) (w : World) (hn : n ≤ 1048576) (hm : m ≤ 1048576) (h1 : IdR w b1 b2 n m f g) (h2 : IdR w d1 d2 n m f g) :
    Calls Try.prog 26 #[.agg #[.slice (some ⟨b1, 0, none⟩) n n, .slice (some ⟨b2, 0, none⟩) m m], .agg #[.slice (some ⟨d1, 0, none⟩) n n, .slice (some ⟨d2, 0, none⟩) m m]] w fun e w' => e = .returned (.bool true) ∧ Below w.heap.size w w' := by
  have hH := Has.start2 w #[.slice (some ⟨b1, 0, none⟩) n n, .slice (some ⟨b2, 0, none⟩) m m] #[.slice (some ⟨d1, 0, none⟩) n n, .slice (some ⟨d2, 0, none⟩) m m] 45 45
  have R1 := hid (h1.below hH.below)
  have R2 := hid (h2.below hH.below)
  clear h1 h2
  have c0 := show _ = some (Value.slice (some ⟨b1, 0, none⟩) n n) from hH.c0 0
  have c1 := show _ = some (Value.slice (some ⟨b2, 0, none⟩) m m) from hH.c0 1
  have c2 := show _ = some (Value.slice (some ⟨d1, 0, none⟩) n n) from hH.c1 0
  have c3 := show _ = some (Value.slice (some ⟨d2, 0, none⟩) m m) from hH.c1 1
  go_enter Try.func26, Try.ntmps26
  go_wp2_with (first | fail | (go_at_call 21; (with_reducible refine (eqByteS_same b1 d1 n n n f _ hn R1.out.one R2.out.one).mono ?_); rintro e w2 ⟨rfl, hb⟩; replace hH := hH.call' hb; replace R1 := hid (R1.out.below hb); replace R2 := hid (R2.out.below hb); clear hb c0 c1 c2 c3; have c1 := show _ = some (Value.slice (some ⟨b2, 0, none⟩) m m) from hH.c0 1; have c3 := show _ = some (Value.slice (some ⟨d2, 0, none⟩) m m) from hH.c1 1) | (go_at_call 21; (with_reducible refine (eqByteS_same b2 d2 m m m g _ hm R1.out.two R2.out.two).mono ?_); rintro e w2 ⟨rfl, hb⟩; replace hH := hH.call' hb; clear hb c1 c3))
  go_ret
  exact ⟨rfl, hH.below⟩
set_option maxRecDepth 20000 in
theorem l03Both_any (b1 b2 n m : Nat) (f g : Nat → UInt8) (w : World) (hn : n ≤ 1048576) (hm : m ≤ 1048576) (h : IdR w b1 b2 n m f g) (p q : Bool) (hp : (termT f n).isSome = p) (hq : (termT g m).isSome = q) :
    Calls Try.prog 60 #[.agg #[.slice (some ⟨b1, 0, none⟩) n n, .slice (some ⟨b2, 0, none⟩) m m]] w fun e w' => e = .returned (.bool (p && q)) ∧ Below w.heap.size w w' := by
  have hH := Has.start1 w #[.slice (some ⟨b1, 0, none⟩) n n, .slice (some ⟨b2, 0, none⟩) m m] 45
  have R := hid (h.below hH.below)
  clear h
  have HP := hid hp
  have HQ := hid hq
  clear hp hq
  have c0 := show _ = some (Value.slice (some ⟨b1, 0, none⟩) n n) from hH.c0 0
  have c1 := show _ = some (Value.slice (some ⟨b2, 0, none⟩) m m) from hH.c0 1
  cases p
  all_goals
    go_enter Try.func60, Try.ntmps60
    go_wp2_with (first | fail | (refine wpL_guard rfl rfl ?_) | (go_at_call 56; (with_reducible refine (l03Is_any b1 n n f _ hn R.out.one).mono ?_); rintro e w2 ⟨rfl, rfl⟩; rw [HP.out]) | (go_at_call 56; (with_reducible refine (l03Is_any b2 m m g _ hm R.out.two).mono ?_); rintro e w2 ⟨rfl, rfl⟩; rw [HQ.out]))
    go_ret
    exact ⟨rfl, hH.below⟩
set_option maxRecDepth 20000 in
set_option maxHeartbeats 1000000 in
theorem l03Shown_any (b1 b2 n m : Nat) (f g : Nat → UInt8) (t s : Tr) (w : World) (h : IdR w b1 b2 n m f g) (ht : termT f n = some t) (hs : termT g m = some s) :
    Calls Try.prog 61 #[.agg #[.slice (some ⟨b1, 0, none⟩) n n, .slice (some ⟨b2, 0, none⟩) m m]] w fun e w' => e = .returned (.string (twoB t s)) ∧ Below w.heap.size w w' := by
  have hH := Has.start1 w #[.slice (some ⟨b1, 0, none⟩) n n, .slice (some ⟨b2, 0, none⟩) m m] 45
  have R := hid (h.below hH.below)
  have zt : (textB t).size ≤ 4000 := by have := textB_size t; have := (termT_some ht).2.2; have := (termT_some ht).1; omega
  have zs : (textB s).size ≤ 4000 := by have := textB_size s; have := (termT_some hs).2.2; have := (termT_some hs).1; omega
  have z61 : (⟨#[61]⟩ : ByteArray).size = 1 := rfl
  have HT := hid ht
  have HS := hid hs
  clear h ht hs
  go_enter Try.func61, Try.ntmps61
  go_wp2
  refine wp_region_frame (X := Unit) (fun d _ => [(3, bif d 0 then .pointer (some ⟨w.heap.size, 0, none⟩) else undef), (4, bif d 1 then .slice (some ⟨b1, 0, none⟩) n n else undef), (5, bif d 2 then .string (textB t) else undef), (6, bif d 3 then .string (textB t ++ ⟨#[61]⟩) else undef), (7, bif d 4 then .pointer (some ⟨w.heap.size, 1, none⟩) else undef), (8, bif d 5 then .slice (some ⟨b2, 0, none⟩) m m else undef), (9, bif d 6 then .string (textB s) else undef), (10, bif d 7 then .string (twoB t s) else undef), (2, bif d 8 then .string (twoB t s) else .string ⟨#[]⟩)])
    (fun d _ w' => Has w w' [(#[.slice (some ⟨b1, 0, none⟩) n n, .slice (some ⟨b2, 0, none⟩) m m], 45)] ∧ Hid (IdR w' b1 b2 n m f g)) (by kernel_rfl) (by kernel_rfl) ?h0_ra ?hs_ra ?hq_ra
  case h0_ra => exact ⟨(), (by simp [lput]), hH.drew, hid R.out.drew⟩
  case hs_ra =>
    refine ⟨?_, ?_, ?_, ?_, ?_, ?_, ?_, ?_, ?_, trivial⟩
    all_goals
      clear hH R
      intro d _ w1 hd hn hJ
      simp only [needs, Region.binds, reduceCtorEq, Bool.false_eq_true, false_implies, true_and, and_true, true_implies, forall_const] at hn
      simp only [lput, List.set, hn, cond_true]
      obtain ⟨hH, R⟩ := hJ
      have c0 := show _ = some (Value.slice (some ⟨b1, 0, none⟩) n n) from hH.c0 0
      have c1 := show _ = some (Value.slice (some ⟨b2, 0, none⟩) m m) from hH.c0 1
      go_wp2_with (first | fail | (go_at_call 57; (with_reducible refine (l03Text_any b1 n n f t _ R.out.one HT.out).mono ?_); rintro e w2 ⟨rfl, hb⟩; replace hH := hH.call' hb; replace R := hid (R.out.below hb)) | (go_at_call 57; (with_reducible refine (l03Text_any b2 m m g s _ R.out.two HS.out).mono ?_); rintro e w2 ⟨rfl, hb⟩; replace hH := hH.call' hb; replace R := hid (R.out.below hb)))
      first
        | (refine ⟨(), ?_, hH, R⟩; (simp [lput, done, hn]; done))
        | (refine ⟨?_, hH, R⟩; (simp [lput, done, hn]; done))
        | (refine ⟨(), ?_, hH, R⟩; (simp [lput, done, hn]; rfl))
        | (refine ⟨?_, hH, R⟩; (simp [lput, done, hn]; rfl))
        | (refine ⟨(), ?_, hH, R⟩; (simp [lput, done]; done))
        | (refine ⟨?_, hH, R⟩; (simp [lput, done]; done))
        | (refine ⟨(), ?_, hH, R⟩; (simp [lput, done]; rfl))
        | (refine ⟨?_, hH, R⟩; (simp [lput, done]; rfl))
  case hq_ra =>
    clear hH R
    intro d _ w1 hd hJ
    simp only [allDone, List.length_cons, List.length_nil, Nat.reduceAdd, and_true] at hd
    obtain ⟨hH, R⟩ := hJ
    simp only [lput, List.set, hd, cond_true]
    clear hd
    go_wp2
    go_ret
    exact ⟨rfl, hH.below⟩
set_option maxRecDepth 20000 in
set_option maxHeartbeats 1000000 in
theorem specIdentityText_any (b1 b2 n m : Nat) (f g : Nat → UInt8) (w : World) (hn : n ≤ 1048576) (hm : m ≤ 1048576) (h : IdR w b1 b2 n m f g) :
    Calls Try.prog 23 #[.agg #[.slice (some ⟨b1, 0, none⟩) n n, .slice (some ⟨b2, 0, none⟩) m m]] w fun e w' => e = .returned (.tuple #[.string (idS (termT f n) (termT g m)), .int .i64 (idZ (termT f n) (termT g m))]) ∧ Below w.heap.size w w' := by
  have hH := Has.start1 w #[.slice (some ⟨b1, 0, none⟩) n n, .slice (some ⟨b2, 0, none⟩) m m] 45
  have R := hid (h.below hH.below)
  clear h
  cases hs : (termT f n).isSome && (termT g m).isSome with
  | false =>
    have hS : idS (termT f n) (termT g m) = ⟨#[]⟩ ∧ idZ (termT f n) (termT g m) = 1 := by
      cases h1 : termT f n <;> cases h2 : termT g m <;> simp [h1, h2] at hs <;> exact ⟨rfl, rfl⟩
    rw [hS.1, hS.2]
    have HS := hid hs
    clear hs hS
    go_enter Try.func23, Try.ntmps23
    go_wp2_with (first | fail | (refine wpL_loadFull rfl rfl rfl rowId hH.h0 rfl ?_) | (go_at_call 60; refine (l03Both_any b1 b2 n m f g _ hn hm R.out _ _ rfl rfl).mono ?_; rintro e w2 ⟨rfl, hb⟩; rw [HS.out]; replace hH := hH.call' hb))
    go_ret2
    exact ⟨rfl, hH.below⟩
  | true =>
    simp only [Bool.and_eq_true, Option.isSome_iff_exists] at hs
    obtain ⟨⟨t, ht⟩, ⟨s, hs⟩⟩ := hs
    have HS : Hid (((termT f n).isSome && (termT g m).isSome) = true) := hid (by rw [ht, hs]; rfl)
    have hS : idS (termT f n) (termT g m) = twoB t s ∧ idZ (termT f n) (termT g m) = 0 := by rw [ht, hs]; exact ⟨rfl, rfl⟩
    rw [hS.1, hS.2]
    have HT := hid ht
    have HU := hid hs
    clear ht hs hS
    go_enter Try.func23, Try.ntmps23
    go_wp2_with (first | fail | (refine wpL_loadFull rfl rfl rfl rowId hH.h0 rfl ?_) | (go_at_call 60; refine (l03Both_any b1 b2 n m f g _ hn hm R.out _ _ rfl rfl).mono ?_; rintro e w2 ⟨rfl, hb⟩; rw [HS.out]; replace hH := hH.call' hb; replace R := hid (R.out.below hb)) | (go_at_call 61; refine (l03Shown_any b1 b2 n m f g t s _ R.out HT.out HU.out).mono ?_; rintro e w2 ⟨rfl, hb⟩; replace hH := hH.call' hb))
    go_ret2
    exact ⟨rfl, hH.below⟩
set_option maxRecDepth 20000 in
theorem treesOf_any (b1 b2 n m : Nat) (f g : Nat → UInt8) (w : World) (hn : n ≤ 1048576) (hm : m ≤ 1048576) (h : IdR w b1 b2 n m f g) (p q : Bool) (hp : (termT f n).isSome = p) (hq : (termT g m).isSome = q) (V U : Value) (hV : treeV (termT f n) = V) (hU : treeV (termT g m) = U) :
    Calls Try.prog 62 #[.agg #[.slice (some ⟨b1, 0, none⟩) n n, .slice (some ⟨b2, 0, none⟩) m m]] w fun e w' => e = .returned (.tuple #[V, U, .bool (p && q)]) ∧ Below w.heap.size w w' := by
  have hH := Has.start1 w #[.slice (some ⟨b1, 0, none⟩) n n, .slice (some ⟨b2, 0, none⟩) m m] 45
  have R := hid (h.below hH.below)
  clear h
  have HP := hid hp
  have HQ := hid hq
  have HV := hid hV
  have HU := hid hU
  clear hp hq hV hU
  have c0 := show _ = some (Value.slice (some ⟨b1, 0, none⟩) n n) from hH.c0 0
  cases p
  all_goals
    go_enter Try.func62, Try.ntmps62
    go_wp2_with (first | fail | (refine wpL_guard rfl rfl ?_) | (go_at_call 58; (with_reducible refine (treeOf_any b1 n n f _ hn R.out.one).mono ?_); rintro e w2 ⟨rfl, hb⟩; rw [HP.out, HV.out]; replace hH := hH.call' hb; replace R := hid (R.out.below hb); clear hb c0; have c1 := show _ = some (Value.slice (some ⟨b2, 0, none⟩) m m) from hH.c0 1) | (go_at_call 58; (with_reducible refine (treeOf_any b2 m m g _ hm R.out.two).mono ?_); rintro e w2 ⟨rfl, hb⟩; rw [HQ.out, HU.out]; replace hH := hH.call' hb; clear hb c1))
    (try simp only [Exit.inBlock, Exit.then])
    exact bodyPost_ret (v := .tuple #[V, U, .bool _]) (by simp [results]) rfl ⟨rfl, hH.below⟩
end Go.Proofs.Ytphninlinegbbac
