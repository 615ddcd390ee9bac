/- Proved: what the program's LeftNucleus, MiddleNucleus, RightNucleus, CommutantOf and CentreOf return. Conditions: those that each theorem names. -/
import Derived.Test.YtphninlinegbbaaDx
namespace Go.Proofs.Ytphninlinegbbaa
set_option linter.unusedVariables false
set_option linter.unusedSimpArgs false
open Go.RowKit
theorem bool_same {b c : Bool} (h : b = true ↔ c = true) : b = c := by cases b <;> cases c <;> simp_all
theorem foF_in {N m a : Nat} {s : Nat → Bool} {D : Nat → Nat → Nat → Nat → UInt8} (ha : a < N) : foF N m s D N a = winB N m s D a := by unfold foF; simp [ha]
theorem win0 {g : Nat → UInt8} {N a : Nat} (h : IsLp N g) (ha : a < N) : winB N 1 oneS (fun _ => dfF g N 0) a = regB g N 0 a := bool_same (by
  rw [winB_iff, regB_iff]
  constructor
  · intro hw x hx y hy
    show mu g (mu g a x) y = mu g a (mu g x y)
    exact (asc_zero h ha hx hy).1 (oneS_iff.1 (hw x hx y hy 0 (by omega)))
  · intro hr x hx y hy j _
    exact oneS_iff.2 ((asc_zero h ha hx hy).2 (hr x hx y hy)))
theorem win1 {g : Nat → UInt8} {N a : Nat} (h : IsLp N g) (ha : a < N) : winB N 1 oneS (fun _ => dfF g N 1) a = regB g N 1 a := bool_same (by
  rw [winB_iff, regB_iff]
  constructor
  · intro hw x hx y hy
    show mu g (mu g x a) y = mu g x (mu g a y)
    exact (asc_zero h hx ha hy).1 (oneS_iff.1 (hw x hx y hy 0 (by omega)))
  · intro hr x hx y hy j _
    exact oneS_iff.2 ((asc_zero h hx ha hy).2 (hr x hx y hy)))
theorem win2 {g : Nat → UInt8} {N a : Nat} (h : IsLp N g) (ha : a < N) : winB N 1 oneS (fun _ => dfF g N 2) a = regB g N 2 a := bool_same (by
  rw [winB_iff, regB_iff]
  constructor
  · intro hw x hx y hy
    show mu g (mu g x y) a = mu g x (mu g y a)
    exact (asc_zero h hx hy ha).1 (oneS_iff.1 (hw x hx y hy 0 (by omega)))
  · intro hr x hx y hy j _
    exact oneS_iff.2 ((asc_zero h hx hy ha).2 (hr x hx y hy)))
theorem win3 {g : Nat → UInt8} {N a : Nat} (h : IsLp N g) (ha : a < N) : winB N 1 oneS (fun _ => dfF g N 3) a = comB g N a := bool_same (winB_iff.trans (Iff.trans
  ⟨fun hw x hx => (cmm_zero h ha hx).1 (oneS_iff.1 (hw x hx x hx 0 (by omega))), fun hr x hx y hy j _ => oneS_iff.2 ((cmm_zero h ha hx).2 (hr x hx))⟩ comB_iff.symm))
theorem win_split {N a : Nat} {g : Nat → UInt8} {s : Nat → Bool} : winB N 4 s (dfF g N) a = ((winB N 1 s (fun _ => dfF g N 0) a && (winB N 1 s (fun _ => dfF g N 1) a && winB N 1 s (fun _ => dfF g N 2) a)) && winB N 1 s (fun _ => dfF g N 3) a) := bool_same (by
  simp only [Bool.and_eq_true, winB_iff]
  constructor
  · intro h
    exact ⟨⟨fun x hx y hy j _ => h x hx y hy 0 (by omega), fun x hx y hy j _ => h x hx y hy 1 (by omega), fun x hx y hy j _ => h x hx y hy 2 (by omega)⟩, fun x hx y hy j _ => h x hx y hy 3 (by omega)⟩
  · rintro ⟨⟨h0, h1, h2⟩, h3⟩ x hx y hy j hj
    have : j = 0 ∨ j = 1 ∨ j = 2 ∨ j = 3 := by omega
    rcases this with rfl | rfl | rfl | rfl
    · exact h0 x hx y hy 0 (by omega)
    · exact h1 x hx y hy 0 (by omega)
    · exact h2 x hx y hy 0 (by omega)
    · exact h3 x hx y hy 0 (by omega))
theorem winC {g : Nat → UInt8} {N a : Nat} (h : IsLp N g) (ha : a < N) : winB N 4 oneS (dfF g N) a = cenB g N a := by
  rw [win_split, win0 h ha, win1 h ha, win2 h ha, win3 h ha]; rfl
theorem dfL_0 {g : Nat → UInt8} {N : Nat} (h : IsLp N g) : dfL g N 0 = selL (regB g N 0) N := selL_congr fun i hi => by rw [foF_in hi, win0 h hi]
set_option maxRecDepth 20000 in
theorem implLeftNucleus_no (o : Int) (g : Nat → UInt8) (w : World) (hs : loopB o g = false) :
    Calls Try.prog 28 #[.agg (sqc o g)] w fun e w' => e = .returned (.tuple #[.slice none 0 0, .int .i64 1]) ∧ Below w.heap.size w w' := by
  have hH := Has.start1 w (sqc o g) 31
  go_enter Try.func28, Try.ntmps28
  go_wp2_with (first | (refine wpL_loadFull rfl rfl rfl rowSq hH.h0 (sqc_size _ _) ?_) | (go_at_call 62; refine (withoutDifference_no o g 63 _ hs).mono ?_; rintro e w2 ⟨rfl, hb⟩; replace hH := hH.call' hb; clear hb))
  go_ret2
  exact ⟨rfl, hH.below⟩
set_option maxRecDepth 20000 in
theorem implLeftNucleus_yes (N : Nat) (g : Nat → UInt8) (w : World) (hl : loopB (N : Int) g = true) (hL : IsLp N g) :
    Calls Try.prog 28 #[.agg (sqc N g)] w (GotL (selL (regB g N 0) N) 0 w) := by
  have HQ := hid hL.sq
  rw [← dfL_0 hL]
  clear hL
  have hH := Has.start1 w (sqc N g) 31
  go_enter Try.func28, Try.ntmps28
  go_wp2_with (first | (refine wpL_loadFull rfl rfl rfl rowSq hH.h0 (sqc_size _ _) ?_) | (go_at_call 62; refine (withoutDifference_yes N 0 g _ hl HQ.out (by omega)).mono ?_; rintro e w2 ⟨v, rfl, hb, hI⟩; have hlo := hH.size; simp only [List.length_cons, List.length_nil] at hlo; replace hH := hH.call' hb; clear hb))
  go_ret2
  exact ⟨v, rfl, hH.below, hI.lower (by omega)⟩
theorem dfL_1 {g : Nat → UInt8} {N : Nat} (h : IsLp N g) : dfL g N 1 = selL (regB g N 1) N := selL_congr fun i hi => by rw [foF_in hi, win1 h hi]
set_option maxRecDepth 20000 in
theorem implMiddleNucleus_no (o : Int) (g : Nat → UInt8) (w : World) (hs : loopB o g = false) :
    Calls Try.prog 33 #[.agg (sqc o g)] w fun e w' => e = .returned (.tuple #[.slice none 0 0, .int .i64 1]) ∧ Below w.heap.size w w' := by
  have hH := Has.start1 w (sqc o g) 31
  go_enter Try.func33, Try.ntmps33
  go_wp2_with (first | (refine wpL_loadFull rfl rfl rfl rowSq hH.h0 (sqc_size _ _) ?_) | (go_at_call 62; refine (withoutDifference_no o g 64 _ hs).mono ?_; rintro e w2 ⟨rfl, hb⟩; replace hH := hH.call' hb; clear hb))
  go_ret2
  exact ⟨rfl, hH.below⟩
set_option maxRecDepth 20000 in
theorem implMiddleNucleus_yes (N : Nat) (g : Nat → UInt8) (w : World) (hl : loopB (N : Int) g = true) (hL : IsLp N g) :
    Calls Try.prog 33 #[.agg (sqc N g)] w (GotL (selL (regB g N 1) N) 0 w) := by
  have HQ := hid hL.sq
  rw [← dfL_1 hL]
  clear hL
  have hH := Has.start1 w (sqc N g) 31
  go_enter Try.func33, Try.ntmps33
  go_wp2_with (first | (refine wpL_loadFull rfl rfl rfl rowSq hH.h0 (sqc_size _ _) ?_) | (go_at_call 62; refine (withoutDifference_yes N 1 g _ hl HQ.out (by omega)).mono ?_; rintro e w2 ⟨v, rfl, hb, hI⟩; have hlo := hH.size; simp only [List.length_cons, List.length_nil] at hlo; replace hH := hH.call' hb; clear hb))
  go_ret2
  exact ⟨v, rfl, hH.below, hI.lower (by omega)⟩
theorem dfL_2 {g : Nat → UInt8} {N : Nat} (h : IsLp N g) : dfL g N 2 = selL (regB g N 2) N := selL_congr fun i hi => by rw [foF_in hi, win2 h hi]
set_option maxRecDepth 20000 in
theorem implRightNucleus_no (o : Int) (g : Nat → UInt8) (w : World) (hs : loopB o g = false) :
    Calls Try.prog 35 #[.agg (sqc o g)] w fun e w' => e = .returned (.tuple #[.slice none 0 0, .int .i64 1]) ∧ Below w.heap.size w w' := by
  have hH := Has.start1 w (sqc o g) 31
  go_enter Try.func35, Try.ntmps35
  go_wp2_with (first | (refine wpL_loadFull rfl rfl rfl rowSq hH.h0 (sqc_size _ _) ?_) | (go_at_call 62; refine (withoutDifference_no o g 65 _ hs).mono ?_; rintro e w2 ⟨rfl, hb⟩; replace hH := hH.call' hb; clear hb))
  go_ret2
  exact ⟨rfl, hH.below⟩
set_option maxRecDepth 20000 in
theorem implRightNucleus_yes (N : Nat) (g : Nat → UInt8) (w : World) (hl : loopB (N : Int) g = true) (hL : IsLp N g) :
    Calls Try.prog 35 #[.agg (sqc N g)] w (GotL (selL (regB g N 2) N) 0 w) := by
  have HQ := hid hL.sq
  rw [← dfL_2 hL]
  clear hL
  have hH := Has.start1 w (sqc N g) 31
  go_enter Try.func35, Try.ntmps35
  go_wp2_with (first | (refine wpL_loadFull rfl rfl rfl rowSq hH.h0 (sqc_size _ _) ?_) | (go_at_call 62; refine (withoutDifference_yes N 2 g _ hl HQ.out (by omega)).mono ?_; rintro e w2 ⟨v, rfl, hb, hI⟩; have hlo := hH.size; simp only [List.length_cons, List.length_nil] at hlo; replace hH := hH.call' hb; clear hb))
  go_ret2
  exact ⟨v, rfl, hH.below, hI.lower (by omega)⟩
theorem dfL_3 {g : Nat → UInt8} {N : Nat} (h : IsLp N g) : dfL g N 3 = selL (comB g N) N := selL_congr fun i hi => by rw [foF_in hi, win3 h hi]
set_option maxRecDepth 20000 in
theorem implCommutantOf_no (o : Int) (g : Nat → UInt8) (w : World) (hs : loopB o g = false) :
    Calls Try.prog 37 #[.agg (sqc o g)] w fun e w' => e = .returned (.tuple #[.slice none 0 0, .int .i64 1]) ∧ Below w.heap.size w w' := by
  have hH := Has.start1 w (sqc o g) 31
  go_enter Try.func37, Try.ntmps37
  go_wp2_with (first | (refine wpL_loadFull rfl rfl rfl rowSq hH.h0 (sqc_size _ _) ?_) | (go_at_call 62; refine (withoutDifference_no o g 67 _ hs).mono ?_; rintro e w2 ⟨rfl, hb⟩; replace hH := hH.call' hb; clear hb))
  go_ret2
  exact ⟨rfl, hH.below⟩
set_option maxRecDepth 20000 in
theorem implCommutantOf_yes (N : Nat) (g : Nat → UInt8) (w : World) (hl : loopB (N : Int) g = true) (hL : IsLp N g) :
    Calls Try.prog 37 #[.agg (sqc N g)] w (GotL (selL (comB g N) N) 0 w) := by
  have HQ := hid hL.sq
  rw [← dfL_3 hL]
  clear hL
  have hH := Has.start1 w (sqc N g) 31
  go_enter Try.func37, Try.ntmps37
  go_wp2_with (first | (refine wpL_loadFull rfl rfl rfl rowSq hH.h0 (sqc_size _ _) ?_) | (go_at_call 62; refine (withoutDifference_yes N 3 g _ hl HQ.out (by omega)).mono ?_; rintro e w2 ⟨v, rfl, hb, hI⟩; have hlo := hH.size; simp only [List.length_cons, List.length_nil] at hlo; replace hH := hH.call' hb; clear hb))
  go_ret2
  exact ⟨v, rfl, hH.below, hI.lower (by omega)⟩
theorem builtD4 (a b c d : FuncId) : (Try.prog).builtSlice 84 4 [(0, Value.func (.func a) #[] #[]), (1, Value.func (.func b) #[] #[]), (2, Value.func (.func c) #[] #[]), (3, Value.func (.func d) #[] #[])] = some #[Value.func (.func a) #[] #[], Value.func (.func b) #[] #[], Value.func (.func c) #[] #[], Value.func (.func d) #[] #[]] := by kernel_rfl
section
variable {ops : Array Oper} {rest : List Oper} {o : Oper} {a : Act} {w : World} {Q : Exit → Act → World → Prop}
theorem wpL_sliceD4 {p0 p1 p2 p3 : Operand} {k0 k1 k2 k3 : FuncId} (hgd : o.guard = none) (ho : o.op = .buildSlice 88 4 #[(0, p0), (1, p1), (2, p2), (3, p3)]) (h0 : a.eval p0 = .func (.func k0) #[] #[]) (h1 : a.eval p1 = .func (.func k1) #[] #[]) (h2 : a.eval p2 = .func (.func k2) #[] #[]) (h3 : a.eval p3 = .func (.func k3) #[] #[])
    (h : wpList Try.prog ops Q rest (a.put o.dst (.slice (some ⟨w.heap.size, 0, none⟩) 4 4)) (w.alloc (.cells #[Value.func (.func k0) #[] #[], Value.func (.func k1) #[] #[], Value.func (.func k2) #[] #[], Value.func (.func k3) #[] #[]] 84))) : wpList Try.prog ops Q (o :: rest) a w := by
  refine Great.wpList_buildSliceTo hgd 88 84 4 _ ho _ rfl o.dst rfl Try.underlying88 _ ?_ h
  have hp : ((#[(0, p0), (1, p1), (2, p2), (3, p3)] : Array (Nat × Operand)).map fun (i, x) => (i, a.eval x)).toList = [(0, Value.func (.func k0) #[] #[]), (1, Value.func (.func k1) #[] #[]), (2, Value.func (.func k2) #[] #[]), (3, Value.func (.func k3) #[] #[])] := by simp [h0, h1, h2, h3]
  rw [hp]
  exact builtD4 k0 k1 k2 k3
end
/-- The four functions, in a block. -/
def fourF : Array Value := #[Value.func (.func 63) #[] #[], Value.func (.func 64) #[] #[], Value.func (.func 65) #[] #[], Value.func (.func 67) #[] #[]]
theorem four_row (w : World) : DRow (w.alloc (.cells fourF 84)) w.heap.size 4 idF := ⟨_, holds_new _ _ _, fun j hj => by
  have : j = 0 ∨ j = 1 ∨ j = 2 ∨ j = 3 := by omega
  rcases this with rfl | rfl | rfl | rfl <;> rfl⟩
set_option maxRecDepth 20000 in
set_option maxHeartbeats 2000000 in
theorem centreOver_any (N gb : Nat) (g : Nat → UInt8) (s : Nat → Bool) (w : World) (hq : IsSq N g) (hg : Dv w gb N g) :
    Calls Try.prog 70 #[.pointer (some ⟨gb, 0, none⟩), .agg (bls 10 s)] w fun e w' => e = .returned (.agg (bls 10 (foF N 4 s (dfF g N) N))) ∧ Below w.heap.size w w' := by
  have HQ := hid hq
  have h1 := hq.lo
  have h10 := hq.hi
  clear hq
  have hH := Has.start2 w (bls 10 s) (bls 10 fun _ => false) 68 68
  have hz : ((w.alloc (.cells (bls 10 s) 68)).alloc (.cells (bls 10 fun _ => false) 68)).heap.size = w.heap.size + 1 + 1 := by simp
  have hR := four_row ((w.alloc (.cells (bls 10 s) 68)).alloc (.cells (bls 10 fun _ => false) 68))
  rw [hz] at hR
  clear hz
  have hH3 := hH.alloc (.cells fourF 84)
  replace hg := Dv.alloc (Dv.alloc (Dv.alloc hg (.cells (bls 10 s) 68)) (.cells (bls 10 fun _ => false) 68)) (.cells fourF 84)
  have hC := differingWithin_any N gb (w.heap.size + 1 + 1) 4 g s idF (dfF g N) _ h1 h10 (by omega) (hid fun i _ => idF_enters i) hg hR (hid fun i hi a x y w ha hx hy hg => dfF_calls N gb i a x y g w HQ.out hi ha hx hy hg) (hid fun i a x y _ ha hx hy => dfF_lt HQ.out ha hx hy)
  unfold fourF at hC hH3
  have HC := hid hC
  have H3 := hid hH3
  clear hg hR hC hH3
  go_enter Try.func70, Try.ntmps70
  go_wp2_with (first | fail | (refine wpL_alloc rfl rfl zeroMe ?_; intro g0 hg0; (try simp at hg0); subst hg0) | (refine wpL_loadFull rfl rfl rfl rowMe hH.h0 (bls_size _ _) ?_) | (go_at_call 91; refine HC.out.mono ?_; rintro e w4 ⟨rfl, hb⟩; have hH4 := H3.out.call' hb; clear hb hH) | (refine wpL_storeFull rfl rfl rfl rfl rowMe hH4.h1 (bls_size _ _) (bls_ok _ _) ?_))
  exact ret_c rfl rfl hH4.r1.h1 rowMe (bls_size _ _) ⟨rfl, hH4.r1.below⟩
set_option maxRecDepth 20000 in
theorem implCentreOf_no (o : Int) (g : Nat → UInt8) (w : World) (hs : loopB o g = false) :
    Calls Try.prog 39 #[.agg (sqc o g)] w fun e w' => e = .returned (.tuple #[.slice none 0 0, .int .i64 1]) ∧ Below w.heap.size w w' := by
  have hH := Has.start1 w (sqc o g) 31
  go_enter Try.func39, Try.ntmps39
  go_wp2_with (first | (refine wpL_loadFull rfl rfl rfl rowSq hH.h0 (sqc_size _ _) ?_) | (go_at_call 69; refine (IsLoop_any o g _).mono ?_; rintro e w2 ⟨rfl, hb⟩; replace hH := hH.call' hb; clear hb; rw [hs]))
  go_ret2
  exact ⟨rfl, hH.below⟩
theorem cen_list {g : Nat → UInt8} {N : Nat} (h : IsLp N g) : selL (foF N 4 oneS (dfF g N) N) 10 = selL (cenB g N) N := by
  rw [selL_up (n := N) (fun i hi => by unfold foF; simp; omega) h.sq.hi]
  exact selL_congr fun i hi => by rw [foF_in hi, winC h hi]
set_option maxRecDepth 20000 in
set_option maxHeartbeats 2000000 in
theorem implCentreOf_yes (N : Nat) (g : Nat → UInt8) (w : World) (hl : loopB (N : Int) g = true) (hL : IsLp N g) :
    Calls Try.prog 39 #[.agg (sqc N g)] w (GotL (selL (cenB g N) N) 0 w) := by
  have HQ := hid hL.sq
  have HL := hid (cen_list hL)
  clear hL
  have hH := Has.start1 w (sqc N g) 31
  go_enter Try.func39, Try.ntmps39
  go_wp2_with (first | (refine wpL_loadFull rfl rfl rfl rowSq hH.h0 (sqc_size _ _) ?_) | (go_at_call 69; refine (IsLoop_any N g _).mono ?_; rintro e w2 ⟨rfl, hb⟩; replace hH := hH.call' hb; clear hb; rw [hl]) | (go_at_call 56; refine (divide_any N g _ HQ.out).mono ?_; rintro e w3 ⟨gb, rfl, hb, hD, hlo⟩; replace hH := hH.call' hb; clear hb hlo) | (refine wpL_buildMe rfl (by rfl) (by rfl) ?_) | (go_at_call 70; refine (centreOver_any N gb g oneS _ HQ.out hD).mono ?_; rintro e w4 ⟨rfl, hb⟩; replace hH := hH.call' hb; clear hb hD) | (go_at_call 71; refine (membersList_any _ _).mono ?_; rintro e w5 ⟨v, rfl, hb, hO⟩; rw [HL.out] at hO; have hlo := hH.size; simp only [List.length_cons, List.length_nil] at hlo; replace hH := hH.call' hb; clear hb))
  go_ret2
  exact hO.got hH.below (by omega)
end Go.Proofs.Ytphninlinegbbaa
