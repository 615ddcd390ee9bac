/- Proved: what the program's LeftNucleus, MiddleNucleus, RightNucleus, CommutantOf and CentreOf return. Conditions: those that each theorem names. -/
import Derived.Test.YtpfhjbcmlebejabDx
namespace Go.Proofs.Ytpfhjbcmlebejab
set_option linter.unusedVariables false
set_option linter.unusedSimpArgs false
open Go.RowKit
theorem bool_same {b c : Bool} (h : b = true ↔ c = true) : b = c := by cases b <;> cases c <;> simp_all
theorem foF_in {N m a : Nat} {s : Nat → Bool} {D : Nat → Nat → Nat → Nat → UInt8} (ha : a < N) : foF N m s D N a = winB N m s D a := by unfold foF; simp [ha]
theorem win0 {g : Nat → UInt8} {N a : Nat} (h : IsLp N g) (ha : a < N) : winB N 1 oneS (fun _ => dfF g N 0) a = regB g N 0 a := bool_same (by
  rw [winB_iff, regB_iff]
  constructor
  · intro hw x hx y hy
    show mu g (mu g a x) y = mu g a (mu g x y)
    exact (asc_zero h ha hx hy).1 (oneS_iff.1 (hw x hx y hy 0 (by omega)))
  · intro hr x hx y hy j _
    exact oneS_iff.2 ((asc_zero h ha hx hy).2 (hr x hx y hy)))
theorem win1 {g : Nat → UInt8} {N a : Nat} (h : IsLp N g) (ha : a < N) : winB N 1 oneS (fun _ => dfF g N 1) a = regB g N 1 a := bool_same (by
  rw [winB_iff, regB_iff]
  constructor
  · intro hw x hx y hy
    show mu g (mu g x a) y = mu g x (mu g a y)
    exact (asc_zero h hx ha hy).1 (oneS_iff.1 (hw x hx y hy 0 (by omega)))
  · intro hr x hx y hy j _
    exact oneS_iff.2 ((asc_zero h hx ha hy).2 (hr x hx y hy)))
theorem win2 {g : Nat → UInt8} {N a : Nat} (h : IsLp N g) (ha : a < N) : winB N 1 oneS (fun _ => dfF g N 2) a = regB g N 2 a := bool_same (by
  rw [winB_iff, regB_iff]
  constructor
  · intro hw x hx y hy
    show mu g (mu g x y) a = mu g x (mu g y a)
    exact (asc_zero h hx hy ha).1 (oneS_iff.1 (hw x hx y hy 0 (by omega)))
  · intro hr x hx y hy j _
    exact oneS_iff.2 ((asc_zero h hx hy ha).2 (hr x hx y hy)))
theorem win3 {g : Nat → UInt8} {N a : Nat} (h : IsLp N g) (ha : a < N) : winB N 1 oneS (fun _ => dfF g N 3) a = comB g N a := bool_same (winB_iff.trans (Iff.trans
  ⟨fun hw x hx => (cmm_zero h ha hx).1 (oneS_iff.1 (hw x hx x hx 0 (by omega))), fun hr x hx y hy j _ => oneS_iff.2 ((cmm_zero h ha hx).2 (hr x hx))⟩ comB_iff.symm))
theorem win_split {N a : Nat} {g : Nat → UInt8} {s : Nat → Bool} : winB N 4 s (dfF g N) a = ((winB N 1 s (fun _ => dfF g N 0) a && (winB N 1 s (fun _ => dfF g N 1) a && winB N 1 s (fun _ => dfF g N 2) a)) && winB N 1 s (fun _ => dfF g N 3) a) := bool_same (by
  simp only [Bool.and_eq_true, winB_iff]
  constructor
  · intro h
    exact ⟨⟨fun x hx y hy j _ => h x hx y hy 0 (by omega), fun x hx y hy j _ => h x hx y hy 1 (by omega), fun x hx y hy j _ => h x hx y hy 2 (by omega)⟩, fun x hx y hy j _ => h x hx y hy 3 (by omega)⟩
  · rintro ⟨⟨h0, h1, h2⟩, h3⟩ x hx y hy j hj
    have : j = 0 ∨ j = 1 ∨ j = 2 ∨ j = 3 := by omega
    rcases this with rfl | rfl | rfl | rfl
    · exact h0 x hx y hy 0 (by omega)
    · exact h1 x hx y hy 0 (by omega)
    · exact h2 x hx y hy 0 (by omega)
    · exact h3 x hx y hy 0 (by omega))
theorem winC {g : Nat → UInt8} {N a : Nat} (h : IsLp N g) (ha : a < N) : winB N 4 oneS (dfF g N) a = cenB g N a := by
  rw [win_split, win0 h ha, win1 h ha, win2 h ha, win3 h ha]; rfl
theorem dfL_0 {g : Nat → UInt8} {N : Nat} (h : IsLp N g) : dfL g N 0 = selL (regB g N 0) N := selL_congr fun i hi => by rw [foF_in hi, win0 h hi]
theorem dfL_1 {g : Nat → UInt8} {N : Nat} (h : IsLp N g) : dfL g N 1 = selL (regB g N 1) N := selL_congr fun i hi => by rw [foF_in hi, win1 h hi]
theorem dfL_2 {g : Nat → UInt8} {N : Nat} (h : IsLp N g) : dfL g N 2 = selL (regB g N 2) N := selL_congr fun i hi => by rw [foF_in hi, win2 h hi]
theorem dfL_3 {g : Nat → UInt8} {N : Nat} (h : IsLp N g) : dfL g N 3 = selL (comB g N) N := selL_congr fun i hi => by rw [foF_in hi, win3 h hi]
theorem builtD4 (a b c d : FuncId) : (Try.prog).builtSlice 157 4 [(0, Value.func (.func a) #[] #[]), (1, Value.func (.func b) #[] #[]), (2, Value.func (.func c) #[] #[]), (3, Value.func (.func d) #[] #[])] = some #[Value.func (.func a) #[] #[], Value.func (.func b) #[] #[], Value.func (.func c) #[] #[], Value.func (.func d) #[] #[]] := by kernel_rfl
section
variable {ops : Array Oper} {rest : List Oper} {o : Oper} {a : Act} {w : World} {Q : Exit → Act → World → Prop}
theorem wpL_sliceD4 {p0 p1 p2 p3 : Operand} {k0 k1 k2 k3 : FuncId} (hgd : o.guard = none) (ho : o.op = .buildSlice 137 4 #[(0, p0), (1, p1), (2, p2), (3, p3)]) (h0 : a.eval p0 = .func (.func k0) #[] #[]) (h1 : a.eval p1 = .func (.func k1) #[] #[]) (h2 : a.eval p2 = .func (.func k2) #[] #[]) (h3 : a.eval p3 = .func (.func k3) #[] #[])
    (h : wpList Try.prog ops Q rest (a.put o.dst (.slice (some ⟨w.heap.size, 0, none⟩) 4 4)) (w.alloc (.cells #[Value.func (.func k0) #[] #[], Value.func (.func k1) #[] #[], Value.func (.func k2) #[] #[], Value.func (.func k3) #[] #[]] 157))) : wpList Try.prog ops Q (o :: rest) a w := by
  refine Great.wpList_buildSliceTo hgd 137 157 4 _ ho _ rfl o.dst rfl Try.underlying137 _ ?_ h
  have hp : ((#[(0, p0), (1, p1), (2, p2), (3, p3)] : Array (Nat × Operand)).map fun (i, x) => (i, a.eval x)).toList = [(0, Value.func (.func k0) #[] #[]), (1, Value.func (.func k1) #[] #[]), (2, Value.func (.func k2) #[] #[]), (3, Value.func (.func k3) #[] #[])] := by simp [h0, h1, h2, h3]
  rw [hp]
  exact builtD4 k0 k1 k2 k3
end
/-- The four functions, in a block. -/
def fourF : Array Value := #[Value.func (.func 93) #[] #[], Value.func (.func 152) #[] #[], Value.func (.func 153) #[] #[], Value.func (.func 94) #[] #[]]
theorem four_row (w : World) : DRow (w.alloc (.cells fourF 157)) w.heap.size 4 idF := ⟨_, holds_new _ _ _, fun j hj => by
  have : j = 0 ∨ j = 1 ∨ j = 2 ∨ j = 3 := by omega
  rcases this with rfl | rfl | rfl | rfl <;> rfl⟩
set_option maxRecDepth 20000 in
set_option maxHeartbeats 2000000 in
theorem centreOver_any (N gb : Nat) (g : Nat → UInt8) (s : Nat → Bool) (w : World) (hq : IsSq N g) (hg : Dv w gb N g) :
    Calls Try.prog 127 #[.pointer (some ⟨gb, 0, none⟩), .agg (bls 10 s)] w fun e w' => e = .returned (.agg (bls 10 (foF N 4 s (dfF g N) N))) ∧ Below w.heap.size w w' := by
  have HQ := hid hq
  have h1 := hq.lo
  have h10 := hq.hi
  clear hq
  have hH := Has.start2 w (bls 10 s) (bls 10 fun _ => false) 91 91
  have hz : ((w.alloc (.cells (bls 10 s) 91)).alloc (.cells (bls 10 fun _ => false) 91)).heap.size = w.heap.size + 1 + 1 := by simp
  have hR := four_row ((w.alloc (.cells (bls 10 s) 91)).alloc (.cells (bls 10 fun _ => false) 91))
  rw [hz] at hR
  clear hz
  have hH3 := hH.alloc (.cells fourF 157)
  replace hg := Dv.alloc (Dv.alloc (Dv.alloc hg (.cells (bls 10 s) 91)) (.cells (bls 10 fun _ => false) 91)) (.cells fourF 157)
  have hC := differingWithin_any N gb (w.heap.size + 1 + 1) 4 g s idF (dfF g N) _ h1 h10 (by omega) (hid fun i _ => idF_enters i) hg hR (hid fun i hi a x y w ha hx hy hg => dfF_calls N gb i a x y g w HQ.out hi ha hx hy hg) (hid fun i a x y _ ha hx hy => dfF_lt HQ.out ha hx hy)
  unfold fourF at hC hH3
  have HC := hid hC
  have H3 := hid hH3
  clear hg hR hC hH3
  go_enter Try.func127, Try.ntmps127
  go_wp2_with (first | fail | (refine wpL_alloc rfl rfl zeroMe ?_; intro g0 hg0; (try simp at hg0); subst hg0) | (refine wpL_loadFull rfl rfl rfl rowMe hH.h0 (bls_size _ _) ?_) | (go_at_call 151; refine HC.out.mono ?_; rintro e w4 ⟨rfl, hb⟩; have hH4 := H3.out.call' hb; clear hb hH) | (refine wpL_storeFull rfl rfl rfl rfl rowMe hH4.h1 (bls_size _ _) (bls_ok _ _) ?_))
  exact ret_c rfl rfl hH4.r1.h1 rowMe (bls_size _ _) ⟨rfl, hH4.r1.below⟩
end Go.Proofs.Ytpfhjbcmlebejab
