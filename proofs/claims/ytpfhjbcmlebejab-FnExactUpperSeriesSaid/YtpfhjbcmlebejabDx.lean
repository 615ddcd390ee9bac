/- Proved: what the program's nuclei, commutant and centre are. Conditions: those that each theorem names. -/
import Derived.Test.YtpfhjbcmlebejabDw
import Derived.Test.YtpfhjbcmlebejabNr3
import Derived.Great.Walk
namespace Go.Proofs.Ytpfhjbcmlebejab
set_option linter.unusedVariables false
set_option linter.unusedSimpArgs false
open Go.RowKit
theorem associator_nat (N gb x y z : Nat) (g : Nat → UInt8) (w : World) (hq : IsSq N g) (hx : x < N) (hy : y < N) (hz : z < N) (hg : Dv w gb N g) :
    Calls Try.prog 130 #[.pointer (some ⟨gb, 0, none⟩), .int .u8 x, .int .u8 y, .int .u8 z] w fun e w' => e = .returned (.int .u8 (asc g N x y z).toNat) ∧ Below w.heap.size w w' := by
  have h10 := hq.hi
  have := associator_any N gb g (UInt8.ofNat x) (UInt8.ofNat y) (UInt8.ofNat z) w hq (by rw [u8_of x (by omega)]; exact hx) (by rw [u8_of y (by omega)]; exact hy) (by rw [u8_of z (by omega)]; exact hz) hg
  rw [u8_of x (by omega), u8_of y (by omega), u8_of z (by omega)] at this
  exact this
theorem commutator_nat (N gb x y : Nat) (g : Nat → UInt8) (w : World) (hq : IsSq N g) (hx : x < N) (hy : y < N) (hg : Dv w gb N g) :
    Calls Try.prog 131 #[.pointer (some ⟨gb, 0, none⟩), .int .u8 x, .int .u8 y] w fun e w' => e = .returned (.int .u8 (cmm g N x y).toNat) ∧ Below w.heap.size w w' := by
  have h10 := hq.hi
  have := commutator_any N gb g (UInt8.ofNat x) (UInt8.ofNat y) w hq (by rw [u8_of x (by omega)]; exact hx) (by rw [u8_of y (by omega)]; exact hy) hg
  rw [u8_of x (by omega), u8_of y (by omega)] at this
  exact this
set_option maxHeartbeats 1000000 in
theorem leftDifference_nat (N gb a x y : Nat) (g : Nat → UInt8) (w : World) (hq : IsSq N g) (ha : a < N) (hx : x < N) (hy : y < N) (hg : Dv w gb N g) :
    Calls Try.prog 93 #[.pointer (some ⟨gb, 0, none⟩), .int .u8 a, .int .u8 x, .int .u8 y] w fun e w' => e = .returned (.int .u8 (asc g N a x y).toNat) ∧ Below w.heap.size w w' := by
  have HQ := hid hq
  clear hq
  go_enter Try.func93, Try.ntmps93
  go_wp2_with (go_at_call 130; refine (associator_nat N gb a x y g _ HQ.out ha hx hy hg).mono ?_; rintro e w2 ⟨rfl, hb⟩)
  go_ret
  exact ⟨rfl, hb⟩
set_option maxHeartbeats 1000000 in
theorem middleDifference_nat (N gb a x y : Nat) (g : Nat → UInt8) (w : World) (hq : IsSq N g) (ha : a < N) (hx : x < N) (hy : y < N) (hg : Dv w gb N g) :
    Calls Try.prog 152 #[.pointer (some ⟨gb, 0, none⟩), .int .u8 a, .int .u8 x, .int .u8 y] w fun e w' => e = .returned (.int .u8 (asc g N x a y).toNat) ∧ Below w.heap.size w w' := by
  have HQ := hid hq
  clear hq
  go_enter Try.func152, Try.ntmps152
  go_wp2_with (go_at_call 130; refine (associator_nat N gb x a y g _ HQ.out hx ha hy hg).mono ?_; rintro e w2 ⟨rfl, hb⟩)
  go_ret
  exact ⟨rfl, hb⟩
set_option maxHeartbeats 1000000 in
theorem rightDifference_nat (N gb a x y : Nat) (g : Nat → UInt8) (w : World) (hq : IsSq N g) (ha : a < N) (hx : x < N) (hy : y < N) (hg : Dv w gb N g) :
    Calls Try.prog 153 #[.pointer (some ⟨gb, 0, none⟩), .int .u8 a, .int .u8 x, .int .u8 y] w fun e w' => e = .returned (.int .u8 (asc g N x y a).toNat) ∧ Below w.heap.size w w' := by
  have HQ := hid hq
  clear hq
  go_enter Try.func153, Try.ntmps153
  go_wp2_with (go_at_call 130; refine (associator_nat N gb x y a g _ HQ.out hx hy ha hg).mono ?_; rintro e w2 ⟨rfl, hb⟩)
  go_ret
  exact ⟨rfl, hb⟩
set_option maxHeartbeats 1000000 in
theorem turnedDifference_nat (N gb a x y : Nat) (g : Nat → UInt8) (w : World) (hq : IsSq N g) (ha : a < N) (hx : x < N) (hg : Dv w gb N g) :
    Calls Try.prog 94 #[.pointer (some ⟨gb, 0, none⟩), .int .u8 a, .int .u8 x, .int .u8 y] w fun e w' => e = .returned (.int .u8 (cmm g N a x).toNat) ∧ Below w.heap.size w w' := by
  have HQ := hid hq
  clear hq
  go_enter Try.func94, Try.ntmps94
  go_wp2_with (go_at_call 131; refine (commutator_nat N gb a x g _ HQ.out ha hx hg).mono ?_; rintro e w2 ⟨rfl, hb⟩)
  go_ret
  exact ⟨rfl, hb⟩
/-- The four differences, and the functions that make them. -/
def dfF (g : Nat → UInt8) (N j a x y : Nat) : UInt8 := if j = 0 then asc g N a x y else if j = 1 then asc g N x a y else if j = 2 then asc g N x y a else cmm g N a x
def idF (j : Nat) : FuncId := if j = 0 then 93 else if j = 1 then 152 else if j = 2 then 153 else 94
theorem dfF_calls (N gb j a x y : Nat) (g : Nat → UInt8) (w : World) (hq : IsSq N g) (hj : j < 4) (ha : a < N) (hx : x < N) (hy : y < N) (hg : Dv w gb N g) :
    Calls Try.prog (idF j) #[.pointer (some ⟨gb, 0, none⟩), .int .u8 a, .int .u8 x, .int .u8 y] w fun e w' => e = .returned (.int .u8 (dfF g N j a x y).toNat) ∧ Below w.heap.size w w' := by
  have : j = 0 ∨ j = 1 ∨ j = 2 ∨ j = 3 := by omega
  rcases this with rfl | rfl | rfl | rfl
  · exact leftDifference_nat N gb a x y g w hq ha hx hy hg
  · exact middleDifference_nat N gb a x y g w hq ha hx hy hg
  · exact rightDifference_nat N gb a x y g w hq ha hx hy hg
  · exact turnedDifference_nat N gb a x y g w hq ha hx hg
theorem idF_enters (j : Nat) : Enters Try.prog (idF j) := by
  unfold idF
  split
  · exact enters_of Try.func93 (by kernel_rfl) rfl
  · split
    · exact enters_of Try.func152 (by kernel_rfl) rfl
    · split
      · exact enters_of Try.func153 (by kernel_rfl) rfl
      · exact enters_of Try.func94 (by kernel_rfl) rfl
theorem dfF_lt {N j a x y : Nat} {g : Nat → UInt8} (hq : IsSq N g) (ha : a < N) (hx : x < N) (hy : y < N) : (dfF g N j a x y).toNat < 10 := by
  have h10 := hq.hi
  unfold dfF
  split
  · have := asc_lt hq ha hx hy; omega
  · split
    · have := asc_lt hq hx ha hy; omega
    · split
      · have := asc_lt hq hx hy ha; omega
      · have := cmm_lt hq ha hx; omega
/-- The set of 0 alone. -/
def oneS : Nat → Bool := fun i => decide (i = 0)
theorem oneS_iff {i : Nat} : oneS i = true ↔ i = 0 := by unfold oneS; exact decide_eq_true_iff
theorem builtMe1 : Try.prog.built 91 [(0, .bool true)] = some (bls 10 oneS) := by kernel_rfl
theorem builtD1 (k : FuncId) : (Try.prog).builtSlice 157 1 [(0, Value.func (.func k) #[] #[])] = some #[Value.func (.func k) #[] #[]] := by kernel_rfl
section
variable {ops : Array Oper} {rest : List Oper} {o : Oper} {a : Act} {w : World} {Q : Exit → Act → World → Prop}
theorem wpL_buildMe {x : Operand} (hgd : o.guard = none) (ho : o.op = .build 91 #[(0, x)]) (hx : a.eval x = .bool true)
    (h : wpList Try.prog ops Q rest (a.put o.dst (.agg (bls 10 oneS))) w) : wpList Try.prog ops Q (o :: rest) a w := by
  refine wpList_build hgd 91 #[(0, x)] ho ?_ ?_
  · simp [hx, builtMe1]
  · simpa [hx, builtMe1] using h
theorem wpL_sliceD {p : Operand} {k : FuncId} (hgd : o.guard = none) (ho : o.op = .buildSlice 137 1 #[(0, p)]) (hx : a.eval p = .func (.func k) #[] #[])
    (h : wpList Try.prog ops Q rest (a.put o.dst (.slice (some ⟨w.heap.size, 0, none⟩) 1 1)) (w.alloc (.cells #[Value.func (.func k) #[] #[]] 157))) : wpList Try.prog ops Q (o :: rest) a w := by
  refine Great.wpList_buildSliceTo hgd 137 157 1 _ ho _ rfl o.dst rfl Try.underlying137 #[Value.func (.func k) #[] #[]] ?_ h
  have hp : ((#[(0, p)] : Array (Nat × Operand)).map fun (i, x) => (i, a.eval x)).toList = [(0, Value.func (.func k) #[] #[])] := by simp [hx]
  rw [hp]
  exact builtD1 k
end
/-- The elements whose difference j is 0 everywhere. -/
noncomputable def dfL (g : Nat → UInt8) (N j : Nat) : List Int := selL (foF N 1 oneS (fun _ => dfF g N j) N) N
end Go.Proofs.Ytpfhjbcmlebejab
