/- Proved: what the program's nuclei, commutant and centre are. Conditions: those that each theorem names. -/
import Derived.Test.YtphninlinegbbaaDw
import Derived.Test.YtphninlinegbbaaNr3
import Derived.Great.Walk
namespace Go.Proofs.Ytphninlinegbbaa
set_option linter.unusedVariables false
set_option linter.unusedSimpArgs false
open Go.RowKit
theorem associator_nat (N gb x y z : Nat) (g : Nat → UInt8) (w : World) (hq : IsSq N g) (hx : x < N) (hy : y < N) (hz : z < N) (hg : Dv w gb N g) :
    Calls Try.prog 59 #[.pointer (some ⟨gb, 0, none⟩), .int .u8 x, .int .u8 y, .int .u8 z] w fun e w' => e = .returned (.int .u8 (asc g N x y z).toNat) ∧ Below w.heap.size w w' := by
  have h10 := hq.hi
  have := associator_any N gb g (UInt8.ofNat x) (UInt8.ofNat y) (UInt8.ofNat z) w hq (by rw [u8_of x (by omega)]; exact hx) (by rw [u8_of y (by omega)]; exact hy) (by rw [u8_of z (by omega)]; exact hz) hg
  rw [u8_of x (by omega), u8_of y (by omega), u8_of z (by omega)] at this
  exact this
theorem commutator_nat (N gb x y : Nat) (g : Nat → UInt8) (w : World) (hq : IsSq N g) (hx : x < N) (hy : y < N) (hg : Dv w gb N g) :
    Calls Try.prog 57 #[.pointer (some ⟨gb, 0, none⟩), .int .u8 x, .int .u8 y] w fun e w' => e = .returned (.int .u8 (cmm g N x y).toNat) ∧ Below w.heap.size w w' := by
  have h10 := hq.hi
  have := commutator_any N gb g (UInt8.ofNat x) (UInt8.ofNat y) w hq (by rw [u8_of x (by omega)]; exact hx) (by rw [u8_of y (by omega)]; exact hy) hg
  rw [u8_of x (by omega), u8_of y (by omega)] at this
  exact this
set_option maxHeartbeats 1000000 in
theorem leftDifference_nat (N gb a x y : Nat) (g : Nat → UInt8) (w : World) (hq : IsSq N g) (ha : a < N) (hx : x < N) (hy : y < N) (hg : Dv w gb N g) :
    Calls Try.prog 63 #[.pointer (some ⟨gb, 0, none⟩), .int .u8 a, .int .u8 x, .int .u8 y] w fun e w' => e = .returned (.int .u8 (asc g N a x y).toNat) ∧ Below w.heap.size w w' := by
  have HQ := hid hq
  clear hq
  go_enter Try.func63, Try.ntmps63
  go_wp2_with (go_at_call 59; refine (associator_nat N gb a x y g _ HQ.out ha hx hy hg).mono ?_; rintro e w2 ⟨rfl, hb⟩)
  go_ret
  exact ⟨rfl, hb⟩
set_option maxHeartbeats 1000000 in
theorem middleDifference_nat (N gb a x y : Nat) (g : Nat → UInt8) (w : World) (hq : IsSq N g) (ha : a < N) (hx : x < N) (hy : y < N) (hg : Dv w gb N g) :
    Calls Try.prog 64 #[.pointer (some ⟨gb, 0, none⟩), .int .u8 a, .int .u8 x, .int .u8 y] w fun e w' => e = .returned (.int .u8 (asc g N x a y).toNat) ∧ Below w.heap.size w w' := by
  have HQ := hid hq
  clear hq
  go_enter Try.func64, Try.ntmps64
  go_wp2_with (go_at_call 59; refine (associator_nat N gb x a y g _ HQ.out hx ha hy hg).mono ?_; rintro e w2 ⟨rfl, hb⟩)
  go_ret
  exact ⟨rfl, hb⟩
set_option maxHeartbeats 1000000 in
theorem rightDifference_nat (N gb a x y : Nat) (g : Nat → UInt8) (w : World) (hq : IsSq N g) (ha : a < N) (hx : x < N) (hy : y < N) (hg : Dv w gb N g) :
    Calls Try.prog 65 #[.pointer (some ⟨gb, 0, none⟩), .int .u8 a, .int .u8 x, .int .u8 y] w fun e w' => e = .returned (.int .u8 (asc g N x y a).toNat) ∧ Below w.heap.size w w' := by
  have HQ := hid hq
  clear hq
  go_enter Try.func65, Try.ntmps65
  go_wp2_with (go_at_call 59; refine (associator_nat N gb x y a g _ HQ.out hx hy ha hg).mono ?_; rintro e w2 ⟨rfl, hb⟩)
  go_ret
  exact ⟨rfl, hb⟩
set_option maxHeartbeats 1000000 in
theorem turnedDifference_nat (N gb a x y : Nat) (g : Nat → UInt8) (w : World) (hq : IsSq N g) (ha : a < N) (hx : x < N) (hg : Dv w gb N g) :
    Calls Try.prog 67 #[.pointer (some ⟨gb, 0, none⟩), .int .u8 a, .int .u8 x, .int .u8 y] w fun e w' => e = .returned (.int .u8 (cmm g N a x).toNat) ∧ Below w.heap.size w w' := by
  have HQ := hid hq
  clear hq
  go_enter Try.func67, Try.ntmps67
  go_wp2_with (go_at_call 57; refine (commutator_nat N gb a x g _ HQ.out ha hx hg).mono ?_; rintro e w2 ⟨rfl, hb⟩)
  go_ret
  exact ⟨rfl, hb⟩
/-- The four differences, and the functions that make them. -/
def dfF (g : Nat → UInt8) (N j a x y : Nat) : UInt8 := if j = 0 then asc g N a x y else if j = 1 then asc g N x a y else if j = 2 then asc g N x y a else cmm g N a x
def idF (j : Nat) : FuncId := if j = 0 then 63 else if j = 1 then 64 else if j = 2 then 65 else 67
theorem dfF_calls (N gb j a x y : Nat) (g : Nat → UInt8) (w : World) (hq : IsSq N g) (hj : j < 4) (ha : a < N) (hx : x < N) (hy : y < N) (hg : Dv w gb N g) :
    Calls Try.prog (idF j) #[.pointer (some ⟨gb, 0, none⟩), .int .u8 a, .int .u8 x, .int .u8 y] w fun e w' => e = .returned (.int .u8 (dfF g N j a x y).toNat) ∧ Below w.heap.size w w' := by
  have : j = 0 ∨ j = 1 ∨ j = 2 ∨ j = 3 := by omega
  rcases this with rfl | rfl | rfl | rfl
  · exact leftDifference_nat N gb a x y g w hq ha hx hy hg
  · exact middleDifference_nat N gb a x y g w hq ha hx hy hg
  · exact rightDifference_nat N gb a x y g w hq ha hx hy hg
  · exact turnedDifference_nat N gb a x y g w hq ha hx hg
theorem idF_enters (j : Nat) : Enters Try.prog (idF j) := by
  unfold idF
  split
  · exact enters_of Try.func63 (by kernel_rfl) rfl
  · split
    · exact enters_of Try.func64 (by kernel_rfl) rfl
    · split
      · exact enters_of Try.func65 (by kernel_rfl) rfl
      · exact enters_of Try.func67 (by kernel_rfl) rfl
theorem dfF_lt {N j a x y : Nat} {g : Nat → UInt8} (hq : IsSq N g) (ha : a < N) (hx : x < N) (hy : y < N) : (dfF g N j a x y).toNat < 10 := by
  have h10 := hq.hi
  unfold dfF
  split
  · have := asc_lt hq ha hx hy; omega
  · split
    · have := asc_lt hq hx ha hy; omega
    · split
      · have := asc_lt hq hx hy ha; omega
      · have := cmm_lt hq ha hx; omega
/-- The set of 0 alone. -/
def oneS : Nat → Bool := fun i => decide (i = 0)
theorem oneS_iff {i : Nat} : oneS i = true ↔ i = 0 := by unfold oneS; exact decide_eq_true_iff
theorem builtMe1 : Try.prog.built 68 [(0, .bool true)] = some (bls 10 oneS) := by kernel_rfl
theorem builtD1 (k : FuncId) : (Try.prog).builtSlice 84 1 [(0, Value.func (.func k) #[] #[])] = some #[Value.func (.func k) #[] #[]] := by kernel_rfl
section
variable {ops : Array Oper} {rest : List Oper} {o : Oper} {a : Act} {w : World} {Q : Exit → Act → World → Prop}
theorem wpL_buildMe {x : Operand} (hgd : o.guard = none) (ho : o.op = .build 68 #[(0, x)]) (hx : a.eval x = .bool true)
    (h : wpList Try.prog ops Q rest (a.put o.dst (.agg (bls 10 oneS))) w) : wpList Try.prog ops Q (o :: rest) a w := by
  refine wpList_build hgd 68 #[(0, x)] ho ?_ ?_
  · simp [hx, builtMe1]
  · simpa [hx, builtMe1] using h
theorem wpL_sliceD {p : Operand} {k : FuncId} (hgd : o.guard = none) (ho : o.op = .buildSlice 88 1 #[(0, p)]) (hx : a.eval p = .func (.func k) #[] #[])
    (h : wpList Try.prog ops Q rest (a.put o.dst (.slice (some ⟨w.heap.size, 0, none⟩) 1 1)) (w.alloc (.cells #[Value.func (.func k) #[] #[]] 84))) : wpList Try.prog ops Q (o :: rest) a w := by
  refine Great.wpList_buildSliceTo hgd 88 84 1 _ ho _ rfl o.dst rfl Try.underlying88 #[Value.func (.func k) #[] #[]] ?_ h
  have hp : ((#[(0, p)] : Array (Nat × Operand)).map fun (i, x) => (i, a.eval x)).toList = [(0, Value.func (.func k) #[] #[])] := by simp [hx]
  rw [hp]
  exact builtD1 k
end
set_option maxRecDepth 20000 in
theorem withoutDifference_no (o : Int) (g : Nat → UInt8) (k : FuncId) (w : World) (hs : loopB o g = false) :
    Calls Try.prog 62 #[.agg (sqc o g), .func (.func k) #[] #[]] w fun e w' => e = .returned (.tuple #[.slice none 0 0, .int .i64 1]) ∧ Below w.heap.size w w' := by
  have hH := Has.start1 w (sqc o g) 31
  go_enter Try.func62, Try.ntmps62
  go_wp2_with (first | (refine wpL_loadFull rfl rfl rfl rowSq hH.h0 (sqc_size _ _) ?_) | (go_at_call 69; refine (IsLoop_any o g _).mono ?_; rintro e w2 ⟨rfl, hb⟩; replace hH := hH.call' hb; clear hb; rw [hs]))
  go_ret2
  exact ⟨rfl, hH.below⟩
/-- The elements whose difference j is 0 everywhere. -/
noncomputable def dfL (g : Nat → UInt8) (N j : Nat) : List Int := selL (foF N 1 oneS (fun _ => dfF g N j) N) N
set_option maxRecDepth 20000 in
set_option maxHeartbeats 2000000 in
theorem withoutDifference_yes (N j : Nat) (g : Nat → UInt8) (w : World) (hl : loopB (N : Int) g = true) (hq : IsSq N g) (hj : j < 4) :
    Calls Try.prog 62 #[.agg (sqc N g), .func (.func (idF j)) #[] #[]] w (GotL (dfL g N j) 0 w) := by
  have HQ := hid hq
  have h1 := hq.lo
  have h10 := hq.hi
  clear hq
  have HL := hid (show selL (foF N 1 oneS (fun _ => dfF g N j) N) 10 = dfL g N j from selL_up (fun i hi => by unfold foF; simp; omega) h10)
  have hH := Has.start1 w (sqc N g) 31
  go_enter Try.func62, Try.ntmps62
  go_wp2_with (first | (refine wpL_loadFull rfl rfl rfl rowSq hH.h0 (sqc_size _ _) ?_) | (go_at_call 69; refine (IsLoop_any N g _).mono ?_; rintro e w2 ⟨rfl, hb⟩; replace hH := hH.call' hb; clear hb; rw [hl]) | (go_at_call 56; refine (divide_any N g _ HQ.out).mono ?_; rintro e w3 ⟨gb, rfl, hb, hD, hlo⟩; replace hH := hH.call' hb; clear hb hlo) | (refine wpL_buildMe rfl (by rfl) (by rfl) ?_) | (refine wpL_sliceD (k := idF j) rfl (by rfl) (by rfl) ?_; have hR : DRow (w3.alloc (.cells #[Value.func (.func (idF j)) #[] #[]] 84)) w3.heap.size 1 (fun _ => idF j) := ⟨_, holds_new _ _ _, fun i hi => by obtain rfl : i = 0 := (by omega); rfl⟩; replace hD := Dv.alloc hD (.cells #[Value.func (.func (idF j)) #[] #[]] 84); replace hH := hH.alloc (.cells #[Value.func (.func (idF j)) #[] #[]] 84)) | (go_at_call 91; refine (differingWithin_any N gb _ 1 g oneS (fun _ => idF j) (fun _ => dfF g N j) _ h1 h10 (by omega) (hid fun i _ => idF_enters j) hD hR (hid fun i _ a x y w ha hx hy hg => dfF_calls N gb j a x y g w HQ.out hj ha hx hy hg) (hid fun i a x y _ ha hx hy => dfF_lt HQ.out ha hx hy)).mono ?_; rintro e w4 ⟨rfl, hb⟩; replace hH := hH.call' hb; clear hb hD hR) | (go_at_call 71; refine (membersList_any _ _).mono ?_; rintro e w5 ⟨v, rfl, hb, hO⟩; rw [HL.out] at hO; have hlo := hH.size; simp only [List.length_cons, List.length_nil] at hlo; replace hH := hH.call' hb; clear hb))
  go_ret2
  exact hO.got hH.below (by omega)
end Go.Proofs.Ytphninlinegbbaa
