/-
  No cell of these rows narrows 'for every input' (looked for: loops, veiled, ifaces, maps, wideKeys, modest, calm, conditions, laid).
  DERIVED. THE GIVEN ROWS OF THIS SEAT. 12 by the template 'for every input the law returns true; each argument reads behind the call as it read before'; 0 by the template 'total and deterministic' (their statements: YtbhjbllgmenbaaaTotals.lean).
  GIVEN WITH THE SEED: the statements are not yours to turn. If you find one false, say at which input.
  Laid BY PROGRAM, IN A SANDBOX (cutbox-rows.mjs): the forced cells as the released guide's own fill.sh prints them over the translation 069a2df46c3f861d… (all of the seat's roots in one cut). By AI agents, Wed Nov 11 2026. No macro, syntax, notation, axiom, sorry.
-/
import Derived.Test.YtbhjbllgmenbaaaChecked
import GoSem.Claim
import GoSem.ClaimJoined
import GoSem.ClaimMapViews
import Derived.JoinedTies
import Derived.KernelRfl
namespace Go.Proofs.Ytbhjbllgmenbaaa
/- THE CELL 'sum', in the pinned program and in every row, IS THE sha256 OF THE DUMP (.gsa) THAT YtbhjbllgmenbaaaProg.lean LOADS. Nothing in Lean hashes anything: it is a label: what it is worth is what the hold of that sum in a sandbox is worth. -/
noncomputable def Try.pinned : Pinned := { name := "ytbhjbllgmenbaaa", sum := "069a2df46c3f861dbf19f0cab89d1f74abe9bcef8f11248efe20982a30709715", checked := Try.checked }
namespace Rows
def none {H : Type} : Left H := { results := [], args := [] }

/-- 'laws.FnExactSwitchIntercalate': WHATEVER THE INPUT: true; the input reads as it did. -/
def fnExactSwitchIntercalateSpec : ChangeSpec := { name := "fnExactSwitchIntercalate", fn := fun _ => fun
  | [d1, d2] => { results := [.lit (.bool true)], args := [d1, d2] }
  | _ => none }
def fnExactSwitchIntercalateRow : OpenClaim := { program := "ytbhjbllgmenbaaa", sum := "069a2df46c3f861dbf19f0cab89d1f74abe9bcef8f11248efe20982a30709715", func := "loop.example/g01195/laws.FnExactSwitchIntercalate", spec := "fnExactSwitchIntercalate", apart := false }
def FnExactSwitchIntercalateSaid : Prop := fnExactSwitchIntercalateRow.holds Try.pinned (OpenSpec.ofChange fnExactSwitchIntercalateSpec)

/-- ITS FALSE NEIGHBOUR: 'it returns false'. Refute it at one input. -/
def fnExactSwitchIntercalateWrong : ChangeSpec := { name := "fnExactSwitchIntercalate", fn := fun _ => fun
  | [d1, d2] => { results := [.lit (.bool false)], args := [d1, d2] }
  | _ => none }
def FnExactSwitchIntercalateWrongFalsely : Prop := fnExactSwitchIntercalateRow.holds Try.pinned (OpenSpec.ofChange fnExactSwitchIntercalateWrong)

/-- 'laws.FnExactQuadraticSquare': WHATEVER THE INPUT: true; the input reads as it did. -/
def fnExactQuadraticSquareSpec : ChangeSpec := { name := "fnExactQuadraticSquare", fn := fun _ => fun
  | [d1, d2, d3] => { results := [.lit (.bool true)], args := [d1, d2, d3] }
  | _ => none }
def fnExactQuadraticSquareRow : OpenClaim := { program := "ytbhjbllgmenbaaa", sum := "069a2df46c3f861dbf19f0cab89d1f74abe9bcef8f11248efe20982a30709715", func := "loop.example/g01195/laws.FnExactQuadraticSquare", spec := "fnExactQuadraticSquare", unfollowed := true, recurses := true, apart := false }
def FnExactQuadraticSquareSaid : Prop := fnExactQuadraticSquareRow.holds Try.pinned (OpenSpec.ofChange fnExactQuadraticSquareSpec)

/-- ITS FALSE NEIGHBOUR: 'it returns false'. Refute it at one input. -/
def fnExactQuadraticSquareWrong : ChangeSpec := { name := "fnExactQuadraticSquare", fn := fun _ => fun
  | [d1, d2, d3] => { results := [.lit (.bool false)], args := [d1, d2, d3] }
  | _ => none }
def FnExactQuadraticSquareWrongFalsely : Prop := fnExactQuadraticSquareRow.holds Try.pinned (OpenSpec.ofChange fnExactQuadraticSquareWrong)

/-- 'laws.FnExactRowCycles': WHATEVER THE INPUT: true; the input reads as it did. -/
def fnExactRowCyclesSpec : ChangeSpec := { name := "fnExactRowCycles", fn := fun _ => fun
  | [d1, d2, d3] => { results := [.lit (.bool true)], args := [d1, d2, d3] }
  | _ => none }
def fnExactRowCyclesRow : OpenClaim := { program := "ytbhjbllgmenbaaa", sum := "069a2df46c3f861dbf19f0cab89d1f74abe9bcef8f11248efe20982a30709715", func := "loop.example/g01195/laws.FnExactRowCycles", spec := "fnExactRowCycles", recurses := true, apart := false }
def FnExactRowCyclesSaid : Prop := fnExactRowCyclesRow.holds Try.pinned (OpenSpec.ofChange fnExactRowCyclesSpec)

/-- ITS FALSE NEIGHBOUR: 'it returns false'. Refute it at one input. -/
def fnExactRowCyclesWrong : ChangeSpec := { name := "fnExactRowCycles", fn := fun _ => fun
  | [d1, d2, d3] => { results := [.lit (.bool false)], args := [d1, d2, d3] }
  | _ => none }
def FnExactRowCyclesWrongFalsely : Prop := fnExactRowCyclesRow.holds Try.pinned (OpenSpec.ofChange fnExactRowCyclesWrong)

/-- 'laws.FnExactIsRowHamiltonian': WHATEVER THE INPUT: true; the input reads as it did. -/
def fnExactIsRowHamiltonianSpec : ChangeSpec := { name := "fnExactIsRowHamiltonian", fn := fun _ => fun
  | [d] => { results := [.lit (.bool true)], args := [d] }
  | _ => none }
def fnExactIsRowHamiltonianRow : OpenClaim := { program := "ytbhjbllgmenbaaa", sum := "069a2df46c3f861dbf19f0cab89d1f74abe9bcef8f11248efe20982a30709715", func := "loop.example/g01195/laws.FnExactIsRowHamiltonian", spec := "fnExactIsRowHamiltonian", recurses := true, apart := false }
def FnExactIsRowHamiltonianSaid : Prop := fnExactIsRowHamiltonianRow.holds Try.pinned (OpenSpec.ofChange fnExactIsRowHamiltonianSpec)

/-- ITS FALSE NEIGHBOUR: 'it returns false'. Refute it at one input. -/
def fnExactIsRowHamiltonianWrong : ChangeSpec := { name := "fnExactIsRowHamiltonian", fn := fun _ => fun
  | [d] => { results := [.lit (.bool false)], args := [d] }
  | _ => none }
def FnExactIsRowHamiltonianWrongFalsely : Prop := fnExactIsRowHamiltonianRow.holds Try.pinned (OpenSpec.ofChange fnExactIsRowHamiltonianWrong)

/-- 'laws.FnExactIsPartial': WHATEVER THE INPUT: true; the input reads as it did. -/
def fnExactIsPartialSpec : ChangeSpec := { name := "fnExactIsPartial", fn := fun _ => fun
  | [d] => { results := [.lit (.bool true)], args := [d] }
  | _ => none }
def fnExactIsPartialRow : OpenClaim := { program := "ytbhjbllgmenbaaa", sum := "069a2df46c3f861dbf19f0cab89d1f74abe9bcef8f11248efe20982a30709715", func := "loop.example/g01195/laws.FnExactIsPartial", spec := "fnExactIsPartial", apart := false }
def FnExactIsPartialSaid : Prop := fnExactIsPartialRow.holds Try.pinned (OpenSpec.ofChange fnExactIsPartialSpec)

/-- ITS FALSE NEIGHBOUR: 'it returns false'. Refute it at one input. -/
def fnExactIsPartialWrong : ChangeSpec := { name := "fnExactIsPartial", fn := fun _ => fun
  | [d] => { results := [.lit (.bool false)], args := [d] }
  | _ => none }
def FnExactIsPartialWrongFalsely : Prop := fnExactIsPartialRow.holds Try.pinned (OpenSpec.ofChange fnExactIsPartialWrong)

/-- 'laws.FnExactCandidatesAt': WHATEVER THE INPUT: true; the input reads as it did. -/
def fnExactCandidatesAtSpec : ChangeSpec := { name := "fnExactCandidatesAt", fn := fun _ => fun
  | [d1, d2, d3] => { results := [.lit (.bool true)], args := [d1, d2, d3] }
  | _ => none }
def fnExactCandidatesAtRow : OpenClaim := { program := "ytbhjbllgmenbaaa", sum := "069a2df46c3f861dbf19f0cab89d1f74abe9bcef8f11248efe20982a30709715", func := "loop.example/g01195/laws.FnExactCandidatesAt", spec := "fnExactCandidatesAt", apart := false }
def FnExactCandidatesAtSaid : Prop := fnExactCandidatesAtRow.holds Try.pinned (OpenSpec.ofChange fnExactCandidatesAtSpec)

/-- ITS FALSE NEIGHBOUR: 'it returns false'. Refute it at one input. -/
def fnExactCandidatesAtWrong : ChangeSpec := { name := "fnExactCandidatesAt", fn := fun _ => fun
  | [d1, d2, d3] => { results := [.lit (.bool false)], args := [d1, d2, d3] }
  | _ => none }
def FnExactCandidatesAtWrongFalsely : Prop := fnExactCandidatesAtRow.holds Try.pinned (OpenSpec.ofChange fnExactCandidatesAtWrong)

/-- 'laws.FnExactForceCells': WHATEVER THE INPUT: true; the input reads as it did. -/
def fnExactForceCellsSpec : ChangeSpec := { name := "fnExactForceCells", fn := fun _ => fun
  | [d] => { results := [.lit (.bool true)], args := [d] }
  | _ => none }
def fnExactForceCellsRow : OpenClaim := { program := "ytbhjbllgmenbaaa", sum := "069a2df46c3f861dbf19f0cab89d1f74abe9bcef8f11248efe20982a30709715", func := "loop.example/g01195/laws.FnExactForceCells", spec := "fnExactForceCells", apart := false }
def FnExactForceCellsSaid : Prop := fnExactForceCellsRow.holds Try.pinned (OpenSpec.ofChange fnExactForceCellsSpec)

/-- ITS FALSE NEIGHBOUR: 'it returns false'. Refute it at one input. -/
def fnExactForceCellsWrong : ChangeSpec := { name := "fnExactForceCells", fn := fun _ => fun
  | [d] => { results := [.lit (.bool false)], args := [d] }
  | _ => none }
def FnExactForceCellsWrongFalsely : Prop := fnExactForceCellsRow.holds Try.pinned (OpenSpec.ofChange fnExactForceCellsWrong)

/-- 'laws.FnExactIsTripleSystem': WHATEVER THE INPUT: true; the input reads as it did. -/
def fnExactIsTripleSystemSpec : ChangeSpec := { name := "fnExactIsTripleSystem", fn := fun _ => fun
  | [d1, d2] => { results := [.lit (.bool true)], args := [d1, d2] }
  | _ => none }
def fnExactIsTripleSystemRow : OpenClaim := { program := "ytbhjbllgmenbaaa", sum := "069a2df46c3f861dbf19f0cab89d1f74abe9bcef8f11248efe20982a30709715", func := "loop.example/g01195/laws.FnExactIsTripleSystem", spec := "fnExactIsTripleSystem", apart := false }
def FnExactIsTripleSystemSaid : Prop := fnExactIsTripleSystemRow.holds Try.pinned (OpenSpec.ofChange fnExactIsTripleSystemSpec)

/-- ITS FALSE NEIGHBOUR: 'it returns false'. Refute it at one input. -/
def fnExactIsTripleSystemWrong : ChangeSpec := { name := "fnExactIsTripleSystem", fn := fun _ => fun
  | [d1, d2] => { results := [.lit (.bool false)], args := [d1, d2] }
  | _ => none }
def FnExactIsTripleSystemWrongFalsely : Prop := fnExactIsTripleSystemRow.holds Try.pinned (OpenSpec.ofChange fnExactIsTripleSystemWrong)

/-- 'laws.FnExactTripleSquare': WHATEVER THE INPUT: true; the input reads as it did. -/
def fnExactTripleSquareSpec : ChangeSpec := { name := "fnExactTripleSquare", fn := fun _ => fun
  | [d1, d2] => { results := [.lit (.bool true)], args := [d1, d2] }
  | _ => none }
def fnExactTripleSquareRow : OpenClaim := { program := "ytbhjbllgmenbaaa", sum := "069a2df46c3f861dbf19f0cab89d1f74abe9bcef8f11248efe20982a30709715", func := "loop.example/g01195/laws.FnExactTripleSquare", spec := "fnExactTripleSquare", unfollowed := true, recurses := true, apart := false }
def FnExactTripleSquareSaid : Prop := fnExactTripleSquareRow.holds Try.pinned (OpenSpec.ofChange fnExactTripleSquareSpec)

/-- ITS FALSE NEIGHBOUR: 'it returns false'. Refute it at one input. -/
def fnExactTripleSquareWrong : ChangeSpec := { name := "fnExactTripleSquare", fn := fun _ => fun
  | [d1, d2] => { results := [.lit (.bool false)], args := [d1, d2] }
  | _ => none }
def FnExactTripleSquareWrongFalsely : Prop := fnExactTripleSquareRow.holds Try.pinned (OpenSpec.ofChange fnExactTripleSquareWrong)

/-- 'laws.FnExactTripleLoop': WHATEVER THE INPUT: true; the input reads as it did. -/
def fnExactTripleLoopSpec : ChangeSpec := { name := "fnExactTripleLoop", fn := fun _ => fun
  | [d1, d2] => { results := [.lit (.bool true)], args := [d1, d2] }
  | _ => none }
def fnExactTripleLoopRow : OpenClaim := { program := "ytbhjbllgmenbaaa", sum := "069a2df46c3f861dbf19f0cab89d1f74abe9bcef8f11248efe20982a30709715", func := "loop.example/g01195/laws.FnExactTripleLoop", spec := "fnExactTripleLoop", unfollowed := true, recurses := true, apart := false }
def FnExactTripleLoopSaid : Prop := fnExactTripleLoopRow.holds Try.pinned (OpenSpec.ofChange fnExactTripleLoopSpec)

/-- ITS FALSE NEIGHBOUR: 'it returns false'. Refute it at one input. -/
def fnExactTripleLoopWrong : ChangeSpec := { name := "fnExactTripleLoop", fn := fun _ => fun
  | [d1, d2] => { results := [.lit (.bool false)], args := [d1, d2] }
  | _ => none }
def FnExactTripleLoopWrongFalsely : Prop := fnExactTripleLoopRow.holds Try.pinned (OpenSpec.ofChange fnExactTripleLoopWrong)

/-- 'laws.FnExactTriplesOfLoop': WHATEVER THE INPUT: true; the input reads as it did. -/
def fnExactTriplesOfLoopSpec : ChangeSpec := { name := "fnExactTriplesOfLoop", fn := fun _ => fun
  | [d] => { results := [.lit (.bool true)], args := [d] }
  | _ => none }
def fnExactTriplesOfLoopRow : OpenClaim := { program := "ytbhjbllgmenbaaa", sum := "069a2df46c3f861dbf19f0cab89d1f74abe9bcef8f11248efe20982a30709715", func := "loop.example/g01195/laws.FnExactTriplesOfLoop", spec := "fnExactTriplesOfLoop", unfollowed := true, recurses := true, apart := false }
def FnExactTriplesOfLoopSaid : Prop := fnExactTriplesOfLoopRow.holds Try.pinned (OpenSpec.ofChange fnExactTriplesOfLoopSpec)

/-- ITS FALSE NEIGHBOUR: 'it returns false'. Refute it at one input. -/
def fnExactTriplesOfLoopWrong : ChangeSpec := { name := "fnExactTriplesOfLoop", fn := fun _ => fun
  | [d] => { results := [.lit (.bool false)], args := [d] }
  | _ => none }
def FnExactTriplesOfLoopWrongFalsely : Prop := fnExactTriplesOfLoopRow.holds Try.pinned (OpenSpec.ofChange fnExactTriplesOfLoopWrong)

/-- 'laws.FnExactTransversalsOf': WHATEVER THE INPUT: true; the input reads as it did. -/
def fnExactTransversalsOfSpec : ChangeSpec := { name := "fnExactTransversalsOf", fn := fun _ => fun
  | [d1, d2] => { results := [.lit (.bool true)], args := [d1, d2] }
  | _ => none }
def fnExactTransversalsOfRow : OpenClaim := { program := "ytbhjbllgmenbaaa", sum := "069a2df46c3f861dbf19f0cab89d1f74abe9bcef8f11248efe20982a30709715", func := "loop.example/g01195/laws.FnExactTransversalsOf", spec := "fnExactTransversalsOf", unfollowed := true, recurses := true, apart := false }
def FnExactTransversalsOfSaid : Prop := fnExactTransversalsOfRow.holds Try.pinned (OpenSpec.ofChange fnExactTransversalsOfSpec)

/-- ITS FALSE NEIGHBOUR: 'it returns false'. Refute it at one input. -/
def fnExactTransversalsOfWrong : ChangeSpec := { name := "fnExactTransversalsOf", fn := fun _ => fun
  | [d1, d2] => { results := [.lit (.bool false)], args := [d1, d2] }
  | _ => none }
def FnExactTransversalsOfWrongFalsely : Prop := fnExactTransversalsOfRow.holds Try.pinned (OpenSpec.ofChange fnExactTransversalsOfWrong)

/- THE SECOND FORM. 'bulk': how many values and letters a reading holds, each counted each time it is reached (what is shared counts as often as it is met; a slice's spare places count too). A statement '..UptoSaid' is the law's where the arguments, and the package variables that the reading takes, are together of bulk at most 1048576: NARROWER than '..Said'. Prove '..Said' where nothing that the law and all that it calls make is longer than what came in: it says more and counts as full. Else prove '..UptoSaid'. A law counts once. -/
mutual
def uptoBulk {H : Type} : DataW H → Nat
  | .lit (.string bytes) => bytes.length + 1
  | .lit _ => 1
  | .nil => 1
  | .ptr d => uptoBulk d + 1
  | .slice elems spare => uptoBulkAll elems + uptoBulkAll spare + 1
  | .agg parts => uptoBulkAll parts + 1
  | .iface _ d => uptoBulk d + 1
  | .map entries => uptoBulkEntries entries + 1
  | .held _ => 1
def uptoBulkAll {H : Type} : List (DataW H) → Nat
  | [] => 0
  | d :: r => uptoBulk d + uptoBulkAll r
def uptoBulkEntries {H : Type} : List (Lit × DataW H) → Nat
  | [] => 0
  | x :: r => uptoBulkEntry x + uptoBulkEntries r
def uptoBulkEntry {H : Type} : Lit × DataW H → Nat
  | (.string bytes, d) => bytes.length + uptoBulk d + 1
  | (_, d) => uptoBulk d + 1
 end
def uptoSmall : (H : Type) → List (DataW H) → Bool := fun _ ds => decide (uptoBulkAll ds ≤ 1048576)
def OpenSpec.upto (s : _root_.Go.ChangeSpec) : _root_.Go.OpenSpec := { _root_.Go.OpenSpec.ofChange s with cond := some uptoSmall }

/-- 'laws.FnExactSwitchIntercalate', WHERE WHAT IT READS IS OF BULK AT MOST 1048576: true; the input reads as it did. -/
def fnExactSwitchIntercalateUptoRow : OpenClaim := { program := "ytbhjbllgmenbaaa", sum := "069a2df46c3f861dbf19f0cab89d1f74abe9bcef8f11248efe20982a30709715", func := "loop.example/g01195/laws.FnExactSwitchIntercalate", spec := "fnExactSwitchIntercalate", apart := false, narrowed := true }
def FnExactSwitchIntercalateUptoSaid : Prop := fnExactSwitchIntercalateUptoRow.holds Try.pinned (OpenSpec.upto fnExactSwitchIntercalateSpec)

/-- 'laws.FnExactQuadraticSquare', WHERE WHAT IT READS IS OF BULK AT MOST 1048576: true; the input reads as it did. -/
def fnExactQuadraticSquareUptoRow : OpenClaim := { program := "ytbhjbllgmenbaaa", sum := "069a2df46c3f861dbf19f0cab89d1f74abe9bcef8f11248efe20982a30709715", func := "loop.example/g01195/laws.FnExactQuadraticSquare", spec := "fnExactQuadraticSquare", unfollowed := true, recurses := true, apart := false, narrowed := true }
def FnExactQuadraticSquareUptoSaid : Prop := fnExactQuadraticSquareUptoRow.holds Try.pinned (OpenSpec.upto fnExactQuadraticSquareSpec)

/-- 'laws.FnExactRowCycles', WHERE WHAT IT READS IS OF BULK AT MOST 1048576: true; the input reads as it did. -/
def fnExactRowCyclesUptoRow : OpenClaim := { program := "ytbhjbllgmenbaaa", sum := "069a2df46c3f861dbf19f0cab89d1f74abe9bcef8f11248efe20982a30709715", func := "loop.example/g01195/laws.FnExactRowCycles", spec := "fnExactRowCycles", recurses := true, apart := false, narrowed := true }
def FnExactRowCyclesUptoSaid : Prop := fnExactRowCyclesUptoRow.holds Try.pinned (OpenSpec.upto fnExactRowCyclesSpec)

/-- 'laws.FnExactIsRowHamiltonian', WHERE WHAT IT READS IS OF BULK AT MOST 1048576: true; the input reads as it did. -/
def fnExactIsRowHamiltonianUptoRow : OpenClaim := { program := "ytbhjbllgmenbaaa", sum := "069a2df46c3f861dbf19f0cab89d1f74abe9bcef8f11248efe20982a30709715", func := "loop.example/g01195/laws.FnExactIsRowHamiltonian", spec := "fnExactIsRowHamiltonian", recurses := true, apart := false, narrowed := true }
def FnExactIsRowHamiltonianUptoSaid : Prop := fnExactIsRowHamiltonianUptoRow.holds Try.pinned (OpenSpec.upto fnExactIsRowHamiltonianSpec)

/-- 'laws.FnExactIsPartial', WHERE WHAT IT READS IS OF BULK AT MOST 1048576: true; the input reads as it did. -/
def fnExactIsPartialUptoRow : OpenClaim := { program := "ytbhjbllgmenbaaa", sum := "069a2df46c3f861dbf19f0cab89d1f74abe9bcef8f11248efe20982a30709715", func := "loop.example/g01195/laws.FnExactIsPartial", spec := "fnExactIsPartial", apart := false, narrowed := true }
def FnExactIsPartialUptoSaid : Prop := fnExactIsPartialUptoRow.holds Try.pinned (OpenSpec.upto fnExactIsPartialSpec)

/-- 'laws.FnExactCandidatesAt', WHERE WHAT IT READS IS OF BULK AT MOST 1048576: true; the input reads as it did. -/
def fnExactCandidatesAtUptoRow : OpenClaim := { program := "ytbhjbllgmenbaaa", sum := "069a2df46c3f861dbf19f0cab89d1f74abe9bcef8f11248efe20982a30709715", func := "loop.example/g01195/laws.FnExactCandidatesAt", spec := "fnExactCandidatesAt", apart := false, narrowed := true }
def FnExactCandidatesAtUptoSaid : Prop := fnExactCandidatesAtUptoRow.holds Try.pinned (OpenSpec.upto fnExactCandidatesAtSpec)

/-- 'laws.FnExactForceCells', WHERE WHAT IT READS IS OF BULK AT MOST 1048576: true; the input reads as it did. -/
def fnExactForceCellsUptoRow : OpenClaim := { program := "ytbhjbllgmenbaaa", sum := "069a2df46c3f861dbf19f0cab89d1f74abe9bcef8f11248efe20982a30709715", func := "loop.example/g01195/laws.FnExactForceCells", spec := "fnExactForceCells", apart := false, narrowed := true }
def FnExactForceCellsUptoSaid : Prop := fnExactForceCellsUptoRow.holds Try.pinned (OpenSpec.upto fnExactForceCellsSpec)

/-- 'laws.FnExactIsTripleSystem', WHERE WHAT IT READS IS OF BULK AT MOST 1048576: true; the input reads as it did. -/
def fnExactIsTripleSystemUptoRow : OpenClaim := { program := "ytbhjbllgmenbaaa", sum := "069a2df46c3f861dbf19f0cab89d1f74abe9bcef8f11248efe20982a30709715", func := "loop.example/g01195/laws.FnExactIsTripleSystem", spec := "fnExactIsTripleSystem", apart := false, narrowed := true }
def FnExactIsTripleSystemUptoSaid : Prop := fnExactIsTripleSystemUptoRow.holds Try.pinned (OpenSpec.upto fnExactIsTripleSystemSpec)

/-- 'laws.FnExactTripleSquare', WHERE WHAT IT READS IS OF BULK AT MOST 1048576: true; the input reads as it did. -/
def fnExactTripleSquareUptoRow : OpenClaim := { program := "ytbhjbllgmenbaaa", sum := "069a2df46c3f861dbf19f0cab89d1f74abe9bcef8f11248efe20982a30709715", func := "loop.example/g01195/laws.FnExactTripleSquare", spec := "fnExactTripleSquare", unfollowed := true, recurses := true, apart := false, narrowed := true }
def FnExactTripleSquareUptoSaid : Prop := fnExactTripleSquareUptoRow.holds Try.pinned (OpenSpec.upto fnExactTripleSquareSpec)

/-- 'laws.FnExactTripleLoop', WHERE WHAT IT READS IS OF BULK AT MOST 1048576: true; the input reads as it did. -/
def fnExactTripleLoopUptoRow : OpenClaim := { program := "ytbhjbllgmenbaaa", sum := "069a2df46c3f861dbf19f0cab89d1f74abe9bcef8f11248efe20982a30709715", func := "loop.example/g01195/laws.FnExactTripleLoop", spec := "fnExactTripleLoop", unfollowed := true, recurses := true, apart := false, narrowed := true }
def FnExactTripleLoopUptoSaid : Prop := fnExactTripleLoopUptoRow.holds Try.pinned (OpenSpec.upto fnExactTripleLoopSpec)

/-- 'laws.FnExactTriplesOfLoop', WHERE WHAT IT READS IS OF BULK AT MOST 1048576: true; the input reads as it did. -/
def fnExactTriplesOfLoopUptoRow : OpenClaim := { program := "ytbhjbllgmenbaaa", sum := "069a2df46c3f861dbf19f0cab89d1f74abe9bcef8f11248efe20982a30709715", func := "loop.example/g01195/laws.FnExactTriplesOfLoop", spec := "fnExactTriplesOfLoop", unfollowed := true, recurses := true, apart := false, narrowed := true }
def FnExactTriplesOfLoopUptoSaid : Prop := fnExactTriplesOfLoopUptoRow.holds Try.pinned (OpenSpec.upto fnExactTriplesOfLoopSpec)

/-- 'laws.FnExactTransversalsOf', WHERE WHAT IT READS IS OF BULK AT MOST 1048576: true; the input reads as it did. -/
def fnExactTransversalsOfUptoRow : OpenClaim := { program := "ytbhjbllgmenbaaa", sum := "069a2df46c3f861dbf19f0cab89d1f74abe9bcef8f11248efe20982a30709715", func := "loop.example/g01195/laws.FnExactTransversalsOf", spec := "fnExactTransversalsOf", unfollowed := true, recurses := true, apart := false, narrowed := true }
def FnExactTransversalsOfUptoSaid : Prop := fnExactTransversalsOfUptoRow.holds Try.pinned (OpenSpec.upto fnExactTransversalsOfSpec)

end Rows
end Go.Proofs.Ytbhjbllgmenbaaa
