/-
  No cell of these rows narrows 'for every input' (looked for: loops, veiled, ifaces, maps, wideKeys, modest, calm, conditions, laid).
  DERIVED. THE GIVEN ROWS OF THIS SEAT. 12 by the template 'for every input the law returns true; each argument reads behind the call as it read before'; 0 by the template 'total and deterministic' (their statements: YtphninlinegbbaaTotals.lean).
  GIVEN WITH THE SEED: the statements are not yours to turn. If you find one false, say at which input.
  Laid BY PROGRAM, IN A SANDBOX (cutbox-rows.mjs): the forced cells as the released guide's own fill.sh prints them over the translation 43a78e30d0b86d32… (all of the seat's roots in one cut). By AI agents, Wed Nov 11 2026. No macro, syntax, notation, axiom, sorry.
-/
import Derived.Test.YtphninlinegbbaaChecked
import GoSem.Claim
import GoSem.ClaimJoined
import GoSem.ClaimMapViews
import Derived.JoinedTies
import Derived.KernelRfl
namespace Go.Proofs.Ytphninlinegbbaa
/- THE CELL 'sum', in the pinned program and in every row, IS THE sha256 OF THE DUMP (.gsa) THAT YtphninlinegbbaaProg.lean LOADS. Nothing in Lean hashes anything: it is a label: what it is worth is what the hold of that sum in a sandbox is worth. -/
noncomputable def Try.pinned : Pinned := { name := "ytphninlinegbbaa", sum := "43a78e30d0b86d32b2a72a6e44f98f1619551d56602bbf2cc68aa37840467ef5", checked := Try.checked }
namespace Rows
def none {H : Type} : Left H := { results := [], args := [] }

/-- 'laws.FnExactTurnMap': WHATEVER THE INPUT: true; the input reads as it did. -/
def fnExactTurnMapSpec : ChangeSpec := { name := "fnExactTurnMap", fn := fun _ => fun
  | [d1, d2] => { results := [.lit (.bool true)], args := [d1, d2] }
  | _ => none }
def fnExactTurnMapRow : OpenClaim := { program := "ytphninlinegbbaa", sum := "43a78e30d0b86d32b2a72a6e44f98f1619551d56602bbf2cc68aa37840467ef5", func := "loop.example/g01195/laws.FnExactTurnMap", spec := "fnExactTurnMap", apart := false }
def FnExactTurnMapSaid : Prop := fnExactTurnMapRow.holds Try.pinned (OpenSpec.ofChange fnExactTurnMapSpec)

/-- ITS FALSE NEIGHBOUR: 'it returns false'. Refute it at one input. -/
def fnExactTurnMapWrong : ChangeSpec := { name := "fnExactTurnMap", fn := fun _ => fun
  | [d1, d2] => { results := [.lit (.bool false)], args := [d1, d2] }
  | _ => none }
def FnExactTurnMapWrongFalsely : Prop := fnExactTurnMapRow.holds Try.pinned (OpenSpec.ofChange fnExactTurnMapWrong)

/-- 'laws.FnExactLeftInner': WHATEVER THE INPUT: true; the input reads as it did. -/
def fnExactLeftInnerSpec : ChangeSpec := { name := "fnExactLeftInner", fn := fun _ => fun
  | [d1, d2, d3] => { results := [.lit (.bool true)], args := [d1, d2, d3] }
  | _ => none }
def fnExactLeftInnerRow : OpenClaim := { program := "ytphninlinegbbaa", sum := "43a78e30d0b86d32b2a72a6e44f98f1619551d56602bbf2cc68aa37840467ef5", func := "loop.example/g01195/laws.FnExactLeftInner", spec := "fnExactLeftInner", apart := false }
def FnExactLeftInnerSaid : Prop := fnExactLeftInnerRow.holds Try.pinned (OpenSpec.ofChange fnExactLeftInnerSpec)

/-- ITS FALSE NEIGHBOUR: 'it returns false'. Refute it at one input. -/
def fnExactLeftInnerWrong : ChangeSpec := { name := "fnExactLeftInner", fn := fun _ => fun
  | [d1, d2, d3] => { results := [.lit (.bool false)], args := [d1, d2, d3] }
  | _ => none }
def FnExactLeftInnerWrongFalsely : Prop := fnExactLeftInnerRow.holds Try.pinned (OpenSpec.ofChange fnExactLeftInnerWrong)

/-- 'laws.FnExactRightInner': WHATEVER THE INPUT: true; the input reads as it did. -/
def fnExactRightInnerSpec : ChangeSpec := { name := "fnExactRightInner", fn := fun _ => fun
  | [d1, d2, d3] => { results := [.lit (.bool true)], args := [d1, d2, d3] }
  | _ => none }
def fnExactRightInnerRow : OpenClaim := { program := "ytphninlinegbbaa", sum := "43a78e30d0b86d32b2a72a6e44f98f1619551d56602bbf2cc68aa37840467ef5", func := "loop.example/g01195/laws.FnExactRightInner", spec := "fnExactRightInner", apart := false }
def FnExactRightInnerSaid : Prop := fnExactRightInnerRow.holds Try.pinned (OpenSpec.ofChange fnExactRightInnerSpec)

/-- ITS FALSE NEIGHBOUR: 'it returns false'. Refute it at one input. -/
def fnExactRightInnerWrong : ChangeSpec := { name := "fnExactRightInner", fn := fun _ => fun
  | [d1, d2, d3] => { results := [.lit (.bool false)], args := [d1, d2, d3] }
  | _ => none }
def FnExactRightInnerWrongFalsely : Prop := fnExactRightInnerRow.holds Try.pinned (OpenSpec.ofChange fnExactRightInnerWrong)

/-- 'laws.FnExactCommutatorOf': WHATEVER THE INPUT: true; the input reads as it did. -/
def fnExactCommutatorOfSpec : ChangeSpec := { name := "fnExactCommutatorOf", fn := fun _ => fun
  | [d1, d2, d3] => { results := [.lit (.bool true)], args := [d1, d2, d3] }
  | _ => none }
def fnExactCommutatorOfRow : OpenClaim := { program := "ytphninlinegbbaa", sum := "43a78e30d0b86d32b2a72a6e44f98f1619551d56602bbf2cc68aa37840467ef5", func := "loop.example/g01195/laws.FnExactCommutatorOf", spec := "fnExactCommutatorOf", apart := false }
def FnExactCommutatorOfSaid : Prop := fnExactCommutatorOfRow.holds Try.pinned (OpenSpec.ofChange fnExactCommutatorOfSpec)

/-- ITS FALSE NEIGHBOUR: 'it returns false'. Refute it at one input. -/
def fnExactCommutatorOfWrong : ChangeSpec := { name := "fnExactCommutatorOf", fn := fun _ => fun
  | [d1, d2, d3] => { results := [.lit (.bool false)], args := [d1, d2, d3] }
  | _ => none }
def FnExactCommutatorOfWrongFalsely : Prop := fnExactCommutatorOfRow.holds Try.pinned (OpenSpec.ofChange fnExactCommutatorOfWrong)

/-- 'laws.FnExactAssociatorOf': WHATEVER THE INPUT: true; the input reads as it did. -/
def fnExactAssociatorOfSpec : ChangeSpec := { name := "fnExactAssociatorOf", fn := fun _ => fun
  | [d1, d2, d3, d4] => { results := [.lit (.bool true)], args := [d1, d2, d3, d4] }
  | _ => none }
def fnExactAssociatorOfRow : OpenClaim := { program := "ytphninlinegbbaa", sum := "43a78e30d0b86d32b2a72a6e44f98f1619551d56602bbf2cc68aa37840467ef5", func := "loop.example/g01195/laws.FnExactAssociatorOf", spec := "fnExactAssociatorOf", apart := false }
def FnExactAssociatorOfSaid : Prop := fnExactAssociatorOfRow.holds Try.pinned (OpenSpec.ofChange fnExactAssociatorOfSpec)

/-- ITS FALSE NEIGHBOUR: 'it returns false'. Refute it at one input. -/
def fnExactAssociatorOfWrong : ChangeSpec := { name := "fnExactAssociatorOf", fn := fun _ => fun
  | [d1, d2, d3, d4] => { results := [.lit (.bool false)], args := [d1, d2, d3, d4] }
  | _ => none }
def FnExactAssociatorOfWrongFalsely : Prop := fnExactAssociatorOfRow.holds Try.pinned (OpenSpec.ofChange fnExactAssociatorOfWrong)

/-- 'laws.FnExactLeftNucleus': WHATEVER THE INPUT: true; the input reads as it did. -/
def fnExactLeftNucleusSpec : ChangeSpec := { name := "fnExactLeftNucleus", fn := fun _ => fun
  | [d] => { results := [.lit (.bool true)], args := [d] }
  | _ => none }
def fnExactLeftNucleusRow : OpenClaim := { program := "ytphninlinegbbaa", sum := "43a78e30d0b86d32b2a72a6e44f98f1619551d56602bbf2cc68aa37840467ef5", func := "loop.example/g01195/laws.FnExactLeftNucleus", spec := "fnExactLeftNucleus", unfollowed := true, recurses := true, apart := false }
def FnExactLeftNucleusSaid : Prop := fnExactLeftNucleusRow.holds Try.pinned (OpenSpec.ofChange fnExactLeftNucleusSpec)

/-- ITS FALSE NEIGHBOUR: 'it returns false'. Refute it at one input. -/
def fnExactLeftNucleusWrong : ChangeSpec := { name := "fnExactLeftNucleus", fn := fun _ => fun
  | [d] => { results := [.lit (.bool false)], args := [d] }
  | _ => none }
def FnExactLeftNucleusWrongFalsely : Prop := fnExactLeftNucleusRow.holds Try.pinned (OpenSpec.ofChange fnExactLeftNucleusWrong)

/-- 'laws.FnExactMiddleNucleus': WHATEVER THE INPUT: true; the input reads as it did. -/
def fnExactMiddleNucleusSpec : ChangeSpec := { name := "fnExactMiddleNucleus", fn := fun _ => fun
  | [d] => { results := [.lit (.bool true)], args := [d] }
  | _ => none }
def fnExactMiddleNucleusRow : OpenClaim := { program := "ytphninlinegbbaa", sum := "43a78e30d0b86d32b2a72a6e44f98f1619551d56602bbf2cc68aa37840467ef5", func := "loop.example/g01195/laws.FnExactMiddleNucleus", spec := "fnExactMiddleNucleus", unfollowed := true, recurses := true, apart := false }
def FnExactMiddleNucleusSaid : Prop := fnExactMiddleNucleusRow.holds Try.pinned (OpenSpec.ofChange fnExactMiddleNucleusSpec)

/-- ITS FALSE NEIGHBOUR: 'it returns false'. Refute it at one input. -/
def fnExactMiddleNucleusWrong : ChangeSpec := { name := "fnExactMiddleNucleus", fn := fun _ => fun
  | [d] => { results := [.lit (.bool false)], args := [d] }
  | _ => none }
def FnExactMiddleNucleusWrongFalsely : Prop := fnExactMiddleNucleusRow.holds Try.pinned (OpenSpec.ofChange fnExactMiddleNucleusWrong)

/-- 'laws.FnExactRightNucleus': WHATEVER THE INPUT: true; the input reads as it did. -/
def fnExactRightNucleusSpec : ChangeSpec := { name := "fnExactRightNucleus", fn := fun _ => fun
  | [d] => { results := [.lit (.bool true)], args := [d] }
  | _ => none }
def fnExactRightNucleusRow : OpenClaim := { program := "ytphninlinegbbaa", sum := "43a78e30d0b86d32b2a72a6e44f98f1619551d56602bbf2cc68aa37840467ef5", func := "loop.example/g01195/laws.FnExactRightNucleus", spec := "fnExactRightNucleus", unfollowed := true, recurses := true, apart := false }
def FnExactRightNucleusSaid : Prop := fnExactRightNucleusRow.holds Try.pinned (OpenSpec.ofChange fnExactRightNucleusSpec)

/-- ITS FALSE NEIGHBOUR: 'it returns false'. Refute it at one input. -/
def fnExactRightNucleusWrong : ChangeSpec := { name := "fnExactRightNucleus", fn := fun _ => fun
  | [d] => { results := [.lit (.bool false)], args := [d] }
  | _ => none }
def FnExactRightNucleusWrongFalsely : Prop := fnExactRightNucleusRow.holds Try.pinned (OpenSpec.ofChange fnExactRightNucleusWrong)

/-- 'laws.FnExactCommutantOf': WHATEVER THE INPUT: true; the input reads as it did. -/
def fnExactCommutantOfSpec : ChangeSpec := { name := "fnExactCommutantOf", fn := fun _ => fun
  | [d] => { results := [.lit (.bool true)], args := [d] }
  | _ => none }
def fnExactCommutantOfRow : OpenClaim := { program := "ytphninlinegbbaa", sum := "43a78e30d0b86d32b2a72a6e44f98f1619551d56602bbf2cc68aa37840467ef5", func := "loop.example/g01195/laws.FnExactCommutantOf", spec := "fnExactCommutantOf", unfollowed := true, recurses := true, apart := false }
def FnExactCommutantOfSaid : Prop := fnExactCommutantOfRow.holds Try.pinned (OpenSpec.ofChange fnExactCommutantOfSpec)

/-- ITS FALSE NEIGHBOUR: 'it returns false'. Refute it at one input. -/
def fnExactCommutantOfWrong : ChangeSpec := { name := "fnExactCommutantOf", fn := fun _ => fun
  | [d] => { results := [.lit (.bool false)], args := [d] }
  | _ => none }
def FnExactCommutantOfWrongFalsely : Prop := fnExactCommutantOfRow.holds Try.pinned (OpenSpec.ofChange fnExactCommutantOfWrong)

/-- 'laws.FnExactCentreOf': WHATEVER THE INPUT: true; the input reads as it did. -/
def fnExactCentreOfSpec : ChangeSpec := { name := "fnExactCentreOf", fn := fun _ => fun
  | [d] => { results := [.lit (.bool true)], args := [d] }
  | _ => none }
def fnExactCentreOfRow : OpenClaim := { program := "ytphninlinegbbaa", sum := "43a78e30d0b86d32b2a72a6e44f98f1619551d56602bbf2cc68aa37840467ef5", func := "loop.example/g01195/laws.FnExactCentreOf", spec := "fnExactCentreOf", unfollowed := true, recurses := true, apart := false }
def FnExactCentreOfSaid : Prop := fnExactCentreOfRow.holds Try.pinned (OpenSpec.ofChange fnExactCentreOfSpec)

/-- ITS FALSE NEIGHBOUR: 'it returns false'. Refute it at one input. -/
def fnExactCentreOfWrong : ChangeSpec := { name := "fnExactCentreOf", fn := fun _ => fun
  | [d] => { results := [.lit (.bool false)], args := [d] }
  | _ => none }
def FnExactCentreOfWrongFalsely : Prop := fnExactCentreOfRow.holds Try.pinned (OpenSpec.ofChange fnExactCentreOfWrong)

/-- 'laws.FnExactOrderOf': WHATEVER THE INPUT: true; the input reads as it did. -/
def fnExactOrderOfSpec : ChangeSpec := { name := "fnExactOrderOf", fn := fun _ => fun
  | [d1, d2] => { results := [.lit (.bool true)], args := [d1, d2] }
  | _ => none }
def fnExactOrderOfRow : OpenClaim := { program := "ytphninlinegbbaa", sum := "43a78e30d0b86d32b2a72a6e44f98f1619551d56602bbf2cc68aa37840467ef5", func := "loop.example/g01195/laws.FnExactOrderOf", spec := "fnExactOrderOf", apart := false }
def FnExactOrderOfSaid : Prop := fnExactOrderOfRow.holds Try.pinned (OpenSpec.ofChange fnExactOrderOfSpec)

/-- ITS FALSE NEIGHBOUR: 'it returns false'. Refute it at one input. -/
def fnExactOrderOfWrong : ChangeSpec := { name := "fnExactOrderOf", fn := fun _ => fun
  | [d1, d2] => { results := [.lit (.bool false)], args := [d1, d2] }
  | _ => none }
def FnExactOrderOfWrongFalsely : Prop := fnExactOrderOfRow.holds Try.pinned (OpenSpec.ofChange fnExactOrderOfWrong)

/-- 'laws.FnExactPowerOf': WHATEVER THE INPUT: true; the input reads as it did. -/
def fnExactPowerOfSpec : ChangeSpec := { name := "fnExactPowerOf", fn := fun _ => fun
  | [d1, d2, d3] => { results := [.lit (.bool true)], args := [d1, d2, d3] }
  | _ => none }
def fnExactPowerOfRow : OpenClaim := { program := "ytphninlinegbbaa", sum := "43a78e30d0b86d32b2a72a6e44f98f1619551d56602bbf2cc68aa37840467ef5", func := "loop.example/g01195/laws.FnExactPowerOf", spec := "fnExactPowerOf", apart := false }
def FnExactPowerOfSaid : Prop := fnExactPowerOfRow.holds Try.pinned (OpenSpec.ofChange fnExactPowerOfSpec)

/-- ITS FALSE NEIGHBOUR: 'it returns false'. Refute it at one input. -/
def fnExactPowerOfWrong : ChangeSpec := { name := "fnExactPowerOf", fn := fun _ => fun
  | [d1, d2, d3] => { results := [.lit (.bool false)], args := [d1, d2, d3] }
  | _ => none }
def FnExactPowerOfWrongFalsely : Prop := fnExactPowerOfRow.holds Try.pinned (OpenSpec.ofChange fnExactPowerOfWrong)

/- THE SECOND FORM. 'bulk': how many values and letters a reading holds, each counted each time it is reached (what is shared counts as often as it is met; a slice's spare places count too). A statement '..UptoSaid' is the law's where the arguments, and the package variables that the reading takes, are together of bulk at most 1048576: NARROWER than '..Said'. Prove '..Said' where nothing that the law and all that it calls make is longer than what came in: it says more and counts as full. Else prove '..UptoSaid'. A law counts once. -/
mutual
def uptoBulk {H : Type} : DataW H → Nat
  | .lit (.string bytes) => bytes.length + 1
  | .lit _ => 1
  | .nil => 1
  | .ptr d => uptoBulk d + 1
  | .slice elems spare => uptoBulkAll elems + uptoBulkAll spare + 1
  | .agg parts => uptoBulkAll parts + 1
  | .iface _ d => uptoBulk d + 1
  | .map entries => uptoBulkEntries entries + 1
  | .held _ => 1
def uptoBulkAll {H : Type} : List (DataW H) → Nat
  | [] => 0
  | d :: r => uptoBulk d + uptoBulkAll r
def uptoBulkEntries {H : Type} : List (Lit × DataW H) → Nat
  | [] => 0
  | x :: r => uptoBulkEntry x + uptoBulkEntries r
def uptoBulkEntry {H : Type} : Lit × DataW H → Nat
  | (.string bytes, d) => bytes.length + uptoBulk d + 1
  | (_, d) => uptoBulk d + 1
 end
def uptoSmall : (H : Type) → List (DataW H) → Bool := fun _ ds => decide (uptoBulkAll ds ≤ 1048576)
def OpenSpec.upto (s : _root_.Go.ChangeSpec) : _root_.Go.OpenSpec := { _root_.Go.OpenSpec.ofChange s with cond := some uptoSmall }

/-- 'laws.FnExactTurnMap', WHERE WHAT IT READS IS OF BULK AT MOST 1048576: true; the input reads as it did. -/
def fnExactTurnMapUptoRow : OpenClaim := { program := "ytphninlinegbbaa", sum := "43a78e30d0b86d32b2a72a6e44f98f1619551d56602bbf2cc68aa37840467ef5", func := "loop.example/g01195/laws.FnExactTurnMap", spec := "fnExactTurnMap", apart := false, narrowed := true }
def FnExactTurnMapUptoSaid : Prop := fnExactTurnMapUptoRow.holds Try.pinned (OpenSpec.upto fnExactTurnMapSpec)

/-- 'laws.FnExactLeftInner', WHERE WHAT IT READS IS OF BULK AT MOST 1048576: true; the input reads as it did. -/
def fnExactLeftInnerUptoRow : OpenClaim := { program := "ytphninlinegbbaa", sum := "43a78e30d0b86d32b2a72a6e44f98f1619551d56602bbf2cc68aa37840467ef5", func := "loop.example/g01195/laws.FnExactLeftInner", spec := "fnExactLeftInner", apart := false, narrowed := true }
def FnExactLeftInnerUptoSaid : Prop := fnExactLeftInnerUptoRow.holds Try.pinned (OpenSpec.upto fnExactLeftInnerSpec)

/-- 'laws.FnExactRightInner', WHERE WHAT IT READS IS OF BULK AT MOST 1048576: true; the input reads as it did. -/
def fnExactRightInnerUptoRow : OpenClaim := { program := "ytphninlinegbbaa", sum := "43a78e30d0b86d32b2a72a6e44f98f1619551d56602bbf2cc68aa37840467ef5", func := "loop.example/g01195/laws.FnExactRightInner", spec := "fnExactRightInner", apart := false, narrowed := true }
def FnExactRightInnerUptoSaid : Prop := fnExactRightInnerUptoRow.holds Try.pinned (OpenSpec.upto fnExactRightInnerSpec)

/-- 'laws.FnExactCommutatorOf', WHERE WHAT IT READS IS OF BULK AT MOST 1048576: true; the input reads as it did. -/
def fnExactCommutatorOfUptoRow : OpenClaim := { program := "ytphninlinegbbaa", sum := "43a78e30d0b86d32b2a72a6e44f98f1619551d56602bbf2cc68aa37840467ef5", func := "loop.example/g01195/laws.FnExactCommutatorOf", spec := "fnExactCommutatorOf", apart := false, narrowed := true }
def FnExactCommutatorOfUptoSaid : Prop := fnExactCommutatorOfUptoRow.holds Try.pinned (OpenSpec.upto fnExactCommutatorOfSpec)

/-- 'laws.FnExactAssociatorOf', WHERE WHAT IT READS IS OF BULK AT MOST 1048576: true; the input reads as it did. -/
def fnExactAssociatorOfUptoRow : OpenClaim := { program := "ytphninlinegbbaa", sum := "43a78e30d0b86d32b2a72a6e44f98f1619551d56602bbf2cc68aa37840467ef5", func := "loop.example/g01195/laws.FnExactAssociatorOf", spec := "fnExactAssociatorOf", apart := false, narrowed := true }
def FnExactAssociatorOfUptoSaid : Prop := fnExactAssociatorOfUptoRow.holds Try.pinned (OpenSpec.upto fnExactAssociatorOfSpec)

/-- 'laws.FnExactLeftNucleus', WHERE WHAT IT READS IS OF BULK AT MOST 1048576: true; the input reads as it did. -/
def fnExactLeftNucleusUptoRow : OpenClaim := { program := "ytphninlinegbbaa", sum := "43a78e30d0b86d32b2a72a6e44f98f1619551d56602bbf2cc68aa37840467ef5", func := "loop.example/g01195/laws.FnExactLeftNucleus", spec := "fnExactLeftNucleus", unfollowed := true, recurses := true, apart := false, narrowed := true }
def FnExactLeftNucleusUptoSaid : Prop := fnExactLeftNucleusUptoRow.holds Try.pinned (OpenSpec.upto fnExactLeftNucleusSpec)

/-- 'laws.FnExactMiddleNucleus', WHERE WHAT IT READS IS OF BULK AT MOST 1048576: true; the input reads as it did. -/
def fnExactMiddleNucleusUptoRow : OpenClaim := { program := "ytphninlinegbbaa", sum := "43a78e30d0b86d32b2a72a6e44f98f1619551d56602bbf2cc68aa37840467ef5", func := "loop.example/g01195/laws.FnExactMiddleNucleus", spec := "fnExactMiddleNucleus", unfollowed := true, recurses := true, apart := false, narrowed := true }
def FnExactMiddleNucleusUptoSaid : Prop := fnExactMiddleNucleusUptoRow.holds Try.pinned (OpenSpec.upto fnExactMiddleNucleusSpec)

/-- 'laws.FnExactRightNucleus', WHERE WHAT IT READS IS OF BULK AT MOST 1048576: true; the input reads as it did. -/
def fnExactRightNucleusUptoRow : OpenClaim := { program := "ytphninlinegbbaa", sum := "43a78e30d0b86d32b2a72a6e44f98f1619551d56602bbf2cc68aa37840467ef5", func := "loop.example/g01195/laws.FnExactRightNucleus", spec := "fnExactRightNucleus", unfollowed := true, recurses := true, apart := false, narrowed := true }
def FnExactRightNucleusUptoSaid : Prop := fnExactRightNucleusUptoRow.holds Try.pinned (OpenSpec.upto fnExactRightNucleusSpec)

/-- 'laws.FnExactCommutantOf', WHERE WHAT IT READS IS OF BULK AT MOST 1048576: true; the input reads as it did. -/
def fnExactCommutantOfUptoRow : OpenClaim := { program := "ytphninlinegbbaa", sum := "43a78e30d0b86d32b2a72a6e44f98f1619551d56602bbf2cc68aa37840467ef5", func := "loop.example/g01195/laws.FnExactCommutantOf", spec := "fnExactCommutantOf", unfollowed := true, recurses := true, apart := false, narrowed := true }
def FnExactCommutantOfUptoSaid : Prop := fnExactCommutantOfUptoRow.holds Try.pinned (OpenSpec.upto fnExactCommutantOfSpec)

/-- 'laws.FnExactCentreOf', WHERE WHAT IT READS IS OF BULK AT MOST 1048576: true; the input reads as it did. -/
def fnExactCentreOfUptoRow : OpenClaim := { program := "ytphninlinegbbaa", sum := "43a78e30d0b86d32b2a72a6e44f98f1619551d56602bbf2cc68aa37840467ef5", func := "loop.example/g01195/laws.FnExactCentreOf", spec := "fnExactCentreOf", unfollowed := true, recurses := true, apart := false, narrowed := true }
def FnExactCentreOfUptoSaid : Prop := fnExactCentreOfUptoRow.holds Try.pinned (OpenSpec.upto fnExactCentreOfSpec)

/-- 'laws.FnExactOrderOf', WHERE WHAT IT READS IS OF BULK AT MOST 1048576: true; the input reads as it did. -/
def fnExactOrderOfUptoRow : OpenClaim := { program := "ytphninlinegbbaa", sum := "43a78e30d0b86d32b2a72a6e44f98f1619551d56602bbf2cc68aa37840467ef5", func := "loop.example/g01195/laws.FnExactOrderOf", spec := "fnExactOrderOf", apart := false, narrowed := true }
def FnExactOrderOfUptoSaid : Prop := fnExactOrderOfUptoRow.holds Try.pinned (OpenSpec.upto fnExactOrderOfSpec)

/-- 'laws.FnExactPowerOf', WHERE WHAT IT READS IS OF BULK AT MOST 1048576: true; the input reads as it did. -/
def fnExactPowerOfUptoRow : OpenClaim := { program := "ytphninlinegbbaa", sum := "43a78e30d0b86d32b2a72a6e44f98f1619551d56602bbf2cc68aa37840467ef5", func := "loop.example/g01195/laws.FnExactPowerOf", spec := "fnExactPowerOf", apart := false, narrowed := true }
def FnExactPowerOfUptoSaid : Prop := fnExactPowerOfUptoRow.holds Try.pinned (OpenSpec.upto fnExactPowerOfSpec)

end Rows
end Go.Proofs.Ytphninlinegbbaa
