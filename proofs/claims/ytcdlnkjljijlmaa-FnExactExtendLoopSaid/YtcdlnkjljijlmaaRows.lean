/-
  No cell of these rows narrows 'for every input' (looked for: loops, veiled, ifaces, maps, wideKeys, modest, calm, conditions, laid).
  DERIVED. THE GIVEN ROWS OF THIS SEAT. 12 by the template 'for every input the law returns true; each argument reads behind the call as it read before'; 0 by the template 'total and deterministic' (their statements: YtcdlnkjljijlmaaTotals.lean).
  GIVEN WITH THE SEED: the statements are not yours to turn. If you find one false, say at which input.
  Laid BY PROGRAM, IN A SANDBOX (cutbox-rows.mjs): the forced cells as the released guide's own fill.sh prints them over the translation 9412a306dc3523b8… (all of the seat's roots in one cut). By AI agents, Wed Nov 11 2026. No macro, syntax, notation, axiom, sorry.
-/
import Derived.Test.YtcdlnkjljijlmaaChecked
import GoSem.Claim
import GoSem.ClaimJoined
import GoSem.ClaimMapViews
import Derived.JoinedTies
import Derived.KernelRfl
namespace Go.Proofs.Ytcdlnkjljijlmaa
/- THE CELL 'sum', in the pinned program and in every row, IS THE sha256 OF THE DUMP (.gsa) THAT YtcdlnkjljijlmaaProg.lean LOADS. Nothing in Lean hashes anything: it is a label: what it is worth is what the hold of that sum in a sandbox is worth. -/
noncomputable def Try.pinned : Pinned := { name := "ytcdlnkjljijlmaa", sum := "9412a306dc3523b8757979cd9a43414e30f7d8b2272cbff06854d9dd3f473824", checked := Try.checked }
namespace Rows
def none {H : Type} : Left H := { results := [], args := [] }

/-- 'laws.FnExactDoubleOfGroup': WHATEVER THE INPUT: true; the input reads as it did. -/
def fnExactDoubleOfGroupSpec : ChangeSpec := { name := "fnExactDoubleOfGroup", fn := fun _ => fun
  | [d] => { results := [.lit (.bool true)], args := [d] }
  | _ => none }
def fnExactDoubleOfGroupRow : OpenClaim := { program := "ytcdlnkjljijlmaa", sum := "9412a306dc3523b8757979cd9a43414e30f7d8b2272cbff06854d9dd3f473824", func := "loop.example/g01195/laws.FnExactDoubleOfGroup", spec := "fnExactDoubleOfGroup", unfollowed := true, recurses := true, apart := false }
def FnExactDoubleOfGroupSaid : Prop := fnExactDoubleOfGroupRow.holds Try.pinned (OpenSpec.ofChange fnExactDoubleOfGroupSpec)

/-- ITS FALSE NEIGHBOUR: 'it returns false'. Refute it at one input. -/
def fnExactDoubleOfGroupWrong : ChangeSpec := { name := "fnExactDoubleOfGroup", fn := fun _ => fun
  | [d] => { results := [.lit (.bool false)], args := [d] }
  | _ => none }
def FnExactDoubleOfGroupWrongFalsely : Prop := fnExactDoubleOfGroupRow.holds Try.pinned (OpenSpec.ofChange fnExactDoubleOfGroupWrong)

/-- 'laws.FnExactIsOrthomorphism': WHATEVER THE INPUT: true; the input reads as it did. -/
def fnExactIsOrthomorphismSpec : ChangeSpec := { name := "fnExactIsOrthomorphism", fn := fun _ => fun
  | [d1, d2] => { results := [.lit (.bool true)], args := [d1, d2] }
  | _ => none }
def fnExactIsOrthomorphismRow : OpenClaim := { program := "ytcdlnkjljijlmaa", sum := "9412a306dc3523b8757979cd9a43414e30f7d8b2272cbff06854d9dd3f473824", func := "loop.example/g01195/laws.FnExactIsOrthomorphism", spec := "fnExactIsOrthomorphism", unfollowed := true, recurses := true, apart := false }
def FnExactIsOrthomorphismSaid : Prop := fnExactIsOrthomorphismRow.holds Try.pinned (OpenSpec.ofChange fnExactIsOrthomorphismSpec)

/-- ITS FALSE NEIGHBOUR: 'it returns false'. Refute it at one input. -/
def fnExactIsOrthomorphismWrong : ChangeSpec := { name := "fnExactIsOrthomorphism", fn := fun _ => fun
  | [d1, d2] => { results := [.lit (.bool false)], args := [d1, d2] }
  | _ => none }
def FnExactIsOrthomorphismWrongFalsely : Prop := fnExactIsOrthomorphismRow.holds Try.pinned (OpenSpec.ofChange fnExactIsOrthomorphismWrong)

/-- 'laws.FnExactOrthomorphismSquare': WHATEVER THE INPUT: true; the input reads as it did. -/
def fnExactOrthomorphismSquareSpec : ChangeSpec := { name := "fnExactOrthomorphismSquare", fn := fun _ => fun
  | [d1, d2] => { results := [.lit (.bool true)], args := [d1, d2] }
  | _ => none }
def fnExactOrthomorphismSquareRow : OpenClaim := { program := "ytcdlnkjljijlmaa", sum := "9412a306dc3523b8757979cd9a43414e30f7d8b2272cbff06854d9dd3f473824", func := "loop.example/g01195/laws.FnExactOrthomorphismSquare", spec := "fnExactOrthomorphismSquare", unfollowed := true, recurses := true, apart := false }
def FnExactOrthomorphismSquareSaid : Prop := fnExactOrthomorphismSquareRow.holds Try.pinned (OpenSpec.ofChange fnExactOrthomorphismSquareSpec)

/-- ITS FALSE NEIGHBOUR: 'it returns false'. Refute it at one input. -/
def fnExactOrthomorphismSquareWrong : ChangeSpec := { name := "fnExactOrthomorphismSquare", fn := fun _ => fun
  | [d1, d2] => { results := [.lit (.bool false)], args := [d1, d2] }
  | _ => none }
def FnExactOrthomorphismSquareWrongFalsely : Prop := fnExactOrthomorphismSquareRow.holds Try.pinned (OpenSpec.ofChange fnExactOrthomorphismSquareWrong)

/-- 'laws.FnExactProlongSquare': WHATEVER THE INPUT: true; the input reads as it did. -/
def fnExactProlongSquareSpec : ChangeSpec := { name := "fnExactProlongSquare", fn := fun _ => fun
  | [d1, d2] => { results := [.lit (.bool true)], args := [d1, d2] }
  | _ => none }
def fnExactProlongSquareRow : OpenClaim := { program := "ytcdlnkjljijlmaa", sum := "9412a306dc3523b8757979cd9a43414e30f7d8b2272cbff06854d9dd3f473824", func := "loop.example/g01195/laws.FnExactProlongSquare", spec := "fnExactProlongSquare", unfollowed := true, recurses := true, apart := false }
def FnExactProlongSquareSaid : Prop := fnExactProlongSquareRow.holds Try.pinned (OpenSpec.ofChange fnExactProlongSquareSpec)

/-- ITS FALSE NEIGHBOUR: 'it returns false'. Refute it at one input. -/
def fnExactProlongSquareWrong : ChangeSpec := { name := "fnExactProlongSquare", fn := fun _ => fun
  | [d1, d2] => { results := [.lit (.bool false)], args := [d1, d2] }
  | _ => none }
def FnExactProlongSquareWrongFalsely : Prop := fnExactProlongSquareRow.holds Try.pinned (OpenSpec.ofChange fnExactProlongSquareWrong)

/-- 'laws.FnExactQuadraticSquare': WHATEVER THE INPUT: true; the input reads as it did. -/
def fnExactQuadraticSquareSpec : ChangeSpec := { name := "fnExactQuadraticSquare", fn := fun _ => fun
  | [d1, d2, d3] => { results := [.lit (.bool true)], args := [d1, d2, d3] }
  | _ => none }
def fnExactQuadraticSquareRow : OpenClaim := { program := "ytcdlnkjljijlmaa", sum := "9412a306dc3523b8757979cd9a43414e30f7d8b2272cbff06854d9dd3f473824", func := "loop.example/g01195/laws.FnExactQuadraticSquare", spec := "fnExactQuadraticSquare", unfollowed := true, recurses := true, apart := false }
def FnExactQuadraticSquareSaid : Prop := fnExactQuadraticSquareRow.holds Try.pinned (OpenSpec.ofChange fnExactQuadraticSquareSpec)

/-- ITS FALSE NEIGHBOUR: 'it returns false'. Refute it at one input. -/
def fnExactQuadraticSquareWrong : ChangeSpec := { name := "fnExactQuadraticSquare", fn := fun _ => fun
  | [d1, d2, d3] => { results := [.lit (.bool false)], args := [d1, d2, d3] }
  | _ => none }
def FnExactQuadraticSquareWrongFalsely : Prop := fnExactQuadraticSquareRow.holds Try.pinned (OpenSpec.ofChange fnExactQuadraticSquareWrong)

/-- 'laws.FnExactNormalOrthomorphisms': WHATEVER THE INPUT: true; the input reads as it did. -/
def fnExactNormalOrthomorphismsSpec : ChangeSpec := { name := "fnExactNormalOrthomorphisms", fn := fun _ => fun
  | [d] => { results := [.lit (.bool true)], args := [d] }
  | _ => none }
def fnExactNormalOrthomorphismsRow : OpenClaim := { program := "ytcdlnkjljijlmaa", sum := "9412a306dc3523b8757979cd9a43414e30f7d8b2272cbff06854d9dd3f473824", func := "loop.example/g01195/laws.FnExactNormalOrthomorphisms", spec := "fnExactNormalOrthomorphisms", unfollowed := true, recurses := true, apart := false }
def FnExactNormalOrthomorphismsSaid : Prop := fnExactNormalOrthomorphismsRow.holds Try.pinned (OpenSpec.ofChange fnExactNormalOrthomorphismsSpec)

/-- ITS FALSE NEIGHBOUR: 'it returns false'. Refute it at one input. -/
def fnExactNormalOrthomorphismsWrong : ChangeSpec := { name := "fnExactNormalOrthomorphisms", fn := fun _ => fun
  | [d] => { results := [.lit (.bool false)], args := [d] }
  | _ => none }
def FnExactNormalOrthomorphismsWrongFalsely : Prop := fnExactNormalOrthomorphismsRow.holds Try.pinned (OpenSpec.ofChange fnExactNormalOrthomorphismsWrong)

/-- 'laws.FnExactIsTripleSystem': WHATEVER THE INPUT: true; the input reads as it did. -/
def fnExactIsTripleSystemSpec : ChangeSpec := { name := "fnExactIsTripleSystem", fn := fun _ => fun
  | [d1, d2] => { results := [.lit (.bool true)], args := [d1, d2] }
  | _ => none }
def fnExactIsTripleSystemRow : OpenClaim := { program := "ytcdlnkjljijlmaa", sum := "9412a306dc3523b8757979cd9a43414e30f7d8b2272cbff06854d9dd3f473824", func := "loop.example/g01195/laws.FnExactIsTripleSystem", spec := "fnExactIsTripleSystem", apart := false }
def FnExactIsTripleSystemSaid : Prop := fnExactIsTripleSystemRow.holds Try.pinned (OpenSpec.ofChange fnExactIsTripleSystemSpec)

/-- ITS FALSE NEIGHBOUR: 'it returns false'. Refute it at one input. -/
def fnExactIsTripleSystemWrong : ChangeSpec := { name := "fnExactIsTripleSystem", fn := fun _ => fun
  | [d1, d2] => { results := [.lit (.bool false)], args := [d1, d2] }
  | _ => none }
def FnExactIsTripleSystemWrongFalsely : Prop := fnExactIsTripleSystemRow.holds Try.pinned (OpenSpec.ofChange fnExactIsTripleSystemWrong)

/-- 'laws.FnExactTripleSquare': WHATEVER THE INPUT: true; the input reads as it did. -/
def fnExactTripleSquareSpec : ChangeSpec := { name := "fnExactTripleSquare", fn := fun _ => fun
  | [d1, d2] => { results := [.lit (.bool true)], args := [d1, d2] }
  | _ => none }
def fnExactTripleSquareRow : OpenClaim := { program := "ytcdlnkjljijlmaa", sum := "9412a306dc3523b8757979cd9a43414e30f7d8b2272cbff06854d9dd3f473824", func := "loop.example/g01195/laws.FnExactTripleSquare", spec := "fnExactTripleSquare", unfollowed := true, recurses := true, apart := false }
def FnExactTripleSquareSaid : Prop := fnExactTripleSquareRow.holds Try.pinned (OpenSpec.ofChange fnExactTripleSquareSpec)

/-- ITS FALSE NEIGHBOUR: 'it returns false'. Refute it at one input. -/
def fnExactTripleSquareWrong : ChangeSpec := { name := "fnExactTripleSquare", fn := fun _ => fun
  | [d1, d2] => { results := [.lit (.bool false)], args := [d1, d2] }
  | _ => none }
def FnExactTripleSquareWrongFalsely : Prop := fnExactTripleSquareRow.holds Try.pinned (OpenSpec.ofChange fnExactTripleSquareWrong)

/-- 'laws.FnExactTripleLoop': WHATEVER THE INPUT: true; the input reads as it did. -/
def fnExactTripleLoopSpec : ChangeSpec := { name := "fnExactTripleLoop", fn := fun _ => fun
  | [d1, d2] => { results := [.lit (.bool true)], args := [d1, d2] }
  | _ => none }
def fnExactTripleLoopRow : OpenClaim := { program := "ytcdlnkjljijlmaa", sum := "9412a306dc3523b8757979cd9a43414e30f7d8b2272cbff06854d9dd3f473824", func := "loop.example/g01195/laws.FnExactTripleLoop", spec := "fnExactTripleLoop", unfollowed := true, recurses := true, apart := false }
def FnExactTripleLoopSaid : Prop := fnExactTripleLoopRow.holds Try.pinned (OpenSpec.ofChange fnExactTripleLoopSpec)

/-- ITS FALSE NEIGHBOUR: 'it returns false'. Refute it at one input. -/
def fnExactTripleLoopWrong : ChangeSpec := { name := "fnExactTripleLoop", fn := fun _ => fun
  | [d1, d2] => { results := [.lit (.bool false)], args := [d1, d2] }
  | _ => none }
def FnExactTripleLoopWrongFalsely : Prop := fnExactTripleLoopRow.holds Try.pinned (OpenSpec.ofChange fnExactTripleLoopWrong)

/-- 'laws.FnExactTriplesOfLoop': WHATEVER THE INPUT: true; the input reads as it did. -/
def fnExactTriplesOfLoopSpec : ChangeSpec := { name := "fnExactTriplesOfLoop", fn := fun _ => fun
  | [d] => { results := [.lit (.bool true)], args := [d] }
  | _ => none }
def fnExactTriplesOfLoopRow : OpenClaim := { program := "ytcdlnkjljijlmaa", sum := "9412a306dc3523b8757979cd9a43414e30f7d8b2272cbff06854d9dd3f473824", func := "loop.example/g01195/laws.FnExactTriplesOfLoop", spec := "fnExactTriplesOfLoop", unfollowed := true, recurses := true, apart := false }
def FnExactTriplesOfLoopSaid : Prop := fnExactTriplesOfLoopRow.holds Try.pinned (OpenSpec.ofChange fnExactTriplesOfLoopSpec)

/-- ITS FALSE NEIGHBOUR: 'it returns false'. Refute it at one input. -/
def fnExactTriplesOfLoopWrong : ChangeSpec := { name := "fnExactTriplesOfLoop", fn := fun _ => fun
  | [d] => { results := [.lit (.bool false)], args := [d] }
  | _ => none }
def FnExactTriplesOfLoopWrongFalsely : Prop := fnExactTriplesOfLoopRow.holds Try.pinned (OpenSpec.ofChange fnExactTriplesOfLoopWrong)

/-- 'laws.FnExactExtendLoop': WHATEVER THE INPUT: true; the input reads as it did. -/
def fnExactExtendLoopSpec : ChangeSpec := { name := "fnExactExtendLoop", fn := fun _ => fun
  | [d1, d2, d3] => { results := [.lit (.bool true)], args := [d1, d2, d3] }
  | _ => none }
def fnExactExtendLoopRow : OpenClaim := { program := "ytcdlnkjljijlmaa", sum := "9412a306dc3523b8757979cd9a43414e30f7d8b2272cbff06854d9dd3f473824", func := "loop.example/g01195/laws.FnExactExtendLoop", spec := "fnExactExtendLoop", unfollowed := true, recurses := true, apart := false }
def FnExactExtendLoopSaid : Prop := fnExactExtendLoopRow.holds Try.pinned (OpenSpec.ofChange fnExactExtendLoopSpec)

/-- ITS FALSE NEIGHBOUR: 'it returns false'. Refute it at one input. -/
def fnExactExtendLoopWrong : ChangeSpec := { name := "fnExactExtendLoop", fn := fun _ => fun
  | [d1, d2, d3] => { results := [.lit (.bool false)], args := [d1, d2, d3] }
  | _ => none }
def FnExactExtendLoopWrongFalsely : Prop := fnExactExtendLoopRow.holds Try.pinned (OpenSpec.ofChange fnExactExtendLoopWrong)

/-- 'laws.FnExactSquareOfLists': WHATEVER THE INPUT: true; the input reads as it did. -/
def fnExactSquareOfListsSpec : ChangeSpec := { name := "fnExactSquareOfLists", fn := fun _ => fun
  | [d] => { results := [.lit (.bool true)], args := [d] }
  | _ => none }
def fnExactSquareOfListsRow : OpenClaim := { program := "ytcdlnkjljijlmaa", sum := "9412a306dc3523b8757979cd9a43414e30f7d8b2272cbff06854d9dd3f473824", func := "loop.example/g01195/laws.FnExactSquareOfLists", spec := "fnExactSquareOfLists", apart := false }
def FnExactSquareOfListsSaid : Prop := fnExactSquareOfListsRow.holds Try.pinned (OpenSpec.ofChange fnExactSquareOfListsSpec)

/-- ITS FALSE NEIGHBOUR: 'it returns false'. Refute it at one input. -/
def fnExactSquareOfListsWrong : ChangeSpec := { name := "fnExactSquareOfLists", fn := fun _ => fun
  | [d] => { results := [.lit (.bool false)], args := [d] }
  | _ => none }
def FnExactSquareOfListsWrongFalsely : Prop := fnExactSquareOfListsRow.holds Try.pinned (OpenSpec.ofChange fnExactSquareOfListsWrong)

/- THE SECOND FORM. 'bulk': how many values and letters a reading holds, each counted each time it is reached (what is shared counts as often as it is met; a slice's spare places count too). A statement '..UptoSaid' is the law's where the arguments, and the package variables that the reading takes, are together of bulk at most 1048576: NARROWER than '..Said'. Prove '..Said' where nothing that the law and all that it calls make is longer than what came in: it says more and counts as full. Else prove '..UptoSaid'. A law counts once. -/
mutual
def uptoBulk {H : Type} : DataW H → Nat
  | .lit (.string bytes) => bytes.length + 1
  | .lit _ => 1
  | .nil => 1
  | .ptr d => uptoBulk d + 1
  | .slice elems spare => uptoBulkAll elems + uptoBulkAll spare + 1
  | .agg parts => uptoBulkAll parts + 1
  | .iface _ d => uptoBulk d + 1
  | .map entries => uptoBulkEntries entries + 1
  | .held _ => 1
def uptoBulkAll {H : Type} : List (DataW H) → Nat
  | [] => 0
  | d :: r => uptoBulk d + uptoBulkAll r
def uptoBulkEntries {H : Type} : List (Lit × DataW H) → Nat
  | [] => 0
  | x :: r => uptoBulkEntry x + uptoBulkEntries r
def uptoBulkEntry {H : Type} : Lit × DataW H → Nat
  | (.string bytes, d) => bytes.length + uptoBulk d + 1
  | (_, d) => uptoBulk d + 1
 end
def uptoSmall : (H : Type) → List (DataW H) → Bool := fun _ ds => decide (uptoBulkAll ds ≤ 1048576)
def OpenSpec.upto (s : _root_.Go.ChangeSpec) : _root_.Go.OpenSpec := { _root_.Go.OpenSpec.ofChange s with cond := some uptoSmall }

/-- 'laws.FnExactDoubleOfGroup', WHERE WHAT IT READS IS OF BULK AT MOST 1048576: true; the input reads as it did. -/
def fnExactDoubleOfGroupUptoRow : OpenClaim := { program := "ytcdlnkjljijlmaa", sum := "9412a306dc3523b8757979cd9a43414e30f7d8b2272cbff06854d9dd3f473824", func := "loop.example/g01195/laws.FnExactDoubleOfGroup", spec := "fnExactDoubleOfGroup", unfollowed := true, recurses := true, apart := false, narrowed := true }
def FnExactDoubleOfGroupUptoSaid : Prop := fnExactDoubleOfGroupUptoRow.holds Try.pinned (OpenSpec.upto fnExactDoubleOfGroupSpec)

/-- 'laws.FnExactIsOrthomorphism', WHERE WHAT IT READS IS OF BULK AT MOST 1048576: true; the input reads as it did. -/
def fnExactIsOrthomorphismUptoRow : OpenClaim := { program := "ytcdlnkjljijlmaa", sum := "9412a306dc3523b8757979cd9a43414e30f7d8b2272cbff06854d9dd3f473824", func := "loop.example/g01195/laws.FnExactIsOrthomorphism", spec := "fnExactIsOrthomorphism", unfollowed := true, recurses := true, apart := false, narrowed := true }
def FnExactIsOrthomorphismUptoSaid : Prop := fnExactIsOrthomorphismUptoRow.holds Try.pinned (OpenSpec.upto fnExactIsOrthomorphismSpec)

/-- 'laws.FnExactOrthomorphismSquare', WHERE WHAT IT READS IS OF BULK AT MOST 1048576: true; the input reads as it did. -/
def fnExactOrthomorphismSquareUptoRow : OpenClaim := { program := "ytcdlnkjljijlmaa", sum := "9412a306dc3523b8757979cd9a43414e30f7d8b2272cbff06854d9dd3f473824", func := "loop.example/g01195/laws.FnExactOrthomorphismSquare", spec := "fnExactOrthomorphismSquare", unfollowed := true, recurses := true, apart := false, narrowed := true }
def FnExactOrthomorphismSquareUptoSaid : Prop := fnExactOrthomorphismSquareUptoRow.holds Try.pinned (OpenSpec.upto fnExactOrthomorphismSquareSpec)

/-- 'laws.FnExactProlongSquare', WHERE WHAT IT READS IS OF BULK AT MOST 1048576: true; the input reads as it did. -/
def fnExactProlongSquareUptoRow : OpenClaim := { program := "ytcdlnkjljijlmaa", sum := "9412a306dc3523b8757979cd9a43414e30f7d8b2272cbff06854d9dd3f473824", func := "loop.example/g01195/laws.FnExactProlongSquare", spec := "fnExactProlongSquare", unfollowed := true, recurses := true, apart := false, narrowed := true }
def FnExactProlongSquareUptoSaid : Prop := fnExactProlongSquareUptoRow.holds Try.pinned (OpenSpec.upto fnExactProlongSquareSpec)

/-- 'laws.FnExactQuadraticSquare', WHERE WHAT IT READS IS OF BULK AT MOST 1048576: true; the input reads as it did. -/
def fnExactQuadraticSquareUptoRow : OpenClaim := { program := "ytcdlnkjljijlmaa", sum := "9412a306dc3523b8757979cd9a43414e30f7d8b2272cbff06854d9dd3f473824", func := "loop.example/g01195/laws.FnExactQuadraticSquare", spec := "fnExactQuadraticSquare", unfollowed := true, recurses := true, apart := false, narrowed := true }
def FnExactQuadraticSquareUptoSaid : Prop := fnExactQuadraticSquareUptoRow.holds Try.pinned (OpenSpec.upto fnExactQuadraticSquareSpec)

/-- 'laws.FnExactNormalOrthomorphisms', WHERE WHAT IT READS IS OF BULK AT MOST 1048576: true; the input reads as it did. -/
def fnExactNormalOrthomorphismsUptoRow : OpenClaim := { program := "ytcdlnkjljijlmaa", sum := "9412a306dc3523b8757979cd9a43414e30f7d8b2272cbff06854d9dd3f473824", func := "loop.example/g01195/laws.FnExactNormalOrthomorphisms", spec := "fnExactNormalOrthomorphisms", unfollowed := true, recurses := true, apart := false, narrowed := true }
def FnExactNormalOrthomorphismsUptoSaid : Prop := fnExactNormalOrthomorphismsUptoRow.holds Try.pinned (OpenSpec.upto fnExactNormalOrthomorphismsSpec)

/-- 'laws.FnExactIsTripleSystem', WHERE WHAT IT READS IS OF BULK AT MOST 1048576: true; the input reads as it did. -/
def fnExactIsTripleSystemUptoRow : OpenClaim := { program := "ytcdlnkjljijlmaa", sum := "9412a306dc3523b8757979cd9a43414e30f7d8b2272cbff06854d9dd3f473824", func := "loop.example/g01195/laws.FnExactIsTripleSystem", spec := "fnExactIsTripleSystem", apart := false, narrowed := true }
def FnExactIsTripleSystemUptoSaid : Prop := fnExactIsTripleSystemUptoRow.holds Try.pinned (OpenSpec.upto fnExactIsTripleSystemSpec)

/-- 'laws.FnExactTripleSquare', WHERE WHAT IT READS IS OF BULK AT MOST 1048576: true; the input reads as it did. -/
def fnExactTripleSquareUptoRow : OpenClaim := { program := "ytcdlnkjljijlmaa", sum := "9412a306dc3523b8757979cd9a43414e30f7d8b2272cbff06854d9dd3f473824", func := "loop.example/g01195/laws.FnExactTripleSquare", spec := "fnExactTripleSquare", unfollowed := true, recurses := true, apart := false, narrowed := true }
def FnExactTripleSquareUptoSaid : Prop := fnExactTripleSquareUptoRow.holds Try.pinned (OpenSpec.upto fnExactTripleSquareSpec)

/-- 'laws.FnExactTripleLoop', WHERE WHAT IT READS IS OF BULK AT MOST 1048576: true; the input reads as it did. -/
def fnExactTripleLoopUptoRow : OpenClaim := { program := "ytcdlnkjljijlmaa", sum := "9412a306dc3523b8757979cd9a43414e30f7d8b2272cbff06854d9dd3f473824", func := "loop.example/g01195/laws.FnExactTripleLoop", spec := "fnExactTripleLoop", unfollowed := true, recurses := true, apart := false, narrowed := true }
def FnExactTripleLoopUptoSaid : Prop := fnExactTripleLoopUptoRow.holds Try.pinned (OpenSpec.upto fnExactTripleLoopSpec)

/-- 'laws.FnExactTriplesOfLoop', WHERE WHAT IT READS IS OF BULK AT MOST 1048576: true; the input reads as it did. -/
def fnExactTriplesOfLoopUptoRow : OpenClaim := { program := "ytcdlnkjljijlmaa", sum := "9412a306dc3523b8757979cd9a43414e30f7d8b2272cbff06854d9dd3f473824", func := "loop.example/g01195/laws.FnExactTriplesOfLoop", spec := "fnExactTriplesOfLoop", unfollowed := true, recurses := true, apart := false, narrowed := true }
def FnExactTriplesOfLoopUptoSaid : Prop := fnExactTriplesOfLoopUptoRow.holds Try.pinned (OpenSpec.upto fnExactTriplesOfLoopSpec)

/-- 'laws.FnExactExtendLoop', WHERE WHAT IT READS IS OF BULK AT MOST 1048576: true; the input reads as it did. -/
def fnExactExtendLoopUptoRow : OpenClaim := { program := "ytcdlnkjljijlmaa", sum := "9412a306dc3523b8757979cd9a43414e30f7d8b2272cbff06854d9dd3f473824", func := "loop.example/g01195/laws.FnExactExtendLoop", spec := "fnExactExtendLoop", unfollowed := true, recurses := true, apart := false, narrowed := true }
def FnExactExtendLoopUptoSaid : Prop := fnExactExtendLoopUptoRow.holds Try.pinned (OpenSpec.upto fnExactExtendLoopSpec)

/-- 'laws.FnExactSquareOfLists', WHERE WHAT IT READS IS OF BULK AT MOST 1048576: true; the input reads as it did. -/
def fnExactSquareOfListsUptoRow : OpenClaim := { program := "ytcdlnkjljijlmaa", sum := "9412a306dc3523b8757979cd9a43414e30f7d8b2272cbff06854d9dd3f473824", func := "loop.example/g01195/laws.FnExactSquareOfLists", spec := "fnExactSquareOfLists", apart := false, narrowed := true }
def FnExactSquareOfListsUptoSaid : Prop := fnExactSquareOfListsUptoRow.holds Try.pinned (OpenSpec.upto fnExactSquareOfListsSpec)

end Rows
end Go.Proofs.Ytcdlnkjljijlmaa
