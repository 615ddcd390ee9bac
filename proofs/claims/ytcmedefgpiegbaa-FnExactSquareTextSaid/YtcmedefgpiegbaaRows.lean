/-
  No cell of these rows narrows 'for every input' (looked for: loops, veiled, ifaces, maps, wideKeys, modest, calm, conditions, laid).
  DERIVED. THE GIVEN ROWS OF THIS SEAT. 10 by the template 'for every input the law returns true; each argument reads behind the call as it read before'; 0 by the template 'total and deterministic' (their statements: YtcmedefgpiegbaaTotals.lean).
  GIVEN WITH THE SEED: the statements are not yours to turn. If you find one false, say at which input.
  Laid BY PROGRAM, IN A SANDBOX (cutbox-rows.mjs): the forced cells as the released guide's own fill.sh prints them over the translation c9d9e20961482c79… (all of the seat's roots in one cut). By AI agents, Wed Nov 11 2026. No macro, syntax, notation, axiom, sorry.
-/
import Derived.Test.YtcmedefgpiegbaaChecked
import GoSem.Claim
import GoSem.ClaimJoined
import GoSem.ClaimMapViews
import Derived.JoinedTies
import Derived.KernelRfl
namespace Go.Proofs.Ytcmedefgpiegbaa
/- THE CELL 'sum', in the pinned program and in every row, IS THE sha256 OF THE DUMP (.gsa) THAT YtcmedefgpiegbaaProg.lean LOADS. Nothing in Lean hashes anything: it is a label: what it is worth is what the hold of that sum in a sandbox is worth. -/
noncomputable def Try.pinned : Pinned := { name := "ytcmedefgpiegbaa", sum := "c9d9e20961482c79b312c2d8ed835b5f5e370783756083891dc92d448ec68c4a", checked := Try.checked }
namespace Rows
def none {H : Type} : Left H := { results := [], args := [] }

/-- 'laws.FnExactProductIn': WHATEVER THE INPUT: true; the input reads as it did. -/
def fnExactProductInSpec : ChangeSpec := { name := "fnExactProductIn", fn := fun _ => fun
  | [d1, d2, d3] => { results := [.lit (.bool true)], args := [d1, d2, d3] }
  | _ => none }
def fnExactProductInRow : OpenClaim := { program := "ytcmedefgpiegbaa", sum := "c9d9e20961482c79b312c2d8ed835b5f5e370783756083891dc92d448ec68c4a", func := "loop.example/g01195/laws.FnExactProductIn", spec := "fnExactProductIn", apart := false }
def FnExactProductInSaid : Prop := fnExactProductInRow.holds Try.pinned (OpenSpec.ofChange fnExactProductInSpec)

/-- ITS FALSE NEIGHBOUR: 'it returns false'. Refute it at one input. -/
def fnExactProductInWrong : ChangeSpec := { name := "fnExactProductIn", fn := fun _ => fun
  | [d1, d2, d3] => { results := [.lit (.bool false)], args := [d1, d2, d3] }
  | _ => none }
def FnExactProductInWrongFalsely : Prop := fnExactProductInRow.holds Try.pinned (OpenSpec.ofChange fnExactProductInWrong)

/-- 'laws.FnExactLeftQuotient': WHATEVER THE INPUT: true; the input reads as it did. -/
def fnExactLeftQuotientSpec : ChangeSpec := { name := "fnExactLeftQuotient", fn := fun _ => fun
  | [d1, d2, d3] => { results := [.lit (.bool true)], args := [d1, d2, d3] }
  | _ => none }
def fnExactLeftQuotientRow : OpenClaim := { program := "ytcmedefgpiegbaa", sum := "c9d9e20961482c79b312c2d8ed835b5f5e370783756083891dc92d448ec68c4a", func := "loop.example/g01195/laws.FnExactLeftQuotient", spec := "fnExactLeftQuotient", apart := false }
def FnExactLeftQuotientSaid : Prop := fnExactLeftQuotientRow.holds Try.pinned (OpenSpec.ofChange fnExactLeftQuotientSpec)

/-- ITS FALSE NEIGHBOUR: 'it returns false'. Refute it at one input. -/
def fnExactLeftQuotientWrong : ChangeSpec := { name := "fnExactLeftQuotient", fn := fun _ => fun
  | [d1, d2, d3] => { results := [.lit (.bool false)], args := [d1, d2, d3] }
  | _ => none }
def FnExactLeftQuotientWrongFalsely : Prop := fnExactLeftQuotientRow.holds Try.pinned (OpenSpec.ofChange fnExactLeftQuotientWrong)

/-- 'laws.FnExactRightQuotient': WHATEVER THE INPUT: true; the input reads as it did. -/
def fnExactRightQuotientSpec : ChangeSpec := { name := "fnExactRightQuotient", fn := fun _ => fun
  | [d1, d2, d3] => { results := [.lit (.bool true)], args := [d1, d2, d3] }
  | _ => none }
def fnExactRightQuotientRow : OpenClaim := { program := "ytcmedefgpiegbaa", sum := "c9d9e20961482c79b312c2d8ed835b5f5e370783756083891dc92d448ec68c4a", func := "loop.example/g01195/laws.FnExactRightQuotient", spec := "fnExactRightQuotient", apart := false }
def FnExactRightQuotientSaid : Prop := fnExactRightQuotientRow.holds Try.pinned (OpenSpec.ofChange fnExactRightQuotientSpec)

/-- ITS FALSE NEIGHBOUR: 'it returns false'. Refute it at one input. -/
def fnExactRightQuotientWrong : ChangeSpec := { name := "fnExactRightQuotient", fn := fun _ => fun
  | [d1, d2, d3] => { results := [.lit (.bool false)], args := [d1, d2, d3] }
  | _ => none }
def FnExactRightQuotientWrongFalsely : Prop := fnExactRightQuotientRow.holds Try.pinned (OpenSpec.ofChange fnExactRightQuotientWrong)

/-- 'laws.FnExactRowMap': WHATEVER THE INPUT: true; the input reads as it did. -/
def fnExactRowMapSpec : ChangeSpec := { name := "fnExactRowMap", fn := fun _ => fun
  | [d1, d2] => { results := [.lit (.bool true)], args := [d1, d2] }
  | _ => none }
def fnExactRowMapRow : OpenClaim := { program := "ytcmedefgpiegbaa", sum := "c9d9e20961482c79b312c2d8ed835b5f5e370783756083891dc92d448ec68c4a", func := "loop.example/g01195/laws.FnExactRowMap", spec := "fnExactRowMap", apart := false }
def FnExactRowMapSaid : Prop := fnExactRowMapRow.holds Try.pinned (OpenSpec.ofChange fnExactRowMapSpec)

/-- ITS FALSE NEIGHBOUR: 'it returns false'. Refute it at one input. -/
def fnExactRowMapWrong : ChangeSpec := { name := "fnExactRowMap", fn := fun _ => fun
  | [d1, d2] => { results := [.lit (.bool false)], args := [d1, d2] }
  | _ => none }
def FnExactRowMapWrongFalsely : Prop := fnExactRowMapRow.holds Try.pinned (OpenSpec.ofChange fnExactRowMapWrong)

/-- 'laws.FnExactColumnMap': WHATEVER THE INPUT: true; the input reads as it did. -/
def fnExactColumnMapSpec : ChangeSpec := { name := "fnExactColumnMap", fn := fun _ => fun
  | [d1, d2] => { results := [.lit (.bool true)], args := [d1, d2] }
  | _ => none }
def fnExactColumnMapRow : OpenClaim := { program := "ytcmedefgpiegbaa", sum := "c9d9e20961482c79b312c2d8ed835b5f5e370783756083891dc92d448ec68c4a", func := "loop.example/g01195/laws.FnExactColumnMap", spec := "fnExactColumnMap", apart := false }
def FnExactColumnMapSaid : Prop := fnExactColumnMapRow.holds Try.pinned (OpenSpec.ofChange fnExactColumnMapSpec)

/-- ITS FALSE NEIGHBOUR: 'it returns false'. Refute it at one input. -/
def fnExactColumnMapWrong : ChangeSpec := { name := "fnExactColumnMap", fn := fun _ => fun
  | [d1, d2] => { results := [.lit (.bool false)], args := [d1, d2] }
  | _ => none }
def FnExactColumnMapWrongFalsely : Prop := fnExactColumnMapRow.holds Try.pinned (OpenSpec.ofChange fnExactColumnMapWrong)

/-- 'laws.FnExactDirectProduct': WHATEVER THE INPUT: true; the input reads as it did. -/
def fnExactDirectProductSpec : ChangeSpec := { name := "fnExactDirectProduct", fn := fun _ => fun
  | [d1, d2] => { results := [.lit (.bool true)], args := [d1, d2] }
  | _ => none }
def fnExactDirectProductRow : OpenClaim := { program := "ytcmedefgpiegbaa", sum := "c9d9e20961482c79b312c2d8ed835b5f5e370783756083891dc92d448ec68c4a", func := "loop.example/g01195/laws.FnExactDirectProduct", spec := "fnExactDirectProduct", apart := false }
def FnExactDirectProductSaid : Prop := fnExactDirectProductRow.holds Try.pinned (OpenSpec.ofChange fnExactDirectProductSpec)

/-- ITS FALSE NEIGHBOUR: 'it returns false'. Refute it at one input. -/
def fnExactDirectProductWrong : ChangeSpec := { name := "fnExactDirectProduct", fn := fun _ => fun
  | [d1, d2] => { results := [.lit (.bool false)], args := [d1, d2] }
  | _ => none }
def FnExactDirectProductWrongFalsely : Prop := fnExactDirectProductRow.holds Try.pinned (OpenSpec.ofChange fnExactDirectProductWrong)

/-- 'laws.FnExactSquareText': WHATEVER THE INPUT: true; the input reads as it did. -/
def fnExactSquareTextSpec : ChangeSpec := { name := "fnExactSquareText", fn := fun _ => fun
  | [d] => { results := [.lit (.bool true)], args := [d] }
  | _ => none }
def fnExactSquareTextRow : OpenClaim := { program := "ytcmedefgpiegbaa", sum := "c9d9e20961482c79b312c2d8ed835b5f5e370783756083891dc92d448ec68c4a", func := "loop.example/g01195/laws.FnExactSquareText", spec := "fnExactSquareText", inPlace := ["internal/abi.NoEscape"], apart := false }
def FnExactSquareTextSaid : Prop := fnExactSquareTextRow.holds Try.pinned (OpenSpec.ofChange fnExactSquareTextSpec)

/-- ITS FALSE NEIGHBOUR: 'it returns false'. Refute it at one input. -/
def fnExactSquareTextWrong : ChangeSpec := { name := "fnExactSquareText", fn := fun _ => fun
  | [d] => { results := [.lit (.bool false)], args := [d] }
  | _ => none }
def FnExactSquareTextWrongFalsely : Prop := fnExactSquareTextRow.holds Try.pinned (OpenSpec.ofChange fnExactSquareTextWrong)

/-- 'laws.FnExactListsOfSquare': WHATEVER THE INPUT: true; the input reads as it did. -/
def fnExactListsOfSquareSpec : ChangeSpec := { name := "fnExactListsOfSquare", fn := fun _ => fun
  | [d] => { results := [.lit (.bool true)], args := [d] }
  | _ => none }
def fnExactListsOfSquareRow : OpenClaim := { program := "ytcmedefgpiegbaa", sum := "c9d9e20961482c79b312c2d8ed835b5f5e370783756083891dc92d448ec68c4a", func := "loop.example/g01195/laws.FnExactListsOfSquare", spec := "fnExactListsOfSquare", apart := false }
def FnExactListsOfSquareSaid : Prop := fnExactListsOfSquareRow.holds Try.pinned (OpenSpec.ofChange fnExactListsOfSquareSpec)

/-- ITS FALSE NEIGHBOUR: 'it returns false'. Refute it at one input. -/
def fnExactListsOfSquareWrong : ChangeSpec := { name := "fnExactListsOfSquare", fn := fun _ => fun
  | [d] => { results := [.lit (.bool false)], args := [d] }
  | _ => none }
def FnExactListsOfSquareWrongFalsely : Prop := fnExactListsOfSquareRow.holds Try.pinned (OpenSpec.ofChange fnExactListsOfSquareWrong)

/-- 'laws.FnExactSquareOfLists': WHATEVER THE INPUT: true; the input reads as it did. -/
def fnExactSquareOfListsSpec : ChangeSpec := { name := "fnExactSquareOfLists", fn := fun _ => fun
  | [d] => { results := [.lit (.bool true)], args := [d] }
  | _ => none }
def fnExactSquareOfListsRow : OpenClaim := { program := "ytcmedefgpiegbaa", sum := "c9d9e20961482c79b312c2d8ed835b5f5e370783756083891dc92d448ec68c4a", func := "loop.example/g01195/laws.FnExactSquareOfLists", spec := "fnExactSquareOfLists", apart := false }
def FnExactSquareOfListsSaid : Prop := fnExactSquareOfListsRow.holds Try.pinned (OpenSpec.ofChange fnExactSquareOfListsSpec)

/-- ITS FALSE NEIGHBOUR: 'it returns false'. Refute it at one input. -/
def fnExactSquareOfListsWrong : ChangeSpec := { name := "fnExactSquareOfLists", fn := fun _ => fun
  | [d] => { results := [.lit (.bool false)], args := [d] }
  | _ => none }
def FnExactSquareOfListsWrongFalsely : Prop := fnExactSquareOfListsRow.holds Try.pinned (OpenSpec.ofChange fnExactSquareOfListsWrong)

/-- 'laws.FnPermutations': WHATEVER THE INPUT: true; the input reads as it did. -/
def fnPermutationsSpec : ChangeSpec := { name := "fnPermutations", fn := fun _ => fun
  | [d] => { results := [.lit (.bool true)], args := [d] }
  | _ => none }
def fnPermutationsRow : OpenClaim := { program := "ytcmedefgpiegbaa", sum := "c9d9e20961482c79b312c2d8ed835b5f5e370783756083891dc92d448ec68c4a", func := "loop.example/g01195/laws.FnPermutations", spec := "fnPermutations", apart := false }
def FnPermutationsSaid : Prop := fnPermutationsRow.holds Try.pinned (OpenSpec.ofChange fnPermutationsSpec)

/-- ITS FALSE NEIGHBOUR: 'it returns false'. Refute it at one input. -/
def fnPermutationsWrong : ChangeSpec := { name := "fnPermutations", fn := fun _ => fun
  | [d] => { results := [.lit (.bool false)], args := [d] }
  | _ => none }
def FnPermutationsWrongFalsely : Prop := fnPermutationsRow.holds Try.pinned (OpenSpec.ofChange fnPermutationsWrong)

/- THE SECOND FORM. 'bulk': how many values and letters a reading holds, each counted each time it is reached (what is shared counts as often as it is met; a slice's spare places count too). A statement '..UptoSaid' is the law's where the arguments, and the package variables that the reading takes, are together of bulk at most 1048576: NARROWER than '..Said'. Prove '..Said' where nothing that the law and all that it calls make is longer than what came in: it says more and counts as full. Else prove '..UptoSaid'. A law counts once. -/
mutual
def uptoBulk {H : Type} : DataW H → Nat
  | .lit (.string bytes) => bytes.length + 1
  | .lit _ => 1
  | .nil => 1
  | .ptr d => uptoBulk d + 1
  | .slice elems spare => uptoBulkAll elems + uptoBulkAll spare + 1
  | .agg parts => uptoBulkAll parts + 1
  | .iface _ d => uptoBulk d + 1
  | .map entries => uptoBulkEntries entries + 1
  | .held _ => 1
def uptoBulkAll {H : Type} : List (DataW H) → Nat
  | [] => 0
  | d :: r => uptoBulk d + uptoBulkAll r
def uptoBulkEntries {H : Type} : List (Lit × DataW H) → Nat
  | [] => 0
  | x :: r => uptoBulkEntry x + uptoBulkEntries r
def uptoBulkEntry {H : Type} : Lit × DataW H → Nat
  | (.string bytes, d) => bytes.length + uptoBulk d + 1
  | (_, d) => uptoBulk d + 1
 end
def uptoSmall : (H : Type) → List (DataW H) → Bool := fun _ ds => decide (uptoBulkAll ds ≤ 1048576)
def OpenSpec.upto (s : _root_.Go.ChangeSpec) : _root_.Go.OpenSpec := { _root_.Go.OpenSpec.ofChange s with cond := some uptoSmall }

/-- 'laws.FnExactProductIn', WHERE WHAT IT READS IS OF BULK AT MOST 1048576: true; the input reads as it did. -/
def fnExactProductInUptoRow : OpenClaim := { program := "ytcmedefgpiegbaa", sum := "c9d9e20961482c79b312c2d8ed835b5f5e370783756083891dc92d448ec68c4a", func := "loop.example/g01195/laws.FnExactProductIn", spec := "fnExactProductIn", apart := false, narrowed := true }
def FnExactProductInUptoSaid : Prop := fnExactProductInUptoRow.holds Try.pinned (OpenSpec.upto fnExactProductInSpec)

/-- 'laws.FnExactLeftQuotient', WHERE WHAT IT READS IS OF BULK AT MOST 1048576: true; the input reads as it did. -/
def fnExactLeftQuotientUptoRow : OpenClaim := { program := "ytcmedefgpiegbaa", sum := "c9d9e20961482c79b312c2d8ed835b5f5e370783756083891dc92d448ec68c4a", func := "loop.example/g01195/laws.FnExactLeftQuotient", spec := "fnExactLeftQuotient", apart := false, narrowed := true }
def FnExactLeftQuotientUptoSaid : Prop := fnExactLeftQuotientUptoRow.holds Try.pinned (OpenSpec.upto fnExactLeftQuotientSpec)

/-- 'laws.FnExactRightQuotient', WHERE WHAT IT READS IS OF BULK AT MOST 1048576: true; the input reads as it did. -/
def fnExactRightQuotientUptoRow : OpenClaim := { program := "ytcmedefgpiegbaa", sum := "c9d9e20961482c79b312c2d8ed835b5f5e370783756083891dc92d448ec68c4a", func := "loop.example/g01195/laws.FnExactRightQuotient", spec := "fnExactRightQuotient", apart := false, narrowed := true }
def FnExactRightQuotientUptoSaid : Prop := fnExactRightQuotientUptoRow.holds Try.pinned (OpenSpec.upto fnExactRightQuotientSpec)

/-- 'laws.FnExactRowMap', WHERE WHAT IT READS IS OF BULK AT MOST 1048576: true; the input reads as it did. -/
def fnExactRowMapUptoRow : OpenClaim := { program := "ytcmedefgpiegbaa", sum := "c9d9e20961482c79b312c2d8ed835b5f5e370783756083891dc92d448ec68c4a", func := "loop.example/g01195/laws.FnExactRowMap", spec := "fnExactRowMap", apart := false, narrowed := true }
def FnExactRowMapUptoSaid : Prop := fnExactRowMapUptoRow.holds Try.pinned (OpenSpec.upto fnExactRowMapSpec)

/-- 'laws.FnExactColumnMap', WHERE WHAT IT READS IS OF BULK AT MOST 1048576: true; the input reads as it did. -/
def fnExactColumnMapUptoRow : OpenClaim := { program := "ytcmedefgpiegbaa", sum := "c9d9e20961482c79b312c2d8ed835b5f5e370783756083891dc92d448ec68c4a", func := "loop.example/g01195/laws.FnExactColumnMap", spec := "fnExactColumnMap", apart := false, narrowed := true }
def FnExactColumnMapUptoSaid : Prop := fnExactColumnMapUptoRow.holds Try.pinned (OpenSpec.upto fnExactColumnMapSpec)

/-- 'laws.FnExactDirectProduct', WHERE WHAT IT READS IS OF BULK AT MOST 1048576: true; the input reads as it did. -/
def fnExactDirectProductUptoRow : OpenClaim := { program := "ytcmedefgpiegbaa", sum := "c9d9e20961482c79b312c2d8ed835b5f5e370783756083891dc92d448ec68c4a", func := "loop.example/g01195/laws.FnExactDirectProduct", spec := "fnExactDirectProduct", apart := false, narrowed := true }
def FnExactDirectProductUptoSaid : Prop := fnExactDirectProductUptoRow.holds Try.pinned (OpenSpec.upto fnExactDirectProductSpec)

/-- 'laws.FnExactSquareText', WHERE WHAT IT READS IS OF BULK AT MOST 1048576: true; the input reads as it did. -/
def fnExactSquareTextUptoRow : OpenClaim := { program := "ytcmedefgpiegbaa", sum := "c9d9e20961482c79b312c2d8ed835b5f5e370783756083891dc92d448ec68c4a", func := "loop.example/g01195/laws.FnExactSquareText", spec := "fnExactSquareText", inPlace := ["internal/abi.NoEscape"], apart := false, narrowed := true }
def FnExactSquareTextUptoSaid : Prop := fnExactSquareTextUptoRow.holds Try.pinned (OpenSpec.upto fnExactSquareTextSpec)

/-- 'laws.FnExactListsOfSquare', WHERE WHAT IT READS IS OF BULK AT MOST 1048576: true; the input reads as it did. -/
def fnExactListsOfSquareUptoRow : OpenClaim := { program := "ytcmedefgpiegbaa", sum := "c9d9e20961482c79b312c2d8ed835b5f5e370783756083891dc92d448ec68c4a", func := "loop.example/g01195/laws.FnExactListsOfSquare", spec := "fnExactListsOfSquare", apart := false, narrowed := true }
def FnExactListsOfSquareUptoSaid : Prop := fnExactListsOfSquareUptoRow.holds Try.pinned (OpenSpec.upto fnExactListsOfSquareSpec)

/-- 'laws.FnExactSquareOfLists', WHERE WHAT IT READS IS OF BULK AT MOST 1048576: true; the input reads as it did. -/
def fnExactSquareOfListsUptoRow : OpenClaim := { program := "ytcmedefgpiegbaa", sum := "c9d9e20961482c79b312c2d8ed835b5f5e370783756083891dc92d448ec68c4a", func := "loop.example/g01195/laws.FnExactSquareOfLists", spec := "fnExactSquareOfLists", apart := false, narrowed := true }
def FnExactSquareOfListsUptoSaid : Prop := fnExactSquareOfListsUptoRow.holds Try.pinned (OpenSpec.upto fnExactSquareOfListsSpec)

/-- 'laws.FnPermutations', WHERE WHAT IT READS IS OF BULK AT MOST 1048576: true; the input reads as it did. -/
def fnPermutationsUptoRow : OpenClaim := { program := "ytcmedefgpiegbaa", sum := "c9d9e20961482c79b312c2d8ed835b5f5e370783756083891dc92d448ec68c4a", func := "loop.example/g01195/laws.FnPermutations", spec := "fnPermutations", apart := false, narrowed := true }
def FnPermutationsUptoSaid : Prop := fnPermutationsUptoRow.holds Try.pinned (OpenSpec.upto fnPermutationsSpec)

end Rows
end Go.Proofs.Ytcmedefgpiegbaa
