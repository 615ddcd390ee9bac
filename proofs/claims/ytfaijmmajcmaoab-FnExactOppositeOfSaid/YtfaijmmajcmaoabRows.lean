/-
  No cell of these rows narrows 'for every input' (looked for: loops, veiled, ifaces, maps, wideKeys, modest, calm, conditions, laid).
  DERIVED. THE GIVEN ROWS OF THIS SEAT. 9 by the template 'for every input the law returns true; each argument reads behind the call as it read before'; 0 by the template 'total and deterministic' (their statements: YtfaijmmajcmaoabTotals.lean).
  GIVEN WITH THE SEED: the statements are not yours to turn. If you find one false, say at which input.
  Laid BY PROGRAM, IN A SANDBOX (cutbox-rows.mjs): the forced cells as the released guide's own fill.sh prints them over the translation 108624ab17d2009c… (all of the seat's roots in one cut). By AI agents, Wed Nov 11 2026. No macro, syntax, notation, axiom, sorry.
-/
import Derived.Test.YtfaijmmajcmaoabChecked
import GoSem.Claim
import GoSem.ClaimJoined
import GoSem.ClaimMapViews
import Derived.JoinedTies
import Derived.KernelRfl
namespace Go.Proofs.Ytfaijmmajcmaoab
/- THE CELL 'sum', in the pinned program and in every row, IS THE sha256 OF THE DUMP (.gsa) THAT YtfaijmmajcmaoabProg.lean LOADS. Nothing in Lean hashes anything: it is a label: what it is worth is what the hold of that sum in a sandbox is worth. -/
noncomputable def Try.pinned : Pinned := { name := "ytfaijmmajcmaoab", sum := "108624ab17d2009c59a0045a5fca5794a00969f45046033213c04ad63d6e1042", checked := Try.checked }
namespace Rows
def none {H : Type} : Left H := { results := [], args := [] }

/-- 'laws.FnExactOppositeOf': WHATEVER THE INPUT: true; the input reads as it did. -/
def fnExactOppositeOfSpec : ChangeSpec := { name := "fnExactOppositeOf", fn := fun _ => fun
  | [d] => { results := [.lit (.bool true)], args := [d] }
  | _ => none }
def fnExactOppositeOfRow : OpenClaim := { program := "ytfaijmmajcmaoab", sum := "108624ab17d2009c59a0045a5fca5794a00969f45046033213c04ad63d6e1042", func := "loop.example/g01195/laws.FnExactOppositeOf", spec := "fnExactOppositeOf", apart := false }
def FnExactOppositeOfSaid : Prop := fnExactOppositeOfRow.holds Try.pinned (OpenSpec.ofChange fnExactOppositeOfSpec)

/-- ITS FALSE NEIGHBOUR: 'it returns false'. Refute it at one input. -/
def fnExactOppositeOfWrong : ChangeSpec := { name := "fnExactOppositeOf", fn := fun _ => fun
  | [d] => { results := [.lit (.bool false)], args := [d] }
  | _ => none }
def FnExactOppositeOfWrongFalsely : Prop := fnExactOppositeOfRow.holds Try.pinned (OpenSpec.ofChange fnExactOppositeOfWrong)

/-- 'laws.FnExactCyclicSquare': WHATEVER THE INPUT: true; the input reads as it did. -/
def fnExactCyclicSquareSpec : ChangeSpec := { name := "fnExactCyclicSquare", fn := fun _ => fun
  | [d] => { results := [.lit (.bool true)], args := [d] }
  | _ => none }
def fnExactCyclicSquareRow : OpenClaim := { program := "ytfaijmmajcmaoab", sum := "108624ab17d2009c59a0045a5fca5794a00969f45046033213c04ad63d6e1042", func := "loop.example/g01195/laws.FnExactCyclicSquare", spec := "fnExactCyclicSquare", apart := false }
def FnExactCyclicSquareSaid : Prop := fnExactCyclicSquareRow.holds Try.pinned (OpenSpec.ofChange fnExactCyclicSquareSpec)

/-- ITS FALSE NEIGHBOUR: 'it returns false'. Refute it at one input. -/
def fnExactCyclicSquareWrong : ChangeSpec := { name := "fnExactCyclicSquare", fn := fun _ => fun
  | [d] => { results := [.lit (.bool false)], args := [d] }
  | _ => none }
def FnExactCyclicSquareWrongFalsely : Prop := fnExactCyclicSquareRow.holds Try.pinned (OpenSpec.ofChange fnExactCyclicSquareWrong)

/-- 'laws.FnExactElementarySquare': WHATEVER THE INPUT: true; the input reads as it did. -/
def fnExactElementarySquareSpec : ChangeSpec := { name := "fnExactElementarySquare", fn := fun _ => fun
  | [d] => { results := [.lit (.bool true)], args := [d] }
  | _ => none }
def fnExactElementarySquareRow : OpenClaim := { program := "ytfaijmmajcmaoab", sum := "108624ab17d2009c59a0045a5fca5794a00969f45046033213c04ad63d6e1042", func := "loop.example/g01195/laws.FnExactElementarySquare", spec := "fnExactElementarySquare", apart := false }
def FnExactElementarySquareSaid : Prop := fnExactElementarySquareRow.holds Try.pinned (OpenSpec.ofChange fnExactElementarySquareSpec)

/-- ITS FALSE NEIGHBOUR: 'it returns false'. Refute it at one input. -/
def fnExactElementarySquareWrong : ChangeSpec := { name := "fnExactElementarySquare", fn := fun _ => fun
  | [d] => { results := [.lit (.bool false)], args := [d] }
  | _ => none }
def FnExactElementarySquareWrongFalsely : Prop := fnExactElementarySquareRow.holds Try.pinned (OpenSpec.ofChange fnExactElementarySquareWrong)

/-- 'laws.FnExactDirectProduct': WHATEVER THE INPUT: true; the input reads as it did. -/
def fnExactDirectProductSpec : ChangeSpec := { name := "fnExactDirectProduct", fn := fun _ => fun
  | [d1, d2] => { results := [.lit (.bool true)], args := [d1, d2] }
  | _ => none }
def fnExactDirectProductRow : OpenClaim := { program := "ytfaijmmajcmaoab", sum := "108624ab17d2009c59a0045a5fca5794a00969f45046033213c04ad63d6e1042", func := "loop.example/g01195/laws.FnExactDirectProduct", spec := "fnExactDirectProduct", apart := false }
def FnExactDirectProductSaid : Prop := fnExactDirectProductRow.holds Try.pinned (OpenSpec.ofChange fnExactDirectProductSpec)

/-- ITS FALSE NEIGHBOUR: 'it returns false'. Refute it at one input. -/
def fnExactDirectProductWrong : ChangeSpec := { name := "fnExactDirectProduct", fn := fun _ => fun
  | [d1, d2] => { results := [.lit (.bool false)], args := [d1, d2] }
  | _ => none }
def FnExactDirectProductWrongFalsely : Prop := fnExactDirectProductRow.holds Try.pinned (OpenSpec.ofChange fnExactDirectProductWrong)

/-- 'laws.FnExactIsPermutation': WHATEVER THE INPUT: true; the input reads as it did. -/
def fnExactIsPermutationSpec : ChangeSpec := { name := "fnExactIsPermutation", fn := fun _ => fun
  | [d1, d2] => { results := [.lit (.bool true)], args := [d1, d2] }
  | _ => none }
def fnExactIsPermutationRow : OpenClaim := { program := "ytfaijmmajcmaoab", sum := "108624ab17d2009c59a0045a5fca5794a00969f45046033213c04ad63d6e1042", func := "loop.example/g01195/laws.FnExactIsPermutation", spec := "fnExactIsPermutation", apart := false }
def FnExactIsPermutationSaid : Prop := fnExactIsPermutationRow.holds Try.pinned (OpenSpec.ofChange fnExactIsPermutationSpec)

/-- ITS FALSE NEIGHBOUR: 'it returns false'. Refute it at one input. -/
def fnExactIsPermutationWrong : ChangeSpec := { name := "fnExactIsPermutation", fn := fun _ => fun
  | [d1, d2] => { results := [.lit (.bool false)], args := [d1, d2] }
  | _ => none }
def FnExactIsPermutationWrongFalsely : Prop := fnExactIsPermutationRow.holds Try.pinned (OpenSpec.ofChange fnExactIsPermutationWrong)

/-- 'laws.FnExactThenPlaces': WHATEVER THE INPUT: true; the input reads as it did. -/
def fnExactThenPlacesSpec : ChangeSpec := { name := "fnExactThenPlaces", fn := fun _ => fun
  | [d1, d2, d3] => { results := [.lit (.bool true)], args := [d1, d2, d3] }
  | _ => none }
def fnExactThenPlacesRow : OpenClaim := { program := "ytfaijmmajcmaoab", sum := "108624ab17d2009c59a0045a5fca5794a00969f45046033213c04ad63d6e1042", func := "loop.example/g01195/laws.FnExactThenPlaces", spec := "fnExactThenPlaces", apart := false }
def FnExactThenPlacesSaid : Prop := fnExactThenPlacesRow.holds Try.pinned (OpenSpec.ofChange fnExactThenPlacesSpec)

/-- ITS FALSE NEIGHBOUR: 'it returns false'. Refute it at one input. -/
def fnExactThenPlacesWrong : ChangeSpec := { name := "fnExactThenPlaces", fn := fun _ => fun
  | [d1, d2, d3] => { results := [.lit (.bool false)], args := [d1, d2, d3] }
  | _ => none }
def FnExactThenPlacesWrongFalsely : Prop := fnExactThenPlacesRow.holds Try.pinned (OpenSpec.ofChange fnExactThenPlacesWrong)

/-- 'laws.FnExactBackPlaces': WHATEVER THE INPUT: true; the input reads as it did. -/
def fnExactBackPlacesSpec : ChangeSpec := { name := "fnExactBackPlaces", fn := fun _ => fun
  | [d1, d2] => { results := [.lit (.bool true)], args := [d1, d2] }
  | _ => none }
def fnExactBackPlacesRow : OpenClaim := { program := "ytfaijmmajcmaoab", sum := "108624ab17d2009c59a0045a5fca5794a00969f45046033213c04ad63d6e1042", func := "loop.example/g01195/laws.FnExactBackPlaces", spec := "fnExactBackPlaces", apart := false }
def FnExactBackPlacesSaid : Prop := fnExactBackPlacesRow.holds Try.pinned (OpenSpec.ofChange fnExactBackPlacesSpec)

/-- ITS FALSE NEIGHBOUR: 'it returns false'. Refute it at one input. -/
def fnExactBackPlacesWrong : ChangeSpec := { name := "fnExactBackPlaces", fn := fun _ => fun
  | [d1, d2] => { results := [.lit (.bool false)], args := [d1, d2] }
  | _ => none }
def FnExactBackPlacesWrongFalsely : Prop := fnExactBackPlacesRow.holds Try.pinned (OpenSpec.ofChange fnExactBackPlacesWrong)

/-- 'laws.FnExactSignOfPlaces': WHATEVER THE INPUT: true; the input reads as it did. -/
def fnExactSignOfPlacesSpec : ChangeSpec := { name := "fnExactSignOfPlaces", fn := fun _ => fun
  | [d1, d2] => { results := [.lit (.bool true)], args := [d1, d2] }
  | _ => none }
def fnExactSignOfPlacesRow : OpenClaim := { program := "ytfaijmmajcmaoab", sum := "108624ab17d2009c59a0045a5fca5794a00969f45046033213c04ad63d6e1042", func := "loop.example/g01195/laws.FnExactSignOfPlaces", spec := "fnExactSignOfPlaces", apart := false }
def FnExactSignOfPlacesSaid : Prop := fnExactSignOfPlacesRow.holds Try.pinned (OpenSpec.ofChange fnExactSignOfPlacesSpec)

/-- ITS FALSE NEIGHBOUR: 'it returns false'. Refute it at one input. -/
def fnExactSignOfPlacesWrong : ChangeSpec := { name := "fnExactSignOfPlaces", fn := fun _ => fun
  | [d1, d2] => { results := [.lit (.bool false)], args := [d1, d2] }
  | _ => none }
def FnExactSignOfPlacesWrongFalsely : Prop := fnExactSignOfPlacesRow.holds Try.pinned (OpenSpec.ofChange fnExactSignOfPlacesWrong)

/-- 'laws.FnExactSquareText': WHATEVER THE INPUT: true; the input reads as it did. -/
def fnExactSquareTextSpec : ChangeSpec := { name := "fnExactSquareText", fn := fun _ => fun
  | [d] => { results := [.lit (.bool true)], args := [d] }
  | _ => none }
def fnExactSquareTextRow : OpenClaim := { program := "ytfaijmmajcmaoab", sum := "108624ab17d2009c59a0045a5fca5794a00969f45046033213c04ad63d6e1042", func := "loop.example/g01195/laws.FnExactSquareText", spec := "fnExactSquareText", inPlace := ["internal/abi.NoEscape"], apart := false }
def FnExactSquareTextSaid : Prop := fnExactSquareTextRow.holds Try.pinned (OpenSpec.ofChange fnExactSquareTextSpec)

/-- ITS FALSE NEIGHBOUR: 'it returns false'. Refute it at one input. -/
def fnExactSquareTextWrong : ChangeSpec := { name := "fnExactSquareText", fn := fun _ => fun
  | [d] => { results := [.lit (.bool false)], args := [d] }
  | _ => none }
def FnExactSquareTextWrongFalsely : Prop := fnExactSquareTextRow.holds Try.pinned (OpenSpec.ofChange fnExactSquareTextWrong)

/- THE SECOND FORM. 'bulk': how many values and letters a reading holds, each counted each time it is reached (what is shared counts as often as it is met; a slice's spare places count too). A statement '..UptoSaid' is the law's where the arguments, and the package variables that the reading takes, are together of bulk at most 1048576: NARROWER than '..Said'. Prove '..Said' where nothing that the law and all that it calls make is longer than what came in: it says more and counts as full. Else prove '..UptoSaid'. A law counts once. -/
mutual
def uptoBulk {H : Type} : DataW H → Nat
  | .lit (.string bytes) => bytes.length + 1
  | .lit _ => 1
  | .nil => 1
  | .ptr d => uptoBulk d + 1
  | .slice elems spare => uptoBulkAll elems + uptoBulkAll spare + 1
  | .agg parts => uptoBulkAll parts + 1
  | .iface _ d => uptoBulk d + 1
  | .map entries => uptoBulkEntries entries + 1
  | .held _ => 1
def uptoBulkAll {H : Type} : List (DataW H) → Nat
  | [] => 0
  | d :: r => uptoBulk d + uptoBulkAll r
def uptoBulkEntries {H : Type} : List (Lit × DataW H) → Nat
  | [] => 0
  | x :: r => uptoBulkEntry x + uptoBulkEntries r
def uptoBulkEntry {H : Type} : Lit × DataW H → Nat
  | (.string bytes, d) => bytes.length + uptoBulk d + 1
  | (_, d) => uptoBulk d + 1
 end
def uptoSmall : (H : Type) → List (DataW H) → Bool := fun _ ds => decide (uptoBulkAll ds ≤ 1048576)
def OpenSpec.upto (s : _root_.Go.ChangeSpec) : _root_.Go.OpenSpec := { _root_.Go.OpenSpec.ofChange s with cond := some uptoSmall }

/-- 'laws.FnExactOppositeOf', WHERE WHAT IT READS IS OF BULK AT MOST 1048576: true; the input reads as it did. -/
def fnExactOppositeOfUptoRow : OpenClaim := { program := "ytfaijmmajcmaoab", sum := "108624ab17d2009c59a0045a5fca5794a00969f45046033213c04ad63d6e1042", func := "loop.example/g01195/laws.FnExactOppositeOf", spec := "fnExactOppositeOf", apart := false, narrowed := true }
def FnExactOppositeOfUptoSaid : Prop := fnExactOppositeOfUptoRow.holds Try.pinned (OpenSpec.upto fnExactOppositeOfSpec)

/-- 'laws.FnExactCyclicSquare', WHERE WHAT IT READS IS OF BULK AT MOST 1048576: true; the input reads as it did. -/
def fnExactCyclicSquareUptoRow : OpenClaim := { program := "ytfaijmmajcmaoab", sum := "108624ab17d2009c59a0045a5fca5794a00969f45046033213c04ad63d6e1042", func := "loop.example/g01195/laws.FnExactCyclicSquare", spec := "fnExactCyclicSquare", apart := false, narrowed := true }
def FnExactCyclicSquareUptoSaid : Prop := fnExactCyclicSquareUptoRow.holds Try.pinned (OpenSpec.upto fnExactCyclicSquareSpec)

/-- 'laws.FnExactElementarySquare', WHERE WHAT IT READS IS OF BULK AT MOST 1048576: true; the input reads as it did. -/
def fnExactElementarySquareUptoRow : OpenClaim := { program := "ytfaijmmajcmaoab", sum := "108624ab17d2009c59a0045a5fca5794a00969f45046033213c04ad63d6e1042", func := "loop.example/g01195/laws.FnExactElementarySquare", spec := "fnExactElementarySquare", apart := false, narrowed := true }
def FnExactElementarySquareUptoSaid : Prop := fnExactElementarySquareUptoRow.holds Try.pinned (OpenSpec.upto fnExactElementarySquareSpec)

/-- 'laws.FnExactDirectProduct', WHERE WHAT IT READS IS OF BULK AT MOST 1048576: true; the input reads as it did. -/
def fnExactDirectProductUptoRow : OpenClaim := { program := "ytfaijmmajcmaoab", sum := "108624ab17d2009c59a0045a5fca5794a00969f45046033213c04ad63d6e1042", func := "loop.example/g01195/laws.FnExactDirectProduct", spec := "fnExactDirectProduct", apart := false, narrowed := true }
def FnExactDirectProductUptoSaid : Prop := fnExactDirectProductUptoRow.holds Try.pinned (OpenSpec.upto fnExactDirectProductSpec)

/-- 'laws.FnExactIsPermutation', WHERE WHAT IT READS IS OF BULK AT MOST 1048576: true; the input reads as it did. -/
def fnExactIsPermutationUptoRow : OpenClaim := { program := "ytfaijmmajcmaoab", sum := "108624ab17d2009c59a0045a5fca5794a00969f45046033213c04ad63d6e1042", func := "loop.example/g01195/laws.FnExactIsPermutation", spec := "fnExactIsPermutation", apart := false, narrowed := true }
def FnExactIsPermutationUptoSaid : Prop := fnExactIsPermutationUptoRow.holds Try.pinned (OpenSpec.upto fnExactIsPermutationSpec)

/-- 'laws.FnExactThenPlaces', WHERE WHAT IT READS IS OF BULK AT MOST 1048576: true; the input reads as it did. -/
def fnExactThenPlacesUptoRow : OpenClaim := { program := "ytfaijmmajcmaoab", sum := "108624ab17d2009c59a0045a5fca5794a00969f45046033213c04ad63d6e1042", func := "loop.example/g01195/laws.FnExactThenPlaces", spec := "fnExactThenPlaces", apart := false, narrowed := true }
def FnExactThenPlacesUptoSaid : Prop := fnExactThenPlacesUptoRow.holds Try.pinned (OpenSpec.upto fnExactThenPlacesSpec)

/-- 'laws.FnExactBackPlaces', WHERE WHAT IT READS IS OF BULK AT MOST 1048576: true; the input reads as it did. -/
def fnExactBackPlacesUptoRow : OpenClaim := { program := "ytfaijmmajcmaoab", sum := "108624ab17d2009c59a0045a5fca5794a00969f45046033213c04ad63d6e1042", func := "loop.example/g01195/laws.FnExactBackPlaces", spec := "fnExactBackPlaces", apart := false, narrowed := true }
def FnExactBackPlacesUptoSaid : Prop := fnExactBackPlacesUptoRow.holds Try.pinned (OpenSpec.upto fnExactBackPlacesSpec)

/-- 'laws.FnExactSignOfPlaces', WHERE WHAT IT READS IS OF BULK AT MOST 1048576: true; the input reads as it did. -/
def fnExactSignOfPlacesUptoRow : OpenClaim := { program := "ytfaijmmajcmaoab", sum := "108624ab17d2009c59a0045a5fca5794a00969f45046033213c04ad63d6e1042", func := "loop.example/g01195/laws.FnExactSignOfPlaces", spec := "fnExactSignOfPlaces", apart := false, narrowed := true }
def FnExactSignOfPlacesUptoSaid : Prop := fnExactSignOfPlacesUptoRow.holds Try.pinned (OpenSpec.upto fnExactSignOfPlacesSpec)

/-- 'laws.FnExactSquareText', WHERE WHAT IT READS IS OF BULK AT MOST 1048576: true; the input reads as it did. -/
def fnExactSquareTextUptoRow : OpenClaim := { program := "ytfaijmmajcmaoab", sum := "108624ab17d2009c59a0045a5fca5794a00969f45046033213c04ad63d6e1042", func := "loop.example/g01195/laws.FnExactSquareText", spec := "fnExactSquareText", inPlace := ["internal/abi.NoEscape"], apart := false, narrowed := true }
def FnExactSquareTextUptoSaid : Prop := fnExactSquareTextUptoRow.holds Try.pinned (OpenSpec.upto fnExactSquareTextSpec)

end Rows
end Go.Proofs.Ytfaijmmajcmaoab
