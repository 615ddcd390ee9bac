/-
  No cell of these rows narrows 'for every input' (looked for: loops, veiled, ifaces, maps, wideKeys, modest, calm, conditions, laid).
  DERIVED. THE GIVEN ROWS OF THIS SEAT. 9 by the template 'for every input the law returns true; each argument reads behind the call as it read before'; 0 by the template 'total and deterministic' (their statements: YtphninlinegbbacTotals.lean).
  GIVEN WITH THE SEED: the statements are not yours to turn. If you find one false, say at which input.
  Laid BY PROGRAM, IN A SANDBOX (cutbox-rows.mjs): the forced cells as the released guide's own fill.sh prints them over the translation 94e81ce10c9e47ee… (all of the seat's roots in one cut). By AI agents, Wed Nov 11 2026. No macro, syntax, notation, axiom, sorry.
-/
import Derived.Test.YtphninlinegbbacChecked
import GoSem.Claim
import GoSem.ClaimJoined
import GoSem.ClaimMapViews
import Derived.JoinedTies
import Derived.KernelRfl
namespace Go.Proofs.Ytphninlinegbbac
/- THE CELL 'sum', in the pinned program and in every row, IS THE sha256 OF THE DUMP (.gsa) THAT YtphninlinegbbacProg.lean LOADS. Nothing in Lean hashes anything: it is a label: what it is worth is what the hold of that sum in a sandbox is worth. -/
noncomputable def Try.pinned : Pinned := { name := "ytphninlinegbbac", sum := "94e81ce10c9e47ee3b9904f7f9a95ccc132deb35d8d2872b7bcc4b3c2c051def", checked := Try.checked }
namespace Rows
def none {H : Type} : Left H := { results := [], args := [] }

/-- 'laws.FnExactSquareOfLists': WHATEVER THE INPUT: true; the input reads as it did. -/
def fnExactSquareOfListsSpec : ChangeSpec := { name := "fnExactSquareOfLists", fn := fun _ => fun
  | [d] => { results := [.lit (.bool true)], args := [d] }
  | _ => none }
def fnExactSquareOfListsRow : OpenClaim := { program := "ytphninlinegbbac", sum := "94e81ce10c9e47ee3b9904f7f9a95ccc132deb35d8d2872b7bcc4b3c2c051def", func := "loop.example/g01195/laws.FnExactSquareOfLists", spec := "fnExactSquareOfLists", apart := false }
def FnExactSquareOfListsSaid : Prop := fnExactSquareOfListsRow.holds Try.pinned (OpenSpec.ofChange fnExactSquareOfListsSpec)

/-- ITS FALSE NEIGHBOUR: 'it returns false'. Refute it at one input. -/
def fnExactSquareOfListsWrong : ChangeSpec := { name := "fnExactSquareOfLists", fn := fun _ => fun
  | [d] => { results := [.lit (.bool false)], args := [d] }
  | _ => none }
def FnExactSquareOfListsWrongFalsely : Prop := fnExactSquareOfListsRow.holds Try.pinned (OpenSpec.ofChange fnExactSquareOfListsWrong)

/-- 'laws.FnExactTermText': WHATEVER THE INPUT: true; the input reads as it did. -/
def fnExactTermTextSpec : ChangeSpec := { name := "fnExactTermText", fn := fun _ => fun
  | [d] => { results := [.lit (.bool true)], args := [d] }
  | _ => none }
def fnExactTermTextRow : OpenClaim := { program := "ytphninlinegbbac", sum := "94e81ce10c9e47ee3b9904f7f9a95ccc132deb35d8d2872b7bcc4b3c2c051def", func := "loop.example/g01195/laws.FnExactTermText", spec := "fnExactTermText", unfollowed := true, recurses := true, apart := false }
def FnExactTermTextSaid : Prop := fnExactTermTextRow.holds Try.pinned (OpenSpec.ofChange fnExactTermTextSpec)

/-- ITS FALSE NEIGHBOUR: 'it returns false'. Refute it at one input. -/
def fnExactTermTextWrong : ChangeSpec := { name := "fnExactTermText", fn := fun _ => fun
  | [d] => { results := [.lit (.bool false)], args := [d] }
  | _ => none }
def FnExactTermTextWrongFalsely : Prop := fnExactTermTextRow.holds Try.pinned (OpenSpec.ofChange fnExactTermTextWrong)

/-- 'laws.FnExactIdentityText': WHATEVER THE INPUT: true; the input reads as it did. -/
def fnExactIdentityTextSpec : ChangeSpec := { name := "fnExactIdentityText", fn := fun _ => fun
  | [d] => { results := [.lit (.bool true)], args := [d] }
  | _ => none }
def fnExactIdentityTextRow : OpenClaim := { program := "ytphninlinegbbac", sum := "94e81ce10c9e47ee3b9904f7f9a95ccc132deb35d8d2872b7bcc4b3c2c051def", func := "loop.example/g01195/laws.FnExactIdentityText", spec := "fnExactIdentityText", unfollowed := true, recurses := true, apart := false }
def FnExactIdentityTextSaid : Prop := fnExactIdentityTextRow.holds Try.pinned (OpenSpec.ofChange fnExactIdentityTextSpec)

/-- ITS FALSE NEIGHBOUR: 'it returns false'. Refute it at one input. -/
def fnExactIdentityTextWrong : ChangeSpec := { name := "fnExactIdentityText", fn := fun _ => fun
  | [d] => { results := [.lit (.bool false)], args := [d] }
  | _ => none }
def FnExactIdentityTextWrongFalsely : Prop := fnExactIdentityTextRow.holds Try.pinned (OpenSpec.ofChange fnExactIdentityTextWrong)

/-- 'laws.FnExactMirrorOf': WHATEVER THE INPUT: true; the input reads as it did. -/
def fnExactMirrorOfSpec : ChangeSpec := { name := "fnExactMirrorOf", fn := fun _ => fun
  | [d] => { results := [.lit (.bool true)], args := [d] }
  | _ => none }
def fnExactMirrorOfRow : OpenClaim := { program := "ytphninlinegbbac", sum := "94e81ce10c9e47ee3b9904f7f9a95ccc132deb35d8d2872b7bcc4b3c2c051def", func := "loop.example/g01195/laws.FnExactMirrorOf", spec := "fnExactMirrorOf", unfollowed := true, recurses := true, apart := false }
def FnExactMirrorOfSaid : Prop := fnExactMirrorOfRow.holds Try.pinned (OpenSpec.ofChange fnExactMirrorOfSpec)

/-- ITS FALSE NEIGHBOUR: 'it returns false'. Refute it at one input. -/
def fnExactMirrorOfWrong : ChangeSpec := { name := "fnExactMirrorOf", fn := fun _ => fun
  | [d] => { results := [.lit (.bool false)], args := [d] }
  | _ => none }
def FnExactMirrorOfWrongFalsely : Prop := fnExactMirrorOfRow.holds Try.pinned (OpenSpec.ofChange fnExactMirrorOfWrong)

/-- 'laws.FnExactTermValue': WHATEVER THE INPUT: true; the input reads as it did. -/
def fnExactTermValueSpec : ChangeSpec := { name := "fnExactTermValue", fn := fun _ => fun
  | [d1, d2, d3, d4, d5] => { results := [.lit (.bool true)], args := [d1, d2, d3, d4, d5] }
  | _ => none }
def fnExactTermValueRow : OpenClaim := { program := "ytphninlinegbbac", sum := "94e81ce10c9e47ee3b9904f7f9a95ccc132deb35d8d2872b7bcc4b3c2c051def", func := "loop.example/g01195/laws.FnExactTermValue", spec := "fnExactTermValue", unfollowed := true, recurses := true, apart := false }
def FnExactTermValueSaid : Prop := fnExactTermValueRow.holds Try.pinned (OpenSpec.ofChange fnExactTermValueSpec)

/-- ITS FALSE NEIGHBOUR: 'it returns false'. Refute it at one input. -/
def fnExactTermValueWrong : ChangeSpec := { name := "fnExactTermValue", fn := fun _ => fun
  | [d1, d2, d3, d4, d5] => { results := [.lit (.bool false)], args := [d1, d2, d3, d4, d5] }
  | _ => none }
def FnExactTermValueWrongFalsely : Prop := fnExactTermValueRow.holds Try.pinned (OpenSpec.ofChange fnExactTermValueWrong)

/-- 'laws.FnExactFailsAt': WHATEVER THE INPUT: true; the input reads as it did. -/
def fnExactFailsAtSpec : ChangeSpec := { name := "fnExactFailsAt", fn := fun _ => fun
  | [d1, d2] => { results := [.lit (.bool true)], args := [d1, d2] }
  | _ => none }
def fnExactFailsAtRow : OpenClaim := { program := "ytphninlinegbbac", sum := "94e81ce10c9e47ee3b9904f7f9a95ccc132deb35d8d2872b7bcc4b3c2c051def", func := "loop.example/g01195/laws.FnExactFailsAt", spec := "fnExactFailsAt", unfollowed := true, recurses := true, apart := false }
def FnExactFailsAtSaid : Prop := fnExactFailsAtRow.holds Try.pinned (OpenSpec.ofChange fnExactFailsAtSpec)

/-- ITS FALSE NEIGHBOUR: 'it returns false'. Refute it at one input. -/
def fnExactFailsAtWrong : ChangeSpec := { name := "fnExactFailsAt", fn := fun _ => fun
  | [d1, d2] => { results := [.lit (.bool false)], args := [d1, d2] }
  | _ => none }
def FnExactFailsAtWrongFalsely : Prop := fnExactFailsAtRow.holds Try.pinned (OpenSpec.ofChange fnExactFailsAtWrong)

/-- 'laws.FnExactHoldsIn': WHATEVER THE INPUT: true; the input reads as it did. -/
def fnExactHoldsInSpec : ChangeSpec := { name := "fnExactHoldsIn", fn := fun _ => fun
  | [d1, d2] => { results := [.lit (.bool true)], args := [d1, d2] }
  | _ => none }
def fnExactHoldsInRow : OpenClaim := { program := "ytphninlinegbbac", sum := "94e81ce10c9e47ee3b9904f7f9a95ccc132deb35d8d2872b7bcc4b3c2c051def", func := "loop.example/g01195/laws.FnExactHoldsIn", spec := "fnExactHoldsIn", unfollowed := true, recurses := true, apart := false }
def FnExactHoldsInSaid : Prop := fnExactHoldsInRow.holds Try.pinned (OpenSpec.ofChange fnExactHoldsInSpec)

/-- ITS FALSE NEIGHBOUR: 'it returns false'. Refute it at one input. -/
def fnExactHoldsInWrong : ChangeSpec := { name := "fnExactHoldsIn", fn := fun _ => fun
  | [d1, d2] => { results := [.lit (.bool false)], args := [d1, d2] }
  | _ => none }
def FnExactHoldsInWrongFalsely : Prop := fnExactHoldsInRow.holds Try.pinned (OpenSpec.ofChange fnExactHoldsInWrong)

/-- 'laws.FnExactCountHolds': WHATEVER THE INPUT: true; the input reads as it did. -/
def fnExactCountHoldsSpec : ChangeSpec := { name := "fnExactCountHolds", fn := fun _ => fun
  | [d1, d2] => { results := [.lit (.bool true)], args := [d1, d2] }
  | _ => none }
def fnExactCountHoldsRow : OpenClaim := { program := "ytphninlinegbbac", sum := "94e81ce10c9e47ee3b9904f7f9a95ccc132deb35d8d2872b7bcc4b3c2c051def", func := "loop.example/g01195/laws.FnExactCountHolds", spec := "fnExactCountHolds", unfollowed := true, recurses := true, apart := false }
def FnExactCountHoldsSaid : Prop := fnExactCountHoldsRow.holds Try.pinned (OpenSpec.ofChange fnExactCountHoldsSpec)

/-- ITS FALSE NEIGHBOUR: 'it returns false'. Refute it at one input. -/
def fnExactCountHoldsWrong : ChangeSpec := { name := "fnExactCountHolds", fn := fun _ => fun
  | [d1, d2] => { results := [.lit (.bool false)], args := [d1, d2] }
  | _ => none }
def FnExactCountHoldsWrongFalsely : Prop := fnExactCountHoldsRow.holds Try.pinned (OpenSpec.ofChange fnExactCountHoldsWrong)

/-- 'laws.FnExactLawsAmong': WHATEVER THE INPUT: true; the input reads as it did. -/
def fnExactLawsAmongSpec : ChangeSpec := { name := "fnExactLawsAmong", fn := fun _ => fun
  | [d1, d2] => { results := [.lit (.bool true)], args := [d1, d2] }
  | _ => none }
def fnExactLawsAmongRow : OpenClaim := { program := "ytphninlinegbbac", sum := "94e81ce10c9e47ee3b9904f7f9a95ccc132deb35d8d2872b7bcc4b3c2c051def", func := "loop.example/g01195/laws.FnExactLawsAmong", spec := "fnExactLawsAmong", inPlace := ["internal/bytealg.IndexByteString", "internal/bytealg.IndexString"], unfollowed := true, recurses := true, named := ["internal/bytealg.MaxLen"], apart := false }
def FnExactLawsAmongSaid : Prop := fnExactLawsAmongRow.holds Try.pinned (OpenSpec.ofChange fnExactLawsAmongSpec)

/-- ITS FALSE NEIGHBOUR: 'it returns false'. Refute it at one input. -/
def fnExactLawsAmongWrong : ChangeSpec := { name := "fnExactLawsAmong", fn := fun _ => fun
  | [d1, d2] => { results := [.lit (.bool false)], args := [d1, d2] }
  | _ => none }
def FnExactLawsAmongWrongFalsely : Prop := fnExactLawsAmongRow.holds Try.pinned (OpenSpec.ofChange fnExactLawsAmongWrong)

/- THE SECOND FORM. 'bulk': how many values and letters a reading holds, each counted each time it is reached (what is shared counts as often as it is met; a slice's spare places count too). A statement '..UptoSaid' is the law's where the arguments, and the package variables that the reading takes, are together of bulk at most 1048576: NARROWER than '..Said'. Prove '..Said' where nothing that the law and all that it calls make is longer than what came in: it says more and counts as full. Else prove '..UptoSaid'. A law counts once. -/
mutual
def uptoBulk {H : Type} : DataW H → Nat
  | .lit (.string bytes) => bytes.length + 1
  | .lit _ => 1
  | .nil => 1
  | .ptr d => uptoBulk d + 1
  | .slice elems spare => uptoBulkAll elems + uptoBulkAll spare + 1
  | .agg parts => uptoBulkAll parts + 1
  | .iface _ d => uptoBulk d + 1
  | .map entries => uptoBulkEntries entries + 1
  | .held _ => 1
def uptoBulkAll {H : Type} : List (DataW H) → Nat
  | [] => 0
  | d :: r => uptoBulk d + uptoBulkAll r
def uptoBulkEntries {H : Type} : List (Lit × DataW H) → Nat
  | [] => 0
  | x :: r => uptoBulkEntry x + uptoBulkEntries r
def uptoBulkEntry {H : Type} : Lit × DataW H → Nat
  | (.string bytes, d) => bytes.length + uptoBulk d + 1
  | (_, d) => uptoBulk d + 1
 end
def uptoSmall : (H : Type) → List (DataW H) → Bool := fun _ ds => decide (uptoBulkAll ds ≤ 1048576)
def OpenSpec.upto (s : _root_.Go.ChangeSpec) : _root_.Go.OpenSpec := { _root_.Go.OpenSpec.ofChange s with cond := some uptoSmall }

/-- 'laws.FnExactSquareOfLists', WHERE WHAT IT READS IS OF BULK AT MOST 1048576: true; the input reads as it did. -/
def fnExactSquareOfListsUptoRow : OpenClaim := { program := "ytphninlinegbbac", sum := "94e81ce10c9e47ee3b9904f7f9a95ccc132deb35d8d2872b7bcc4b3c2c051def", func := "loop.example/g01195/laws.FnExactSquareOfLists", spec := "fnExactSquareOfLists", apart := false, narrowed := true }
def FnExactSquareOfListsUptoSaid : Prop := fnExactSquareOfListsUptoRow.holds Try.pinned (OpenSpec.upto fnExactSquareOfListsSpec)

/-- 'laws.FnExactTermText', WHERE WHAT IT READS IS OF BULK AT MOST 1048576: true; the input reads as it did. -/
def fnExactTermTextUptoRow : OpenClaim := { program := "ytphninlinegbbac", sum := "94e81ce10c9e47ee3b9904f7f9a95ccc132deb35d8d2872b7bcc4b3c2c051def", func := "loop.example/g01195/laws.FnExactTermText", spec := "fnExactTermText", unfollowed := true, recurses := true, apart := false, narrowed := true }
def FnExactTermTextUptoSaid : Prop := fnExactTermTextUptoRow.holds Try.pinned (OpenSpec.upto fnExactTermTextSpec)

/-- 'laws.FnExactIdentityText', WHERE WHAT IT READS IS OF BULK AT MOST 1048576: true; the input reads as it did. -/
def fnExactIdentityTextUptoRow : OpenClaim := { program := "ytphninlinegbbac", sum := "94e81ce10c9e47ee3b9904f7f9a95ccc132deb35d8d2872b7bcc4b3c2c051def", func := "loop.example/g01195/laws.FnExactIdentityText", spec := "fnExactIdentityText", unfollowed := true, recurses := true, apart := false, narrowed := true }
def FnExactIdentityTextUptoSaid : Prop := fnExactIdentityTextUptoRow.holds Try.pinned (OpenSpec.upto fnExactIdentityTextSpec)

/-- 'laws.FnExactMirrorOf', WHERE WHAT IT READS IS OF BULK AT MOST 1048576: true; the input reads as it did. -/
def fnExactMirrorOfUptoRow : OpenClaim := { program := "ytphninlinegbbac", sum := "94e81ce10c9e47ee3b9904f7f9a95ccc132deb35d8d2872b7bcc4b3c2c051def", func := "loop.example/g01195/laws.FnExactMirrorOf", spec := "fnExactMirrorOf", unfollowed := true, recurses := true, apart := false, narrowed := true }
def FnExactMirrorOfUptoSaid : Prop := fnExactMirrorOfUptoRow.holds Try.pinned (OpenSpec.upto fnExactMirrorOfSpec)

/-- 'laws.FnExactTermValue', WHERE WHAT IT READS IS OF BULK AT MOST 1048576: true; the input reads as it did. -/
def fnExactTermValueUptoRow : OpenClaim := { program := "ytphninlinegbbac", sum := "94e81ce10c9e47ee3b9904f7f9a95ccc132deb35d8d2872b7bcc4b3c2c051def", func := "loop.example/g01195/laws.FnExactTermValue", spec := "fnExactTermValue", unfollowed := true, recurses := true, apart := false, narrowed := true }
def FnExactTermValueUptoSaid : Prop := fnExactTermValueUptoRow.holds Try.pinned (OpenSpec.upto fnExactTermValueSpec)

/-- 'laws.FnExactFailsAt', WHERE WHAT IT READS IS OF BULK AT MOST 1048576: true; the input reads as it did. -/
def fnExactFailsAtUptoRow : OpenClaim := { program := "ytphninlinegbbac", sum := "94e81ce10c9e47ee3b9904f7f9a95ccc132deb35d8d2872b7bcc4b3c2c051def", func := "loop.example/g01195/laws.FnExactFailsAt", spec := "fnExactFailsAt", unfollowed := true, recurses := true, apart := false, narrowed := true }
def FnExactFailsAtUptoSaid : Prop := fnExactFailsAtUptoRow.holds Try.pinned (OpenSpec.upto fnExactFailsAtSpec)

/-- 'laws.FnExactHoldsIn', WHERE WHAT IT READS IS OF BULK AT MOST 1048576: true; the input reads as it did. -/
def fnExactHoldsInUptoRow : OpenClaim := { program := "ytphninlinegbbac", sum := "94e81ce10c9e47ee3b9904f7f9a95ccc132deb35d8d2872b7bcc4b3c2c051def", func := "loop.example/g01195/laws.FnExactHoldsIn", spec := "fnExactHoldsIn", unfollowed := true, recurses := true, apart := false, narrowed := true }
def FnExactHoldsInUptoSaid : Prop := fnExactHoldsInUptoRow.holds Try.pinned (OpenSpec.upto fnExactHoldsInSpec)

/-- 'laws.FnExactCountHolds', WHERE WHAT IT READS IS OF BULK AT MOST 1048576: true; the input reads as it did. -/
def fnExactCountHoldsUptoRow : OpenClaim := { program := "ytphninlinegbbac", sum := "94e81ce10c9e47ee3b9904f7f9a95ccc132deb35d8d2872b7bcc4b3c2c051def", func := "loop.example/g01195/laws.FnExactCountHolds", spec := "fnExactCountHolds", unfollowed := true, recurses := true, apart := false, narrowed := true }
def FnExactCountHoldsUptoSaid : Prop := fnExactCountHoldsUptoRow.holds Try.pinned (OpenSpec.upto fnExactCountHoldsSpec)

/-- 'laws.FnExactLawsAmong', WHERE WHAT IT READS IS OF BULK AT MOST 1048576: true; the input reads as it did. -/
def fnExactLawsAmongUptoRow : OpenClaim := { program := "ytphninlinegbbac", sum := "94e81ce10c9e47ee3b9904f7f9a95ccc132deb35d8d2872b7bcc4b3c2c051def", func := "loop.example/g01195/laws.FnExactLawsAmong", spec := "fnExactLawsAmong", inPlace := ["internal/bytealg.IndexByteString", "internal/bytealg.IndexString"], unfollowed := true, recurses := true, named := ["internal/bytealg.MaxLen"], apart := false, narrowed := true }
def FnExactLawsAmongUptoSaid : Prop := fnExactLawsAmongUptoRow.holds Try.pinned (OpenSpec.upto fnExactLawsAmongSpec)

end Rows
end Go.Proofs.Ytphninlinegbbac
