/-
  No cell of these rows narrows 'for every input' (looked for: loops, veiled, ifaces, maps, wideKeys, modest, calm, conditions, laid).
  DERIVED. THE GIVEN ROWS OF THIS SEAT. 12 by the template 'for every input the law returns true; each argument reads behind the call as it read before'; 0 by the template 'total and deterministic' (their statements: YtbhjbllgmenbaabTotals.lean).
  GIVEN WITH THE SEED: the statements are not yours to turn. If you find one false, say at which input.
  Laid BY PROGRAM, IN A SANDBOX (cutbox-rows.mjs): the forced cells as the released guide's own fill.sh prints them over the translation ec5f3746ef8cbc73… (all of the seat's roots in one cut). By AI agents, Wed Nov 11 2026. No macro, syntax, notation, axiom, sorry.
-/
import Derived.Test.YtbhjbllgmenbaabChecked
import GoSem.Claim
import GoSem.ClaimJoined
import GoSem.ClaimMapViews
import Derived.JoinedTies
import Derived.KernelRfl
namespace Go.Proofs.Ytbhjbllgmenbaab
/- THE CELL 'sum', in the pinned program and in every row, IS THE sha256 OF THE DUMP (.gsa) THAT YtbhjbllgmenbaabProg.lean LOADS. Nothing in Lean hashes anything: it is a label: what it is worth is what the hold of that sum in a sandbox is worth. -/
noncomputable def Try.pinned : Pinned := { name := "ytbhjbllgmenbaab", sum := "ec5f3746ef8cbc739235e15acc29062820b02fd764c7b8137f86f05b45bbcc97", checked := Try.checked }
namespace Rows
def none {H : Type} : Left H := { results := [], args := [] }

/-- 'laws.FnExactCosetsOf': WHATEVER THE INPUT: true; the input reads as it did. -/
def fnExactCosetsOfSpec : ChangeSpec := { name := "fnExactCosetsOf", fn := fun _ => fun
  | [d1, d2] => { results := [.lit (.bool true)], args := [d1, d2] }
  | _ => none }
def fnExactCosetsOfRow : OpenClaim := { program := "ytbhjbllgmenbaab", sum := "ec5f3746ef8cbc739235e15acc29062820b02fd764c7b8137f86f05b45bbcc97", func := "loop.example/g01195/laws.FnExactCosetsOf", spec := "fnExactCosetsOf", plainKeys := false, apart := false }
def FnExactCosetsOfSaid : Prop := fnExactCosetsOfRow.holds Try.pinned (OpenSpec.ofChange fnExactCosetsOfSpec)

/-- ITS FALSE NEIGHBOUR: 'it returns false'. Refute it at one input. -/
def fnExactCosetsOfWrong : ChangeSpec := { name := "fnExactCosetsOf", fn := fun _ => fun
  | [d1, d2] => { results := [.lit (.bool false)], args := [d1, d2] }
  | _ => none }
def FnExactCosetsOfWrongFalsely : Prop := fnExactCosetsOfRow.holds Try.pinned (OpenSpec.ofChange fnExactCosetsOfWrong)

/-- 'laws.FnExactKeptByInner': WHATEVER THE INPUT: true; the input reads as it did. -/
def fnExactKeptByInnerSpec : ChangeSpec := { name := "fnExactKeptByInner", fn := fun _ => fun
  | [d] => { results := [.lit (.bool true)], args := [d] }
  | _ => none }
def fnExactKeptByInnerRow : OpenClaim := { program := "ytbhjbllgmenbaab", sum := "ec5f3746ef8cbc739235e15acc29062820b02fd764c7b8137f86f05b45bbcc97", func := "loop.example/g01195/laws.FnExactKeptByInner", spec := "fnExactKeptByInner", recurses := true, plainKeys := false, apart := false }
def FnExactKeptByInnerSaid : Prop := fnExactKeptByInnerRow.holds Try.pinned (OpenSpec.ofChange fnExactKeptByInnerSpec)

/-- ITS FALSE NEIGHBOUR: 'it returns false'. Refute it at one input. -/
def fnExactKeptByInnerWrong : ChangeSpec := { name := "fnExactKeptByInner", fn := fun _ => fun
  | [d] => { results := [.lit (.bool false)], args := [d] }
  | _ => none }
def FnExactKeptByInnerWrongFalsely : Prop := fnExactKeptByInnerRow.holds Try.pinned (OpenSpec.ofChange fnExactKeptByInnerWrong)

/-- 'laws.FnExactIsAutomorphicLoop': WHATEVER THE INPUT: true; the input reads as it did. -/
def fnExactIsAutomorphicLoopSpec : ChangeSpec := { name := "fnExactIsAutomorphicLoop", fn := fun _ => fun
  | [d] => { results := [.lit (.bool true)], args := [d] }
  | _ => none }
def fnExactIsAutomorphicLoopRow : OpenClaim := { program := "ytbhjbllgmenbaab", sum := "ec5f3746ef8cbc739235e15acc29062820b02fd764c7b8137f86f05b45bbcc97", func := "loop.example/g01195/laws.FnExactIsAutomorphicLoop", spec := "fnExactIsAutomorphicLoop", plainKeys := false, apart := false }
def FnExactIsAutomorphicLoopSaid : Prop := fnExactIsAutomorphicLoopRow.holds Try.pinned (OpenSpec.ofChange fnExactIsAutomorphicLoopSpec)

/-- ITS FALSE NEIGHBOUR: 'it returns false'. Refute it at one input. -/
def fnExactIsAutomorphicLoopWrong : ChangeSpec := { name := "fnExactIsAutomorphicLoop", fn := fun _ => fun
  | [d] => { results := [.lit (.bool false)], args := [d] }
  | _ => none }
def FnExactIsAutomorphicLoopWrongFalsely : Prop := fnExactIsAutomorphicLoopRow.holds Try.pinned (OpenSpec.ofChange fnExactIsAutomorphicLoopWrong)

/-- 'laws.FnExactOrbitsOf': WHATEVER THE INPUT: true; the input reads as it did. -/
def fnExactOrbitsOfSpec : ChangeSpec := { name := "fnExactOrbitsOf", fn := fun _ => fun
  | [d1, d2] => { results := [.lit (.bool true)], args := [d1, d2] }
  | _ => none }
def fnExactOrbitsOfRow : OpenClaim := { program := "ytbhjbllgmenbaab", sum := "ec5f3746ef8cbc739235e15acc29062820b02fd764c7b8137f86f05b45bbcc97", func := "loop.example/g01195/laws.FnExactOrbitsOf", spec := "fnExactOrbitsOf", unfollowed := true, recurses := true, plainKeys := false, apart := false }
def FnExactOrbitsOfSaid : Prop := fnExactOrbitsOfRow.holds Try.pinned (OpenSpec.ofChange fnExactOrbitsOfSpec)

/-- ITS FALSE NEIGHBOUR: 'it returns false'. Refute it at one input. -/
def fnExactOrbitsOfWrong : ChangeSpec := { name := "fnExactOrbitsOf", fn := fun _ => fun
  | [d1, d2] => { results := [.lit (.bool false)], args := [d1, d2] }
  | _ => none }
def FnExactOrbitsOfWrongFalsely : Prop := fnExactOrbitsOfRow.holds Try.pinned (OpenSpec.ofChange fnExactOrbitsOfWrong)

/-- 'laws.FnExactQuotientLoop': WHATEVER THE INPUT: true; the input reads as it did. -/
def fnExactQuotientLoopSpec : ChangeSpec := { name := "fnExactQuotientLoop", fn := fun _ => fun
  | [d1, d2] => { results := [.lit (.bool true)], args := [d1, d2] }
  | _ => none }
def fnExactQuotientLoopRow : OpenClaim := { program := "ytbhjbllgmenbaab", sum := "ec5f3746ef8cbc739235e15acc29062820b02fd764c7b8137f86f05b45bbcc97", func := "loop.example/g01195/laws.FnExactQuotientLoop", spec := "fnExactQuotientLoop", plainKeys := false, apart := false }
def FnExactQuotientLoopSaid : Prop := fnExactQuotientLoopRow.holds Try.pinned (OpenSpec.ofChange fnExactQuotientLoopSpec)

/-- ITS FALSE NEIGHBOUR: 'it returns false'. Refute it at one input. -/
def fnExactQuotientLoopWrong : ChangeSpec := { name := "fnExactQuotientLoop", fn := fun _ => fun
  | [d1, d2] => { results := [.lit (.bool false)], args := [d1, d2] }
  | _ => none }
def FnExactQuotientLoopWrongFalsely : Prop := fnExactQuotientLoopRow.holds Try.pinned (OpenSpec.ofChange fnExactQuotientLoopWrong)

/-- 'laws.FnExactLeastBlock': WHATEVER THE INPUT: true; the input reads as it did. -/
def fnExactLeastBlockSpec : ChangeSpec := { name := "fnExactLeastBlock", fn := fun _ => fun
  | [d1, d2, d3, d4] => { results := [.lit (.bool true)], args := [d1, d2, d3, d4] }
  | _ => none }
def fnExactLeastBlockRow : OpenClaim := { program := "ytbhjbllgmenbaab", sum := "ec5f3746ef8cbc739235e15acc29062820b02fd764c7b8137f86f05b45bbcc97", func := "loop.example/g01195/laws.FnExactLeastBlock", spec := "fnExactLeastBlock", unfollowed := true, recurses := true, plainKeys := false, apart := false }
def FnExactLeastBlockSaid : Prop := fnExactLeastBlockRow.holds Try.pinned (OpenSpec.ofChange fnExactLeastBlockSpec)

/-- ITS FALSE NEIGHBOUR: 'it returns false'. Refute it at one input. -/
def fnExactLeastBlockWrong : ChangeSpec := { name := "fnExactLeastBlock", fn := fun _ => fun
  | [d1, d2, d3, d4] => { results := [.lit (.bool false)], args := [d1, d2, d3, d4] }
  | _ => none }
def FnExactLeastBlockWrongFalsely : Prop := fnExactLeastBlockRow.holds Try.pinned (OpenSpec.ofChange fnExactLeastBlockWrong)

/-- 'laws.FnExactIsPrimitive': WHATEVER THE INPUT: true; the input reads as it did. -/
def fnExactIsPrimitiveSpec : ChangeSpec := { name := "fnExactIsPrimitive", fn := fun _ => fun
  | [d1, d2] => { results := [.lit (.bool true)], args := [d1, d2] }
  | _ => none }
def fnExactIsPrimitiveRow : OpenClaim := { program := "ytbhjbllgmenbaab", sum := "ec5f3746ef8cbc739235e15acc29062820b02fd764c7b8137f86f05b45bbcc97", func := "loop.example/g01195/laws.FnExactIsPrimitive", spec := "fnExactIsPrimitive", unfollowed := true, recurses := true, plainKeys := false, apart := false }
def FnExactIsPrimitiveSaid : Prop := fnExactIsPrimitiveRow.holds Try.pinned (OpenSpec.ofChange fnExactIsPrimitiveSpec)

/-- ITS FALSE NEIGHBOUR: 'it returns false'. Refute it at one input. -/
def fnExactIsPrimitiveWrong : ChangeSpec := { name := "fnExactIsPrimitive", fn := fun _ => fun
  | [d1, d2] => { results := [.lit (.bool false)], args := [d1, d2] }
  | _ => none }
def FnExactIsPrimitiveWrongFalsely : Prop := fnExactIsPrimitiveRow.holds Try.pinned (OpenSpec.ofChange fnExactIsPrimitiveWrong)

/-- 'laws.FnExactTermValue': WHATEVER THE INPUT: true; the input reads as it did. -/
def fnExactTermValueSpec : ChangeSpec := { name := "fnExactTermValue", fn := fun _ => fun
  | [d1, d2, d3, d4, d5] => { results := [.lit (.bool true)], args := [d1, d2, d3, d4, d5] }
  | _ => none }
def fnExactTermValueRow : OpenClaim := { program := "ytbhjbllgmenbaab", sum := "ec5f3746ef8cbc739235e15acc29062820b02fd764c7b8137f86f05b45bbcc97", func := "loop.example/g01195/laws.FnExactTermValue", spec := "fnExactTermValue", unfollowed := true, recurses := true, plainKeys := false, apart := false }
def FnExactTermValueSaid : Prop := fnExactTermValueRow.holds Try.pinned (OpenSpec.ofChange fnExactTermValueSpec)

/-- ITS FALSE NEIGHBOUR: 'it returns false'. Refute it at one input. -/
def fnExactTermValueWrong : ChangeSpec := { name := "fnExactTermValue", fn := fun _ => fun
  | [d1, d2, d3, d4, d5] => { results := [.lit (.bool false)], args := [d1, d2, d3, d4, d5] }
  | _ => none }
def FnExactTermValueWrongFalsely : Prop := fnExactTermValueRow.holds Try.pinned (OpenSpec.ofChange fnExactTermValueWrong)

/-- 'laws.FnExactMirrorOf': WHATEVER THE INPUT: true; the input reads as it did. -/
def fnExactMirrorOfSpec : ChangeSpec := { name := "fnExactMirrorOf", fn := fun _ => fun
  | [d] => { results := [.lit (.bool true)], args := [d] }
  | _ => none }
def fnExactMirrorOfRow : OpenClaim := { program := "ytbhjbllgmenbaab", sum := "ec5f3746ef8cbc739235e15acc29062820b02fd764c7b8137f86f05b45bbcc97", func := "loop.example/g01195/laws.FnExactMirrorOf", spec := "fnExactMirrorOf", unfollowed := true, recurses := true, plainKeys := false, apart := false }
def FnExactMirrorOfSaid : Prop := fnExactMirrorOfRow.holds Try.pinned (OpenSpec.ofChange fnExactMirrorOfSpec)

/-- ITS FALSE NEIGHBOUR: 'it returns false'. Refute it at one input. -/
def fnExactMirrorOfWrong : ChangeSpec := { name := "fnExactMirrorOf", fn := fun _ => fun
  | [d] => { results := [.lit (.bool false)], args := [d] }
  | _ => none }
def FnExactMirrorOfWrongFalsely : Prop := fnExactMirrorOfRow.holds Try.pinned (OpenSpec.ofChange fnExactMirrorOfWrong)

/-- 'laws.FnExactFailsAt': WHATEVER THE INPUT: true; the input reads as it did. -/
def fnExactFailsAtSpec : ChangeSpec := { name := "fnExactFailsAt", fn := fun _ => fun
  | [d1, d2] => { results := [.lit (.bool true)], args := [d1, d2] }
  | _ => none }
def fnExactFailsAtRow : OpenClaim := { program := "ytbhjbllgmenbaab", sum := "ec5f3746ef8cbc739235e15acc29062820b02fd764c7b8137f86f05b45bbcc97", func := "loop.example/g01195/laws.FnExactFailsAt", spec := "fnExactFailsAt", unfollowed := true, recurses := true, plainKeys := false, apart := false }
def FnExactFailsAtSaid : Prop := fnExactFailsAtRow.holds Try.pinned (OpenSpec.ofChange fnExactFailsAtSpec)

/-- ITS FALSE NEIGHBOUR: 'it returns false'. Refute it at one input. -/
def fnExactFailsAtWrong : ChangeSpec := { name := "fnExactFailsAt", fn := fun _ => fun
  | [d1, d2] => { results := [.lit (.bool false)], args := [d1, d2] }
  | _ => none }
def FnExactFailsAtWrongFalsely : Prop := fnExactFailsAtRow.holds Try.pinned (OpenSpec.ofChange fnExactFailsAtWrong)

/-- 'laws.FnExactHoldsIn': WHATEVER THE INPUT: true; the input reads as it did. -/
def fnExactHoldsInSpec : ChangeSpec := { name := "fnExactHoldsIn", fn := fun _ => fun
  | [d1, d2] => { results := [.lit (.bool true)], args := [d1, d2] }
  | _ => none }
def fnExactHoldsInRow : OpenClaim := { program := "ytbhjbllgmenbaab", sum := "ec5f3746ef8cbc739235e15acc29062820b02fd764c7b8137f86f05b45bbcc97", func := "loop.example/g01195/laws.FnExactHoldsIn", spec := "fnExactHoldsIn", unfollowed := true, recurses := true, plainKeys := false, apart := false }
def FnExactHoldsInSaid : Prop := fnExactHoldsInRow.holds Try.pinned (OpenSpec.ofChange fnExactHoldsInSpec)

/-- ITS FALSE NEIGHBOUR: 'it returns false'. Refute it at one input. -/
def fnExactHoldsInWrong : ChangeSpec := { name := "fnExactHoldsIn", fn := fun _ => fun
  | [d1, d2] => { results := [.lit (.bool false)], args := [d1, d2] }
  | _ => none }
def FnExactHoldsInWrongFalsely : Prop := fnExactHoldsInRow.holds Try.pinned (OpenSpec.ofChange fnExactHoldsInWrong)

/-- 'laws.FnExactCountHolds': WHATEVER THE INPUT: true; the input reads as it did. -/
def fnExactCountHoldsSpec : ChangeSpec := { name := "fnExactCountHolds", fn := fun _ => fun
  | [d1, d2] => { results := [.lit (.bool true)], args := [d1, d2] }
  | _ => none }
def fnExactCountHoldsRow : OpenClaim := { program := "ytbhjbllgmenbaab", sum := "ec5f3746ef8cbc739235e15acc29062820b02fd764c7b8137f86f05b45bbcc97", func := "loop.example/g01195/laws.FnExactCountHolds", spec := "fnExactCountHolds", unfollowed := true, recurses := true, plainKeys := false, apart := false }
def FnExactCountHoldsSaid : Prop := fnExactCountHoldsRow.holds Try.pinned (OpenSpec.ofChange fnExactCountHoldsSpec)

/-- ITS FALSE NEIGHBOUR: 'it returns false'. Refute it at one input. -/
def fnExactCountHoldsWrong : ChangeSpec := { name := "fnExactCountHolds", fn := fun _ => fun
  | [d1, d2] => { results := [.lit (.bool false)], args := [d1, d2] }
  | _ => none }
def FnExactCountHoldsWrongFalsely : Prop := fnExactCountHoldsRow.holds Try.pinned (OpenSpec.ofChange fnExactCountHoldsWrong)

/- THE SECOND FORM. 'bulk': how many values and letters a reading holds, each counted each time it is reached (what is shared counts as often as it is met; a slice's spare places count too). A statement '..UptoSaid' is the law's where the arguments, and the package variables that the reading takes, are together of bulk at most 1048576: NARROWER than '..Said'. Prove '..Said' where nothing that the law and all that it calls make is longer than what came in: it says more and counts as full. Else prove '..UptoSaid'. A law counts once. -/
mutual
def uptoBulk {H : Type} : DataW H → Nat
  | .lit (.string bytes) => bytes.length + 1
  | .lit _ => 1
  | .nil => 1
  | .ptr d => uptoBulk d + 1
  | .slice elems spare => uptoBulkAll elems + uptoBulkAll spare + 1
  | .agg parts => uptoBulkAll parts + 1
  | .iface _ d => uptoBulk d + 1
  | .map entries => uptoBulkEntries entries + 1
  | .held _ => 1
def uptoBulkAll {H : Type} : List (DataW H) → Nat
  | [] => 0
  | d :: r => uptoBulk d + uptoBulkAll r
def uptoBulkEntries {H : Type} : List (Lit × DataW H) → Nat
  | [] => 0
  | x :: r => uptoBulkEntry x + uptoBulkEntries r
def uptoBulkEntry {H : Type} : Lit × DataW H → Nat
  | (.string bytes, d) => bytes.length + uptoBulk d + 1
  | (_, d) => uptoBulk d + 1
 end
def uptoSmall : (H : Type) → List (DataW H) → Bool := fun _ ds => decide (uptoBulkAll ds ≤ 1048576)
def OpenSpec.upto (s : _root_.Go.ChangeSpec) : _root_.Go.OpenSpec := { _root_.Go.OpenSpec.ofChange s with cond := some uptoSmall }

/-- 'laws.FnExactCosetsOf', WHERE WHAT IT READS IS OF BULK AT MOST 1048576: true; the input reads as it did. -/
def fnExactCosetsOfUptoRow : OpenClaim := { program := "ytbhjbllgmenbaab", sum := "ec5f3746ef8cbc739235e15acc29062820b02fd764c7b8137f86f05b45bbcc97", func := "loop.example/g01195/laws.FnExactCosetsOf", spec := "fnExactCosetsOf", plainKeys := false, apart := false, narrowed := true }
def FnExactCosetsOfUptoSaid : Prop := fnExactCosetsOfUptoRow.holds Try.pinned (OpenSpec.upto fnExactCosetsOfSpec)

/-- 'laws.FnExactKeptByInner', WHERE WHAT IT READS IS OF BULK AT MOST 1048576: true; the input reads as it did. -/
def fnExactKeptByInnerUptoRow : OpenClaim := { program := "ytbhjbllgmenbaab", sum := "ec5f3746ef8cbc739235e15acc29062820b02fd764c7b8137f86f05b45bbcc97", func := "loop.example/g01195/laws.FnExactKeptByInner", spec := "fnExactKeptByInner", recurses := true, plainKeys := false, apart := false, narrowed := true }
def FnExactKeptByInnerUptoSaid : Prop := fnExactKeptByInnerUptoRow.holds Try.pinned (OpenSpec.upto fnExactKeptByInnerSpec)

/-- 'laws.FnExactIsAutomorphicLoop', WHERE WHAT IT READS IS OF BULK AT MOST 1048576: true; the input reads as it did. -/
def fnExactIsAutomorphicLoopUptoRow : OpenClaim := { program := "ytbhjbllgmenbaab", sum := "ec5f3746ef8cbc739235e15acc29062820b02fd764c7b8137f86f05b45bbcc97", func := "loop.example/g01195/laws.FnExactIsAutomorphicLoop", spec := "fnExactIsAutomorphicLoop", plainKeys := false, apart := false, narrowed := true }
def FnExactIsAutomorphicLoopUptoSaid : Prop := fnExactIsAutomorphicLoopUptoRow.holds Try.pinned (OpenSpec.upto fnExactIsAutomorphicLoopSpec)

/-- 'laws.FnExactOrbitsOf', WHERE WHAT IT READS IS OF BULK AT MOST 1048576: true; the input reads as it did. -/
def fnExactOrbitsOfUptoRow : OpenClaim := { program := "ytbhjbllgmenbaab", sum := "ec5f3746ef8cbc739235e15acc29062820b02fd764c7b8137f86f05b45bbcc97", func := "loop.example/g01195/laws.FnExactOrbitsOf", spec := "fnExactOrbitsOf", unfollowed := true, recurses := true, plainKeys := false, apart := false, narrowed := true }
def FnExactOrbitsOfUptoSaid : Prop := fnExactOrbitsOfUptoRow.holds Try.pinned (OpenSpec.upto fnExactOrbitsOfSpec)

/-- 'laws.FnExactQuotientLoop', WHERE WHAT IT READS IS OF BULK AT MOST 1048576: true; the input reads as it did. -/
def fnExactQuotientLoopUptoRow : OpenClaim := { program := "ytbhjbllgmenbaab", sum := "ec5f3746ef8cbc739235e15acc29062820b02fd764c7b8137f86f05b45bbcc97", func := "loop.example/g01195/laws.FnExactQuotientLoop", spec := "fnExactQuotientLoop", plainKeys := false, apart := false, narrowed := true }
def FnExactQuotientLoopUptoSaid : Prop := fnExactQuotientLoopUptoRow.holds Try.pinned (OpenSpec.upto fnExactQuotientLoopSpec)

/-- 'laws.FnExactLeastBlock', WHERE WHAT IT READS IS OF BULK AT MOST 1048576: true; the input reads as it did. -/
def fnExactLeastBlockUptoRow : OpenClaim := { program := "ytbhjbllgmenbaab", sum := "ec5f3746ef8cbc739235e15acc29062820b02fd764c7b8137f86f05b45bbcc97", func := "loop.example/g01195/laws.FnExactLeastBlock", spec := "fnExactLeastBlock", unfollowed := true, recurses := true, plainKeys := false, apart := false, narrowed := true }
def FnExactLeastBlockUptoSaid : Prop := fnExactLeastBlockUptoRow.holds Try.pinned (OpenSpec.upto fnExactLeastBlockSpec)

/-- 'laws.FnExactIsPrimitive', WHERE WHAT IT READS IS OF BULK AT MOST 1048576: true; the input reads as it did. -/
def fnExactIsPrimitiveUptoRow : OpenClaim := { program := "ytbhjbllgmenbaab", sum := "ec5f3746ef8cbc739235e15acc29062820b02fd764c7b8137f86f05b45bbcc97", func := "loop.example/g01195/laws.FnExactIsPrimitive", spec := "fnExactIsPrimitive", unfollowed := true, recurses := true, plainKeys := false, apart := false, narrowed := true }
def FnExactIsPrimitiveUptoSaid : Prop := fnExactIsPrimitiveUptoRow.holds Try.pinned (OpenSpec.upto fnExactIsPrimitiveSpec)

/-- 'laws.FnExactTermValue', WHERE WHAT IT READS IS OF BULK AT MOST 1048576: true; the input reads as it did. -/
def fnExactTermValueUptoRow : OpenClaim := { program := "ytbhjbllgmenbaab", sum := "ec5f3746ef8cbc739235e15acc29062820b02fd764c7b8137f86f05b45bbcc97", func := "loop.example/g01195/laws.FnExactTermValue", spec := "fnExactTermValue", unfollowed := true, recurses := true, plainKeys := false, apart := false, narrowed := true }
def FnExactTermValueUptoSaid : Prop := fnExactTermValueUptoRow.holds Try.pinned (OpenSpec.upto fnExactTermValueSpec)

/-- 'laws.FnExactMirrorOf', WHERE WHAT IT READS IS OF BULK AT MOST 1048576: true; the input reads as it did. -/
def fnExactMirrorOfUptoRow : OpenClaim := { program := "ytbhjbllgmenbaab", sum := "ec5f3746ef8cbc739235e15acc29062820b02fd764c7b8137f86f05b45bbcc97", func := "loop.example/g01195/laws.FnExactMirrorOf", spec := "fnExactMirrorOf", unfollowed := true, recurses := true, plainKeys := false, apart := false, narrowed := true }
def FnExactMirrorOfUptoSaid : Prop := fnExactMirrorOfUptoRow.holds Try.pinned (OpenSpec.upto fnExactMirrorOfSpec)

/-- 'laws.FnExactFailsAt', WHERE WHAT IT READS IS OF BULK AT MOST 1048576: true; the input reads as it did. -/
def fnExactFailsAtUptoRow : OpenClaim := { program := "ytbhjbllgmenbaab", sum := "ec5f3746ef8cbc739235e15acc29062820b02fd764c7b8137f86f05b45bbcc97", func := "loop.example/g01195/laws.FnExactFailsAt", spec := "fnExactFailsAt", unfollowed := true, recurses := true, plainKeys := false, apart := false, narrowed := true }
def FnExactFailsAtUptoSaid : Prop := fnExactFailsAtUptoRow.holds Try.pinned (OpenSpec.upto fnExactFailsAtSpec)

/-- 'laws.FnExactHoldsIn', WHERE WHAT IT READS IS OF BULK AT MOST 1048576: true; the input reads as it did. -/
def fnExactHoldsInUptoRow : OpenClaim := { program := "ytbhjbllgmenbaab", sum := "ec5f3746ef8cbc739235e15acc29062820b02fd764c7b8137f86f05b45bbcc97", func := "loop.example/g01195/laws.FnExactHoldsIn", spec := "fnExactHoldsIn", unfollowed := true, recurses := true, plainKeys := false, apart := false, narrowed := true }
def FnExactHoldsInUptoSaid : Prop := fnExactHoldsInUptoRow.holds Try.pinned (OpenSpec.upto fnExactHoldsInSpec)

/-- 'laws.FnExactCountHolds', WHERE WHAT IT READS IS OF BULK AT MOST 1048576: true; the input reads as it did. -/
def fnExactCountHoldsUptoRow : OpenClaim := { program := "ytbhjbllgmenbaab", sum := "ec5f3746ef8cbc739235e15acc29062820b02fd764c7b8137f86f05b45bbcc97", func := "loop.example/g01195/laws.FnExactCountHolds", spec := "fnExactCountHolds", unfollowed := true, recurses := true, plainKeys := false, apart := false, narrowed := true }
def FnExactCountHoldsUptoSaid : Prop := fnExactCountHoldsUptoRow.holds Try.pinned (OpenSpec.upto fnExactCountHoldsSpec)

end Rows
end Go.Proofs.Ytbhjbllgmenbaab
