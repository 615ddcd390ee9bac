/-
  No cell of these rows narrows 'for every input' (looked for: loops, veiled, ifaces, maps, wideKeys, modest, calm, conditions, laid).
  DERIVED. THE GIVEN ROWS OF THIS SEAT. 12 by the template 'for every input the law returns true; each argument reads behind the call as it read before'; 0 by the template 'total and deterministic' (their statements: YtbdcbmennblcdabTotals.lean).
  GIVEN WITH THE SEED: the statements are not yours to turn. If you find one false, say at which input.
  Laid BY PROGRAM, IN A SANDBOX (cutbox-rows.mjs): the forced cells as the released guide's own fill.sh prints them over the translation 9e9a1bc43827c56b… (all of the seat's roots in one cut). By AI agents, Wed Nov 11 2026. No macro, syntax, notation, axiom, sorry.
-/
import Derived.Test.YtbdcbmennblcdabChecked
import GoSem.Claim
import GoSem.ClaimJoined
import GoSem.ClaimMapViews
import Derived.JoinedTies
import Derived.KernelRfl
namespace Go.Proofs.Ytbdcbmennblcdab
/- THE CELL 'sum', in the pinned program and in every row, IS THE sha256 OF THE DUMP (.gsa) THAT YtbdcbmennblcdabProg.lean LOADS. Nothing in Lean hashes anything: it is a label: what it is worth is what the hold of that sum in a sandbox is worth. -/
noncomputable def Try.pinned : Pinned := { name := "ytbdcbmennblcdab", sum := "9e9a1bc43827c56bce937bb7bb16055ac2790c924e5fae0f29cc14f4fd8a23be", checked := Try.checked }
namespace Rows
def none {H : Type} : Left H := { results := [], args := [] }

/-- 'laws.FnExactCongruenceOf': WHATEVER THE INPUT: true; the input reads as it did. -/
def fnExactCongruenceOfSpec : ChangeSpec := { name := "fnExactCongruenceOf", fn := fun _ => fun
  | [d1, d2, d3] => { results := [.lit (.bool true)], args := [d1, d2, d3] }
  | _ => none }
def fnExactCongruenceOfRow : OpenClaim := { program := "ytbdcbmennblcdab", sum := "9e9a1bc43827c56bce937bb7bb16055ac2790c924e5fae0f29cc14f4fd8a23be", func := "loop.example/g01195/laws.FnExactCongruenceOf", spec := "fnExactCongruenceOf", plainKeys := false, apart := false }
def FnExactCongruenceOfSaid : Prop := fnExactCongruenceOfRow.holds Try.pinned (OpenSpec.ofChange fnExactCongruenceOfSpec)

/-- ITS FALSE NEIGHBOUR: 'it returns false'. Refute it at one input. -/
def fnExactCongruenceOfWrong : ChangeSpec := { name := "fnExactCongruenceOf", fn := fun _ => fun
  | [d1, d2, d3] => { results := [.lit (.bool false)], args := [d1, d2, d3] }
  | _ => none }
def FnExactCongruenceOfWrongFalsely : Prop := fnExactCongruenceOfRow.holds Try.pinned (OpenSpec.ofChange fnExactCongruenceOfWrong)

/-- 'laws.FnExactIsNormalSubloop': WHATEVER THE INPUT: true; the input reads as it did. -/
def fnExactIsNormalSubloopSpec : ChangeSpec := { name := "fnExactIsNormalSubloop", fn := fun _ => fun
  | [d1, d2] => { results := [.lit (.bool true)], args := [d1, d2] }
  | _ => none }
def fnExactIsNormalSubloopRow : OpenClaim := { program := "ytbdcbmennblcdab", sum := "9e9a1bc43827c56bce937bb7bb16055ac2790c924e5fae0f29cc14f4fd8a23be", func := "loop.example/g01195/laws.FnExactIsNormalSubloop", spec := "fnExactIsNormalSubloop", plainKeys := false, apart := false }
def FnExactIsNormalSubloopSaid : Prop := fnExactIsNormalSubloopRow.holds Try.pinned (OpenSpec.ofChange fnExactIsNormalSubloopSpec)

/-- ITS FALSE NEIGHBOUR: 'it returns false'. Refute it at one input. -/
def fnExactIsNormalSubloopWrong : ChangeSpec := { name := "fnExactIsNormalSubloop", fn := fun _ => fun
  | [d1, d2] => { results := [.lit (.bool false)], args := [d1, d2] }
  | _ => none }
def FnExactIsNormalSubloopWrongFalsely : Prop := fnExactIsNormalSubloopRow.holds Try.pinned (OpenSpec.ofChange fnExactIsNormalSubloopWrong)

/-- 'laws.FnExactNormalClosure': WHATEVER THE INPUT: true; the input reads as it did. -/
def fnExactNormalClosureSpec : ChangeSpec := { name := "fnExactNormalClosure", fn := fun _ => fun
  | [d1, d2] => { results := [.lit (.bool true)], args := [d1, d2] }
  | _ => none }
def fnExactNormalClosureRow : OpenClaim := { program := "ytbdcbmennblcdab", sum := "9e9a1bc43827c56bce937bb7bb16055ac2790c924e5fae0f29cc14f4fd8a23be", func := "loop.example/g01195/laws.FnExactNormalClosure", spec := "fnExactNormalClosure", plainKeys := false, apart := false }
def FnExactNormalClosureSaid : Prop := fnExactNormalClosureRow.holds Try.pinned (OpenSpec.ofChange fnExactNormalClosureSpec)

/-- ITS FALSE NEIGHBOUR: 'it returns false'. Refute it at one input. -/
def fnExactNormalClosureWrong : ChangeSpec := { name := "fnExactNormalClosure", fn := fun _ => fun
  | [d1, d2] => { results := [.lit (.bool false)], args := [d1, d2] }
  | _ => none }
def FnExactNormalClosureWrongFalsely : Prop := fnExactNormalClosureRow.holds Try.pinned (OpenSpec.ofChange fnExactNormalClosureWrong)

/-- 'laws.FnExactDerivedSubloop': WHATEVER THE INPUT: true; the input reads as it did. -/
def fnExactDerivedSubloopSpec : ChangeSpec := { name := "fnExactDerivedSubloop", fn := fun _ => fun
  | [d] => { results := [.lit (.bool true)], args := [d] }
  | _ => none }
def fnExactDerivedSubloopRow : OpenClaim := { program := "ytbdcbmennblcdab", sum := "9e9a1bc43827c56bce937bb7bb16055ac2790c924e5fae0f29cc14f4fd8a23be", func := "loop.example/g01195/laws.FnExactDerivedSubloop", spec := "fnExactDerivedSubloop", unfollowed := true, recurses := true, plainKeys := false, apart := false }
def FnExactDerivedSubloopSaid : Prop := fnExactDerivedSubloopRow.holds Try.pinned (OpenSpec.ofChange fnExactDerivedSubloopSpec)

/-- ITS FALSE NEIGHBOUR: 'it returns false'. Refute it at one input. -/
def fnExactDerivedSubloopWrong : ChangeSpec := { name := "fnExactDerivedSubloop", fn := fun _ => fun
  | [d] => { results := [.lit (.bool false)], args := [d] }
  | _ => none }
def FnExactDerivedSubloopWrongFalsely : Prop := fnExactDerivedSubloopRow.holds Try.pinned (OpenSpec.ofChange fnExactDerivedSubloopWrong)

/-- 'laws.FnExactAssociatorSubloop': WHATEVER THE INPUT: true; the input reads as it did. -/
def fnExactAssociatorSubloopSpec : ChangeSpec := { name := "fnExactAssociatorSubloop", fn := fun _ => fun
  | [d] => { results := [.lit (.bool true)], args := [d] }
  | _ => none }
def fnExactAssociatorSubloopRow : OpenClaim := { program := "ytbdcbmennblcdab", sum := "9e9a1bc43827c56bce937bb7bb16055ac2790c924e5fae0f29cc14f4fd8a23be", func := "loop.example/g01195/laws.FnExactAssociatorSubloop", spec := "fnExactAssociatorSubloop", unfollowed := true, recurses := true, plainKeys := false, apart := false }
def FnExactAssociatorSubloopSaid : Prop := fnExactAssociatorSubloopRow.holds Try.pinned (OpenSpec.ofChange fnExactAssociatorSubloopSpec)

/-- ITS FALSE NEIGHBOUR: 'it returns false'. Refute it at one input. -/
def fnExactAssociatorSubloopWrong : ChangeSpec := { name := "fnExactAssociatorSubloop", fn := fun _ => fun
  | [d] => { results := [.lit (.bool false)], args := [d] }
  | _ => none }
def FnExactAssociatorSubloopWrongFalsely : Prop := fnExactAssociatorSubloopRow.holds Try.pinned (OpenSpec.ofChange fnExactAssociatorSubloopWrong)

/-- 'laws.FnExactCosetsOf': WHATEVER THE INPUT: true; the input reads as it did. -/
def fnExactCosetsOfSpec : ChangeSpec := { name := "fnExactCosetsOf", fn := fun _ => fun
  | [d1, d2] => { results := [.lit (.bool true)], args := [d1, d2] }
  | _ => none }
def fnExactCosetsOfRow : OpenClaim := { program := "ytbdcbmennblcdab", sum := "9e9a1bc43827c56bce937bb7bb16055ac2790c924e5fae0f29cc14f4fd8a23be", func := "loop.example/g01195/laws.FnExactCosetsOf", spec := "fnExactCosetsOf", plainKeys := false, apart := false }
def FnExactCosetsOfSaid : Prop := fnExactCosetsOfRow.holds Try.pinned (OpenSpec.ofChange fnExactCosetsOfSpec)

/-- ITS FALSE NEIGHBOUR: 'it returns false'. Refute it at one input. -/
def fnExactCosetsOfWrong : ChangeSpec := { name := "fnExactCosetsOf", fn := fun _ => fun
  | [d1, d2] => { results := [.lit (.bool false)], args := [d1, d2] }
  | _ => none }
def FnExactCosetsOfWrongFalsely : Prop := fnExactCosetsOfRow.holds Try.pinned (OpenSpec.ofChange fnExactCosetsOfWrong)

/-- 'laws.FnExactKeptByInner': WHATEVER THE INPUT: true; the input reads as it did. -/
def fnExactKeptByInnerSpec : ChangeSpec := { name := "fnExactKeptByInner", fn := fun _ => fun
  | [d] => { results := [.lit (.bool true)], args := [d] }
  | _ => none }
def fnExactKeptByInnerRow : OpenClaim := { program := "ytbdcbmennblcdab", sum := "9e9a1bc43827c56bce937bb7bb16055ac2790c924e5fae0f29cc14f4fd8a23be", func := "loop.example/g01195/laws.FnExactKeptByInner", spec := "fnExactKeptByInner", recurses := true, plainKeys := false, apart := false }
def FnExactKeptByInnerSaid : Prop := fnExactKeptByInnerRow.holds Try.pinned (OpenSpec.ofChange fnExactKeptByInnerSpec)

/-- ITS FALSE NEIGHBOUR: 'it returns false'. Refute it at one input. -/
def fnExactKeptByInnerWrong : ChangeSpec := { name := "fnExactKeptByInner", fn := fun _ => fun
  | [d] => { results := [.lit (.bool false)], args := [d] }
  | _ => none }
def FnExactKeptByInnerWrongFalsely : Prop := fnExactKeptByInnerRow.holds Try.pinned (OpenSpec.ofChange fnExactKeptByInnerWrong)

/-- 'laws.FnExactIsAutomorphicLoop': WHATEVER THE INPUT: true; the input reads as it did. -/
def fnExactIsAutomorphicLoopSpec : ChangeSpec := { name := "fnExactIsAutomorphicLoop", fn := fun _ => fun
  | [d] => { results := [.lit (.bool true)], args := [d] }
  | _ => none }
def fnExactIsAutomorphicLoopRow : OpenClaim := { program := "ytbdcbmennblcdab", sum := "9e9a1bc43827c56bce937bb7bb16055ac2790c924e5fae0f29cc14f4fd8a23be", func := "loop.example/g01195/laws.FnExactIsAutomorphicLoop", spec := "fnExactIsAutomorphicLoop", plainKeys := false, apart := false }
def FnExactIsAutomorphicLoopSaid : Prop := fnExactIsAutomorphicLoopRow.holds Try.pinned (OpenSpec.ofChange fnExactIsAutomorphicLoopSpec)

/-- ITS FALSE NEIGHBOUR: 'it returns false'. Refute it at one input. -/
def fnExactIsAutomorphicLoopWrong : ChangeSpec := { name := "fnExactIsAutomorphicLoop", fn := fun _ => fun
  | [d] => { results := [.lit (.bool false)], args := [d] }
  | _ => none }
def FnExactIsAutomorphicLoopWrongFalsely : Prop := fnExactIsAutomorphicLoopRow.holds Try.pinned (OpenSpec.ofChange fnExactIsAutomorphicLoopWrong)

/-- 'laws.FnExactOrbitsOf': WHATEVER THE INPUT: true; the input reads as it did. -/
def fnExactOrbitsOfSpec : ChangeSpec := { name := "fnExactOrbitsOf", fn := fun _ => fun
  | [d1, d2] => { results := [.lit (.bool true)], args := [d1, d2] }
  | _ => none }
def fnExactOrbitsOfRow : OpenClaim := { program := "ytbdcbmennblcdab", sum := "9e9a1bc43827c56bce937bb7bb16055ac2790c924e5fae0f29cc14f4fd8a23be", func := "loop.example/g01195/laws.FnExactOrbitsOf", spec := "fnExactOrbitsOf", unfollowed := true, recurses := true, plainKeys := false, apart := false }
def FnExactOrbitsOfSaid : Prop := fnExactOrbitsOfRow.holds Try.pinned (OpenSpec.ofChange fnExactOrbitsOfSpec)

/-- ITS FALSE NEIGHBOUR: 'it returns false'. Refute it at one input. -/
def fnExactOrbitsOfWrong : ChangeSpec := { name := "fnExactOrbitsOf", fn := fun _ => fun
  | [d1, d2] => { results := [.lit (.bool false)], args := [d1, d2] }
  | _ => none }
def FnExactOrbitsOfWrongFalsely : Prop := fnExactOrbitsOfRow.holds Try.pinned (OpenSpec.ofChange fnExactOrbitsOfWrong)

/-- 'laws.FnExactQuotientLoop': WHATEVER THE INPUT: true; the input reads as it did. -/
def fnExactQuotientLoopSpec : ChangeSpec := { name := "fnExactQuotientLoop", fn := fun _ => fun
  | [d1, d2] => { results := [.lit (.bool true)], args := [d1, d2] }
  | _ => none }
def fnExactQuotientLoopRow : OpenClaim := { program := "ytbdcbmennblcdab", sum := "9e9a1bc43827c56bce937bb7bb16055ac2790c924e5fae0f29cc14f4fd8a23be", func := "loop.example/g01195/laws.FnExactQuotientLoop", spec := "fnExactQuotientLoop", plainKeys := false, apart := false }
def FnExactQuotientLoopSaid : Prop := fnExactQuotientLoopRow.holds Try.pinned (OpenSpec.ofChange fnExactQuotientLoopSpec)

/-- ITS FALSE NEIGHBOUR: 'it returns false'. Refute it at one input. -/
def fnExactQuotientLoopWrong : ChangeSpec := { name := "fnExactQuotientLoop", fn := fun _ => fun
  | [d1, d2] => { results := [.lit (.bool false)], args := [d1, d2] }
  | _ => none }
def FnExactQuotientLoopWrongFalsely : Prop := fnExactQuotientLoopRow.holds Try.pinned (OpenSpec.ofChange fnExactQuotientLoopWrong)

/-- 'laws.FnExactAllNormal': WHATEVER THE INPUT: true; the input reads as it did. -/
def fnExactAllNormalSpec : ChangeSpec := { name := "fnExactAllNormal", fn := fun _ => fun
  | [d] => { results := [.lit (.bool true)], args := [d] }
  | _ => none }
def fnExactAllNormalRow : OpenClaim := { program := "ytbdcbmennblcdab", sum := "9e9a1bc43827c56bce937bb7bb16055ac2790c924e5fae0f29cc14f4fd8a23be", func := "loop.example/g01195/laws.FnExactAllNormal", spec := "fnExactAllNormal", unfollowed := true, recurses := true, plainKeys := false, apart := false }
def FnExactAllNormalSaid : Prop := fnExactAllNormalRow.holds Try.pinned (OpenSpec.ofChange fnExactAllNormalSpec)

/-- ITS FALSE NEIGHBOUR: 'it returns false'. Refute it at one input. -/
def fnExactAllNormalWrong : ChangeSpec := { name := "fnExactAllNormal", fn := fun _ => fun
  | [d] => { results := [.lit (.bool false)], args := [d] }
  | _ => none }
def FnExactAllNormalWrongFalsely : Prop := fnExactAllNormalRow.holds Try.pinned (OpenSpec.ofChange fnExactAllNormalWrong)

/-- 'laws.FnExactIsSimpleLoop': WHATEVER THE INPUT: true; the input reads as it did. -/
def fnExactIsSimpleLoopSpec : ChangeSpec := { name := "fnExactIsSimpleLoop", fn := fun _ => fun
  | [d] => { results := [.lit (.bool true)], args := [d] }
  | _ => none }
def fnExactIsSimpleLoopRow : OpenClaim := { program := "ytbdcbmennblcdab", sum := "9e9a1bc43827c56bce937bb7bb16055ac2790c924e5fae0f29cc14f4fd8a23be", func := "loop.example/g01195/laws.FnExactIsSimpleLoop", spec := "fnExactIsSimpleLoop", unfollowed := true, recurses := true, plainKeys := false, apart := false }
def FnExactIsSimpleLoopSaid : Prop := fnExactIsSimpleLoopRow.holds Try.pinned (OpenSpec.ofChange fnExactIsSimpleLoopSpec)

/-- ITS FALSE NEIGHBOUR: 'it returns false'. Refute it at one input. -/
def fnExactIsSimpleLoopWrong : ChangeSpec := { name := "fnExactIsSimpleLoop", fn := fun _ => fun
  | [d] => { results := [.lit (.bool false)], args := [d] }
  | _ => none }
def FnExactIsSimpleLoopWrongFalsely : Prop := fnExactIsSimpleLoopRow.holds Try.pinned (OpenSpec.ofChange fnExactIsSimpleLoopWrong)

/- THE SECOND FORM. 'bulk': how many values and letters a reading holds, each counted each time it is reached (what is shared counts as often as it is met; a slice's spare places count too). A statement '..UptoSaid' is the law's where the arguments, and the package variables that the reading takes, are together of bulk at most 1048576: NARROWER than '..Said'. Prove '..Said' where nothing that the law and all that it calls make is longer than what came in: it says more and counts as full. Else prove '..UptoSaid'. A law counts once. -/
mutual
def uptoBulk {H : Type} : DataW H → Nat
  | .lit (.string bytes) => bytes.length + 1
  | .lit _ => 1
  | .nil => 1
  | .ptr d => uptoBulk d + 1
  | .slice elems spare => uptoBulkAll elems + uptoBulkAll spare + 1
  | .agg parts => uptoBulkAll parts + 1
  | .iface _ d => uptoBulk d + 1
  | .map entries => uptoBulkEntries entries + 1
  | .held _ => 1
def uptoBulkAll {H : Type} : List (DataW H) → Nat
  | [] => 0
  | d :: r => uptoBulk d + uptoBulkAll r
def uptoBulkEntries {H : Type} : List (Lit × DataW H) → Nat
  | [] => 0
  | x :: r => uptoBulkEntry x + uptoBulkEntries r
def uptoBulkEntry {H : Type} : Lit × DataW H → Nat
  | (.string bytes, d) => bytes.length + uptoBulk d + 1
  | (_, d) => uptoBulk d + 1
 end
def uptoSmall : (H : Type) → List (DataW H) → Bool := fun _ ds => decide (uptoBulkAll ds ≤ 1048576)
def OpenSpec.upto (s : _root_.Go.ChangeSpec) : _root_.Go.OpenSpec := { _root_.Go.OpenSpec.ofChange s with cond := some uptoSmall }

/-- 'laws.FnExactCongruenceOf', WHERE WHAT IT READS IS OF BULK AT MOST 1048576: true; the input reads as it did. -/
def fnExactCongruenceOfUptoRow : OpenClaim := { program := "ytbdcbmennblcdab", sum := "9e9a1bc43827c56bce937bb7bb16055ac2790c924e5fae0f29cc14f4fd8a23be", func := "loop.example/g01195/laws.FnExactCongruenceOf", spec := "fnExactCongruenceOf", plainKeys := false, apart := false, narrowed := true }
def FnExactCongruenceOfUptoSaid : Prop := fnExactCongruenceOfUptoRow.holds Try.pinned (OpenSpec.upto fnExactCongruenceOfSpec)

/-- 'laws.FnExactIsNormalSubloop', WHERE WHAT IT READS IS OF BULK AT MOST 1048576: true; the input reads as it did. -/
def fnExactIsNormalSubloopUptoRow : OpenClaim := { program := "ytbdcbmennblcdab", sum := "9e9a1bc43827c56bce937bb7bb16055ac2790c924e5fae0f29cc14f4fd8a23be", func := "loop.example/g01195/laws.FnExactIsNormalSubloop", spec := "fnExactIsNormalSubloop", plainKeys := false, apart := false, narrowed := true }
def FnExactIsNormalSubloopUptoSaid : Prop := fnExactIsNormalSubloopUptoRow.holds Try.pinned (OpenSpec.upto fnExactIsNormalSubloopSpec)

/-- 'laws.FnExactNormalClosure', WHERE WHAT IT READS IS OF BULK AT MOST 1048576: true; the input reads as it did. -/
def fnExactNormalClosureUptoRow : OpenClaim := { program := "ytbdcbmennblcdab", sum := "9e9a1bc43827c56bce937bb7bb16055ac2790c924e5fae0f29cc14f4fd8a23be", func := "loop.example/g01195/laws.FnExactNormalClosure", spec := "fnExactNormalClosure", plainKeys := false, apart := false, narrowed := true }
def FnExactNormalClosureUptoSaid : Prop := fnExactNormalClosureUptoRow.holds Try.pinned (OpenSpec.upto fnExactNormalClosureSpec)

/-- 'laws.FnExactDerivedSubloop', WHERE WHAT IT READS IS OF BULK AT MOST 1048576: true; the input reads as it did. -/
def fnExactDerivedSubloopUptoRow : OpenClaim := { program := "ytbdcbmennblcdab", sum := "9e9a1bc43827c56bce937bb7bb16055ac2790c924e5fae0f29cc14f4fd8a23be", func := "loop.example/g01195/laws.FnExactDerivedSubloop", spec := "fnExactDerivedSubloop", unfollowed := true, recurses := true, plainKeys := false, apart := false, narrowed := true }
def FnExactDerivedSubloopUptoSaid : Prop := fnExactDerivedSubloopUptoRow.holds Try.pinned (OpenSpec.upto fnExactDerivedSubloopSpec)

/-- 'laws.FnExactAssociatorSubloop', WHERE WHAT IT READS IS OF BULK AT MOST 1048576: true; the input reads as it did. -/
def fnExactAssociatorSubloopUptoRow : OpenClaim := { program := "ytbdcbmennblcdab", sum := "9e9a1bc43827c56bce937bb7bb16055ac2790c924e5fae0f29cc14f4fd8a23be", func := "loop.example/g01195/laws.FnExactAssociatorSubloop", spec := "fnExactAssociatorSubloop", unfollowed := true, recurses := true, plainKeys := false, apart := false, narrowed := true }
def FnExactAssociatorSubloopUptoSaid : Prop := fnExactAssociatorSubloopUptoRow.holds Try.pinned (OpenSpec.upto fnExactAssociatorSubloopSpec)

/-- 'laws.FnExactCosetsOf', WHERE WHAT IT READS IS OF BULK AT MOST 1048576: true; the input reads as it did. -/
def fnExactCosetsOfUptoRow : OpenClaim := { program := "ytbdcbmennblcdab", sum := "9e9a1bc43827c56bce937bb7bb16055ac2790c924e5fae0f29cc14f4fd8a23be", func := "loop.example/g01195/laws.FnExactCosetsOf", spec := "fnExactCosetsOf", plainKeys := false, apart := false, narrowed := true }
def FnExactCosetsOfUptoSaid : Prop := fnExactCosetsOfUptoRow.holds Try.pinned (OpenSpec.upto fnExactCosetsOfSpec)

/-- 'laws.FnExactKeptByInner', WHERE WHAT IT READS IS OF BULK AT MOST 1048576: true; the input reads as it did. -/
def fnExactKeptByInnerUptoRow : OpenClaim := { program := "ytbdcbmennblcdab", sum := "9e9a1bc43827c56bce937bb7bb16055ac2790c924e5fae0f29cc14f4fd8a23be", func := "loop.example/g01195/laws.FnExactKeptByInner", spec := "fnExactKeptByInner", recurses := true, plainKeys := false, apart := false, narrowed := true }
def FnExactKeptByInnerUptoSaid : Prop := fnExactKeptByInnerUptoRow.holds Try.pinned (OpenSpec.upto fnExactKeptByInnerSpec)

/-- 'laws.FnExactIsAutomorphicLoop', WHERE WHAT IT READS IS OF BULK AT MOST 1048576: true; the input reads as it did. -/
def fnExactIsAutomorphicLoopUptoRow : OpenClaim := { program := "ytbdcbmennblcdab", sum := "9e9a1bc43827c56bce937bb7bb16055ac2790c924e5fae0f29cc14f4fd8a23be", func := "loop.example/g01195/laws.FnExactIsAutomorphicLoop", spec := "fnExactIsAutomorphicLoop", plainKeys := false, apart := false, narrowed := true }
def FnExactIsAutomorphicLoopUptoSaid : Prop := fnExactIsAutomorphicLoopUptoRow.holds Try.pinned (OpenSpec.upto fnExactIsAutomorphicLoopSpec)

/-- 'laws.FnExactOrbitsOf', WHERE WHAT IT READS IS OF BULK AT MOST 1048576: true; the input reads as it did. -/
def fnExactOrbitsOfUptoRow : OpenClaim := { program := "ytbdcbmennblcdab", sum := "9e9a1bc43827c56bce937bb7bb16055ac2790c924e5fae0f29cc14f4fd8a23be", func := "loop.example/g01195/laws.FnExactOrbitsOf", spec := "fnExactOrbitsOf", unfollowed := true, recurses := true, plainKeys := false, apart := false, narrowed := true }
def FnExactOrbitsOfUptoSaid : Prop := fnExactOrbitsOfUptoRow.holds Try.pinned (OpenSpec.upto fnExactOrbitsOfSpec)

/-- 'laws.FnExactQuotientLoop', WHERE WHAT IT READS IS OF BULK AT MOST 1048576: true; the input reads as it did. -/
def fnExactQuotientLoopUptoRow : OpenClaim := { program := "ytbdcbmennblcdab", sum := "9e9a1bc43827c56bce937bb7bb16055ac2790c924e5fae0f29cc14f4fd8a23be", func := "loop.example/g01195/laws.FnExactQuotientLoop", spec := "fnExactQuotientLoop", plainKeys := false, apart := false, narrowed := true }
def FnExactQuotientLoopUptoSaid : Prop := fnExactQuotientLoopUptoRow.holds Try.pinned (OpenSpec.upto fnExactQuotientLoopSpec)

/-- 'laws.FnExactAllNormal', WHERE WHAT IT READS IS OF BULK AT MOST 1048576: true; the input reads as it did. -/
def fnExactAllNormalUptoRow : OpenClaim := { program := "ytbdcbmennblcdab", sum := "9e9a1bc43827c56bce937bb7bb16055ac2790c924e5fae0f29cc14f4fd8a23be", func := "loop.example/g01195/laws.FnExactAllNormal", spec := "fnExactAllNormal", unfollowed := true, recurses := true, plainKeys := false, apart := false, narrowed := true }
def FnExactAllNormalUptoSaid : Prop := fnExactAllNormalUptoRow.holds Try.pinned (OpenSpec.upto fnExactAllNormalSpec)

/-- 'laws.FnExactIsSimpleLoop', WHERE WHAT IT READS IS OF BULK AT MOST 1048576: true; the input reads as it did. -/
def fnExactIsSimpleLoopUptoRow : OpenClaim := { program := "ytbdcbmennblcdab", sum := "9e9a1bc43827c56bce937bb7bb16055ac2790c924e5fae0f29cc14f4fd8a23be", func := "loop.example/g01195/laws.FnExactIsSimpleLoop", spec := "fnExactIsSimpleLoop", unfollowed := true, recurses := true, plainKeys := false, apart := false, narrowed := true }
def FnExactIsSimpleLoopUptoSaid : Prop := fnExactIsSimpleLoopUptoRow.holds Try.pinned (OpenSpec.upto fnExactIsSimpleLoopSpec)

end Rows
end Go.Proofs.Ytbdcbmennblcdab
