/-
  No cell of these rows narrows 'for every input' (looked for: loops, veiled, ifaces, maps, wideKeys, modest, calm, conditions, laid).
  DERIVED. THE GIVEN ROWS OF THIS SEAT. 12 by the template 'for every input the law returns true; each argument reads behind the call as it read before'; 0 by the template 'total and deterministic' (their statements: YtphninlinegbbabTotals.lean).
  GIVEN WITH THE SEED: the statements are not yours to turn. If you find one false, say at which input.
  Laid BY PROGRAM, IN A SANDBOX (cutbox-rows.mjs): the forced cells as the released guide's own fill.sh prints them over the translation 6984ba1f6e697288… (all of the seat's roots in one cut). By AI agents, Wed Nov 11 2026. No macro, syntax, notation, axiom, sorry.
-/
import Derived.Test.YtphninlinegbbabChecked
import GoSem.Claim
import GoSem.ClaimJoined
import GoSem.ClaimMapViews
import Derived.JoinedTies
import Derived.KernelRfl
namespace Go.Proofs.Ytphninlinegbbab
/- THE CELL 'sum', in the pinned program and in every row, IS THE sha256 OF THE DUMP (.gsa) THAT YtphninlinegbbabProg.lean LOADS. Nothing in Lean hashes anything: it is a label: what it is worth is what the hold of that sum in a sandbox is worth. -/
noncomputable def Try.pinned : Pinned := { name := "ytphninlinegbbab", sum := "6984ba1f6e69728871439704c4252df79d7689b82dae29f43005a94fb38065b2", checked := Try.checked }
namespace Rows
def none {H : Type} : Left H := { results := [], args := [] }

/-- 'laws.FnExactRowMaps': WHATEVER THE INPUT: true; the input reads as it did. -/
def fnExactRowMapsSpec : ChangeSpec := { name := "fnExactRowMaps", fn := fun _ => fun
  | [d] => { results := [.lit (.bool true)], args := [d] }
  | _ => none }
def fnExactRowMapsRow : OpenClaim := { program := "ytphninlinegbbab", sum := "6984ba1f6e69728871439704c4252df79d7689b82dae29f43005a94fb38065b2", func := "loop.example/g01195/laws.FnExactRowMaps", spec := "fnExactRowMaps", plainKeys := false, apart := false }
def FnExactRowMapsSaid : Prop := fnExactRowMapsRow.holds Try.pinned (OpenSpec.ofChange fnExactRowMapsSpec)

/-- ITS FALSE NEIGHBOUR: 'it returns false'. Refute it at one input. -/
def fnExactRowMapsWrong : ChangeSpec := { name := "fnExactRowMaps", fn := fun _ => fun
  | [d] => { results := [.lit (.bool false)], args := [d] }
  | _ => none }
def FnExactRowMapsWrongFalsely : Prop := fnExactRowMapsRow.holds Try.pinned (OpenSpec.ofChange fnExactRowMapsWrong)

/-- 'laws.FnExactColumnMaps': WHATEVER THE INPUT: true; the input reads as it did. -/
def fnExactColumnMapsSpec : ChangeSpec := { name := "fnExactColumnMaps", fn := fun _ => fun
  | [d] => { results := [.lit (.bool true)], args := [d] }
  | _ => none }
def fnExactColumnMapsRow : OpenClaim := { program := "ytphninlinegbbab", sum := "6984ba1f6e69728871439704c4252df79d7689b82dae29f43005a94fb38065b2", func := "loop.example/g01195/laws.FnExactColumnMaps", spec := "fnExactColumnMaps", plainKeys := false, apart := false }
def FnExactColumnMapsSaid : Prop := fnExactColumnMapsRow.holds Try.pinned (OpenSpec.ofChange fnExactColumnMapsSpec)

/-- ITS FALSE NEIGHBOUR: 'it returns false'. Refute it at one input. -/
def fnExactColumnMapsWrong : ChangeSpec := { name := "fnExactColumnMaps", fn := fun _ => fun
  | [d] => { results := [.lit (.bool false)], args := [d] }
  | _ => none }
def FnExactColumnMapsWrongFalsely : Prop := fnExactColumnMapsRow.holds Try.pinned (OpenSpec.ofChange fnExactColumnMapsWrong)

/-- 'laws.FnExactKeptByInner': WHATEVER THE INPUT: true; the input reads as it did. -/
def fnExactKeptByInnerSpec : ChangeSpec := { name := "fnExactKeptByInner", fn := fun _ => fun
  | [d] => { results := [.lit (.bool true)], args := [d] }
  | _ => none }
def fnExactKeptByInnerRow : OpenClaim := { program := "ytphninlinegbbab", sum := "6984ba1f6e69728871439704c4252df79d7689b82dae29f43005a94fb38065b2", func := "loop.example/g01195/laws.FnExactKeptByInner", spec := "fnExactKeptByInner", recurses := true, plainKeys := false, apart := false }
def FnExactKeptByInnerSaid : Prop := fnExactKeptByInnerRow.holds Try.pinned (OpenSpec.ofChange fnExactKeptByInnerSpec)

/-- ITS FALSE NEIGHBOUR: 'it returns false'. Refute it at one input. -/
def fnExactKeptByInnerWrong : ChangeSpec := { name := "fnExactKeptByInner", fn := fun _ => fun
  | [d] => { results := [.lit (.bool false)], args := [d] }
  | _ => none }
def FnExactKeptByInnerWrongFalsely : Prop := fnExactKeptByInnerRow.holds Try.pinned (OpenSpec.ofChange fnExactKeptByInnerWrong)

/-- 'laws.FnExactIsAutomorphicLoop': WHATEVER THE INPUT: true; the input reads as it did. -/
def fnExactIsAutomorphicLoopSpec : ChangeSpec := { name := "fnExactIsAutomorphicLoop", fn := fun _ => fun
  | [d] => { results := [.lit (.bool true)], args := [d] }
  | _ => none }
def fnExactIsAutomorphicLoopRow : OpenClaim := { program := "ytphninlinegbbab", sum := "6984ba1f6e69728871439704c4252df79d7689b82dae29f43005a94fb38065b2", func := "loop.example/g01195/laws.FnExactIsAutomorphicLoop", spec := "fnExactIsAutomorphicLoop", plainKeys := false, apart := false }
def FnExactIsAutomorphicLoopSaid : Prop := fnExactIsAutomorphicLoopRow.holds Try.pinned (OpenSpec.ofChange fnExactIsAutomorphicLoopSpec)

/-- ITS FALSE NEIGHBOUR: 'it returns false'. Refute it at one input. -/
def fnExactIsAutomorphicLoopWrong : ChangeSpec := { name := "fnExactIsAutomorphicLoop", fn := fun _ => fun
  | [d] => { results := [.lit (.bool false)], args := [d] }
  | _ => none }
def FnExactIsAutomorphicLoopWrongFalsely : Prop := fnExactIsAutomorphicLoopRow.holds Try.pinned (OpenSpec.ofChange fnExactIsAutomorphicLoopWrong)

/-- 'laws.FnExactOrbitsOf': WHATEVER THE INPUT: true; the input reads as it did. -/
def fnExactOrbitsOfSpec : ChangeSpec := { name := "fnExactOrbitsOf", fn := fun _ => fun
  | [d1, d2] => { results := [.lit (.bool true)], args := [d1, d2] }
  | _ => none }
def fnExactOrbitsOfRow : OpenClaim := { program := "ytphninlinegbbab", sum := "6984ba1f6e69728871439704c4252df79d7689b82dae29f43005a94fb38065b2", func := "loop.example/g01195/laws.FnExactOrbitsOf", spec := "fnExactOrbitsOf", unfollowed := true, recurses := true, plainKeys := false, apart := false }
def FnExactOrbitsOfSaid : Prop := fnExactOrbitsOfRow.holds Try.pinned (OpenSpec.ofChange fnExactOrbitsOfSpec)

/-- ITS FALSE NEIGHBOUR: 'it returns false'. Refute it at one input. -/
def fnExactOrbitsOfWrong : ChangeSpec := { name := "fnExactOrbitsOf", fn := fun _ => fun
  | [d1, d2] => { results := [.lit (.bool false)], args := [d1, d2] }
  | _ => none }
def FnExactOrbitsOfWrongFalsely : Prop := fnExactOrbitsOfRow.holds Try.pinned (OpenSpec.ofChange fnExactOrbitsOfWrong)

/-- 'laws.FnExactIsHomomorphism': WHATEVER THE INPUT: true; the input reads as it did. -/
def fnExactIsHomomorphismSpec : ChangeSpec := { name := "fnExactIsHomomorphism", fn := fun _ => fun
  | [d1, d2, d3] => { results := [.lit (.bool true)], args := [d1, d2, d3] }
  | _ => none }
def fnExactIsHomomorphismRow : OpenClaim := { program := "ytphninlinegbbab", sum := "6984ba1f6e69728871439704c4252df79d7689b82dae29f43005a94fb38065b2", func := "loop.example/g01195/laws.FnExactIsHomomorphism", spec := "fnExactIsHomomorphism", unfollowed := true, recurses := true, plainKeys := false, apart := false }
def FnExactIsHomomorphismSaid : Prop := fnExactIsHomomorphismRow.holds Try.pinned (OpenSpec.ofChange fnExactIsHomomorphismSpec)

/-- ITS FALSE NEIGHBOUR: 'it returns false'. Refute it at one input. -/
def fnExactIsHomomorphismWrong : ChangeSpec := { name := "fnExactIsHomomorphism", fn := fun _ => fun
  | [d1, d2, d3] => { results := [.lit (.bool false)], args := [d1, d2, d3] }
  | _ => none }
def FnExactIsHomomorphismWrongFalsely : Prop := fnExactIsHomomorphismRow.holds Try.pinned (OpenSpec.ofChange fnExactIsHomomorphismWrong)

/-- 'laws.FnExactKernelOf': WHATEVER THE INPUT: true; the input reads as it did. -/
def fnExactKernelOfSpec : ChangeSpec := { name := "fnExactKernelOf", fn := fun _ => fun
  | [d1, d2, d3] => { results := [.lit (.bool true)], args := [d1, d2, d3] }
  | _ => none }
def fnExactKernelOfRow : OpenClaim := { program := "ytphninlinegbbab", sum := "6984ba1f6e69728871439704c4252df79d7689b82dae29f43005a94fb38065b2", func := "loop.example/g01195/laws.FnExactKernelOf", spec := "fnExactKernelOf", unfollowed := true, recurses := true, plainKeys := false, apart := false }
def FnExactKernelOfSaid : Prop := fnExactKernelOfRow.holds Try.pinned (OpenSpec.ofChange fnExactKernelOfSpec)

/-- ITS FALSE NEIGHBOUR: 'it returns false'. Refute it at one input. -/
def fnExactKernelOfWrong : ChangeSpec := { name := "fnExactKernelOf", fn := fun _ => fun
  | [d1, d2, d3] => { results := [.lit (.bool false)], args := [d1, d2, d3] }
  | _ => none }
def FnExactKernelOfWrongFalsely : Prop := fnExactKernelOfRow.holds Try.pinned (OpenSpec.ofChange fnExactKernelOfWrong)

/-- 'laws.FnExactImageOf': WHATEVER THE INPUT: true; the input reads as it did. -/
def fnExactImageOfSpec : ChangeSpec := { name := "fnExactImageOf", fn := fun _ => fun
  | [d1, d2, d3] => { results := [.lit (.bool true)], args := [d1, d2, d3] }
  | _ => none }
def fnExactImageOfRow : OpenClaim := { program := "ytphninlinegbbab", sum := "6984ba1f6e69728871439704c4252df79d7689b82dae29f43005a94fb38065b2", func := "loop.example/g01195/laws.FnExactImageOf", spec := "fnExactImageOf", unfollowed := true, recurses := true, plainKeys := false, apart := false }
def FnExactImageOfSaid : Prop := fnExactImageOfRow.holds Try.pinned (OpenSpec.ofChange fnExactImageOfSpec)

/-- ITS FALSE NEIGHBOUR: 'it returns false'. Refute it at one input. -/
def fnExactImageOfWrong : ChangeSpec := { name := "fnExactImageOf", fn := fun _ => fun
  | [d1, d2, d3] => { results := [.lit (.bool false)], args := [d1, d2, d3] }
  | _ => none }
def FnExactImageOfWrongFalsely : Prop := fnExactImageOfRow.holds Try.pinned (OpenSpec.ofChange fnExactImageOfWrong)

/-- 'laws.FnExactSubloopOf': WHATEVER THE INPUT: true; the input reads as it did. -/
def fnExactSubloopOfSpec : ChangeSpec := { name := "fnExactSubloopOf", fn := fun _ => fun
  | [d1, d2] => { results := [.lit (.bool true)], args := [d1, d2] }
  | _ => none }
def fnExactSubloopOfRow : OpenClaim := { program := "ytphninlinegbbab", sum := "6984ba1f6e69728871439704c4252df79d7689b82dae29f43005a94fb38065b2", func := "loop.example/g01195/laws.FnExactSubloopOf", spec := "fnExactSubloopOf", plainKeys := false, apart := false }
def FnExactSubloopOfSaid : Prop := fnExactSubloopOfRow.holds Try.pinned (OpenSpec.ofChange fnExactSubloopOfSpec)

/-- ITS FALSE NEIGHBOUR: 'it returns false'. Refute it at one input. -/
def fnExactSubloopOfWrong : ChangeSpec := { name := "fnExactSubloopOf", fn := fun _ => fun
  | [d1, d2] => { results := [.lit (.bool false)], args := [d1, d2] }
  | _ => none }
def FnExactSubloopOfWrongFalsely : Prop := fnExactSubloopOfRow.holds Try.pinned (OpenSpec.ofChange fnExactSubloopOfWrong)

/-- 'laws.FnExactIsSubloop': WHATEVER THE INPUT: true; the input reads as it did. -/
def fnExactIsSubloopSpec : ChangeSpec := { name := "fnExactIsSubloop", fn := fun _ => fun
  | [d1, d2] => { results := [.lit (.bool true)], args := [d1, d2] }
  | _ => none }
def fnExactIsSubloopRow : OpenClaim := { program := "ytphninlinegbbab", sum := "6984ba1f6e69728871439704c4252df79d7689b82dae29f43005a94fb38065b2", func := "loop.example/g01195/laws.FnExactIsSubloop", spec := "fnExactIsSubloop", plainKeys := false, apart := false }
def FnExactIsSubloopSaid : Prop := fnExactIsSubloopRow.holds Try.pinned (OpenSpec.ofChange fnExactIsSubloopSpec)

/-- ITS FALSE NEIGHBOUR: 'it returns false'. Refute it at one input. -/
def fnExactIsSubloopWrong : ChangeSpec := { name := "fnExactIsSubloop", fn := fun _ => fun
  | [d1, d2] => { results := [.lit (.bool false)], args := [d1, d2] }
  | _ => none }
def FnExactIsSubloopWrongFalsely : Prop := fnExactIsSubloopRow.holds Try.pinned (OpenSpec.ofChange fnExactIsSubloopWrong)

/-- 'laws.FnExactIsNormalSubloop': WHATEVER THE INPUT: true; the input reads as it did. -/
def fnExactIsNormalSubloopSpec : ChangeSpec := { name := "fnExactIsNormalSubloop", fn := fun _ => fun
  | [d1, d2] => { results := [.lit (.bool true)], args := [d1, d2] }
  | _ => none }
def fnExactIsNormalSubloopRow : OpenClaim := { program := "ytphninlinegbbab", sum := "6984ba1f6e69728871439704c4252df79d7689b82dae29f43005a94fb38065b2", func := "loop.example/g01195/laws.FnExactIsNormalSubloop", spec := "fnExactIsNormalSubloop", plainKeys := false, apart := false }
def FnExactIsNormalSubloopSaid : Prop := fnExactIsNormalSubloopRow.holds Try.pinned (OpenSpec.ofChange fnExactIsNormalSubloopSpec)

/-- ITS FALSE NEIGHBOUR: 'it returns false'. Refute it at one input. -/
def fnExactIsNormalSubloopWrong : ChangeSpec := { name := "fnExactIsNormalSubloop", fn := fun _ => fun
  | [d1, d2] => { results := [.lit (.bool false)], args := [d1, d2] }
  | _ => none }
def FnExactIsNormalSubloopWrongFalsely : Prop := fnExactIsNormalSubloopRow.holds Try.pinned (OpenSpec.ofChange fnExactIsNormalSubloopWrong)

/-- 'laws.FnExactCosetsOf': WHATEVER THE INPUT: true; the input reads as it did. -/
def fnExactCosetsOfSpec : ChangeSpec := { name := "fnExactCosetsOf", fn := fun _ => fun
  | [d1, d2] => { results := [.lit (.bool true)], args := [d1, d2] }
  | _ => none }
def fnExactCosetsOfRow : OpenClaim := { program := "ytphninlinegbbab", sum := "6984ba1f6e69728871439704c4252df79d7689b82dae29f43005a94fb38065b2", func := "loop.example/g01195/laws.FnExactCosetsOf", spec := "fnExactCosetsOf", plainKeys := false, apart := false }
def FnExactCosetsOfSaid : Prop := fnExactCosetsOfRow.holds Try.pinned (OpenSpec.ofChange fnExactCosetsOfSpec)

/-- ITS FALSE NEIGHBOUR: 'it returns false'. Refute it at one input. -/
def fnExactCosetsOfWrong : ChangeSpec := { name := "fnExactCosetsOf", fn := fun _ => fun
  | [d1, d2] => { results := [.lit (.bool false)], args := [d1, d2] }
  | _ => none }
def FnExactCosetsOfWrongFalsely : Prop := fnExactCosetsOfRow.holds Try.pinned (OpenSpec.ofChange fnExactCosetsOfWrong)

/- THE SECOND FORM. 'bulk': how many values and letters a reading holds, each counted each time it is reached (what is shared counts as often as it is met; a slice's spare places count too). A statement '..UptoSaid' is the law's where the arguments, and the package variables that the reading takes, are together of bulk at most 1048576: NARROWER than '..Said'. Prove '..Said' where nothing that the law and all that it calls make is longer than what came in: it says more and counts as full. Else prove '..UptoSaid'. A law counts once. -/
mutual
def uptoBulk {H : Type} : DataW H → Nat
  | .lit (.string bytes) => bytes.length + 1
  | .lit _ => 1
  | .nil => 1
  | .ptr d => uptoBulk d + 1
  | .slice elems spare => uptoBulkAll elems + uptoBulkAll spare + 1
  | .agg parts => uptoBulkAll parts + 1
  | .iface _ d => uptoBulk d + 1
  | .map entries => uptoBulkEntries entries + 1
  | .held _ => 1
def uptoBulkAll {H : Type} : List (DataW H) → Nat
  | [] => 0
  | d :: r => uptoBulk d + uptoBulkAll r
def uptoBulkEntries {H : Type} : List (Lit × DataW H) → Nat
  | [] => 0
  | x :: r => uptoBulkEntry x + uptoBulkEntries r
def uptoBulkEntry {H : Type} : Lit × DataW H → Nat
  | (.string bytes, d) => bytes.length + uptoBulk d + 1
  | (_, d) => uptoBulk d + 1
 end
def uptoSmall : (H : Type) → List (DataW H) → Bool := fun _ ds => decide (uptoBulkAll ds ≤ 1048576)
def OpenSpec.upto (s : _root_.Go.ChangeSpec) : _root_.Go.OpenSpec := { _root_.Go.OpenSpec.ofChange s with cond := some uptoSmall }

/-- 'laws.FnExactRowMaps', WHERE WHAT IT READS IS OF BULK AT MOST 1048576: true; the input reads as it did. -/
def fnExactRowMapsUptoRow : OpenClaim := { program := "ytphninlinegbbab", sum := "6984ba1f6e69728871439704c4252df79d7689b82dae29f43005a94fb38065b2", func := "loop.example/g01195/laws.FnExactRowMaps", spec := "fnExactRowMaps", plainKeys := false, apart := false, narrowed := true }
def FnExactRowMapsUptoSaid : Prop := fnExactRowMapsUptoRow.holds Try.pinned (OpenSpec.upto fnExactRowMapsSpec)

/-- 'laws.FnExactColumnMaps', WHERE WHAT IT READS IS OF BULK AT MOST 1048576: true; the input reads as it did. -/
def fnExactColumnMapsUptoRow : OpenClaim := { program := "ytphninlinegbbab", sum := "6984ba1f6e69728871439704c4252df79d7689b82dae29f43005a94fb38065b2", func := "loop.example/g01195/laws.FnExactColumnMaps", spec := "fnExactColumnMaps", plainKeys := false, apart := false, narrowed := true }
def FnExactColumnMapsUptoSaid : Prop := fnExactColumnMapsUptoRow.holds Try.pinned (OpenSpec.upto fnExactColumnMapsSpec)

/-- 'laws.FnExactKeptByInner', WHERE WHAT IT READS IS OF BULK AT MOST 1048576: true; the input reads as it did. -/
def fnExactKeptByInnerUptoRow : OpenClaim := { program := "ytphninlinegbbab", sum := "6984ba1f6e69728871439704c4252df79d7689b82dae29f43005a94fb38065b2", func := "loop.example/g01195/laws.FnExactKeptByInner", spec := "fnExactKeptByInner", recurses := true, plainKeys := false, apart := false, narrowed := true }
def FnExactKeptByInnerUptoSaid : Prop := fnExactKeptByInnerUptoRow.holds Try.pinned (OpenSpec.upto fnExactKeptByInnerSpec)

/-- 'laws.FnExactIsAutomorphicLoop', WHERE WHAT IT READS IS OF BULK AT MOST 1048576: true; the input reads as it did. -/
def fnExactIsAutomorphicLoopUptoRow : OpenClaim := { program := "ytphninlinegbbab", sum := "6984ba1f6e69728871439704c4252df79d7689b82dae29f43005a94fb38065b2", func := "loop.example/g01195/laws.FnExactIsAutomorphicLoop", spec := "fnExactIsAutomorphicLoop", plainKeys := false, apart := false, narrowed := true }
def FnExactIsAutomorphicLoopUptoSaid : Prop := fnExactIsAutomorphicLoopUptoRow.holds Try.pinned (OpenSpec.upto fnExactIsAutomorphicLoopSpec)

/-- 'laws.FnExactOrbitsOf', WHERE WHAT IT READS IS OF BULK AT MOST 1048576: true; the input reads as it did. -/
def fnExactOrbitsOfUptoRow : OpenClaim := { program := "ytphninlinegbbab", sum := "6984ba1f6e69728871439704c4252df79d7689b82dae29f43005a94fb38065b2", func := "loop.example/g01195/laws.FnExactOrbitsOf", spec := "fnExactOrbitsOf", unfollowed := true, recurses := true, plainKeys := false, apart := false, narrowed := true }
def FnExactOrbitsOfUptoSaid : Prop := fnExactOrbitsOfUptoRow.holds Try.pinned (OpenSpec.upto fnExactOrbitsOfSpec)

/-- 'laws.FnExactIsHomomorphism', WHERE WHAT IT READS IS OF BULK AT MOST 1048576: true; the input reads as it did. -/
def fnExactIsHomomorphismUptoRow : OpenClaim := { program := "ytphninlinegbbab", sum := "6984ba1f6e69728871439704c4252df79d7689b82dae29f43005a94fb38065b2", func := "loop.example/g01195/laws.FnExactIsHomomorphism", spec := "fnExactIsHomomorphism", unfollowed := true, recurses := true, plainKeys := false, apart := false, narrowed := true }
def FnExactIsHomomorphismUptoSaid : Prop := fnExactIsHomomorphismUptoRow.holds Try.pinned (OpenSpec.upto fnExactIsHomomorphismSpec)

/-- 'laws.FnExactKernelOf', WHERE WHAT IT READS IS OF BULK AT MOST 1048576: true; the input reads as it did. -/
def fnExactKernelOfUptoRow : OpenClaim := { program := "ytphninlinegbbab", sum := "6984ba1f6e69728871439704c4252df79d7689b82dae29f43005a94fb38065b2", func := "loop.example/g01195/laws.FnExactKernelOf", spec := "fnExactKernelOf", unfollowed := true, recurses := true, plainKeys := false, apart := false, narrowed := true }
def FnExactKernelOfUptoSaid : Prop := fnExactKernelOfUptoRow.holds Try.pinned (OpenSpec.upto fnExactKernelOfSpec)

/-- 'laws.FnExactImageOf', WHERE WHAT IT READS IS OF BULK AT MOST 1048576: true; the input reads as it did. -/
def fnExactImageOfUptoRow : OpenClaim := { program := "ytphninlinegbbab", sum := "6984ba1f6e69728871439704c4252df79d7689b82dae29f43005a94fb38065b2", func := "loop.example/g01195/laws.FnExactImageOf", spec := "fnExactImageOf", unfollowed := true, recurses := true, plainKeys := false, apart := false, narrowed := true }
def FnExactImageOfUptoSaid : Prop := fnExactImageOfUptoRow.holds Try.pinned (OpenSpec.upto fnExactImageOfSpec)

/-- 'laws.FnExactSubloopOf', WHERE WHAT IT READS IS OF BULK AT MOST 1048576: true; the input reads as it did. -/
def fnExactSubloopOfUptoRow : OpenClaim := { program := "ytphninlinegbbab", sum := "6984ba1f6e69728871439704c4252df79d7689b82dae29f43005a94fb38065b2", func := "loop.example/g01195/laws.FnExactSubloopOf", spec := "fnExactSubloopOf", plainKeys := false, apart := false, narrowed := true }
def FnExactSubloopOfUptoSaid : Prop := fnExactSubloopOfUptoRow.holds Try.pinned (OpenSpec.upto fnExactSubloopOfSpec)

/-- 'laws.FnExactIsSubloop', WHERE WHAT IT READS IS OF BULK AT MOST 1048576: true; the input reads as it did. -/
def fnExactIsSubloopUptoRow : OpenClaim := { program := "ytphninlinegbbab", sum := "6984ba1f6e69728871439704c4252df79d7689b82dae29f43005a94fb38065b2", func := "loop.example/g01195/laws.FnExactIsSubloop", spec := "fnExactIsSubloop", plainKeys := false, apart := false, narrowed := true }
def FnExactIsSubloopUptoSaid : Prop := fnExactIsSubloopUptoRow.holds Try.pinned (OpenSpec.upto fnExactIsSubloopSpec)

/-- 'laws.FnExactIsNormalSubloop', WHERE WHAT IT READS IS OF BULK AT MOST 1048576: true; the input reads as it did. -/
def fnExactIsNormalSubloopUptoRow : OpenClaim := { program := "ytphninlinegbbab", sum := "6984ba1f6e69728871439704c4252df79d7689b82dae29f43005a94fb38065b2", func := "loop.example/g01195/laws.FnExactIsNormalSubloop", spec := "fnExactIsNormalSubloop", plainKeys := false, apart := false, narrowed := true }
def FnExactIsNormalSubloopUptoSaid : Prop := fnExactIsNormalSubloopUptoRow.holds Try.pinned (OpenSpec.upto fnExactIsNormalSubloopSpec)

/-- 'laws.FnExactCosetsOf', WHERE WHAT IT READS IS OF BULK AT MOST 1048576: true; the input reads as it did. -/
def fnExactCosetsOfUptoRow : OpenClaim := { program := "ytphninlinegbbab", sum := "6984ba1f6e69728871439704c4252df79d7689b82dae29f43005a94fb38065b2", func := "loop.example/g01195/laws.FnExactCosetsOf", spec := "fnExactCosetsOf", plainKeys := false, apart := false, narrowed := true }
def FnExactCosetsOfUptoSaid : Prop := fnExactCosetsOfUptoRow.holds Try.pinned (OpenSpec.upto fnExactCosetsOfSpec)

end Rows
end Go.Proofs.Ytphninlinegbbab
