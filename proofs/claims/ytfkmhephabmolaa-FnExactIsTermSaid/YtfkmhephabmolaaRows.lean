/-
  No cell of these rows narrows 'for every input' (looked for: loops, veiled, ifaces, maps, wideKeys, modest, calm, conditions, laid).
  DERIVED. THE GIVEN ROWS OF THIS SEAT. 9 by the template 'for every input the law returns true; each argument reads behind the call as it read before'; 0 by the template 'total and deterministic' (their statements: YtfkmhephabmolaaTotals.lean).
  GIVEN WITH THE SEED: the statements are not yours to turn. If you find one false, say at which input.
  Laid BY PROGRAM, IN A SANDBOX (cutbox-rows.mjs): the forced cells as the released guide's own fill.sh prints them over the translation 20430cc5703ebbdf… (all of the seat's roots in one cut). By AI agents, Wed Nov 11 2026. No macro, syntax, notation, axiom, sorry.
-/
import Derived.Test.YtfkmhephabmolaaChecked
import GoSem.Claim
import GoSem.ClaimJoined
import GoSem.ClaimMapViews
import Derived.JoinedTies
import Derived.KernelRfl
namespace Go.Proofs.Ytfkmhephabmolaa
/- THE CELL 'sum', in the pinned program and in every row, IS THE sha256 OF THE DUMP (.gsa) THAT YtfkmhephabmolaaProg.lean LOADS. Nothing in Lean hashes anything: it is a label: what it is worth is what the hold of that sum in a sandbox is worth. -/
noncomputable def Try.pinned : Pinned := { name := "ytfkmhephabmolaa", sum := "20430cc5703ebbdf0e9cc03c833c64a5f54e91d42c2695993578ed916905c52b", checked := Try.checked }
namespace Rows
def none {H : Type} : Left H := { results := [], args := [] }

/-- 'laws.FnExactIsIdempotent': WHATEVER THE INPUT: true; the input reads as it did. -/
def fnExactIsIdempotentSpec : ChangeSpec := { name := "fnExactIsIdempotent", fn := fun _ => fun
  | [d] => { results := [.lit (.bool true)], args := [d] }
  | _ => none }
def fnExactIsIdempotentRow : OpenClaim := { program := "ytfkmhephabmolaa", sum := "20430cc5703ebbdf0e9cc03c833c64a5f54e91d42c2695993578ed916905c52b", func := "loop.example/g01195/laws.FnExactIsIdempotent", spec := "fnExactIsIdempotent", apart := false }
def FnExactIsIdempotentSaid : Prop := fnExactIsIdempotentRow.holds Try.pinned (OpenSpec.ofChange fnExactIsIdempotentSpec)

/-- ITS FALSE NEIGHBOUR: 'it returns false'. Refute it at one input. -/
def fnExactIsIdempotentWrong : ChangeSpec := { name := "fnExactIsIdempotent", fn := fun _ => fun
  | [d] => { results := [.lit (.bool false)], args := [d] }
  | _ => none }
def FnExactIsIdempotentWrongFalsely : Prop := fnExactIsIdempotentRow.holds Try.pinned (OpenSpec.ofChange fnExactIsIdempotentWrong)

/-- 'laws.FnExactIsUnipotent': WHATEVER THE INPUT: true; the input reads as it did. -/
def fnExactIsUnipotentSpec : ChangeSpec := { name := "fnExactIsUnipotent", fn := fun _ => fun
  | [d] => { results := [.lit (.bool true)], args := [d] }
  | _ => none }
def fnExactIsUnipotentRow : OpenClaim := { program := "ytfkmhephabmolaa", sum := "20430cc5703ebbdf0e9cc03c833c64a5f54e91d42c2695993578ed916905c52b", func := "loop.example/g01195/laws.FnExactIsUnipotent", spec := "fnExactIsUnipotent", apart := false }
def FnExactIsUnipotentSaid : Prop := fnExactIsUnipotentRow.holds Try.pinned (OpenSpec.ofChange fnExactIsUnipotentSpec)

/-- ITS FALSE NEIGHBOUR: 'it returns false'. Refute it at one input. -/
def fnExactIsUnipotentWrong : ChangeSpec := { name := "fnExactIsUnipotent", fn := fun _ => fun
  | [d] => { results := [.lit (.bool false)], args := [d] }
  | _ => none }
def FnExactIsUnipotentWrongFalsely : Prop := fnExactIsUnipotentRow.holds Try.pinned (OpenSpec.ofChange fnExactIsUnipotentWrong)

/-- 'laws.FnExactParastropheOf': WHATEVER THE INPUT: true; the input reads as it did. -/
def fnExactParastropheOfSpec : ChangeSpec := { name := "fnExactParastropheOf", fn := fun _ => fun
  | [d1, d2] => { results := [.lit (.bool true)], args := [d1, d2] }
  | _ => none }
def fnExactParastropheOfRow : OpenClaim := { program := "ytfkmhephabmolaa", sum := "20430cc5703ebbdf0e9cc03c833c64a5f54e91d42c2695993578ed916905c52b", func := "loop.example/g01195/laws.FnExactParastropheOf", spec := "fnExactParastropheOf", apart := false }
def FnExactParastropheOfSaid : Prop := fnExactParastropheOfRow.holds Try.pinned (OpenSpec.ofChange fnExactParastropheOfSpec)

/-- ITS FALSE NEIGHBOUR: 'it returns false'. Refute it at one input. -/
def fnExactParastropheOfWrong : ChangeSpec := { name := "fnExactParastropheOf", fn := fun _ => fun
  | [d1, d2] => { results := [.lit (.bool false)], args := [d1, d2] }
  | _ => none }
def FnExactParastropheOfWrongFalsely : Prop := fnExactParastropheOfRow.holds Try.pinned (OpenSpec.ofChange fnExactParastropheOfWrong)

/-- 'laws.FnExactSymmetriesOf': WHATEVER THE INPUT: true; the input reads as it did. -/
def fnExactSymmetriesOfSpec : ChangeSpec := { name := "fnExactSymmetriesOf", fn := fun _ => fun
  | [d] => { results := [.lit (.bool true)], args := [d] }
  | _ => none }
def fnExactSymmetriesOfRow : OpenClaim := { program := "ytfkmhephabmolaa", sum := "20430cc5703ebbdf0e9cc03c833c64a5f54e91d42c2695993578ed916905c52b", func := "loop.example/g01195/laws.FnExactSymmetriesOf", spec := "fnExactSymmetriesOf", apart := false }
def FnExactSymmetriesOfSaid : Prop := fnExactSymmetriesOfRow.holds Try.pinned (OpenSpec.ofChange fnExactSymmetriesOfSpec)

/-- ITS FALSE NEIGHBOUR: 'it returns false'. Refute it at one input. -/
def fnExactSymmetriesOfWrong : ChangeSpec := { name := "fnExactSymmetriesOf", fn := fun _ => fun
  | [d] => { results := [.lit (.bool false)], args := [d] }
  | _ => none }
def FnExactSymmetriesOfWrongFalsely : Prop := fnExactSymmetriesOfRow.holds Try.pinned (OpenSpec.ofChange fnExactSymmetriesOfWrong)

/-- 'laws.FnExactSquareOfLists': WHATEVER THE INPUT: true; the input reads as it did. -/
def fnExactSquareOfListsSpec : ChangeSpec := { name := "fnExactSquareOfLists", fn := fun _ => fun
  | [d] => { results := [.lit (.bool true)], args := [d] }
  | _ => none }
def fnExactSquareOfListsRow : OpenClaim := { program := "ytfkmhephabmolaa", sum := "20430cc5703ebbdf0e9cc03c833c64a5f54e91d42c2695993578ed916905c52b", func := "loop.example/g01195/laws.FnExactSquareOfLists", spec := "fnExactSquareOfLists", apart := false }
def FnExactSquareOfListsSaid : Prop := fnExactSquareOfListsRow.holds Try.pinned (OpenSpec.ofChange fnExactSquareOfListsSpec)

/-- ITS FALSE NEIGHBOUR: 'it returns false'. Refute it at one input. -/
def fnExactSquareOfListsWrong : ChangeSpec := { name := "fnExactSquareOfLists", fn := fun _ => fun
  | [d] => { results := [.lit (.bool false)], args := [d] }
  | _ => none }
def FnExactSquareOfListsWrongFalsely : Prop := fnExactSquareOfListsRow.holds Try.pinned (OpenSpec.ofChange fnExactSquareOfListsWrong)

/-- 'laws.FnExactIsTerm': WHATEVER THE INPUT: true; the input reads as it did. -/
def fnExactIsTermSpec : ChangeSpec := { name := "fnExactIsTerm", fn := fun _ => fun
  | [d] => { results := [.lit (.bool true)], args := [d] }
  | _ => none }
def fnExactIsTermRow : OpenClaim := { program := "ytfkmhephabmolaa", sum := "20430cc5703ebbdf0e9cc03c833c64a5f54e91d42c2695993578ed916905c52b", func := "loop.example/g01195/laws.FnExactIsTerm", spec := "fnExactIsTerm", apart := false }
def FnExactIsTermSaid : Prop := fnExactIsTermRow.holds Try.pinned (OpenSpec.ofChange fnExactIsTermSpec)

/-- ITS FALSE NEIGHBOUR: 'it returns false'. Refute it at one input. -/
def fnExactIsTermWrong : ChangeSpec := { name := "fnExactIsTerm", fn := fun _ => fun
  | [d] => { results := [.lit (.bool false)], args := [d] }
  | _ => none }
def FnExactIsTermWrongFalsely : Prop := fnExactIsTermRow.holds Try.pinned (OpenSpec.ofChange fnExactIsTermWrong)

/-- 'laws.FnExactTermText': WHATEVER THE INPUT: true; the input reads as it did. -/
def fnExactTermTextSpec : ChangeSpec := { name := "fnExactTermText", fn := fun _ => fun
  | [d] => { results := [.lit (.bool true)], args := [d] }
  | _ => none }
def fnExactTermTextRow : OpenClaim := { program := "ytfkmhephabmolaa", sum := "20430cc5703ebbdf0e9cc03c833c64a5f54e91d42c2695993578ed916905c52b", func := "loop.example/g01195/laws.FnExactTermText", spec := "fnExactTermText", unfollowed := true, recurses := true, apart := false }
def FnExactTermTextSaid : Prop := fnExactTermTextRow.holds Try.pinned (OpenSpec.ofChange fnExactTermTextSpec)

/-- ITS FALSE NEIGHBOUR: 'it returns false'. Refute it at one input. -/
def fnExactTermTextWrong : ChangeSpec := { name := "fnExactTermText", fn := fun _ => fun
  | [d] => { results := [.lit (.bool false)], args := [d] }
  | _ => none }
def FnExactTermTextWrongFalsely : Prop := fnExactTermTextRow.holds Try.pinned (OpenSpec.ofChange fnExactTermTextWrong)

/-- 'laws.FnExactIdentityText': WHATEVER THE INPUT: true; the input reads as it did. -/
def fnExactIdentityTextSpec : ChangeSpec := { name := "fnExactIdentityText", fn := fun _ => fun
  | [d] => { results := [.lit (.bool true)], args := [d] }
  | _ => none }
def fnExactIdentityTextRow : OpenClaim := { program := "ytfkmhephabmolaa", sum := "20430cc5703ebbdf0e9cc03c833c64a5f54e91d42c2695993578ed916905c52b", func := "loop.example/g01195/laws.FnExactIdentityText", spec := "fnExactIdentityText", unfollowed := true, recurses := true, apart := false }
def FnExactIdentityTextSaid : Prop := fnExactIdentityTextRow.holds Try.pinned (OpenSpec.ofChange fnExactIdentityTextSpec)

/-- ITS FALSE NEIGHBOUR: 'it returns false'. Refute it at one input. -/
def fnExactIdentityTextWrong : ChangeSpec := { name := "fnExactIdentityText", fn := fun _ => fun
  | [d] => { results := [.lit (.bool false)], args := [d] }
  | _ => none }
def FnExactIdentityTextWrongFalsely : Prop := fnExactIdentityTextRow.holds Try.pinned (OpenSpec.ofChange fnExactIdentityTextWrong)

/-- 'laws.FnExactMirrorOf': WHATEVER THE INPUT: true; the input reads as it did. -/
def fnExactMirrorOfSpec : ChangeSpec := { name := "fnExactMirrorOf", fn := fun _ => fun
  | [d] => { results := [.lit (.bool true)], args := [d] }
  | _ => none }
def fnExactMirrorOfRow : OpenClaim := { program := "ytfkmhephabmolaa", sum := "20430cc5703ebbdf0e9cc03c833c64a5f54e91d42c2695993578ed916905c52b", func := "loop.example/g01195/laws.FnExactMirrorOf", spec := "fnExactMirrorOf", unfollowed := true, recurses := true, apart := false }
def FnExactMirrorOfSaid : Prop := fnExactMirrorOfRow.holds Try.pinned (OpenSpec.ofChange fnExactMirrorOfSpec)

/-- ITS FALSE NEIGHBOUR: 'it returns false'. Refute it at one input. -/
def fnExactMirrorOfWrong : ChangeSpec := { name := "fnExactMirrorOf", fn := fun _ => fun
  | [d] => { results := [.lit (.bool false)], args := [d] }
  | _ => none }
def FnExactMirrorOfWrongFalsely : Prop := fnExactMirrorOfRow.holds Try.pinned (OpenSpec.ofChange fnExactMirrorOfWrong)

/- THE SECOND FORM. 'bulk': how many values and letters a reading holds, each counted each time it is reached (what is shared counts as often as it is met; a slice's spare places count too). A statement '..UptoSaid' is the law's where the arguments, and the package variables that the reading takes, are together of bulk at most 1048576: NARROWER than '..Said'. Prove '..Said' where nothing that the law and all that it calls make is longer than what came in: it says more and counts as full. Else prove '..UptoSaid'. A law counts once. -/
mutual
def uptoBulk {H : Type} : DataW H → Nat
  | .lit (.string bytes) => bytes.length + 1
  | .lit _ => 1
  | .nil => 1
  | .ptr d => uptoBulk d + 1
  | .slice elems spare => uptoBulkAll elems + uptoBulkAll spare + 1
  | .agg parts => uptoBulkAll parts + 1
  | .iface _ d => uptoBulk d + 1
  | .map entries => uptoBulkEntries entries + 1
  | .held _ => 1
def uptoBulkAll {H : Type} : List (DataW H) → Nat
  | [] => 0
  | d :: r => uptoBulk d + uptoBulkAll r
def uptoBulkEntries {H : Type} : List (Lit × DataW H) → Nat
  | [] => 0
  | x :: r => uptoBulkEntry x + uptoBulkEntries r
def uptoBulkEntry {H : Type} : Lit × DataW H → Nat
  | (.string bytes, d) => bytes.length + uptoBulk d + 1
  | (_, d) => uptoBulk d + 1
 end
def uptoSmall : (H : Type) → List (DataW H) → Bool := fun _ ds => decide (uptoBulkAll ds ≤ 1048576)
def OpenSpec.upto (s : _root_.Go.ChangeSpec) : _root_.Go.OpenSpec := { _root_.Go.OpenSpec.ofChange s with cond := some uptoSmall }

/-- 'laws.FnExactIsIdempotent', WHERE WHAT IT READS IS OF BULK AT MOST 1048576: true; the input reads as it did. -/
def fnExactIsIdempotentUptoRow : OpenClaim := { program := "ytfkmhephabmolaa", sum := "20430cc5703ebbdf0e9cc03c833c64a5f54e91d42c2695993578ed916905c52b", func := "loop.example/g01195/laws.FnExactIsIdempotent", spec := "fnExactIsIdempotent", apart := false, narrowed := true }
def FnExactIsIdempotentUptoSaid : Prop := fnExactIsIdempotentUptoRow.holds Try.pinned (OpenSpec.upto fnExactIsIdempotentSpec)

/-- 'laws.FnExactIsUnipotent', WHERE WHAT IT READS IS OF BULK AT MOST 1048576: true; the input reads as it did. -/
def fnExactIsUnipotentUptoRow : OpenClaim := { program := "ytfkmhephabmolaa", sum := "20430cc5703ebbdf0e9cc03c833c64a5f54e91d42c2695993578ed916905c52b", func := "loop.example/g01195/laws.FnExactIsUnipotent", spec := "fnExactIsUnipotent", apart := false, narrowed := true }
def FnExactIsUnipotentUptoSaid : Prop := fnExactIsUnipotentUptoRow.holds Try.pinned (OpenSpec.upto fnExactIsUnipotentSpec)

/-- 'laws.FnExactParastropheOf', WHERE WHAT IT READS IS OF BULK AT MOST 1048576: true; the input reads as it did. -/
def fnExactParastropheOfUptoRow : OpenClaim := { program := "ytfkmhephabmolaa", sum := "20430cc5703ebbdf0e9cc03c833c64a5f54e91d42c2695993578ed916905c52b", func := "loop.example/g01195/laws.FnExactParastropheOf", spec := "fnExactParastropheOf", apart := false, narrowed := true }
def FnExactParastropheOfUptoSaid : Prop := fnExactParastropheOfUptoRow.holds Try.pinned (OpenSpec.upto fnExactParastropheOfSpec)

/-- 'laws.FnExactSymmetriesOf', WHERE WHAT IT READS IS OF BULK AT MOST 1048576: true; the input reads as it did. -/
def fnExactSymmetriesOfUptoRow : OpenClaim := { program := "ytfkmhephabmolaa", sum := "20430cc5703ebbdf0e9cc03c833c64a5f54e91d42c2695993578ed916905c52b", func := "loop.example/g01195/laws.FnExactSymmetriesOf", spec := "fnExactSymmetriesOf", apart := false, narrowed := true }
def FnExactSymmetriesOfUptoSaid : Prop := fnExactSymmetriesOfUptoRow.holds Try.pinned (OpenSpec.upto fnExactSymmetriesOfSpec)

/-- 'laws.FnExactSquareOfLists', WHERE WHAT IT READS IS OF BULK AT MOST 1048576: true; the input reads as it did. -/
def fnExactSquareOfListsUptoRow : OpenClaim := { program := "ytfkmhephabmolaa", sum := "20430cc5703ebbdf0e9cc03c833c64a5f54e91d42c2695993578ed916905c52b", func := "loop.example/g01195/laws.FnExactSquareOfLists", spec := "fnExactSquareOfLists", apart := false, narrowed := true }
def FnExactSquareOfListsUptoSaid : Prop := fnExactSquareOfListsUptoRow.holds Try.pinned (OpenSpec.upto fnExactSquareOfListsSpec)

/-- 'laws.FnExactIsTerm', WHERE WHAT IT READS IS OF BULK AT MOST 1048576: true; the input reads as it did. -/
def fnExactIsTermUptoRow : OpenClaim := { program := "ytfkmhephabmolaa", sum := "20430cc5703ebbdf0e9cc03c833c64a5f54e91d42c2695993578ed916905c52b", func := "loop.example/g01195/laws.FnExactIsTerm", spec := "fnExactIsTerm", apart := false, narrowed := true }
def FnExactIsTermUptoSaid : Prop := fnExactIsTermUptoRow.holds Try.pinned (OpenSpec.upto fnExactIsTermSpec)

/-- 'laws.FnExactTermText', WHERE WHAT IT READS IS OF BULK AT MOST 1048576: true; the input reads as it did. -/
def fnExactTermTextUptoRow : OpenClaim := { program := "ytfkmhephabmolaa", sum := "20430cc5703ebbdf0e9cc03c833c64a5f54e91d42c2695993578ed916905c52b", func := "loop.example/g01195/laws.FnExactTermText", spec := "fnExactTermText", unfollowed := true, recurses := true, apart := false, narrowed := true }
def FnExactTermTextUptoSaid : Prop := fnExactTermTextUptoRow.holds Try.pinned (OpenSpec.upto fnExactTermTextSpec)

/-- 'laws.FnExactIdentityText', WHERE WHAT IT READS IS OF BULK AT MOST 1048576: true; the input reads as it did. -/
def fnExactIdentityTextUptoRow : OpenClaim := { program := "ytfkmhephabmolaa", sum := "20430cc5703ebbdf0e9cc03c833c64a5f54e91d42c2695993578ed916905c52b", func := "loop.example/g01195/laws.FnExactIdentityText", spec := "fnExactIdentityText", unfollowed := true, recurses := true, apart := false, narrowed := true }
def FnExactIdentityTextUptoSaid : Prop := fnExactIdentityTextUptoRow.holds Try.pinned (OpenSpec.upto fnExactIdentityTextSpec)

/-- 'laws.FnExactMirrorOf', WHERE WHAT IT READS IS OF BULK AT MOST 1048576: true; the input reads as it did. -/
def fnExactMirrorOfUptoRow : OpenClaim := { program := "ytfkmhephabmolaa", sum := "20430cc5703ebbdf0e9cc03c833c64a5f54e91d42c2695993578ed916905c52b", func := "loop.example/g01195/laws.FnExactMirrorOf", spec := "fnExactMirrorOf", unfollowed := true, recurses := true, apart := false, narrowed := true }
def FnExactMirrorOfUptoSaid : Prop := fnExactMirrorOfUptoRow.holds Try.pinned (OpenSpec.upto fnExactMirrorOfSpec)

end Rows
end Go.Proofs.Ytfkmhephabmolaa
