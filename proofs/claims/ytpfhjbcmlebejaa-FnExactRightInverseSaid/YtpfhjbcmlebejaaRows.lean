/-
  No cell of these rows narrows 'for every input' (looked for: loops, veiled, ifaces, maps, wideKeys, modest, calm, conditions, laid).
  DERIVED. THE GIVEN ROWS OF THIS SEAT. 9 by the template 'for every input the law returns true; each argument reads behind the call as it read before'; 0 by the template 'total and deterministic' (their statements: YtpfhjbcmlebejaaTotals.lean).
  GIVEN WITH THE SEED: the statements are not yours to turn. If you find one false, say at which input.
  Laid BY PROGRAM, IN A SANDBOX (cutbox-rows.mjs): the forced cells as the released guide's own fill.sh prints them over the translation b58d719514c32557… (all of the seat's roots in one cut). By AI agents, Wed Nov 11 2026. No macro, syntax, notation, axiom, sorry.
-/
import Derived.Test.YtpfhjbcmlebejaaChecked
import GoSem.Claim
import GoSem.ClaimJoined
import GoSem.ClaimMapViews
import Derived.JoinedTies
import Derived.KernelRfl
namespace Go.Proofs.Ytpfhjbcmlebejaa
/- THE CELL 'sum', in the pinned program and in every row, IS THE sha256 OF THE DUMP (.gsa) THAT YtpfhjbcmlebejaaProg.lean LOADS. Nothing in Lean hashes anything: it is a label: what it is worth is what the hold of that sum in a sandbox is worth. -/
noncomputable def Try.pinned : Pinned := { name := "ytpfhjbcmlebejaa", sum := "b58d719514c32557c819c7fcd860029f3be72d355d6d6b08c6c14383a3884a9a", checked := Try.checked }
namespace Rows
def none {H : Type} : Left H := { results := [], args := [] }

/-- 'laws.FnExactLeftInverse': WHATEVER THE INPUT: true; the input reads as it did. -/
def fnExactLeftInverseSpec : ChangeSpec := { name := "fnExactLeftInverse", fn := fun _ => fun
  | [d1, d2] => { results := [.lit (.bool true)], args := [d1, d2] }
  | _ => none }
def fnExactLeftInverseRow : OpenClaim := { program := "ytpfhjbcmlebejaa", sum := "b58d719514c32557c819c7fcd860029f3be72d355d6d6b08c6c14383a3884a9a", func := "loop.example/g01195/laws.FnExactLeftInverse", spec := "fnExactLeftInverse", apart := false }
def FnExactLeftInverseSaid : Prop := fnExactLeftInverseRow.holds Try.pinned (OpenSpec.ofChange fnExactLeftInverseSpec)

/-- ITS FALSE NEIGHBOUR: 'it returns false'. Refute it at one input. -/
def fnExactLeftInverseWrong : ChangeSpec := { name := "fnExactLeftInverse", fn := fun _ => fun
  | [d1, d2] => { results := [.lit (.bool false)], args := [d1, d2] }
  | _ => none }
def FnExactLeftInverseWrongFalsely : Prop := fnExactLeftInverseRow.holds Try.pinned (OpenSpec.ofChange fnExactLeftInverseWrong)

/-- 'laws.FnExactRightInverse': WHATEVER THE INPUT: true; the input reads as it did. -/
def fnExactRightInverseSpec : ChangeSpec := { name := "fnExactRightInverse", fn := fun _ => fun
  | [d1, d2] => { results := [.lit (.bool true)], args := [d1, d2] }
  | _ => none }
def fnExactRightInverseRow : OpenClaim := { program := "ytpfhjbcmlebejaa", sum := "b58d719514c32557c819c7fcd860029f3be72d355d6d6b08c6c14383a3884a9a", func := "loop.example/g01195/laws.FnExactRightInverse", spec := "fnExactRightInverse", apart := false }
def FnExactRightInverseSaid : Prop := fnExactRightInverseRow.holds Try.pinned (OpenSpec.ofChange fnExactRightInverseSpec)

/-- ITS FALSE NEIGHBOUR: 'it returns false'. Refute it at one input. -/
def fnExactRightInverseWrong : ChangeSpec := { name := "fnExactRightInverse", fn := fun _ => fun
  | [d1, d2] => { results := [.lit (.bool false)], args := [d1, d2] }
  | _ => none }
def FnExactRightInverseWrongFalsely : Prop := fnExactRightInverseRow.holds Try.pinned (OpenSpec.ofChange fnExactRightInverseWrong)

/-- 'laws.FnExactCommutingCount': WHATEVER THE INPUT: true; the input reads as it did. -/
def fnExactCommutingCountSpec : ChangeSpec := { name := "fnExactCommutingCount", fn := fun _ => fun
  | [d] => { results := [.lit (.bool true)], args := [d] }
  | _ => none }
def fnExactCommutingCountRow : OpenClaim := { program := "ytpfhjbcmlebejaa", sum := "b58d719514c32557c819c7fcd860029f3be72d355d6d6b08c6c14383a3884a9a", func := "loop.example/g01195/laws.FnExactCommutingCount", spec := "fnExactCommutingCount", apart := false }
def FnExactCommutingCountSaid : Prop := fnExactCommutingCountRow.holds Try.pinned (OpenSpec.ofChange fnExactCommutingCountSpec)

/-- ITS FALSE NEIGHBOUR: 'it returns false'. Refute it at one input. -/
def fnExactCommutingCountWrong : ChangeSpec := { name := "fnExactCommutingCount", fn := fun _ => fun
  | [d] => { results := [.lit (.bool false)], args := [d] }
  | _ => none }
def FnExactCommutingCountWrongFalsely : Prop := fnExactCommutingCountRow.holds Try.pinned (OpenSpec.ofChange fnExactCommutingCountWrong)

/-- 'laws.FnExactAssociatingCount': WHATEVER THE INPUT: true; the input reads as it did. -/
def fnExactAssociatingCountSpec : ChangeSpec := { name := "fnExactAssociatingCount", fn := fun _ => fun
  | [d] => { results := [.lit (.bool true)], args := [d] }
  | _ => none }
def fnExactAssociatingCountRow : OpenClaim := { program := "ytpfhjbcmlebejaa", sum := "b58d719514c32557c819c7fcd860029f3be72d355d6d6b08c6c14383a3884a9a", func := "loop.example/g01195/laws.FnExactAssociatingCount", spec := "fnExactAssociatingCount", apart := false }
def FnExactAssociatingCountSaid : Prop := fnExactAssociatingCountRow.holds Try.pinned (OpenSpec.ofChange fnExactAssociatingCountSpec)

/-- ITS FALSE NEIGHBOUR: 'it returns false'. Refute it at one input. -/
def fnExactAssociatingCountWrong : ChangeSpec := { name := "fnExactAssociatingCount", fn := fun _ => fun
  | [d] => { results := [.lit (.bool false)], args := [d] }
  | _ => none }
def FnExactAssociatingCountWrongFalsely : Prop := fnExactAssociatingCountRow.holds Try.pinned (OpenSpec.ofChange fnExactAssociatingCountWrong)

/-- 'laws.FnExactIsotopeFor': WHATEVER THE INPUT: true; the input reads as it did. -/
def fnExactIsotopeForSpec : ChangeSpec := { name := "fnExactIsotopeFor", fn := fun _ => fun
  | [d1, d2, d3] => { results := [.lit (.bool true)], args := [d1, d2, d3] }
  | _ => none }
def fnExactIsotopeForRow : OpenClaim := { program := "ytpfhjbcmlebejaa", sum := "b58d719514c32557c819c7fcd860029f3be72d355d6d6b08c6c14383a3884a9a", func := "loop.example/g01195/laws.FnExactIsotopeFor", spec := "fnExactIsotopeFor", apart := false }
def FnExactIsotopeForSaid : Prop := fnExactIsotopeForRow.holds Try.pinned (OpenSpec.ofChange fnExactIsotopeForSpec)

/-- ITS FALSE NEIGHBOUR: 'it returns false'. Refute it at one input. -/
def fnExactIsotopeForWrong : ChangeSpec := { name := "fnExactIsotopeFor", fn := fun _ => fun
  | [d1, d2, d3] => { results := [.lit (.bool false)], args := [d1, d2, d3] }
  | _ => none }
def FnExactIsotopeForWrongFalsely : Prop := fnExactIsotopeForRow.holds Try.pinned (OpenSpec.ofChange fnExactIsotopeForWrong)

/-- 'laws.FnExactExponentOf': WHATEVER THE INPUT: true; the input reads as it did. -/
def fnExactExponentOfSpec : ChangeSpec := { name := "fnExactExponentOf", fn := fun _ => fun
  | [d] => { results := [.lit (.bool true)], args := [d] }
  | _ => none }
def fnExactExponentOfRow : OpenClaim := { program := "ytpfhjbcmlebejaa", sum := "b58d719514c32557c819c7fcd860029f3be72d355d6d6b08c6c14383a3884a9a", func := "loop.example/g01195/laws.FnExactExponentOf", spec := "fnExactExponentOf", apart := false }
def FnExactExponentOfSaid : Prop := fnExactExponentOfRow.holds Try.pinned (OpenSpec.ofChange fnExactExponentOfSpec)

/-- ITS FALSE NEIGHBOUR: 'it returns false'. Refute it at one input. -/
def fnExactExponentOfWrong : ChangeSpec := { name := "fnExactExponentOf", fn := fun _ => fun
  | [d] => { results := [.lit (.bool false)], args := [d] }
  | _ => none }
def FnExactExponentOfWrongFalsely : Prop := fnExactExponentOfRow.holds Try.pinned (OpenSpec.ofChange fnExactExponentOfWrong)

/-- 'laws.FnExactSubloopOf': WHATEVER THE INPUT: true; the input reads as it did. -/
def fnExactSubloopOfSpec : ChangeSpec := { name := "fnExactSubloopOf", fn := fun _ => fun
  | [d1, d2] => { results := [.lit (.bool true)], args := [d1, d2] }
  | _ => none }
def fnExactSubloopOfRow : OpenClaim := { program := "ytpfhjbcmlebejaa", sum := "b58d719514c32557c819c7fcd860029f3be72d355d6d6b08c6c14383a3884a9a", func := "loop.example/g01195/laws.FnExactSubloopOf", spec := "fnExactSubloopOf", apart := false }
def FnExactSubloopOfSaid : Prop := fnExactSubloopOfRow.holds Try.pinned (OpenSpec.ofChange fnExactSubloopOfSpec)

/-- ITS FALSE NEIGHBOUR: 'it returns false'. Refute it at one input. -/
def fnExactSubloopOfWrong : ChangeSpec := { name := "fnExactSubloopOf", fn := fun _ => fun
  | [d1, d2] => { results := [.lit (.bool false)], args := [d1, d2] }
  | _ => none }
def FnExactSubloopOfWrongFalsely : Prop := fnExactSubloopOfRow.holds Try.pinned (OpenSpec.ofChange fnExactSubloopOfWrong)

/-- 'laws.FnExactIsSubloop': WHATEVER THE INPUT: true; the input reads as it did. -/
def fnExactIsSubloopSpec : ChangeSpec := { name := "fnExactIsSubloop", fn := fun _ => fun
  | [d1, d2] => { results := [.lit (.bool true)], args := [d1, d2] }
  | _ => none }
def fnExactIsSubloopRow : OpenClaim := { program := "ytpfhjbcmlebejaa", sum := "b58d719514c32557c819c7fcd860029f3be72d355d6d6b08c6c14383a3884a9a", func := "loop.example/g01195/laws.FnExactIsSubloop", spec := "fnExactIsSubloop", apart := false }
def FnExactIsSubloopSaid : Prop := fnExactIsSubloopRow.holds Try.pinned (OpenSpec.ofChange fnExactIsSubloopSpec)

/-- ITS FALSE NEIGHBOUR: 'it returns false'. Refute it at one input. -/
def fnExactIsSubloopWrong : ChangeSpec := { name := "fnExactIsSubloop", fn := fun _ => fun
  | [d1, d2] => { results := [.lit (.bool false)], args := [d1, d2] }
  | _ => none }
def FnExactIsSubloopWrongFalsely : Prop := fnExactIsSubloopRow.holds Try.pinned (OpenSpec.ofChange fnExactIsSubloopWrong)

/-- 'laws.FnExactKeptByInner': WHATEVER THE INPUT: true; the input reads as it did. -/
def fnExactKeptByInnerSpec : ChangeSpec := { name := "fnExactKeptByInner", fn := fun _ => fun
  | [d] => { results := [.lit (.bool true)], args := [d] }
  | _ => none }
def fnExactKeptByInnerRow : OpenClaim := { program := "ytpfhjbcmlebejaa", sum := "b58d719514c32557c819c7fcd860029f3be72d355d6d6b08c6c14383a3884a9a", func := "loop.example/g01195/laws.FnExactKeptByInner", spec := "fnExactKeptByInner", recurses := true, apart := false }
def FnExactKeptByInnerSaid : Prop := fnExactKeptByInnerRow.holds Try.pinned (OpenSpec.ofChange fnExactKeptByInnerSpec)

/-- ITS FALSE NEIGHBOUR: 'it returns false'. Refute it at one input. -/
def fnExactKeptByInnerWrong : ChangeSpec := { name := "fnExactKeptByInner", fn := fun _ => fun
  | [d] => { results := [.lit (.bool false)], args := [d] }
  | _ => none }
def FnExactKeptByInnerWrongFalsely : Prop := fnExactKeptByInnerRow.holds Try.pinned (OpenSpec.ofChange fnExactKeptByInnerWrong)

/- THE SECOND FORM. 'bulk': how many values and letters a reading holds, each counted each time it is reached (what is shared counts as often as it is met; a slice's spare places count too). A statement '..UptoSaid' is the law's where the arguments, and the package variables that the reading takes, are together of bulk at most 1048576: NARROWER than '..Said'. Prove '..Said' where nothing that the law and all that it calls make is longer than what came in: it says more and counts as full. Else prove '..UptoSaid'. A law counts once. -/
mutual
def uptoBulk {H : Type} : DataW H → Nat
  | .lit (.string bytes) => bytes.length + 1
  | .lit _ => 1
  | .nil => 1
  | .ptr d => uptoBulk d + 1
  | .slice elems spare => uptoBulkAll elems + uptoBulkAll spare + 1
  | .agg parts => uptoBulkAll parts + 1
  | .iface _ d => uptoBulk d + 1
  | .map entries => uptoBulkEntries entries + 1
  | .held _ => 1
def uptoBulkAll {H : Type} : List (DataW H) → Nat
  | [] => 0
  | d :: r => uptoBulk d + uptoBulkAll r
def uptoBulkEntries {H : Type} : List (Lit × DataW H) → Nat
  | [] => 0
  | x :: r => uptoBulkEntry x + uptoBulkEntries r
def uptoBulkEntry {H : Type} : Lit × DataW H → Nat
  | (.string bytes, d) => bytes.length + uptoBulk d + 1
  | (_, d) => uptoBulk d + 1
 end
def uptoSmall : (H : Type) → List (DataW H) → Bool := fun _ ds => decide (uptoBulkAll ds ≤ 1048576)
def OpenSpec.upto (s : _root_.Go.ChangeSpec) : _root_.Go.OpenSpec := { _root_.Go.OpenSpec.ofChange s with cond := some uptoSmall }

/-- 'laws.FnExactLeftInverse', WHERE WHAT IT READS IS OF BULK AT MOST 1048576: true; the input reads as it did. -/
def fnExactLeftInverseUptoRow : OpenClaim := { program := "ytpfhjbcmlebejaa", sum := "b58d719514c32557c819c7fcd860029f3be72d355d6d6b08c6c14383a3884a9a", func := "loop.example/g01195/laws.FnExactLeftInverse", spec := "fnExactLeftInverse", apart := false, narrowed := true }
def FnExactLeftInverseUptoSaid : Prop := fnExactLeftInverseUptoRow.holds Try.pinned (OpenSpec.upto fnExactLeftInverseSpec)

/-- 'laws.FnExactRightInverse', WHERE WHAT IT READS IS OF BULK AT MOST 1048576: true; the input reads as it did. -/
def fnExactRightInverseUptoRow : OpenClaim := { program := "ytpfhjbcmlebejaa", sum := "b58d719514c32557c819c7fcd860029f3be72d355d6d6b08c6c14383a3884a9a", func := "loop.example/g01195/laws.FnExactRightInverse", spec := "fnExactRightInverse", apart := false, narrowed := true }
def FnExactRightInverseUptoSaid : Prop := fnExactRightInverseUptoRow.holds Try.pinned (OpenSpec.upto fnExactRightInverseSpec)

/-- 'laws.FnExactCommutingCount', WHERE WHAT IT READS IS OF BULK AT MOST 1048576: true; the input reads as it did. -/
def fnExactCommutingCountUptoRow : OpenClaim := { program := "ytpfhjbcmlebejaa", sum := "b58d719514c32557c819c7fcd860029f3be72d355d6d6b08c6c14383a3884a9a", func := "loop.example/g01195/laws.FnExactCommutingCount", spec := "fnExactCommutingCount", apart := false, narrowed := true }
def FnExactCommutingCountUptoSaid : Prop := fnExactCommutingCountUptoRow.holds Try.pinned (OpenSpec.upto fnExactCommutingCountSpec)

/-- 'laws.FnExactAssociatingCount', WHERE WHAT IT READS IS OF BULK AT MOST 1048576: true; the input reads as it did. -/
def fnExactAssociatingCountUptoRow : OpenClaim := { program := "ytpfhjbcmlebejaa", sum := "b58d719514c32557c819c7fcd860029f3be72d355d6d6b08c6c14383a3884a9a", func := "loop.example/g01195/laws.FnExactAssociatingCount", spec := "fnExactAssociatingCount", apart := false, narrowed := true }
def FnExactAssociatingCountUptoSaid : Prop := fnExactAssociatingCountUptoRow.holds Try.pinned (OpenSpec.upto fnExactAssociatingCountSpec)

/-- 'laws.FnExactIsotopeFor', WHERE WHAT IT READS IS OF BULK AT MOST 1048576: true; the input reads as it did. -/
def fnExactIsotopeForUptoRow : OpenClaim := { program := "ytpfhjbcmlebejaa", sum := "b58d719514c32557c819c7fcd860029f3be72d355d6d6b08c6c14383a3884a9a", func := "loop.example/g01195/laws.FnExactIsotopeFor", spec := "fnExactIsotopeFor", apart := false, narrowed := true }
def FnExactIsotopeForUptoSaid : Prop := fnExactIsotopeForUptoRow.holds Try.pinned (OpenSpec.upto fnExactIsotopeForSpec)

/-- 'laws.FnExactExponentOf', WHERE WHAT IT READS IS OF BULK AT MOST 1048576: true; the input reads as it did. -/
def fnExactExponentOfUptoRow : OpenClaim := { program := "ytpfhjbcmlebejaa", sum := "b58d719514c32557c819c7fcd860029f3be72d355d6d6b08c6c14383a3884a9a", func := "loop.example/g01195/laws.FnExactExponentOf", spec := "fnExactExponentOf", apart := false, narrowed := true }
def FnExactExponentOfUptoSaid : Prop := fnExactExponentOfUptoRow.holds Try.pinned (OpenSpec.upto fnExactExponentOfSpec)

/-- 'laws.FnExactSubloopOf', WHERE WHAT IT READS IS OF BULK AT MOST 1048576: true; the input reads as it did. -/
def fnExactSubloopOfUptoRow : OpenClaim := { program := "ytpfhjbcmlebejaa", sum := "b58d719514c32557c819c7fcd860029f3be72d355d6d6b08c6c14383a3884a9a", func := "loop.example/g01195/laws.FnExactSubloopOf", spec := "fnExactSubloopOf", apart := false, narrowed := true }
def FnExactSubloopOfUptoSaid : Prop := fnExactSubloopOfUptoRow.holds Try.pinned (OpenSpec.upto fnExactSubloopOfSpec)

/-- 'laws.FnExactIsSubloop', WHERE WHAT IT READS IS OF BULK AT MOST 1048576: true; the input reads as it did. -/
def fnExactIsSubloopUptoRow : OpenClaim := { program := "ytpfhjbcmlebejaa", sum := "b58d719514c32557c819c7fcd860029f3be72d355d6d6b08c6c14383a3884a9a", func := "loop.example/g01195/laws.FnExactIsSubloop", spec := "fnExactIsSubloop", apart := false, narrowed := true }
def FnExactIsSubloopUptoSaid : Prop := fnExactIsSubloopUptoRow.holds Try.pinned (OpenSpec.upto fnExactIsSubloopSpec)

/-- 'laws.FnExactKeptByInner', WHERE WHAT IT READS IS OF BULK AT MOST 1048576: true; the input reads as it did. -/
def fnExactKeptByInnerUptoRow : OpenClaim := { program := "ytpfhjbcmlebejaa", sum := "b58d719514c32557c819c7fcd860029f3be72d355d6d6b08c6c14383a3884a9a", func := "loop.example/g01195/laws.FnExactKeptByInner", spec := "fnExactKeptByInner", recurses := true, apart := false, narrowed := true }
def FnExactKeptByInnerUptoSaid : Prop := fnExactKeptByInnerUptoRow.holds Try.pinned (OpenSpec.upto fnExactKeptByInnerSpec)

end Rows
end Go.Proofs.Ytpfhjbcmlebejaa
