/-
  No cell of these rows narrows 'for every input' (looked for: loops, veiled, ifaces, maps, wideKeys, modest, calm, conditions, laid).
  DERIVED. THE GIVEN ROWS OF THIS SEAT. 12 by the template 'for every input the law returns true; each argument reads behind the call as it read before'; 0 by the template 'total and deterministic' (their statements: YtcmedefgpiegbabTotals.lean).
  GIVEN WITH THE SEED: the statements are not yours to turn. If you find one false, say at which input.
  Laid BY PROGRAM, IN A SANDBOX (cutbox-rows.mjs): the forced cells as the released guide's own fill.sh prints them over the translation 141088e489ae20e8… (all of the seat's roots in one cut). By AI agents, Wed Nov 11 2026. No macro, syntax, notation, axiom, sorry.
-/
import Derived.Test.YtcmedefgpiegbabChecked
import GoSem.Claim
import GoSem.ClaimJoined
import GoSem.ClaimMapViews
import Derived.JoinedTies
import Derived.KernelRfl
namespace Go.Proofs.Ytcmedefgpiegbab
/- THE CELL 'sum', in the pinned program and in every row, IS THE sha256 OF THE DUMP (.gsa) THAT YtcmedefgpiegbabProg.lean LOADS. Nothing in Lean hashes anything: it is a label: what it is worth is what the hold of that sum in a sandbox is worth. -/
noncomputable def Try.pinned : Pinned := { name := "ytcmedefgpiegbab", sum := "141088e489ae20e80c47ccfdfb69a12cdb246d3e44d7cd380aae6834aa6b8a1a", checked := Try.checked }
namespace Rows
def none {H : Type} : Left H := { results := [], args := [] }

/-- 'laws.FnExactIsTriple': WHATEVER THE INPUT: true; the input reads as it did. -/
def fnExactIsTripleSpec : ChangeSpec := { name := "fnExactIsTriple", fn := fun _ => fun
  | [d1, d2] => { results := [.lit (.bool true)], args := [d1, d2] }
  | _ => none }
def fnExactIsTripleRow : OpenClaim := { program := "ytcmedefgpiegbab", sum := "141088e489ae20e80c47ccfdfb69a12cdb246d3e44d7cd380aae6834aa6b8a1a", func := "loop.example/g01195/laws.FnExactIsTriple", spec := "fnExactIsTriple", plainKeys := false, apart := false }
def FnExactIsTripleSaid : Prop := fnExactIsTripleRow.holds Try.pinned (OpenSpec.ofChange fnExactIsTripleSpec)

/-- ITS FALSE NEIGHBOUR: 'it returns false'. Refute it at one input. -/
def fnExactIsTripleWrong : ChangeSpec := { name := "fnExactIsTriple", fn := fun _ => fun
  | [d1, d2] => { results := [.lit (.bool false)], args := [d1, d2] }
  | _ => none }
def FnExactIsTripleWrongFalsely : Prop := fnExactIsTripleRow.holds Try.pinned (OpenSpec.ofChange fnExactIsTripleWrong)

/-- 'laws.FnExactThenTriples': WHATEVER THE INPUT: true; the input reads as it did. -/
def fnExactThenTriplesSpec : ChangeSpec := { name := "fnExactThenTriples", fn := fun _ => fun
  | [d1, d2, d3] => { results := [.lit (.bool true)], args := [d1, d2, d3] }
  | _ => none }
def fnExactThenTriplesRow : OpenClaim := { program := "ytcmedefgpiegbab", sum := "141088e489ae20e80c47ccfdfb69a12cdb246d3e44d7cd380aae6834aa6b8a1a", func := "loop.example/g01195/laws.FnExactThenTriples", spec := "fnExactThenTriples", plainKeys := false, apart := false }
def FnExactThenTriplesSaid : Prop := fnExactThenTriplesRow.holds Try.pinned (OpenSpec.ofChange fnExactThenTriplesSpec)

/-- ITS FALSE NEIGHBOUR: 'it returns false'. Refute it at one input. -/
def fnExactThenTriplesWrong : ChangeSpec := { name := "fnExactThenTriples", fn := fun _ => fun
  | [d1, d2, d3] => { results := [.lit (.bool false)], args := [d1, d2, d3] }
  | _ => none }
def FnExactThenTriplesWrongFalsely : Prop := fnExactThenTriplesRow.holds Try.pinned (OpenSpec.ofChange fnExactThenTriplesWrong)

/-- 'laws.FnExactBackTriple': WHATEVER THE INPUT: true; the input reads as it did. -/
def fnExactBackTripleSpec : ChangeSpec := { name := "fnExactBackTriple", fn := fun _ => fun
  | [d1, d2] => { results := [.lit (.bool true)], args := [d1, d2] }
  | _ => none }
def fnExactBackTripleRow : OpenClaim := { program := "ytcmedefgpiegbab", sum := "141088e489ae20e80c47ccfdfb69a12cdb246d3e44d7cd380aae6834aa6b8a1a", func := "loop.example/g01195/laws.FnExactBackTriple", spec := "fnExactBackTriple", plainKeys := false, apart := false }
def FnExactBackTripleSaid : Prop := fnExactBackTripleRow.holds Try.pinned (OpenSpec.ofChange fnExactBackTripleSpec)

/-- ITS FALSE NEIGHBOUR: 'it returns false'. Refute it at one input. -/
def fnExactBackTripleWrong : ChangeSpec := { name := "fnExactBackTriple", fn := fun _ => fun
  | [d1, d2] => { results := [.lit (.bool false)], args := [d1, d2] }
  | _ => none }
def FnExactBackTripleWrongFalsely : Prop := fnExactBackTripleRow.holds Try.pinned (OpenSpec.ofChange fnExactBackTripleWrong)

/-- 'laws.FnExactIsotopeOf': WHATEVER THE INPUT: true; the input reads as it did. -/
def fnExactIsotopeOfSpec : ChangeSpec := { name := "fnExactIsotopeOf", fn := fun _ => fun
  | [d1, d2] => { results := [.lit (.bool true)], args := [d1, d2] }
  | _ => none }
def fnExactIsotopeOfRow : OpenClaim := { program := "ytcmedefgpiegbab", sum := "141088e489ae20e80c47ccfdfb69a12cdb246d3e44d7cd380aae6834aa6b8a1a", func := "loop.example/g01195/laws.FnExactIsotopeOf", spec := "fnExactIsotopeOf", plainKeys := false, apart := false }
def FnExactIsotopeOfSaid : Prop := fnExactIsotopeOfRow.holds Try.pinned (OpenSpec.ofChange fnExactIsotopeOfSpec)

/-- ITS FALSE NEIGHBOUR: 'it returns false'. Refute it at one input. -/
def fnExactIsotopeOfWrong : ChangeSpec := { name := "fnExactIsotopeOf", fn := fun _ => fun
  | [d1, d2] => { results := [.lit (.bool false)], args := [d1, d2] }
  | _ => none }
def FnExactIsotopeOfWrongFalsely : Prop := fnExactIsotopeOfRow.holds Try.pinned (OpenSpec.ofChange fnExactIsotopeOfWrong)

/-- 'laws.FnExactIsAutotopism': WHATEVER THE INPUT: true; the input reads as it did. -/
def fnExactIsAutotopismSpec : ChangeSpec := { name := "fnExactIsAutotopism", fn := fun _ => fun
  | [d1, d2] => { results := [.lit (.bool true)], args := [d1, d2] }
  | _ => none }
def fnExactIsAutotopismRow : OpenClaim := { program := "ytcmedefgpiegbab", sum := "141088e489ae20e80c47ccfdfb69a12cdb246d3e44d7cd380aae6834aa6b8a1a", func := "loop.example/g01195/laws.FnExactIsAutotopism", spec := "fnExactIsAutotopism", plainKeys := false, apart := false }
def FnExactIsAutotopismSaid : Prop := fnExactIsAutotopismRow.holds Try.pinned (OpenSpec.ofChange fnExactIsAutotopismSpec)

/-- ITS FALSE NEIGHBOUR: 'it returns false'. Refute it at one input. -/
def fnExactIsAutotopismWrong : ChangeSpec := { name := "fnExactIsAutotopism", fn := fun _ => fun
  | [d1, d2] => { results := [.lit (.bool false)], args := [d1, d2] }
  | _ => none }
def FnExactIsAutotopismWrongFalsely : Prop := fnExactIsAutotopismRow.holds Try.pinned (OpenSpec.ofChange fnExactIsAutotopismWrong)

/-- 'laws.FnExactLoopAt': WHATEVER THE INPUT: true; the input reads as it did. -/
def fnExactLoopAtSpec : ChangeSpec := { name := "fnExactLoopAt", fn := fun _ => fun
  | [d1, d2, d3] => { results := [.lit (.bool true)], args := [d1, d2, d3] }
  | _ => none }
def fnExactLoopAtRow : OpenClaim := { program := "ytcmedefgpiegbab", sum := "141088e489ae20e80c47ccfdfb69a12cdb246d3e44d7cd380aae6834aa6b8a1a", func := "loop.example/g01195/laws.FnExactLoopAt", spec := "fnExactLoopAt", plainKeys := false, apart := false }
def FnExactLoopAtSaid : Prop := fnExactLoopAtRow.holds Try.pinned (OpenSpec.ofChange fnExactLoopAtSpec)

/-- ITS FALSE NEIGHBOUR: 'it returns false'. Refute it at one input. -/
def fnExactLoopAtWrong : ChangeSpec := { name := "fnExactLoopAt", fn := fun _ => fun
  | [d1, d2, d3] => { results := [.lit (.bool false)], args := [d1, d2, d3] }
  | _ => none }
def FnExactLoopAtWrongFalsely : Prop := fnExactLoopAtRow.holds Try.pinned (OpenSpec.ofChange fnExactLoopAtWrong)

/-- 'laws.FnTripleIsotopes': WHATEVER THE INPUT: true; the input reads as it did. -/
def fnTripleIsotopesSpec : ChangeSpec := { name := "fnTripleIsotopes", fn := fun _ => fun
  | [d] => { results := [.lit (.bool true)], args := [d] }
  | _ => none }
def fnTripleIsotopesRow : OpenClaim := { program := "ytcmedefgpiegbab", sum := "141088e489ae20e80c47ccfdfb69a12cdb246d3e44d7cd380aae6834aa6b8a1a", func := "loop.example/g01195/laws.FnTripleIsotopes", spec := "fnTripleIsotopes", recurses := true, plainKeys := false, apart := false }
def FnTripleIsotopesSaid : Prop := fnTripleIsotopesRow.holds Try.pinned (OpenSpec.ofChange fnTripleIsotopesSpec)

/-- ITS FALSE NEIGHBOUR: 'it returns false'. Refute it at one input. -/
def fnTripleIsotopesWrong : ChangeSpec := { name := "fnTripleIsotopes", fn := fun _ => fun
  | [d] => { results := [.lit (.bool false)], args := [d] }
  | _ => none }
def FnTripleIsotopesWrongFalsely : Prop := fnTripleIsotopesRow.holds Try.pinned (OpenSpec.ofChange fnTripleIsotopesWrong)

/-- 'laws.FnExactCanonicalLoop': WHATEVER THE INPUT: true; the input reads as it did. -/
def fnExactCanonicalLoopSpec : ChangeSpec := { name := "fnExactCanonicalLoop", fn := fun _ => fun
  | [d] => { results := [.lit (.bool true)], args := [d] }
  | _ => none }
def fnExactCanonicalLoopRow : OpenClaim := { program := "ytcmedefgpiegbab", sum := "141088e489ae20e80c47ccfdfb69a12cdb246d3e44d7cd380aae6834aa6b8a1a", func := "loop.example/g01195/laws.FnExactCanonicalLoop", spec := "fnExactCanonicalLoop", recurses := true, plainKeys := false, apart := false }
def FnExactCanonicalLoopSaid : Prop := fnExactCanonicalLoopRow.holds Try.pinned (OpenSpec.ofChange fnExactCanonicalLoopSpec)

/-- ITS FALSE NEIGHBOUR: 'it returns false'. Refute it at one input. -/
def fnExactCanonicalLoopWrong : ChangeSpec := { name := "fnExactCanonicalLoop", fn := fun _ => fun
  | [d] => { results := [.lit (.bool false)], args := [d] }
  | _ => none }
def FnExactCanonicalLoopWrongFalsely : Prop := fnExactCanonicalLoopRow.holds Try.pinned (OpenSpec.ofChange fnExactCanonicalLoopWrong)

/-- 'laws.FnExactCanonicalIsotope': WHATEVER THE INPUT: true; the input reads as it did. -/
def fnExactCanonicalIsotopeSpec : ChangeSpec := { name := "fnExactCanonicalIsotope", fn := fun _ => fun
  | [d] => { results := [.lit (.bool true)], args := [d] }
  | _ => none }
def fnExactCanonicalIsotopeRow : OpenClaim := { program := "ytcmedefgpiegbab", sum := "141088e489ae20e80c47ccfdfb69a12cdb246d3e44d7cd380aae6834aa6b8a1a", func := "loop.example/g01195/laws.FnExactCanonicalIsotope", spec := "fnExactCanonicalIsotope", recurses := true, plainKeys := false, apart := false }
def FnExactCanonicalIsotopeSaid : Prop := fnExactCanonicalIsotopeRow.holds Try.pinned (OpenSpec.ofChange fnExactCanonicalIsotopeSpec)

/-- ITS FALSE NEIGHBOUR: 'it returns false'. Refute it at one input. -/
def fnExactCanonicalIsotopeWrong : ChangeSpec := { name := "fnExactCanonicalIsotope", fn := fun _ => fun
  | [d] => { results := [.lit (.bool false)], args := [d] }
  | _ => none }
def FnExactCanonicalIsotopeWrongFalsely : Prop := fnExactCanonicalIsotopeRow.holds Try.pinned (OpenSpec.ofChange fnExactCanonicalIsotopeWrong)

/-- 'laws.FnExactIsomorphismOf': WHATEVER THE INPUT: true; the input reads as it did. -/
def fnExactIsomorphismOfSpec : ChangeSpec := { name := "fnExactIsomorphismOf", fn := fun _ => fun
  | [d1, d2] => { results := [.lit (.bool true)], args := [d1, d2] }
  | _ => none }
def fnExactIsomorphismOfRow : OpenClaim := { program := "ytcmedefgpiegbab", sum := "141088e489ae20e80c47ccfdfb69a12cdb246d3e44d7cd380aae6834aa6b8a1a", func := "loop.example/g01195/laws.FnExactIsomorphismOf", spec := "fnExactIsomorphismOf", recurses := true, plainKeys := false, apart := false }
def FnExactIsomorphismOfSaid : Prop := fnExactIsomorphismOfRow.holds Try.pinned (OpenSpec.ofChange fnExactIsomorphismOfSpec)

/-- ITS FALSE NEIGHBOUR: 'it returns false'. Refute it at one input. -/
def fnExactIsomorphismOfWrong : ChangeSpec := { name := "fnExactIsomorphismOf", fn := fun _ => fun
  | [d1, d2] => { results := [.lit (.bool false)], args := [d1, d2] }
  | _ => none }
def FnExactIsomorphismOfWrongFalsely : Prop := fnExactIsomorphismOfRow.holds Try.pinned (OpenSpec.ofChange fnExactIsomorphismOfWrong)

/-- 'laws.FnExactAutomorphismsOf': WHATEVER THE INPUT: true; the input reads as it did. -/
def fnExactAutomorphismsOfSpec : ChangeSpec := { name := "fnExactAutomorphismsOf", fn := fun _ => fun
  | [d] => { results := [.lit (.bool true)], args := [d] }
  | _ => none }
def fnExactAutomorphismsOfRow : OpenClaim := { program := "ytcmedefgpiegbab", sum := "141088e489ae20e80c47ccfdfb69a12cdb246d3e44d7cd380aae6834aa6b8a1a", func := "loop.example/g01195/laws.FnExactAutomorphismsOf", spec := "fnExactAutomorphismsOf", recurses := true, plainKeys := false, apart := false }
def FnExactAutomorphismsOfSaid : Prop := fnExactAutomorphismsOfRow.holds Try.pinned (OpenSpec.ofChange fnExactAutomorphismsOfSpec)

/-- ITS FALSE NEIGHBOUR: 'it returns false'. Refute it at one input. -/
def fnExactAutomorphismsOfWrong : ChangeSpec := { name := "fnExactAutomorphismsOf", fn := fun _ => fun
  | [d] => { results := [.lit (.bool false)], args := [d] }
  | _ => none }
def FnExactAutomorphismsOfWrongFalsely : Prop := fnExactAutomorphismsOfRow.holds Try.pinned (OpenSpec.ofChange fnExactAutomorphismsOfWrong)

/-- 'laws.FnExactCountAutomorphisms': WHATEVER THE INPUT: true; the input reads as it did. -/
def fnExactCountAutomorphismsSpec : ChangeSpec := { name := "fnExactCountAutomorphisms", fn := fun _ => fun
  | [d] => { results := [.lit (.bool true)], args := [d] }
  | _ => none }
def fnExactCountAutomorphismsRow : OpenClaim := { program := "ytcmedefgpiegbab", sum := "141088e489ae20e80c47ccfdfb69a12cdb246d3e44d7cd380aae6834aa6b8a1a", func := "loop.example/g01195/laws.FnExactCountAutomorphisms", spec := "fnExactCountAutomorphisms", recurses := true, plainKeys := false, apart := false }
def FnExactCountAutomorphismsSaid : Prop := fnExactCountAutomorphismsRow.holds Try.pinned (OpenSpec.ofChange fnExactCountAutomorphismsSpec)

/-- ITS FALSE NEIGHBOUR: 'it returns false'. Refute it at one input. -/
def fnExactCountAutomorphismsWrong : ChangeSpec := { name := "fnExactCountAutomorphisms", fn := fun _ => fun
  | [d] => { results := [.lit (.bool false)], args := [d] }
  | _ => none }
def FnExactCountAutomorphismsWrongFalsely : Prop := fnExactCountAutomorphismsRow.holds Try.pinned (OpenSpec.ofChange fnExactCountAutomorphismsWrong)

/- THE SECOND FORM. 'bulk': how many values and letters a reading holds, each counted each time it is reached (what is shared counts as often as it is met; a slice's spare places count too). A statement '..UptoSaid' is the law's where the arguments, and the package variables that the reading takes, are together of bulk at most 1048576: NARROWER than '..Said'. Prove '..Said' where nothing that the law and all that it calls make is longer than what came in: it says more and counts as full. Else prove '..UptoSaid'. A law counts once. -/
mutual
def uptoBulk {H : Type} : DataW H → Nat
  | .lit (.string bytes) => bytes.length + 1
  | .lit _ => 1
  | .nil => 1
  | .ptr d => uptoBulk d + 1
  | .slice elems spare => uptoBulkAll elems + uptoBulkAll spare + 1
  | .agg parts => uptoBulkAll parts + 1
  | .iface _ d => uptoBulk d + 1
  | .map entries => uptoBulkEntries entries + 1
  | .held _ => 1
def uptoBulkAll {H : Type} : List (DataW H) → Nat
  | [] => 0
  | d :: r => uptoBulk d + uptoBulkAll r
def uptoBulkEntries {H : Type} : List (Lit × DataW H) → Nat
  | [] => 0
  | x :: r => uptoBulkEntry x + uptoBulkEntries r
def uptoBulkEntry {H : Type} : Lit × DataW H → Nat
  | (.string bytes, d) => bytes.length + uptoBulk d + 1
  | (_, d) => uptoBulk d + 1
 end
def uptoSmall : (H : Type) → List (DataW H) → Bool := fun _ ds => decide (uptoBulkAll ds ≤ 1048576)
def OpenSpec.upto (s : _root_.Go.ChangeSpec) : _root_.Go.OpenSpec := { _root_.Go.OpenSpec.ofChange s with cond := some uptoSmall }

/-- 'laws.FnExactIsTriple', WHERE WHAT IT READS IS OF BULK AT MOST 1048576: true; the input reads as it did. -/
def fnExactIsTripleUptoRow : OpenClaim := { program := "ytcmedefgpiegbab", sum := "141088e489ae20e80c47ccfdfb69a12cdb246d3e44d7cd380aae6834aa6b8a1a", func := "loop.example/g01195/laws.FnExactIsTriple", spec := "fnExactIsTriple", plainKeys := false, apart := false, narrowed := true }
def FnExactIsTripleUptoSaid : Prop := fnExactIsTripleUptoRow.holds Try.pinned (OpenSpec.upto fnExactIsTripleSpec)

/-- 'laws.FnExactThenTriples', WHERE WHAT IT READS IS OF BULK AT MOST 1048576: true; the input reads as it did. -/
def fnExactThenTriplesUptoRow : OpenClaim := { program := "ytcmedefgpiegbab", sum := "141088e489ae20e80c47ccfdfb69a12cdb246d3e44d7cd380aae6834aa6b8a1a", func := "loop.example/g01195/laws.FnExactThenTriples", spec := "fnExactThenTriples", plainKeys := false, apart := false, narrowed := true }
def FnExactThenTriplesUptoSaid : Prop := fnExactThenTriplesUptoRow.holds Try.pinned (OpenSpec.upto fnExactThenTriplesSpec)

/-- 'laws.FnExactBackTriple', WHERE WHAT IT READS IS OF BULK AT MOST 1048576: true; the input reads as it did. -/
def fnExactBackTripleUptoRow : OpenClaim := { program := "ytcmedefgpiegbab", sum := "141088e489ae20e80c47ccfdfb69a12cdb246d3e44d7cd380aae6834aa6b8a1a", func := "loop.example/g01195/laws.FnExactBackTriple", spec := "fnExactBackTriple", plainKeys := false, apart := false, narrowed := true }
def FnExactBackTripleUptoSaid : Prop := fnExactBackTripleUptoRow.holds Try.pinned (OpenSpec.upto fnExactBackTripleSpec)

/-- 'laws.FnExactIsotopeOf', WHERE WHAT IT READS IS OF BULK AT MOST 1048576: true; the input reads as it did. -/
def fnExactIsotopeOfUptoRow : OpenClaim := { program := "ytcmedefgpiegbab", sum := "141088e489ae20e80c47ccfdfb69a12cdb246d3e44d7cd380aae6834aa6b8a1a", func := "loop.example/g01195/laws.FnExactIsotopeOf", spec := "fnExactIsotopeOf", plainKeys := false, apart := false, narrowed := true }
def FnExactIsotopeOfUptoSaid : Prop := fnExactIsotopeOfUptoRow.holds Try.pinned (OpenSpec.upto fnExactIsotopeOfSpec)

/-- 'laws.FnExactIsAutotopism', WHERE WHAT IT READS IS OF BULK AT MOST 1048576: true; the input reads as it did. -/
def fnExactIsAutotopismUptoRow : OpenClaim := { program := "ytcmedefgpiegbab", sum := "141088e489ae20e80c47ccfdfb69a12cdb246d3e44d7cd380aae6834aa6b8a1a", func := "loop.example/g01195/laws.FnExactIsAutotopism", spec := "fnExactIsAutotopism", plainKeys := false, apart := false, narrowed := true }
def FnExactIsAutotopismUptoSaid : Prop := fnExactIsAutotopismUptoRow.holds Try.pinned (OpenSpec.upto fnExactIsAutotopismSpec)

/-- 'laws.FnExactLoopAt', WHERE WHAT IT READS IS OF BULK AT MOST 1048576: true; the input reads as it did. -/
def fnExactLoopAtUptoRow : OpenClaim := { program := "ytcmedefgpiegbab", sum := "141088e489ae20e80c47ccfdfb69a12cdb246d3e44d7cd380aae6834aa6b8a1a", func := "loop.example/g01195/laws.FnExactLoopAt", spec := "fnExactLoopAt", plainKeys := false, apart := false, narrowed := true }
def FnExactLoopAtUptoSaid : Prop := fnExactLoopAtUptoRow.holds Try.pinned (OpenSpec.upto fnExactLoopAtSpec)

/-- 'laws.FnTripleIsotopes', WHERE WHAT IT READS IS OF BULK AT MOST 1048576: true; the input reads as it did. -/
def fnTripleIsotopesUptoRow : OpenClaim := { program := "ytcmedefgpiegbab", sum := "141088e489ae20e80c47ccfdfb69a12cdb246d3e44d7cd380aae6834aa6b8a1a", func := "loop.example/g01195/laws.FnTripleIsotopes", spec := "fnTripleIsotopes", recurses := true, plainKeys := false, apart := false, narrowed := true }
def FnTripleIsotopesUptoSaid : Prop := fnTripleIsotopesUptoRow.holds Try.pinned (OpenSpec.upto fnTripleIsotopesSpec)

/-- 'laws.FnExactCanonicalLoop', WHERE WHAT IT READS IS OF BULK AT MOST 1048576: true; the input reads as it did. -/
def fnExactCanonicalLoopUptoRow : OpenClaim := { program := "ytcmedefgpiegbab", sum := "141088e489ae20e80c47ccfdfb69a12cdb246d3e44d7cd380aae6834aa6b8a1a", func := "loop.example/g01195/laws.FnExactCanonicalLoop", spec := "fnExactCanonicalLoop", recurses := true, plainKeys := false, apart := false, narrowed := true }
def FnExactCanonicalLoopUptoSaid : Prop := fnExactCanonicalLoopUptoRow.holds Try.pinned (OpenSpec.upto fnExactCanonicalLoopSpec)

/-- 'laws.FnExactCanonicalIsotope', WHERE WHAT IT READS IS OF BULK AT MOST 1048576: true; the input reads as it did. -/
def fnExactCanonicalIsotopeUptoRow : OpenClaim := { program := "ytcmedefgpiegbab", sum := "141088e489ae20e80c47ccfdfb69a12cdb246d3e44d7cd380aae6834aa6b8a1a", func := "loop.example/g01195/laws.FnExactCanonicalIsotope", spec := "fnExactCanonicalIsotope", recurses := true, plainKeys := false, apart := false, narrowed := true }
def FnExactCanonicalIsotopeUptoSaid : Prop := fnExactCanonicalIsotopeUptoRow.holds Try.pinned (OpenSpec.upto fnExactCanonicalIsotopeSpec)

/-- 'laws.FnExactIsomorphismOf', WHERE WHAT IT READS IS OF BULK AT MOST 1048576: true; the input reads as it did. -/
def fnExactIsomorphismOfUptoRow : OpenClaim := { program := "ytcmedefgpiegbab", sum := "141088e489ae20e80c47ccfdfb69a12cdb246d3e44d7cd380aae6834aa6b8a1a", func := "loop.example/g01195/laws.FnExactIsomorphismOf", spec := "fnExactIsomorphismOf", recurses := true, plainKeys := false, apart := false, narrowed := true }
def FnExactIsomorphismOfUptoSaid : Prop := fnExactIsomorphismOfUptoRow.holds Try.pinned (OpenSpec.upto fnExactIsomorphismOfSpec)

/-- 'laws.FnExactAutomorphismsOf', WHERE WHAT IT READS IS OF BULK AT MOST 1048576: true; the input reads as it did. -/
def fnExactAutomorphismsOfUptoRow : OpenClaim := { program := "ytcmedefgpiegbab", sum := "141088e489ae20e80c47ccfdfb69a12cdb246d3e44d7cd380aae6834aa6b8a1a", func := "loop.example/g01195/laws.FnExactAutomorphismsOf", spec := "fnExactAutomorphismsOf", recurses := true, plainKeys := false, apart := false, narrowed := true }
def FnExactAutomorphismsOfUptoSaid : Prop := fnExactAutomorphismsOfUptoRow.holds Try.pinned (OpenSpec.upto fnExactAutomorphismsOfSpec)

/-- 'laws.FnExactCountAutomorphisms', WHERE WHAT IT READS IS OF BULK AT MOST 1048576: true; the input reads as it did. -/
def fnExactCountAutomorphismsUptoRow : OpenClaim := { program := "ytcmedefgpiegbab", sum := "141088e489ae20e80c47ccfdfb69a12cdb246d3e44d7cd380aae6834aa6b8a1a", func := "loop.example/g01195/laws.FnExactCountAutomorphisms", spec := "fnExactCountAutomorphisms", recurses := true, plainKeys := false, apart := false, narrowed := true }
def FnExactCountAutomorphismsUptoSaid : Prop := fnExactCountAutomorphismsUptoRow.holds Try.pinned (OpenSpec.upto fnExactCountAutomorphismsSpec)

end Rows
end Go.Proofs.Ytcmedefgpiegbab
