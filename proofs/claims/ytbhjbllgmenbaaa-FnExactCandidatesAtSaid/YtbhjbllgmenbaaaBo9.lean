/- Proved: what the program's CandidatesAt returns. Conditions: those that each theorem names. -/
import Derived.Test.YtbhjbllgmenbaaaBo9a
import Derived.Test.YtbhjbllgmenbaaaBo9b
import Derived.Test.YtbhjbllgmenbaaaBo9c
namespace Go.Proofs.Ytbhjbllgmenbaaa
set_option linter.unusedVariables false
set_option linter.unusedSimpArgs false
open Go.RowKit
theorem implCandidatesAt_any (b n : Nat) (m : Nat → Nat) (f : Nat → Nat → Int) (i j : Int) (w : World) (hn : n ≤ 1048576) (hm : ∀ x, x < n → m x ≤ 1048576) (hL : SL w b n m f) :
    Calls Try.prog 35 #[.slice (some ⟨b, 0, none⟩) n n, .int .i64 i, .int .i64 j] w (GotL (cdL n m f i j).1 (cdL n m f i j).2 w) := by
  by_cases h1 : i < j
  · exact implCandidatesAt_lt b n m f i j w hn hm hL h1
  · by_cases h2 : i = j
    · exact implCandidatesAt_eq b n m f i j w hn hm hL h2
    · exact implCandidatesAt_gt b n m f i j w hn hm hL (by omega)
end Go.Proofs.Ytbhjbllgmenbaaa
