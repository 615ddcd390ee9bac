/- Proved: lemmas on codes of places that are met one after the other, without any program. Conditions: those that each lemma names. -/
import Derived.Test.YtbdcbmennblcdaaSqm
namespace Go.Proofs.Ytbdcbmennblcdaa
set_option linter.unusedVariables false
set_option linter.unusedSimpArgs false
open Go.RowKit
/-- The pair of the entries of two squares at a place, as one number. -/
def codeF (g h : Nat → UInt8) : Nat → Nat := fun p => (g p).toNat * 10 + (h p).toNat
def rowSeen (c : Nat → Nat) (x : Nat) : Nat → Nat → Bool
  | 0, _ => false
  | y + 1, k => rowSeen c x y k || (c (x * 10 + y) == k)
def allSeen (c : Nat → Nat) (N : Nat) : Nat → Nat → Bool
  | 0, _ => false
  | x + 1, k => allSeen c N x k || rowSeen c x N k
/-- k is the code of a place before x, y. -/
def seenF (c : Nat → Nat) (N x y : Nat) : Nat → Bool := fun k => allSeen c N x k || rowSeen c x y k
def orthRow (c : Nat → Nat) (N x : Nat) : Nat → Bool
  | 0 => true
  | y + 1 => orthRow c N x y && !seenF c N x y (c (x * 10 + y))
def orthAll (c : Nat → Nat) (N : Nat) : Nat → Bool
  | 0 => true
  | x + 1 => orthAll c N x && orthRow c N x N
section
variable {c : Nat → Nat} {N x y : Nat}
theorem seenF_zero : seenF c N 0 0 = fun _ => false := rfl
theorem seenF_next : seenF c N (x + 1) 0 = seenF c N x N := by funext k; simp [seenF, allSeen, rowSeen]
theorem seenF_step {u : Nat} (h : c (x * 10 + y) = u) (j : Nat) : seenF c N x (y + 1) j = if j = u then true else seenF c N x y j := by
  subst h
  by_cases e : j = c (x * 10 + y)
  · subst e; simp [seenF, rowSeen]
  · have : (c (x * 10 + y) == j) = false := by simpa using fun h => e h.symm
    simp [seenF, rowSeen, this, e]
theorem orthRow_ok (h : orthRow c N x y = true) {u : Nat} (e : c (x * 10 + y) = u) (hs : seenF c N x y u = false) : orthRow c N x (y + 1) = true := by
  subst e; simp [orthRow, h, hs]
theorem orthRow_no : ∀ {m : Nat}, y < m → seenF c N x y (c (x * 10 + y)) = true → orthRow c N x m = false
  | 0, h, _ => by omega
  | m + 1, h, hs => by
    by_cases e : y = m
    · subst e; simp [orthRow, hs]
    · simp [orthRow, orthRow_no (m := m) (by omega) hs]
theorem orthAll_no : ∀ {m : Nat}, x < m → orthRow c N x N = false → orthAll c N m = false
  | 0, h, _ => by omega
  | m + 1, h, hs => by
    by_cases e : x = m
    · subst e; simp [orthAll, hs]
    · simp [orthAll, orthAll_no (m := m) (by omega) hs]
theorem orth_no (hx : x < N) (hy : y < N) {u : Nat} (e : c (x * 10 + y) = u) (hs : seenF c N x y u = true) : orthAll c N N = false := by
  subst e; exact orthAll_no hx (orthRow_no hy hs)
theorem orthAll_ok (h : orthAll c N x = true) (h2 : orthRow c N x N = true) : orthAll c N (x + 1) = true := by simp [orthAll, h, h2]
end
end Go.Proofs.Ytbdcbmennblcdaa
