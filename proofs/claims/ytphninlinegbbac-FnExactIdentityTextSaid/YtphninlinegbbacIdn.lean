/- Proved: what the laws' helpers on identities return. Conditions: those that each theorem names. -/
import Derived.Test.YtphninlinegbbacTe1
namespace Go.Proofs.Ytphninlinegbbac
set_option linter.unusedVariables false
set_option linter.unusedSimpArgs false
open Go.RowKit
theorem rowId : IsRow Try.prog 45 2 := ⟨.inl ⟨_, Try.underlying45⟩, by kernel_rfl⟩
theorem rowIl : IsRow Try.prog 42 2 := ⟨.inl ⟨_, Try.underlying42⟩, by kernel_rfl⟩
theorem zeroId : ZeroIs Try.prog 45 #[.slice none 0 0, .slice none 0 0] := by unfold ZeroIs; kernel_rfl
def slV (b n : Nat) : Value := .slice (some ⟨b, 0, none⟩) n n
theorem two_ok (v u : Value) (hv : v.oneCell' = true) (hu : u.oneCell' = true) : CellsOk #[v, u] 2 := ⟨rfl, by simp [hv, hu]⟩
theorem BIn.form {w : World} {v : Value} {n : Nat} {f : Nat → UInt8} (h : BIn w v n f) : ∃ A cap, v = .slice A n cap := by
  rcases h with ⟨rfl, rfl⟩ | ⟨a, cap, rfl, _⟩
  · exact ⟨none, 0, rfl⟩
  · exact ⟨some a, cap, rfl⟩
theorem szByteS_no (A : Option Addr) (n cap : Nat) (l : Int) (w : World) (hn : n ≤ 9223372036854775807) (hl0 : 0 ≤ l) (hl1 : l ≤ 1048576) (hlt : l < n) :
    Calls Try.prog 59 #[.slice A n cap, .int .i64 l] w fun e w' => e = .returned (.int .i64 (-1)) ∧ w = w' := by
  have h1 : l - (n : Int) < 0 := by omega
  go_enter Try.func59, Try.ntmps59
  go_wp2
  go_ret
  exact ⟨rfl, rfl⟩
theorem szByteS_yes (A : Option Addr) (n cap : Nat) (l z : Int) (w : World) (hl0 : 0 ≤ l) (hl1 : l ≤ 1048576) (hlt : n ≤ l) (hz : l - n = z) :
    Calls Try.prog 59 #[.slice A n cap, .int .i64 l] w fun e w' => e = .returned (.int .i64 z) ∧ w = w' := by
  have h1 : ¬ l - (n : Int) < 0 := by omega
  go_enter Try.func59, Try.ntmps59
  go_wp2
  go_ret
  exact ⟨by rw [← hz]; rfl, rfl⟩
set_option maxRecDepth 20000 in
/-- An identity of two lists that came in. -/
theorem szIdentity_big (A B : Option Addr) (n m c d : Nat) (l : Int) (w : World) (hl0 : 0 ≤ l) (hl1 : l ≤ 1048576) (hn : n ≤ 9223372036854775807) (hm : m ≤ 9223372036854775807) (h : l < n + m) :
    Calls Try.prog 22 #[.agg #[.slice A n c, .slice B m d], .int .i64 l] w fun e w' => e = .returned (.int .i64 (-1)) ∧ Below w.heap.size w w' := by
  have hH := Has.start1 w #[.slice A n c, .slice B m d] 42
  have c0 : (w.alloc (.cells #[.slice A n c, .slice B m d] 42)).cell? ⟨w.heap.size, 0, none⟩ = some (.slice A n c) := hH.c0 0
  have c1 : (w.alloc (.cells #[.slice A n c, .slice B m d] 42)).cell? ⟨w.heap.size, 1, none⟩ = some (.slice B m d) := hH.c0 1
  have HN := hid hn
  have HM := hid hm
  clear hn hm
  by_cases h1 : l < n
  · go_enter Try.func22, Try.ntmps22
    go_wp2_with (go_at_call 59; with_reducible refine (szByteS_no A n c l _ HN.out hl0 hl1 h1).mono ?_; rintro e w2 ⟨rfl, rfl⟩)
    go_ret
    exact ⟨rfl, hH.below⟩
  · obtain ⟨z, hz⟩ : ∃ z, l - (n : Int) = z := ⟨_, rfl⟩
    have g1 : (n : Int) ≤ l := by omega
    have g2 : z < (m : Int) := by omega
    have g3 : 0 ≤ z := by omega
    have g4 : z ≤ 1048576 := by omega
    have g5 : ¬ z < 0 := by omega
    have HZ := hid hz
    clear hz h1 h
    go_enter Try.func22, Try.ntmps22
    go_wp2_with (first | fail | (go_at_call 59; with_reducible refine (szByteS_yes A n c l z _ hl0 hl1 g1 HZ.out).mono ?_; rintro e w2 ⟨rfl, rfl⟩) | (go_at_call 59; with_reducible refine (szByteS_no B m d z _ HM.out g3 g4 g2).mono ?_; rintro e w2 ⟨rfl, rfl⟩))
    go_ret
    exact ⟨rfl, hH.below⟩
set_option maxRecDepth 20000 in
theorem szIdentity_ok (A B : Option Addr) (n m c d : Nat) (l : Int) (w : World) (hl0 : 0 ≤ l) (hl1 : l ≤ 1048576) (h : n + m ≤ l) :
    Calls Try.prog 22 #[.agg #[.slice A n c, .slice B m d], .int .i64 l] w fun e w' => ∃ z : Int, e = .returned (.int .i64 z) ∧ ¬ z < 0 ∧ Below w.heap.size w w' := by
  have hH := Has.start1 w #[.slice A n c, .slice B m d] 42
  have c0 : (w.alloc (.cells #[.slice A n c, .slice B m d] 42)).cell? ⟨w.heap.size, 0, none⟩ = some (.slice A n c) := hH.c0 0
  have c1 : (w.alloc (.cells #[.slice A n c, .slice B m d] 42)).cell? ⟨w.heap.size, 1, none⟩ = some (.slice B m d) := hH.c0 1
  obtain ⟨z, hz⟩ : ∃ z, l - (n : Int) = z := ⟨_, rfl⟩
  obtain ⟨y, hy⟩ : ∃ y, z - (m : Int) = y := ⟨_, rfl⟩
  have g1 : (n : Int) ≤ l := by omega
  have g2 : (m : Int) ≤ z := by omega
  have g3 : 0 ≤ z := by omega
  have g4 : z ≤ 1048576 := by omega
  have g5 : ¬ z < 0 := by omega
  have g6 : ¬ y < 0 := by omega
  have HZ := hid hz
  have HY := hid hy
  clear hz hy h
  go_enter Try.func22, Try.ntmps22
  go_wp2_with (first | fail | (go_at_call 59; with_reducible refine (szByteS_yes A n c l z _ hl0 hl1 g1 HZ.out).mono ?_; rintro e w2 ⟨rfl, rfl⟩) | (go_at_call 59; with_reducible refine (szByteS_yes B m d z y _ g3 g4 g2 HY.out).mono ?_; rintro e w2 ⟨rfl, rfl⟩))
  go_ret
  exact ⟨y, rfl, g6, hH.below⟩
/-- An identity in memory of one's own. -/
structure IdR (w : World) (b1 b2 n m : Nat) (f g : Nat → UInt8) : Prop where
  one : BRow w b1 n f
  two : BRow w b2 m g
theorem IdR.below {w w' : World} {b1 b2 n m : Nat} {f g : Nat → UInt8} (h : IdR w b1 b2 n m f g) (hb : Below w.heap.size w w') : IdR w' b1 b2 n m f g := ⟨h.one.below hb, h.two.below hb⟩
theorem IdR.drew {w : World} {b1 b2 n m : Nat} {f g : Nat → UInt8} (h : IdR w b1 b2 n m f g) : IdR w.drew b1 b2 n m f g := ⟨h.one.block rfl, h.two.block rfl⟩
def idV (b1 b2 n m : Nat) : Value := .agg #[slV b1 n, slV b2 m]
end Go.Proofs.Ytphninlinegbbac
