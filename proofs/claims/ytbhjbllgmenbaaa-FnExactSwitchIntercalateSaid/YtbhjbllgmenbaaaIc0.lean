/- Proved: lemmas on the list of all intercalates of a square, and how many they are at most, without any program. Conditions: those that each lemma names. -/
import Derived.Test.YtbhjbllgmenbaaaRg
import Derived.Test.YtbhjbllgmenbaaaIt
import Derived.Great.Walk
namespace Go.Proofs.Ytbhjbllgmenbaaa
set_option linter.unusedVariables false
set_option linter.unusedSimpArgs false
open Go.RowKit
/-- a, b, c, d are an intercalate. -/
def q4 (g : Nat → UInt8) (a b c d : Nat) : Bool := decide ((g (a * 10 + c)).toNat = (g (b * 10 + d)).toNat ∧ (g (a * 10 + d)).toNat = (g (b * 10 + c)).toNat)
abbrev LLs := List (List Int)
def four (a b c d : Nat) : List Int := [(a : Int), (b : Int), (c : Int), (d : Int)]
def dI (g : Nat → UInt8) (a b c : Nat) (acc : LLs) : Nat → LLs
  | 0 => acc
  | i + 1 => if q4 g a b c (c + 1 + i) then dI g a b c acc i ++ [four a b c (c + 1 + i)] else dI g a b c acc i
def cI (g : Nat → UInt8) (N a b : Nat) (acc : LLs) : Nat → LLs
  | 0 => acc
  | c + 1 => dI g a b c (cI g N a b acc c) (N - (c + 1))
def bI (g : Nat → UInt8) (N a : Nat) (acc : LLs) : Nat → LLs
  | 0 => acc
  | i + 1 => cI g N a (a + 1 + i) (bI g N a acc i) N
def aI (g : Nat → UInt8) (N : Nat) : Nat → LLs
  | 0 => []
  | a + 1 => bI g N a (aI g N a) (N - (a + 1))
theorem dI_yes {g : Nat → UInt8} {a b c i : Nat} {acc : LLs} (h : q4 g a b c (c + 1 + i) = true) : dI g a b c acc (i + 1) = dI g a b c acc i ++ [four a b c (c + 1 + i)] := by simp [dI, h]
theorem dI_no {g : Nat → UInt8} {a b c i : Nat} {acc : LLs} (h : q4 g a b c (c + 1 + i) = false) : dI g a b c acc (i + 1) = dI g a b c acc i := by simp [dI, h]
theorem row_one1 {g : Nat → UInt8} {N a d e : Nat} (h : IsSq N g) (ha : a < N) (hd : d < N) (he : e < N) (eq : (g (a * 10 + d)).toNat = (g (a * 10 + e)).toNat) : d = e := by
  have h1 := back_at (h.rows a ha) hd
  have h2 := back_at (h.rows a ha) he
  have e1 : (rowF g a d).toNat = (rowF g a e).toNat := eq
  rw [e1] at h1
  omega
/-- At most one column d goes with a, b and c. -/
theorem dI_len {g : Nat → UInt8} {N a b c : Nat} {acc : LLs} (h : IsSq N g) (ha : a < N) : ∀ i, c + 1 + i ≤ N → (dI g a b c acc i).length ≤ acc.length + 1 ∧ ((∀ j, j < i → q4 g a b c (c + 1 + j) = false) → (dI g a b c acc i).length = acc.length)
  | 0, _ => ⟨by simp [dI], fun _ => rfl⟩
  | i + 1, hi => by
    obtain ⟨h1, h2⟩ := dI_len (b := b) (c := c) (acc := acc) h ha i (by omega)
    cases hq : q4 g a b c (c + 1 + i) with
    | false =>
      rw [dI_no hq]
      exact ⟨h1, fun hn => h2 fun j hj => hn j (by omega)⟩
    | true =>
      have hn : ∀ j, j < i → q4 g a b c (c + 1 + j) = false := fun j hj => by
        cases hj2 : q4 g a b c (c + 1 + j) with
        | false => rfl
        | true =>
          have e1 := (of_decide_eq_true hq).2
          have e2 := (of_decide_eq_true hj2).2
          have := row_one1 h ha (show c + 1 + j < N by omega) (show c + 1 + i < N by omega) (by rw [e1, e2])
          omega
      rw [dI_yes hq]
      refine ⟨?_, fun hn2 => ?_⟩
      · rw [List.length_append, h2 hn]; simp
      · rw [hn2 i (by omega)] at hq; cases hq
theorem cI_len {g : Nat → UInt8} {N a b : Nat} {acc : LLs} (h : IsSq N g) (ha : a < N) : ∀ k, k ≤ N → (cI g N a b acc k).length ≤ acc.length + k
  | 0, _ => by simp [cI]
  | k + 1, hk => by
    have h1 := cI_len (b := b) (acc := acc) h ha k (by omega)
    have h2 := (dI_len (b := b) (c := k) (acc := cI g N a b acc k) h ha (N - (k + 1)) (by omega)).1
    show (dI g a b k (cI g N a b acc k) (N - (k + 1))).length ≤ _
    omega
theorem bI_len {g : Nat → UInt8} {N a : Nat} {acc : LLs} (h : IsSq N g) (ha : a < N) : ∀ i, (bI g N a acc i).length ≤ acc.length + 10 * i
  | 0 => by simp [bI]
  | i + 1 => by
    have h1 := bI_len (acc := acc) h ha i
    have h2 := cI_len (b := a + 1 + i) (acc := bI g N a acc i) h ha N (Nat.le_refl _)
    have h3 := h.hi
    show (cI g N a (a + 1 + i) (bI g N a acc i) N).length ≤ _
    omega
theorem aI_len {g : Nat → UInt8} {N : Nat} (h : IsSq N g) : ∀ k, k ≤ N → (aI g N k).length ≤ 90 * k
  | 0, _ => by simp [aI]
  | k + 1, hk => by
    have h1 := aI_len h k (by omega)
    have h2 := bI_len (acc := aI g N k) h (show k < N by omega) (N - (k + 1))
    have h3 := h.hi
    show (bI g N k (aI g N k) (N - (k + 1))).length ≤ _
    omega
def getLL (acc : LLs) : Nat → List Int := fun j => acc.getD j []
theorem getLL_app {acc : LLs} {x : List Int} {j : Nat} (h : j < acc.length) : getLL (acc ++ [x]) j = getLL acc j := by
  unfold getLL; rw [List.getD_eq_getElem?_getD, List.getD_eq_getElem?_getD, List.getElem?_append_left h]
theorem getLL_new {acc : LLs} {x : List Int} : getLL (acc ++ [x]) acc.length = x := by
  unfold getLL; simp [List.getD_eq_getElem?_getD]
theorem mem_dI {g : Nat → UInt8} {a b c : Nat} {acc : LLs} {x : List Int} (h : ∀ x ∈ acc, x.length = 4) : ∀ i, x ∈ dI g a b c acc i → x.length = 4
  | 0, hx => h x hx
  | i + 1, hx => by
    cases hq : q4 g a b c (c + 1 + i) with
    | false => rw [dI_no hq] at hx; exact mem_dI h i hx
    | true =>
      rw [dI_yes hq, List.mem_append, List.mem_singleton] at hx
      rcases hx with hx | hx
      · exact mem_dI h i hx
      · rw [hx]; rfl
theorem mem_cI {g : Nat → UInt8} {N a b : Nat} {acc : LLs} (h : ∀ x ∈ acc, x.length = 4) : ∀ k, ∀ x ∈ cI g N a b acc k, x.length = 4
  | 0, x, hx => h x hx
  | k + 1, x, hx => mem_dI (mem_cI h k) _ hx
theorem mem_bI {g : Nat → UInt8} {N a : Nat} {acc : LLs} (h : ∀ x ∈ acc, x.length = 4) : ∀ k, ∀ x ∈ bI g N a acc k, x.length = 4
  | 0, x, hx => h x hx
  | k + 1, x, hx => mem_cI (mem_bI h k) N x hx
theorem mem_aI {g : Nat → UInt8} {N : Nat} : ∀ k, ∀ x ∈ aI g N k, x.length = 4
  | 0, x, hx => by cases hx
  | k + 1, x, hx => mem_bI (mem_aI k) _ x hx
theorem getLL_len {g : Nat → UInt8} {N k j : Nat} : (getLL (aI g N k) j).length ≤ 4 := by
  unfold getLL
  rw [List.getD_eq_getElem?_getD]
  cases h : (aI g N k)[j]? with
  | none => simp
  | some x => simpa using Nat.le_of_eq (mem_aI k x (List.mem_of_getElem? h))
theorem builtI4 (a b c d : Int) : (Try.prog).builtSlice 2 4 [(0, Value.int .i64 a), (1, Value.int .i64 b), (2, Value.int .i64 c), (3, Value.int .i64 d)] = some #[.int .i64 a, .int .i64 b, .int .i64 c, .int .i64 d] := by kernel_rfl
section
variable {ops : Array Oper} {rest : List Oper} {o : Oper} {a : Act} {w : World} {Q : Exit → Act → World → Prop}
theorem wpL_slice4 {p q r s : Operand} {x y u v : Int} (hgd : o.guard = none) (ho : o.op = .buildSlice 26 4 #[(0, p), (1, q), (2, r), (3, s)]) (hp : a.eval p = .int .i64 x) (hq : a.eval q = .int .i64 y) (hr : a.eval r = .int .i64 u) (hs : a.eval s = .int .i64 v)
    (h : wpList Try.prog ops Q rest (a.put o.dst (.slice (some ⟨w.heap.size, 0, none⟩) 4 4)) (w.alloc (.cells #[.int .i64 x, .int .i64 y, .int .i64 u, .int .i64 v] 2))) : wpList Try.prog ops Q (o :: rest) a w := by
  refine Great.wpList_buildSliceTo hgd 26 2 4 _ ho _ rfl o.dst rfl Try.underlying26 #[.int .i64 x, .int .i64 y, .int .i64 u, .int .i64 v] ?_ h
  have hh : ((#[(0, p), (1, q), (2, r), (3, s)] : Array (Nat × Operand)).map fun (i, x) => (i, a.eval x)).toList = [(0, Value.int .i64 x), (1, Value.int .i64 y), (2, Value.int .i64 u), (3, Value.int .i64 v)] := by simp [hp, hq, hr, hs]
  rw [hh]
  exact builtI4 x y u v
end
theorem IL_four (w : World) (a b c d : Nat) : IL (w.alloc (.cells #[.int .i64 (a : Nat), .int .i64 (b : Nat), .int .i64 (c : Nat), .int .i64 (d : Nat)] 2)) w.heap.size (w.heap.size + 1) (.slice (some ⟨w.heap.size, 0, none⟩) 4 4) (four a b c d) := by
  refine .inr ⟨w.heap.size, 4, rfl, Nat.le_refl _, by omega, ⟨_, holds_new _ _ _, by simp [four], fun i hi => ?_⟩⟩
  have : i = 0 ∨ i = 1 ∨ i = 2 ∨ i = 3 := by simp [four] at hi; omega
  rcases this with rfl | rfl | rfl | rfl <;> rfl
end Go.Proofs.Ytbhjbllgmenbaaa
