/- Proved: lemmas on the cycles of two rows, what slices.Sort does to a few numbers, and what RowCycles and IsRowHamiltonian return, of program and model alike. Conditions: those that each theorem names. -/
import Derived.Test.YtbhjbllgmenbaaaPm
import Derived.Test.YtbhjbllgmenbaaaPw
import Derived.Test.YtbhjbllgmenbaaaSel
import Derived.Test.YtbhjbllgmenbaaaReg
import Derived.IntWalk
import Derived.Test.YtbhjbllgmenbaaaShelf
import Derived.Test.YtbhjbllgmenbaaaBase
import Derived.Test.YtbhjbllgmenbaaaIt
import Derived.Test.YtbhjbllgmenbaaaNu
import Derived.Test.YtbhjbllgmenbaaaPi
import Derived.Test.YtbhjbllgmenbaaaSq3b
import Derived.Test.YtbhjbllgmenbaaaSq5
import Derived.Test.YtbhjbllgmenbaaaSr
import Derived.Test.YtbhjbllgmenbaaaPl3
import Derived.Test.YtbhjbllgmenbaaaEc
import Derived.Test.YtbhjbllgmenbaaaIl3
import Derived.ArgAppend
import Derived.Test.YtbhjbllgmenbaaaSb1
import Derived.Test.YtbhjbllgmenbaaaLx
namespace Go.Proofs.Ytbhjbllgmenbaaa
set_option linter.unusedVariables false
set_option linter.unusedSimpArgs false
open Go.RowKit
/-- f is a permutation of the numbers before N. -/
structure Pmt (N : Nat) (f : Nat → Nat) : Prop where
  lt : ∀ x, x < N → f x < N
  inj : ∀ x y, x < N → y < N → f x = f y → x = y
def it (f : Nat → Nat) (c : Nat) : Nat → Nat
  | 0 => c
  | k + 1 => f (it f c k)
section
variable {N c : Nat} {f : Nat → Nat}
theorem it_lt (h : Pmt N f) (hc : c < N) : ∀ k, it f c k < N
  | 0 => hc
  | k + 1 => h.lt _ (it_lt h hc k)
theorem it_back (h : Pmt N f) (hc : c < N) (d : Nat) : ∀ i, it f c (i + d) = it f c i → it f c d = c
  | 0, e => by rw [Nat.zero_add] at e; exact e
  | i + 1, e => by
    rw [show i + 1 + d = (i + d) + 1 by omega] at e
    exact it_back h hc d i (h.inj _ _ (it_lt h hc _) (it_lt h hc _) e)
/-- t is the number of elements of the cycle of c. -/
structure Cyc (N : Nat) (f : Nat → Nat) (c t : Nat) : Prop where
  pos : 0 < t
  le : t ≤ N
  back : it f c t = c
  far : ∀ i, 0 < i → i < t → it f c i ≠ c
theorem cyc_ex (h : Pmt N f) (hc : c < N) : ∃ t, Cyc N f c t := by
  have hex : ∃ m, 0 < m ∧ m ≤ N ∧ it f c m = c := by
    by_cases hd : ∀ i j, i < j → j < N → it f c (i + 1) ≠ it f c (j + 1)
    · obtain ⟨i, hi, e⟩ := pigeon N (fun i => it f c (i + 1)) (fun i _ => it_lt h hc _) hd c hc
      exact ⟨i + 1, by omega, by omega, e⟩
    · have : ∃ i j, i < j ∧ j < N ∧ it f c (i + 1) = it f c (j + 1) := by
        refine Classical.byContradiction fun hn => hd fun i j hij hj e => hn ⟨i, j, hij, hj, e⟩
      obtain ⟨i, j, hij, hj, e⟩ := this
      refine ⟨j - i, by omega, by omega, it_back h hc (j - i) (i + 1) ?_⟩
      rw [show i + 1 + (j - i) = j + 1 by omega]
      exact e.symm
  obtain ⟨m, hm0, hmN, hm⟩ := hex
  obtain ⟨t, ht1, ⟨ht2, ht3⟩, ht4⟩ := least (fun m => 0 < m ∧ it f c m = c) m ⟨hm0, hm⟩
  exact ⟨t, ht2, by omega, ht3, fun i hi hit e => ht4 i hit ⟨hi, e⟩⟩
theorem Cyc.ne {t : Nat} (hC : Cyc N f c t) (h : Pmt N f) (hc : c < N) {i j : Nat} (hij : i < j) (hj : j < t) : it f c i ≠ it f c j := fun e => by
  refine hC.far (j - i) (by omega) (by omega) (it_back h hc (j - i) i ?_)
  rw [show i + (j - i) = j by omega]; exact e.symm
/-- z is one of the first k elements of the cycle. -/
noncomputable def inO (f : Nat → Nat) (c k z : Nat) : Bool := @decide (∃ i, i < k ∧ it f c i = z) (Classical.propDecidable _)
theorem inO_iff {k z : Nat} : inO f c k z = true ↔ ∃ i, i < k ∧ it f c i = z := by
  unfold inO
  exact @decide_eq_true_iff _ (Classical.propDecidable _)
theorem inO_false {k z : Nat} : inO f c k z = false ↔ ∀ i, i < k → it f c i ≠ z := by
  rw [← Bool.not_eq_true, inO_iff]
  constructor
  · intro h i hi e; exact h ⟨i, hi, e⟩
  · rintro h ⟨i, hi, e⟩; exact h i hi e
theorem inO_zero (f : Nat → Nat) (c : Nat) : inO f c 0 = fun _ => false := by
  funext z; rw [inO_false]; intro i hi; omega
theorem inO_succ (f : Nat → Nat) (c k : Nat) (j : Nat) : inO f c (k + 1) j = if j = it f c k then true else inO f c k j := by
  by_cases e : j = it f c k
  · rw [if_pos e, inO_iff]; exact ⟨k, by omega, e.symm⟩
  · rw [if_neg e]
    cases hb : inO f c k j with
    | true =>
      obtain ⟨i, hi, e2⟩ := inO_iff.1 hb
      exact inO_iff.2 ⟨i, by omega, e2⟩
    | false =>
      rw [inO_false] at hb ⊢
      intro i hi e2
      by_cases c2 : i = k
      · subst c2; exact e e2.symm
      · exact hb i (by omega) e2
theorem Cyc.fresh {t k : Nat} (hC : Cyc N f c t) (h : Pmt N f) (hc : c < N) (hk : k < t) : inO f c k (it f c k) = false :=
  inO_false.2 fun _ hi => hC.ne h hc hi hk
theorem Cyc.full {t : Nat} (hC : Cyc N f c t) : inO f c t (it f c t) = true := inO_iff.2 ⟨0, hC.pos, hC.back.symm⟩
/-- The elements of the cycle are the images of all powers. -/
theorem Cyc.all {t : Nat} (hC : Cyc N f c t) : ∀ k, inO f c t (it f c k) = true
  | 0 => inO_iff.2 ⟨0, hC.pos, rfl⟩
  | k + 1 => by
    obtain ⟨i, hi, e⟩ := inO_iff.1 (hC.all k)
    show inO f c t (f (it f c k)) = true
    rw [← e]
    by_cases h : i + 1 = t
    · rw [show f (it f c i) = it f c (i + 1) from rfl, h]; exact hC.full
    · exact inO_iff.2 ⟨i + 1, by omega, rfl⟩
theorem Cyc.lt {t z : Nat} (_ : Cyc N f c t) (h : Pmt N f) (hc : c < N) (hz : inO f c t z = true) : z < N := by
  obtain ⟨i, _, e⟩ := inO_iff.1 hz
  rw [← e]; exact it_lt h hc i
theorem Cyc.uniq {t t' : Nat} (h1 : Cyc N f c t) (h2 : Cyc N f c t') : t = t' := by
  rcases Nat.lt_trichotomy t t' with h | h | h
  · exact absurd h1.back (h2.far t h1.pos h)
  · exact h
  · exact absurd h2.back (h1.far t' h2.pos h)
/-- The number of the cycle's element z. -/
noncomputable def idxO (f : Nat → Nat) (c t z : Nat) : Nat := @dite Nat (∃ i, i < t ∧ it f c i = z) (Classical.propDecidable _) (fun h => Classical.choose h) (fun _ => 0)
theorem Cyc.idx {t i : Nat} (hC : Cyc N f c t) (h : Pmt N f) (hc : c < N) (hi : i < t) : idxO f c t (it f c i) = i := by
  unfold idxO
  have hx : ∃ j, j < t ∧ it f c j = it f c i := ⟨i, hi, rfl⟩
  rw [dif_pos hx]
  obtain ⟨h1, h2⟩ := Classical.choose_spec hx
  generalize Classical.choose hx = j at h1 h2
  rcases Nat.lt_trichotomy j i with h3 | h3 | h3
  · exact absurd h2 (hC.ne h hc h3 hi)
  · exact h3
  · exact absurd h2.symm (hC.ne h hc h3 h1)
/-- What is left of the way around the cycle: before the first step all, behind the last one nothing. -/
noncomputable def leftO (f : Nat → Nat) (c t : Nat) (fresh : Bool) (y : Nat) : Nat := if fresh then t + 1 else if y = c then 0 else t - idxO f c t y
theorem Cyc.left {t k : Nat} (hC : Cyc N f c t) (h : Pmt N f) (hc : c < N) (hk : k ≤ t) : leftO f c t (decide (k = 0)) (it f c k) = if k = 0 then t + 1 else t - k := by
  unfold leftO
  by_cases h0 : k = 0
  · simp [h0]
  · simp only [h0, decide_false, Bool.false_eq_true, if_false]
    by_cases hkt : k = t
    · rw [hkt, hC.back, if_pos rfl]; omega
    · rw [if_neg (hC.far k (by omega) (by omega)), hC.idx h hc (by omega)]
theorem Cyc.less {t k : Nat} (hC : Cyc N f c t) (h : Pmt N f) (hc : c < N) (hk : k < t) : leftO f c t false (it f c (k + 1)) < leftO f c t (decide (k = 0)) (it f c k) := by
  have h1 := hC.left h hc (k := k) (by omega)
  have h2 := hC.left h hc (k := k + 1) (by omega)
  simp only [Nat.add_one_ne_zero, decide_false, if_false] at h2
  rw [h1, h2]
  split <;> omega
end
end Go.Proofs.Ytbhjbllgmenbaaa
namespace Go.Proofs.Ytbhjbllgmenbaaa
set_option linter.unusedVariables false
set_option linter.unusedSimpArgs false
open Go.RowKit
theorem asc_uniq : ∀ {l l' : List Int}, l.Pairwise (· ≤ ·) → l'.Pairwise (· ≤ ·) → l.Perm l' → l = l'
  | [], l', _, _, h => h.nil_eq
  | a :: l, [], _, _, h => by have := h.length_eq; simp at this
  | a :: l, b :: l', h1, h2, h => by
    obtain ⟨a1, a2⟩ := List.pairwise_cons.1 h1
    obtain ⟨b1, b2⟩ := List.pairwise_cons.1 h2
    have ma : a ∈ b :: l' := h.subset (List.mem_cons_self)
    have mb : b ∈ a :: l := h.symm.subset (List.mem_cons_self)
    have e : a = b := by
      rcases List.mem_cons.1 ma with e | ma
      · exact e
      · rcases List.mem_cons.1 mb with e | mb
        · exact e.symm
        · have := b1 a ma
          have := a1 b mb
          omega
    subst e
    rw [asc_uniq a2 b2 (List.Perm.cons_inv h)]
/-- What stands ahead of the element on its way is not greater, or not yet compared; what stands behind it is greater. -/
theorem ins_asc {A B : List Int} {x : Int} (h : (A ++ B).Pairwise (· ≤ ·)) (hA : ∀ y, A.getLast? = some y → y ≤ x) (hB : ∀ y, y ∈ B → x < y) : (A ++ x :: B).Pairwise (· ≤ ·) := by
  rw [List.pairwise_append] at h ⊢
  obtain ⟨h1, h2, h3⟩ := h
  have hAx : ∀ y, y ∈ A → y ≤ x := by
    intro y hy
    rcases List.eq_nil_or_concat A with e | ⟨A', z, e⟩
    · subst e; cases hy
    · subst e
      have hz : z ≤ x := hA z (by simp)
      rw [List.concat_eq_append] at h1 hy
      rw [List.pairwise_append] at h1
      rcases List.mem_append.1 hy with m | m
      · have := h1.2.2 y m z (by simp); omega
      · simp at m; omega
  refine ⟨h1, List.pairwise_cons.2 ⟨fun y hy => by have := hB y hy; omega, h2⟩, fun a ha b hb => ?_⟩
  rcases List.mem_cons.1 hb with e | hb
  · subst e; exact hAx a ha
  · exact h3 a ha b hb
theorem selL_asc (p : Nat → Bool) (k : Nat) : (selL p k).Pairwise (· < ·) := by
  unfold selL
  rw [List.pairwise_map]
  refine List.Pairwise.imp (R := (· < ·)) (fun h => by omega) ?_
  exact List.Pairwise.filter _ List.pairwise_lt_range
theorem selL_mem {p : Nat → Bool} {k : Nat} {z : Int} : z ∈ selL p k ↔ ∃ j : Nat, z = j ∧ j < k ∧ p j = true := by
  unfold selL
  rw [List.mem_map]
  constructor
  · rintro ⟨j, hj, e⟩
    rw [List.mem_filter, List.mem_range] at hj
    exact ⟨j, e.symm, hj.1, hj.2⟩
  · rintro ⟨j, e, h1, h2⟩
    exact ⟨j, List.mem_filter.2 ⟨List.mem_range.2 h1, h2⟩, e.symm⟩
/-- A sorted list of different numbers is that of the numbers that are in it. -/
theorem asc_sel {l l' : List Int} {p : Nat → Bool} {k : Nat} (hs : l'.Pairwise (· ≤ ·)) (hp : l'.Perm l) (hn : l.Nodup) (hm : ∀ z, z ∈ l ↔ ∃ j : Nat, z = j ∧ j < k ∧ p j = true) : l' = selL p k := by
  have h1 := selL_asc p k
  refine asc_uniq hs (List.Pairwise.imp (fun h => by omega) h1) ?_
  refine hp.trans ((List.perm_ext_iff_of_nodup hn (List.Pairwise.imp (fun h => by omega) h1)).2 fun z => ?_)
  rw [hm, selL_mem]
/-- Each number from 1 to m as often as c tells. -/
def byCnt (c : Nat → Nat) : Nat → List Int
  | 0 => []
  | m + 1 => byCnt c m ++ List.replicate (c (m + 1)) ((m + 1 : Nat) : Int)
theorem byCnt_le (c : Nat → Nat) : ∀ m (z : Int), z ∈ byCnt c m → 1 ≤ z ∧ z ≤ m
  | 0, z, h => by cases h
  | m + 1, z, h => by
    rcases List.mem_append.1 h with h | h
    · have := byCnt_le c m z h; omega
    · have := (List.mem_replicate.1 h).2; omega
theorem byCnt_asc (c : Nat → Nat) : ∀ m, (byCnt c m).Pairwise (· ≤ ·)
  | 0 => List.Pairwise.nil
  | m + 1 => by
    show (byCnt c m ++ _).Pairwise _
    rw [List.pairwise_append]
    refine ⟨byCnt_asc c m, ?_, fun a ha b hb => ?_⟩
    · rw [List.pairwise_replicate]; right; omega
    · have := byCnt_le c m a ha
      have := (List.mem_replicate.1 hb).2
      omega
theorem byCnt_count (c : Nat → Nat) (z : Int) : ∀ m, (byCnt c m).count z = if 1 ≤ z ∧ z ≤ m then c z.toNat else 0
  | 0 => by rw [if_neg (by omega)]; rfl
  | m + 1 => by
    show (byCnt c m ++ _).count z = _
    rw [List.count_append, byCnt_count c z m, List.count_replicate]
    by_cases e : ((m + 1 : Nat) : Int) = z
    · subst e
      rw [if_neg (by omega), if_pos (beq_self_eq_true _), if_pos (by omega), Nat.zero_add]
      rfl
    · have e2 : (((m + 1 : Nat) : Int) == z) = false := by simpa using e
      rw [e2, if_neg Bool.false_ne_true, Nat.add_zero]
      by_cases h : 1 ≤ z ∧ z ≤ m
      · rw [if_pos h, if_pos (by omega)]
      · rw [if_neg h, if_neg (by omega)]
/-- A sorted list of numbers from 1 to m is that of their counts. -/
theorem asc_byCnt {l l' : List Int} {m : Nat} {c : Nat → Nat} (hs : l'.Pairwise (· ≤ ·)) (hp : l'.Perm l) (hl : ∀ z, z ∈ l → 1 ≤ z ∧ z ≤ m) (hc : ∀ k : Nat, 1 ≤ k → k ≤ m → l.count (k : Int) = c k) : l' = byCnt c m := by
  refine asc_uniq hs (byCnt_asc c m) (hp.trans (List.perm_iff_count.2 fun z => ?_))
  rw [byCnt_count]
  by_cases h : 1 ≤ z ∧ z ≤ m
  · rw [if_pos h]
    have := hc z.toNat (by omega) (by omega)
    rwa [show ((z.toNat : Nat) : Int) = z by omega] at this
  · rw [if_neg h]
    exact List.count_eq_zero.2 fun hz => h (hl z hz)
end Go.Proofs.Ytbhjbllgmenbaaa
namespace Go.Proofs.Ytbhjbllgmenbaaa
set_option linter.unusedVariables false
set_option linter.unusedSimpArgs false
open Go.RowKit
theorem imp_not {p q : Bool} (h : p = true → q = true) (hq : q = false) : p = false := by
  cases p with
  | false => rfl
  | true => rw [h rfl] at hq; cases hq
/-- Block g begins with the numbers l. -/
def RowL (w : World) (g : Nat) (l : List Int) : Prop := Row w g l.length (fun i => l.getD i 0)
section
variable {w w' : World} {g : Nat} {l l' A B : List Int} {x y : Int}
theorem RowL.cell (h : RowL w g l) {i : Nat} (hi : i < l.length) : w.cell? ⟨g, i, none⟩ = some (.int .i64 (l.getD i 0)) := Row.cell h hi
theorem RowL.frozen (h : RowL w g l) (i : Nat) : w.frozen? ⟨g, i, none⟩ = false := Row.frozen h i
theorem RowL.block (h : RowL w g l) (e : w'.heap[g]? = w.heap[g]?) : RowL w' g l := Row.block h e
theorem RowL.mid (h : RowL w g (A ++ x :: B)) : w.cell? ⟨g, A.length, none⟩ = some (.int .i64 x) := by
  rw [h.cell (by simp)]; simp [List.getD]
theorem RowL.put {z : Int} (h : RowL w g (A ++ x :: B)) : RowL (w.setCell ⟨g, A.length, none⟩ (.int .i64 z)) g (A ++ z :: B) := by
  have hl : (A ++ z :: B).length = (A ++ x :: B).length := by simp
  unfold RowL at *
  rw [hl]
  refine Row.set h A.length z _ fun i hi => ?_
  by_cases e : i = A.length
  · subst e; simp [List.getD]
  · rw [if_neg e]
    by_cases hlt : i < A.length
    · simp [List.getD, List.getElem?_append_left hlt]
    · obtain ⟨m, rfl⟩ : ∃ m, i = A.length + (m + 1) := ⟨i - A.length - 1, by omega⟩
      simp [List.getD, List.getElem?_append_right]
theorem RowL.two (h : RowL w g (A ++ y :: x :: B)) : w.cell? ⟨g, A.length + 1, none⟩ = some (.int .i64 x) := by
  rw [h.cell (by simp)]; simp [List.getD, List.getElem?_append_right]
theorem RowL.put2 {z : Int} (h : RowL w g (A ++ y :: x :: B)) : RowL (w.setCell ⟨g, A.length + 1, none⟩ (.int .i64 z)) g (A ++ y :: z :: B) := by
  have h2 : RowL w g ((A ++ [y]) ++ x :: B) := by rw [List.append_assoc]; exact h
  have := h2.put (z := z)
  rw [List.append_assoc, List.length_append] at this
  exact this
theorem swap_perm : (A ++ x :: y :: B).Perm (A ++ y :: x :: B) := List.Perm.append_left A (List.Perm.swap y x B)
end
theorem pick_ff {p q : Bool} {w : World} {g : Nat} {a b c : List Int} (hq : q = false) (hp : p = false) (h : RowL w g (bif q then a else bif p then b else c)) : RowL w g c := by subst hq hp; exact h
theorem pick_f {q : Bool} {w : World} {g : Nat} {a c : List Int} (hq : q = false) (h : RowL w g (bif q then a else c)) : RowL w g c := by subst hq; exact h
theorem pick_t {p : Bool} {w : World} {g : Nat} {b c : List Int} (hp : p = true) (h : RowL w g (bif p then b else c)) : RowL w g b := by subst hp; exact h
theorem less64_any (x y : Int) (w : World) : Calls Try.prog 151 #[.int .i64 x, .int .i64 y] w fun e w' => e = .returned (.bool (decide (x < y))) ∧ w' = w := by
  go_enter Try.func151, Try.ntmps151
  go_wp2
  go_ret
  exact ⟨by simp, rfl⟩
set_option maxRecDepth 20000 in
set_option maxHeartbeats 4000000 in
theorem insertionSort64_any (g n c : Nat) (l : List Int) (w : World) (hl : l.length = n) (hn : n ≤ 100) (h : RowL w g l) :
    Calls Try.prog 145 #[.slice (some ⟨g, 0, none⟩) n c, .int .i64 0, .int .i64 n] w fun e w' => e = .returned (.tuple #[]) ∧ w.grownBy w' (some g) ∧ ∃ l', l'.Perm l ∧ l'.Pairwise (· ≤ ·) ∧ RowL w' g l' := by
  have hG := hid (grown_refl w (some g))
  have hn100 : (n : Int) ≤ 100 := by omega
  go_enter Try.func145, Try.ntmps145
  go_wp2
  go_loopw [6] (fun i wr => ∃ (k : Nat) (S R : List Int), i = .int .i64 k ∧ k ≤ 101 ∧ Hid (w.grownBy wr (some g)) ∧ Hid (RowL wr g (S ++ R)) ∧ Hid (S.Pairwise (· ≤ ·)) ∧ Hid ((S ++ R).Perm l) ∧ (S.length = k ∨ (R = [] ∧ n ≤ k))) (fun i _ => 200 - (intOf i).toNat)
  case atStart =>
    refine ⟨1, l.take 1, l.drop 1, rfl, by omega, hG, hid (by rw [List.take_append_drop]; exact h), hid ?_, hid (by rw [List.take_append_drop]), ?_⟩
    · cases l with
      | nil => exact List.Pairwise.nil
      | cons a l => exact List.pairwise_singleton _ _
    · cases l with
      | nil => right; simp at hl; exact ⟨rfl, by omega⟩
      | cons a l => left; simp
  case round =>
    clear hG h
    obtain ⟨k, S, R, rfl, hk, hG, hR, hS, hP, hkk⟩ := hrel
    have hlen : S.length + R.length = n := by have := hP.out.length_eq; simp at this; omega
    by_cases hlt : k < n
    · have hSk : S.length = k := by
        rcases hkk with h | ⟨_, h⟩
        · exact h
        · omega
      have hkn : (k : Int) < n := by omega
      obtain ⟨x, R', hRx⟩ : ∃ x R', R = x :: R' := by
        cases R with
        | nil => simp at hlen; omega
        | cons x R' => exact ⟨x, R', rfl⟩
      subst hRx
      have HLen := hid hlen
      clear hkk hlen
      go_wp2
      go_loopw [7] (fun j wr => ∃ (A B : List Int) (m : Nat), j = .int .i64 m ∧ A.length = m ∧ m ≤ k ∧ Hid (A.length + B.length = k) ∧ Hid (w.grownBy wr (some g)) ∧ Hid (RowL wr g (A ++ x :: (B ++ R'))) ∧ Hid ((A ++ B).Pairwise (· ≤ ·)) ∧ Hid (∀ z, z ∈ B → x < z) ∧ Hid ((A ++ x :: (B ++ R')).Perm l)) (fun j _ => (intOf j).toNat)
      case atStart => exact ⟨S, [], k, rfl, hSk, Nat.le_refl _, hid (by simp [hSk]), hG, hR, hid (by rw [List.append_nil]; exact hS.out), hid (fun z hz => by cases hz), hP⟩
      case round =>
        clear hG hR hS hP
        obtain ⟨A, B, m, rfl, hAm, hmk, hAB, hG, hR, hS, hB, hP⟩ := hrel
        have cm := hR.out.mid
        rw [hAm] at cm
        have hm100 : (m : Int) ≤ 100 := by omega
        have hmn : (m : Int) < n := by omega
        by_cases hm0 : m = 0
        · have hA : A = [] := List.length_eq_zero_iff.1 (by omega)
          subst hA
          subst hm0
          have HD : (x :: B).Pairwise (· ≤ ·) := List.pairwise_cons.2 ⟨fun z hz => by have := hB.out z hz; omega, hS.out⟩
          have HD2 := hid HD
          clear HD
          go_wp2
          go_quiet (fail)
          go_wp2
          go_roundw
          case rel => exact ⟨k + 1, x :: B, R', by go_num, by omega, hid ⟨hG.out.os, hG.out.tape, hG.out.output, hG.out.size, hG.out.block⟩, hid (hR.out.block rfl), HD2, hP, .inl (by have := hAB.out; simp at this ⊢; omega)⟩
          case measure => simp [intOf]; omega
        · obtain ⟨j, rfl⟩ : ∃ j, m = j + 1 := ⟨m - 1, by omega⟩
          obtain ⟨A', y, hA⟩ : ∃ A' y, A = A' ++ [y] := by
            rcases List.eq_nil_or_concat A with e | ⟨A', y, e⟩
            · subst e; simp at hAm
            · exact ⟨A', y, by rw [e, List.concat_eq_append]⟩
          subst hA
          have hA' : A'.length = j := by simpa using hAm
          have hR1 := hR.out
          rw [List.append_assoc, List.singleton_append] at hR1
          have cy := hR1.mid
          rw [hA'] at cy
          have e1 : IntKind.i64.wrap (((j + 1 : Nat) : Int) - 1) = (j : Int) := by rw [IntWalk.i64_in _ (by omega)]; first | done | omega
          have hj0 : (((j + 1 : Nat) : Int)) > 0 := by omega
          have hjn : (j : Int) < n := by omega
          have hLess := less64_any x y
          by_cases hxy : x < y
          · have hLt : ∀ w, Calls Try.prog 151 #[.int .i64 x, .int .i64 y] w fun e w' => e = .returned (.bool true) ∧ w' = w := fun w => by have := hLess w; rwa [decide_eq_true hxy] at this
            have HR1 := hid hR1
            have HXY := hid hxy
            have HA' := hid hA'
            clear hLess hR1 hR hxy hA'
            go_wp2
            go_quiet ((go_at_call 151; exact Calls.quiet_of_same (hLt _)))
            obtain ⟨wd, hwd⟩ : ∃ q, wr.drewN nq = q := ⟨_, rfl⟩
            have hR : Hid (RowL wd g (A' ++ y :: x :: (B ++ R'))) := by rw [← hwd]; exact hid (HR1.out.block rfl)
            replace hG : Hid (w.grownBy wd (some g)) := by rw [← hwd]; exact hid ⟨hG.out.os, hG.out.tape, hG.out.output, hG.out.size, hG.out.block⟩
            rw [hwd]
            clear hwd cm cy
            go_wp2
            have HF1 := hid hj0
            refine wp_region_frame (X := Unit) (fun d _ => [(33, bif d 0 then .slice (some ⟨g, 0, none⟩) n c else u33), (34, bif d 1 then .int .i64 (j + 1 : Nat) else u34), (35, bif d 2 then .slice (some ⟨g, 0, none⟩) n c else u35), (36, bif d 3 then .int .i64 (j + 1 : Nat) else u36), (37, bif d 4 then .int .i64 (j : Nat) else u37), (38, bif d 5 then .slice (some ⟨g, 0, none⟩) n c else u38), (39, bif d 6 then .int .i64 (j + 1 : Nat) else u39), (40, bif d 7 then .int .i64 (j : Nat) else u40), (41, bif d 8 then .pointer (some ⟨g, j, none⟩) else u41), (42, bif d 9 then .int .i64 y else u42), (43, bif d 10 then .slice (some ⟨g, 0, none⟩) n c else u43), (44, bif d 11 then .int .i64 (j + 1 : Nat) else u44), (45, bif d 12 then .pointer (some ⟨g, j + 1, none⟩) else u45), (46, bif d 13 then .int .i64 x else u46), (47, bif d 14 then .pointer (some ⟨g, j + 1, none⟩) else u47), (48, bif d 16 then .pointer (some ⟨g, j, none⟩) else u48)])
              (fun d _ w' => Hid (w.grownBy w' (some g)) ∧ Hid (RowL w' g (bif d 17 then A' ++ x :: y :: (B ++ R') else bif d 15 then A' ++ y :: y :: (B ++ R') else A' ++ y :: x :: (B ++ R'))) ∧ (d 15 = true → d 9 = true) ∧ (d 15 = true → d 13 = true) ∧ (d 17 = true → d 15 = true)) (by kernel_rfl) (by kernel_rfl) ?h0_sw ?hs_sw ?hq_sw
            case h0_sw => exact ⟨(), (by simp [lput]), hid ⟨hG.out.os, hG.out.tape, hG.out.output, hG.out.size, hG.out.block⟩, hid (hR.out.block rfl), (fun h => by cases h), (fun h => by cases h), (fun h => by cases h)⟩
            case hs_sw =>
              refine ⟨?_, ?_, ?_, ?_, ?_, ?_, ?_, ?_, ?_, ?_, ?_, ?_, ?_, ?_, ?_, ?_, ?_, ?_, trivial⟩
              all_goals
                clear hG hR
                intro d _ w1 hd hn hJ
                simp only [needs, Region.binds, reduceCtorEq, Bool.false_eq_true, false_implies, true_and, and_true, true_implies, forall_const] at hn
                simp only [lput, List.set, hn, cond_true]
                try simp only [hd, cond_false] at hJ
                obtain ⟨hG, hR, I15_9, I15_13, I17_15⟩ := hJ
                (try have z15 := imp_not I15_9 rfl)
                (try have z15 := imp_not I15_13 rfl)
                (try have z17 := imp_not I17_15 z15)
                (try have z17 := imp_not I17_15 rfl)
                have fz := fun i => hR.out.frozen i
                (try have hR0 : RowL w1 g (A' ++ y :: x :: (B ++ R')) := pick_ff z17 z15 hR.out)
                (try have hR0 : RowL w1 g (A' ++ y :: x :: (B ++ R')) := pick_f z17 hR.out)
                (try have hR1 : RowL w1 g (A' ++ y :: y :: (B ++ R')) := pick_t (by simp only [hn]) hR.out)
                (try have cy : w1.cell? ⟨g, j, none⟩ = some (.int .i64 y) := (by rw [← HA'.out]; exact hR0.mid))
                (try have cx : w1.cell? ⟨g, j + 1, none⟩ = some (.int .i64 x) := (by have h9 := hR0.two; rwa [HA'.out] at h9))
                (try have cy : w1.cell? ⟨g, j, none⟩ = some (.int .i64 y) := (by rw [← HA'.out]; exact hR1.mid))
                go_wp2_with (first | fail)
                first
                  | (refine ⟨(), ?_, hid (grown_set hG.out _ _), hid (by have h3 := hR0.put2 (z := y); rw [HA'.out] at h3; simpa [done, z17] using h3), (by intro e; first | (simp [done]; done) | (simp [done, hn]; done) | (have e2 := I15_9 (done_ne e (by decide)); simp [done, e2]; done)), (by intro e; first | (simp [done]; done) | (simp [done, hn]; done) | (have e2 := I15_13 (done_ne e (by decide)); simp [done, e2]; done)), (by intro e; first | (simp [done]; done) | (simp [done, hn]; done) | (have e2 := I17_15 (done_ne e (by decide)); simp [done, e2]; done))⟩; (simp [lput, done, hn]; done))
                  | (refine ⟨(), ?_, hid (grown_set hG.out _ _), hid (by have h3 := hR1.put (z := x); rw [HA'.out] at h3; simpa [done] using h3), (by intro e; first | (simp [done]; done) | (simp [done, hn]; done) | (have e2 := I15_9 (done_ne e (by decide)); simp [done, e2]; done)), (by intro e; first | (simp [done]; done) | (simp [done, hn]; done) | (have e2 := I15_13 (done_ne e (by decide)); simp [done, e2]; done)), (by intro e; first | (simp [done]; done) | (simp [done, hn]; done) | (have e2 := I17_15 (done_ne e (by decide)); simp [done, e2]; done))⟩; (simp [lput, done, hn]; done))
                  | (refine ⟨(), ?_, hG, hR, (by intro e; first | (simp [done]; done) | (have e2 := I15_9 (done_ne e (by decide)); simp [done, e2]; done) | (simp [done, hn]; done)), (by intro e; first | (simp [done]; done) | (have e2 := I15_13 (done_ne e (by decide)); simp [done, e2]; done) | (simp [done, hn]; done)), (by intro e; first | (simp [done]; done) | (have e2 := I17_15 (done_ne e (by decide)); simp [done, e2]; done) | (simp [done, hn]; done))⟩; (simp [lput, done, hn]; done))
                  | (refine ⟨?_, hG, hR, (by intro e; first | (simp [done]; done) | (have e2 := I15_9 (done_ne e (by decide)); simp [done, e2]; done) | (simp [done, hn]; done)), (by intro e; first | (simp [done]; done) | (have e2 := I15_13 (done_ne e (by decide)); simp [done, e2]; done) | (simp [done, hn]; done)), (by intro e; first | (simp [done]; done) | (have e2 := I17_15 (done_ne e (by decide)); simp [done, e2]; done) | (simp [done, hn]; done))⟩; (simp [lput, done, hn]; done))
                  | (refine ⟨(), ?_, hG, hR, (by intro e; first | (simp [done]; done) | (have e2 := I15_9 (done_ne e (by decide)); simp [done, e2]; done) | (simp [done, hn]; done)), (by intro e; first | (simp [done]; done) | (have e2 := I15_13 (done_ne e (by decide)); simp [done, e2]; done) | (simp [done, hn]; done)), (by intro e; first | (simp [done]; done) | (have e2 := I17_15 (done_ne e (by decide)); simp [done, e2]; done) | (simp [done, hn]; done))⟩; (simp [lput, done, hn]; rfl))
                  | (refine ⟨?_, hG, hR, (by intro e; first | (simp [done]; done) | (have e2 := I15_9 (done_ne e (by decide)); simp [done, e2]; done) | (simp [done, hn]; done)), (by intro e; first | (simp [done]; done) | (have e2 := I15_13 (done_ne e (by decide)); simp [done, e2]; done) | (simp [done, hn]; done)), (by intro e; first | (simp [done]; done) | (have e2 := I17_15 (done_ne e (by decide)); simp [done, e2]; done) | (simp [done, hn]; done))⟩; (simp [lput, done, hn]; rfl))
                  | (refine ⟨(), ?_, hG, hR, (by intro e; first | (simp [done]; done) | (have e2 := I15_9 (done_ne e (by decide)); simp [done, e2]; done) | (simp [done, hn]; done)), (by intro e; first | (simp [done]; done) | (have e2 := I15_13 (done_ne e (by decide)); simp [done, e2]; done) | (simp [done, hn]; done)), (by intro e; first | (simp [done]; done) | (have e2 := I17_15 (done_ne e (by decide)); simp [done, e2]; done) | (simp [done, hn]; done))⟩; (simp [lput, done]; done))
                  | (refine ⟨?_, hG, hR, (by intro e; first | (simp [done]; done) | (have e2 := I15_9 (done_ne e (by decide)); simp [done, e2]; done) | (simp [done, hn]; done)), (by intro e; first | (simp [done]; done) | (have e2 := I15_13 (done_ne e (by decide)); simp [done, e2]; done) | (simp [done, hn]; done)), (by intro e; first | (simp [done]; done) | (have e2 := I17_15 (done_ne e (by decide)); simp [done, e2]; done) | (simp [done, hn]; done))⟩; (simp [lput, done]; done))
                  | (refine ⟨(), ?_, hG, hR, (by intro e; first | (simp [done]; done) | (have e2 := I15_9 (done_ne e (by decide)); simp [done, e2]; done) | (simp [done, hn]; done)), (by intro e; first | (simp [done]; done) | (have e2 := I15_13 (done_ne e (by decide)); simp [done, e2]; done) | (simp [done, hn]; done)), (by intro e; first | (simp [done]; done) | (have e2 := I17_15 (done_ne e (by decide)); simp [done, e2]; done) | (simp [done, hn]; done))⟩; (simp [lput, done]; rfl))
                  | (refine ⟨?_, hG, hR, (by intro e; first | (simp [done]; done) | (have e2 := I15_9 (done_ne e (by decide)); simp [done, e2]; done) | (simp [done, hn]; done)), (by intro e; first | (simp [done]; done) | (have e2 := I15_13 (done_ne e (by decide)); simp [done, e2]; done) | (simp [done, hn]; done)), (by intro e; first | (simp [done]; done) | (have e2 := I17_15 (done_ne e (by decide)); simp [done, e2]; done) | (simp [done, hn]; done))⟩; (simp [lput, done]; rfl))
            case hq_sw =>
              clear hG hR
              intro d _ w1 hd hJ
              simp only [allDone, List.length_cons, List.length_nil, Nat.reduceAdd, and_true] at hd
              obtain ⟨hG, hR, I15_9, I15_13, I17_15⟩ := hJ
              clear I15_9
              clear I15_13
              clear I17_15
              simp only [hd, cond_true] at hR
              simp only [lput, List.set, hd, cond_true]
              clear hd
              go_wp2
              go_roundw
              case rel => exact ⟨A', y :: B, j, by go_num, HA'.out, by omega, hid (by have := hAB.out; simp at this ⊢; omega), hG, hR, hid (by have := hS.out; rwa [List.append_assoc, List.singleton_append] at this), hid (fun z hz => by
                rcases List.mem_cons.1 hz with e | hz
                · rw [e]; exact HXY.out
                · exact hB.out z hz), hid (by have := hP.out; rw [List.append_assoc, List.singleton_append] at this; exact swap_perm.trans this)⟩
              case measure => simp [intOf]
          · have hLt : ∀ w, Calls Try.prog 151 #[.int .i64 x, .int .i64 y] w fun e w' => e = .returned (.bool false) ∧ w' = w := fun w => by have := hLess w; rwa [decide_eq_false hxy] at this
            have HD2 := hid (ins_asc hS.out (fun z hz => by simp at hz; omega) hB.out)
            clear hLess hR1
            go_wp2
            go_quiet ((go_at_call 151; exact Calls.quiet_of_same (hLt _)))
            go_wp2
            go_roundw
            case rel => exact ⟨k + 1, (A' ++ [y]) ++ x :: B, R', by go_num, by omega, hid ⟨hG.out.os, hG.out.tape, hG.out.output, hG.out.size, hG.out.block⟩, hid (by rw [List.append_assoc, List.cons_append]; exact hR.out.block rfl), HD2, hid (by rw [List.append_assoc, List.cons_append]; exact hP.out), .inl (by have := hAB.out; simp at this ⊢; omega)⟩
            case measure => simp [intOf]; omega
    · have hkn : (n : Int) ≤ k := by omega
      have HR0 : R = [] := by
        rcases hkk with h | ⟨h, _⟩
        · exact List.length_eq_zero_iff.1 (by omega)
        · exact h
      subst HR0
      rw [List.append_nil] at hR hP
      have HF := hid (show ∃ l', List.Perm l' l ∧ l'.Pairwise (· ≤ ·) ∧ RowL wr g l' from ⟨S, hP.out, hS.out, hR.out⟩)
      go_wp2
      go_end0
      exact ⟨rfl, hG.out, HF.out⟩
set_option maxRecDepth 20000 in
set_option maxHeartbeats 4000000 in
theorem pdqsort64_any (g n c : Nat) (z : Int) (l : List Int) (w : World) (hl : l.length = n) (hn : n ≤ 12) (h : RowL w g l) :
    Calls Try.prog 137 #[.slice (some ⟨g, 0, none⟩) n c, .int .i64 0, .int .i64 n, .int .i64 z] w fun e w' => e = .returned (.tuple #[]) ∧ w.grownBy w' (some g) ∧ ∃ l', l'.Perm l ∧ l'.Pairwise (· ≤ ·) ∧ RowL w' g l' := by
  have hn12 : (n : Int) ≤ 12 := by omega
  go_enter Try.func137, Try.ntmps137
  go_wp2
  go_loopw [1, 2] (fun i k wr => i = .int .i64 0 ∧ k = .int .i64 n ∧ Hid (wr = w)) (fun _ _ _ => 0)
  case atStart => exact ⟨rfl, rfl, hid rfl⟩
  case round =>
    obtain ⟨rfl, rfl, hw⟩ := hrel
    have hR : Hid (RowL wr g l) := by rw [hw.out]; exact hid h
    go_wp2_with (first | fail | (go_at_call 145; refine (insertionSort64_any g n c l _ hl (by omega) hR.out).mono ?_; rintro e w2 ⟨rfl, hg, hx⟩))
    (try simp only [Exit.inBlock, Exit.then])
    refine bodyPost_ret (results_none rfl _ _ _) rfl ?_
    rw [hw.out] at hg
    exact ⟨rfl, hg, hx⟩
set_option maxRecDepth 20000 in
set_option maxHeartbeats 4000000 in
theorem sort64_any (g n c : Nat) (l : List Int) (w : World) (hl : l.length = n) (hn : n ≤ 12) (h : RowL w g l) :
    Calls Try.prog 126 #[.slice (some ⟨g, 0, none⟩) n c] w fun e w' => e = .returned (.tuple #[]) ∧ w.grownBy w' (some g) ∧ ∃ l', l'.Perm l ∧ l'.Pairwise (· ≤ ·) ∧ RowL w' g l' := by
  have hn12 : (n : Int) ≤ 12 := by omega
  go_enter Try.func126, Try.ntmps126
  go_wp2_with (first | fail | (go_at_call 138; refine (Try.bits_Len n _ (by omega) (by omega)).mono ?_; rintro e w2 ⟨rfl, rfl⟩) | (go_at_call 137; refine (pdqsort64_any g n c _ l _ hl hn h).mono ?_; rintro e w2 ⟨rfl, hg, hx⟩))
  go_end0
  exact ⟨rfl, hg, hx⟩
end Go.Proofs.Ytbhjbllgmenbaaa
namespace Go.Proofs.Ytbhjbllgmenbaaa
set_option linter.unusedVariables false
set_option linter.unusedSimpArgs false
open Go.RowKit
/-- The cells of n numbers. -/
def zns (n : Nat) (f : Nat → Nat) : Array Value := ((List.range n).map fun i => Value.int .i64 (f i : Nat)).toArray
@[simp, go_sem] theorem zns_size (n : Nat) (f : Nat → Nat) : (zns n f).size = n := by simp [zns]
theorem zns_get (n : Nat) (f : Nat → Nat) (i : Nat) (h : i < n) : (zns n f)[i]? = some (.int .i64 (f i : Nat)) := by simp [zns, h]
@[simp, go_sem] theorem zns_getElem (n : Nat) (f : Nat → Nat) (i : Nat) (h : i < (zns n f).size) : (zns n f)[i]'h = .int .i64 (f i : Nat) := by simp [zns]
theorem zns_ext (n : Nat) (cs : Array Value) (f : Nat → Nat) (hs : cs.size = n) (h : ∀ i, i < n → cs[i]? = some (.int .i64 (f i : Nat))) : cs = zns n f := by
  apply Array.ext_getElem?
  intro j
  by_cases hj : j < n
  · rw [h j hj, zns_get n f j hj]
  · rw [Array.getElem?_eq_none (by omega), Array.getElem?_eq_none (by simp; omega)]
theorem zns_step (n : Nat) (f f' : Nat → Nat) (k v : Nat) (h : ∀ j, j < n → f' j = if j = k then v else f j) : (zns n f).setIfInBounds k (.int .i64 (v : Nat)) = zns n f' := by
  apply zns_ext
  · simp
  · intro i hi
    rw [h i hi, Array.getElem?_setIfInBounds]
    by_cases e : k = i
    · subst e; simp [hi]
    · simp [e, zns_get n f i hi, Ne.symm e]
theorem zns_one (n : Nat) (f : Nat → Nat) : (zns n f).all (·.oneCell') = true := by
  rw [Array.all_eq_true]
  intro i hi
  rw [zns_getElem]; rfl
theorem zns_ok (n : Nat) (f : Nat → Nat) : CellsOk (zns n f) n := ⟨zns_size n f, zns_one n f⟩
theorem zns_congr (n : Nat) (f g : Nat → Nat) (h : ∀ i, i < n → f i = g i) : zns n f = zns n g := by
  apply zns_ext
  · simp
  · intro i hi; rw [zns_get n f i hi, h i hi]
end Go.Proofs.Ytbhjbllgmenbaaa
namespace Go.Proofs.Ytbhjbllgmenbaaa
set_option linter.unusedVariables false
set_option linter.unusedSimpArgs false
open Go.RowKit
/-- From the column y to the column in which row a has what row b has in y. -/
def swC (g : Nat → UInt8) (N a b y : Nat) : Nat := (backF (rowF g a) N (g (b * 10 + y)).toNat).toNat
/-- From the entry v of row a to that of row b in the same column. -/
def swV (g : Nat → UInt8) (N a b v : Nat) : Nat := (g (b * 10 + (backF (rowF g a) N v).toNat)).toNat
section
variable {g : Nat → UInt8} {N a b c : Nat}
theorem sq_lt (h : IsSq N g) (ha : a < N) {y : Nat} (hy : y < N) : (g (a * 10 + y)).toNat < N := (h.rows a ha).lt y hy
theorem row_inj (h : IsSq N g) (ha : a < N) {y z : Nat} (hy : y < N) (hz : z < N) (e : (g (a * 10 + y)).toNat = (g (a * 10 + z)).toNat) : y = z := by
  have h1 := back_at (h.rows a ha) hy
  have h2 := back_at (h.rows a ha) hz
  have e1 : (rowF g a y).toNat = (rowF g a z).toNat := e
  rw [e1] at h1
  omega
theorem swC_pmt (h : IsSq N g) (ha : a < N) (hb : b < N) : Pmt N (swC g N a b) := by
  refine ⟨fun y hy => (back_lt (h.rows a ha) (sq_lt h hb hy)).1, fun x y hx hy e => ?_⟩
  have h1 := (back_lt (h.rows a ha) (sq_lt h hb hx)).2
  have h2 := (back_lt (h.rows a ha) (sq_lt h hb hy)).2
  unfold swC at e
  rw [e] at h1
  exact row_inj h hb hx hy (by omega)
theorem swV_pmt (h : IsSq N g) (ha : a < N) (hb : b < N) : Pmt N (swV g N a b) := by
  refine ⟨fun v hv => sq_lt h hb (back_lt (h.rows a ha) hv).1, fun x y hx hy e => ?_⟩
  have h1 := back_lt (h.rows a ha) hx
  have h2 := back_lt (h.rows a ha) hy
  have e2 := row_inj h hb h1.1 h2.1 e
  have h3 := h1.2
  have h4 := h2.2
  rw [e2] at h3
  omega
/-- The entries of the columns on the way are the entries on the way. -/
theorem sw_it (h : IsSq N g) (ha : a < N) (hb : b < N) (hc : c < N) : ∀ k, (g (a * 10 + it (swC g N a b) c k)).toNat = it (swV g N a b) (g (a * 10 + c)).toNat k
  | 0 => rfl
  | k + 1 => by
    have ih := sw_it h ha hb hc k
    have hl := it_lt (swC_pmt h ha hb) hc k
    show (g (a * 10 + swC g N a b (it (swC g N a b) c k))).toNat = swV g N a b (it (swV g N a b) (g (a * 10 + c)).toNat k)
    rw [← ih]
    generalize it (swC g N a b) c k = y at hl
    unfold swC swV
    have h1 := (back_lt (h.rows a ha) (sq_lt h hb hl)).2
    have h2 := back_at (h.rows a ha) hl
    have e1 : (g (a * 10 + (backF (rowF g a) N (g (b * 10 + y)).toNat).toNat)).toNat = (g (b * 10 + y)).toNat := h1
    have e2 : (backF (rowF g a) N (g (a * 10 + y)).toNat).toNat = y := h2
    rw [e1, e2]
theorem sw_cyc {t : Nat} (h : IsSq N g) (ha : a < N) (hb : b < N) (hc : c < N) (hC : Cyc N (swC g N a b) c t) : Cyc N (swV g N a b) (g (a * 10 + c)).toNat t := by
  refine ⟨hC.pos, hC.le, ?_, fun i h1 h2 e => hC.far i h1 h2 ?_⟩
  · rw [← sw_it h ha hb hc, hC.back]
  · rw [← sw_it h ha hb hc] at e
    exact row_inj h ha (it_lt (swC_pmt h ha hb) hc _) hc e
theorem sw_in {t y : Nat} (h : IsSq N g) (ha : a < N) (hb : b < N) (hc : c < N) (hy : y < N) : inO (swV g N a b) (g (a * 10 + c)).toNat t (g (a * 10 + y)).toNat = inO (swC g N a b) c t y := by
  have hh : inO (swV g N a b) (g (a * 10 + c)).toNat t (g (a * 10 + y)).toNat = true ↔ inO (swC g N a b) c t y = true := by
    rw [inO_iff, inO_iff]
    constructor
    · rintro ⟨i, hi, e⟩
      rw [← sw_it h ha hb hc] at e
      exact ⟨i, hi, row_inj h ha (it_lt (swC_pmt h ha hb) hc _) hy e⟩
    · rintro ⟨i, hi, e⟩
      exact ⟨i, hi, by rw [← sw_it h ha hb hc, e]⟩
  cases h1 : inO (swV g N a b) (g (a * 10 + c)).toNat t (g (a * 10 + y)).toNat <;> cases h2 : inO (swC g N a b) c t y <;> simp_all
/-- The rows a and b exchanged in the columns S. -/
def swF (g : Nat → UInt8) (a b : Nat) (S : Nat → Bool) : Nat → UInt8 := fun p =>
  if p / 10 = a ∧ S (p % 10) = true then g (b * 10 + p % 10) else if p / 10 = b ∧ S (p % 10) = true then g (a * 10 + p % 10) else g p
theorem swF_none (S : Nat → Bool) (h : ∀ y, S y = false) : swF g a b S = g := by
  funext p
  unfold swF
  rw [h, if_neg (by simp), if_neg (by simp)]
theorem swF_a {S : Nat → Bool} {y : Nat} (hy : y < 10) : swF g a b S (a * 10 + y) = if S y then g (b * 10 + y) else g (a * 10 + y) := by
  unfold swF
  rw [show (a * 10 + y) / 10 = a by omega, show (a * 10 + y) % 10 = y by omega]
  by_cases h : S y = true
  · simp [h]
  · simp [h]
theorem swF_b {S : Nat → Bool} {y : Nat} (hy : y < 10) (hne : a ≠ b) : swF g a b S (b * 10 + y) = if S y then g (a * 10 + y) else g (b * 10 + y) := by
  unfold swF
  rw [show (b * 10 + y) / 10 = b by omega, show (b * 10 + y) % 10 = y by omega]
  by_cases h : S y = true
  · simp [h, Ne.symm hne]
  · simp [h]
/-- The half of a step: row a has been written, row b has not. -/
def swH (g : Nat → UInt8) (a b : Nat) (S : Nat → Bool) (u : Nat) : Nat → UInt8 := fun p => if p = a * 10 + u then g (b * 10 + u) else swF g a b S p
theorem swH_step {S : Nat → Bool} {u : Nat} (j : Nat) : swH g a b S u j = if j = a * 10 + u then g (b * 10 + u) else swF g a b S j := rfl
theorem swF_step {S S' : Nat → Bool} {u : Nat} (hu : u < 10) (hne : a ≠ b) (hS : ∀ y, S' y = if y = u then true else S y) (j : Nat) : swF g a b S' j = if j = b * 10 + u then g (a * 10 + u) else swH g a b S u j := by
  unfold swH
  by_cases e1 : j = b * 10 + u
  · subst e1
    rw [if_pos rfl, swF_b hu hne, hS, if_pos rfl, if_pos rfl]
  · rw [if_neg e1]
    by_cases e2 : j = a * 10 + u
    · subst e2
      rw [if_pos rfl, swF_a hu, hS, if_pos rfl, if_pos rfl]
    · rw [if_neg e2]
      unfold swF
      by_cases e3 : j / 10 = a
      · rw [hS, if_neg (show ¬ j % 10 = u by omega)]
      · by_cases e4 : j / 10 = b
        · rw [hS, if_neg (show ¬ j % 10 = u by omega)]
        · rw [if_neg (fun h => e3 h.1), if_neg (fun h => e4 h.1), if_neg (fun h => e3 h.1), if_neg (fun h => e4 h.1)]
theorem swF_congr {S S' : Nat → Bool} (h : ∀ y, y < 10 → S y = S' y) : swF g a b S = swF g a b S' := by
  funext p
  unfold swF
  rw [h (p % 10) (by omega)]
/-- In each column both rows differ. -/
theorem rows_ne (h : IsSq N g) (ha : a < N) (hb : b < N) (hne : a ≠ b) {y : Nat} (hy : y < N) : (g (a * 10 + y)).toNat ≠ (g (b * 10 + y)).toNat := fun e => by
  have h1 := back_at (h.cols y hy) ha
  have h2 := back_at (h.cols y hy) hb
  have e1 : (colF g y a).toNat = (colF g y b).toNat := e
  rw [e1] at h1
  omega
end
end Go.Proofs.Ytbhjbllgmenbaaa
namespace Go.Proofs.Ytbhjbllgmenbaaa
set_option linter.unusedVariables false
set_option linter.unusedSimpArgs false
open Go.RowKit
section
variable {P : Program} {ops : Array Oper} {rest : List Oper} {o : Oper} {a : Act} {w : World} {Q : Exit → Act → World → Prop}
theorem wpL_cellW {T : Nat} {x y : Operand} {g off : Nat} {v : Value} {cs cs' : Array Value} {t : TypeId} (hgd : o.guard = none) (ho : o.op = .store T x y) (hx : a.eval x = .pointer (some ⟨g, off, none⟩)) (hy : a.eval y = v) (hs : (P.info? T).map (·.size) = some 1) (h1 : v.oneCell' = true)
    (hg : holds w g cs t) (hb : off < cs.size) (e : cs.setIfInBounds off v = cs')
    (h : wpList P ops Q rest (a.put o.dst undef) (w.setRow g cs')) : wpList P ops Q (o :: rest) a w :=
  wpList_plain hgd fun K hK => by
    have hc : v.cells = #[v] := by cases v <;> first | rfl | cases h1
    have hst := run_storeCells_at P g off t [v] 0 cs w hg (by simp; omega) (fun u hu => by simp at hu; subst hu; exact h1)
    have he : over cs off #[v] = cs' := by
      rw [← e]
      apply Array.ext_getElem?
      intro i
      rw [over_get cs off #[v] (by simp; omega) i, Array.getElem?_setIfInBounds]
      by_cases q : off = i
      · subst q; rw [if_pos (by simp), if_pos rfl, if_pos hb]; simp
      · rw [if_neg (by simp; omega), if_neg q]
    simp only [Nat.add_zero] at hst
    have hst' : (storeCells ⟨g, off, none⟩ [v]).run P w = .ok () (w.setRow g cs') := by rw [← he]; exact hst
    cases hq : P.info? T with
    | none => simp [hq] at hs
    | some i =>
      have hs' : i.size = 1 := by simpa [hq] using hs
      have hrun : (storeVar T ⟨g, off, none⟩ v).run P w = .ok () (w.setRow g cs') := by
        simp [storeVar, sizeOf, typeInfo, hq, hc, hs', hst']
      unfold Oper.wp execOp
      simp only [ho, hx, hy, Instr.storeAt, Instr.sureAddr, Sem.run_bind, Sem.run_pure, Result.andThen_ok, hrun]
      exact hK _ _ h
end
/-- Has the cell c of block g not been marked yet? -/
def freshB (w : World) (g c : Nat) : Bool := match w.cell? ⟨g, c, none⟩ with
  | some (.bool true) => false
  | _ => true
theorem fresh_of {w : World} {gb c k : Nat} {f : Nat → Nat} {t : TypeId} (h : holds w gb (bls 10 (inO f c k)) t) (hc : c < 10) : freshB w gb c = decide (k = 0) := by
  unfold freshB
  rw [holds_cell h, bls_get _ _ _ hc]
  by_cases e : k = 0
  · subst e; rw [inO_zero]; simp
  · have : inO f c k c = true := inO_iff.2 ⟨0, by omega, rfl⟩
    rw [this]; simp [e]
set_option maxRecDepth 20000 in
set_option maxHeartbeats 4000000 in
theorem l09Cycle_any (N c t : Nat) (p : Nat → UInt8) (f : Nat → Nat) (w : World) (h10 : N ≤ 10) (hc : c < N) (hP : Pmt N f) (hf : ∀ i, i < N → (p i).toNat = f i) (hC : Cyc N f c t) :
    Calls Try.prog 103 #[.agg (u8s 10 p), .int .u8 c] w fun e w' => e = .returned (.agg (bls 10 (inO f c t))) ∧ Below w.heap.size w w' := by
  have HP := hid hP
  have HF := hid hf
  have HC := hid hC
  have htN := hC.le
  clear hP hf hC
  have hH := Has.start3 w (u8s 10 p) (bls 10 fun _ => false) (bls 10 fun _ => false) 71 77 77
  go_enter Try.func103, Try.ntmps103
  go_wp2_with (first | fail | (refine wpL_alloc rfl rfl zeroBo ?_; intro g0 hg0; (try simp at hg0); subst hg0) | (refine wpL_build rfl rfl builtBo ?_) | (refine wpL_storeSame rfl rfl rfl rfl rowBo hH.h2 (bls_ok _ _) ?_))
  go_loopw [1] (fun v wr => ∃ k : Nat, k ≤ t ∧ v = .int .u8 (it f c k : Nat) ∧ Has w wr [(u8s 10 p, 71), (bls 10 (fun _ => false), 77), (bls 10 (inO f c k), 77)]) (fun v wr => leftO f c t (freshB wr (w.heap.size + 1 + 1) c) (intOf v).toNat)
  case atStart => exact ⟨0, by omega, rfl, by rw [inO_zero]; exact hH⟩
  case round =>
    clear hH
    obtain ⟨k, hk, rfl, hH⟩ := hrel
    have hul := it_lt HP.out hc k
    obtain ⟨u, hu⟩ : ∃ u, it f c k = u := ⟨_, rfl⟩
    have HU := hid hu
    have hf2 := fresh_of hH.h2 (show c < 10 by omega)
    rw [hu] at hul ⊢
    have hu10 : (u : Int) < 10 := by omega
    by_cases hkt : k < t
    · have hfr := HC.out.fresh HP.out hc hkt
      rw [hu] at hfr
      have cm : wr.cell? ⟨w.heap.size + 1 + 1, u, none⟩ = some (.bool false) := by rw [hH.c2, bls_get _ _ _ (by omega), hfr]
      have fm := hH.f2 u
      have hpu := HF.out u hul
      have hnx : f u = it f c (k + 1) := by show f u = f (it f c k); rw [hu]
      obtain ⟨v, hv⟩ : ∃ v, f u = v := ⟨_, rfl⟩
      rw [hv] at hpu hnx
      have hvl : v < N := by rw [hnx]; exact it_lt HP.out hc (k + 1)
      have hv256 : (v : Int) < 256 := by omega
      have cv : wr.cell? ⟨w.heap.size, u, none⟩ = some (.int .u8 v) := by rw [hH.c0, u8s_get _ _ _ (by omega), hpu]
      have HNX := hid hnx
      have HLS := hid (HC.out.less HP.out hc hkt)
      have HF2 := hid hf2
      have hH2 := hid (hH.s2 u (.bool true) (bls_step 10 (inO f c k) (inO f c (k + 1)) u true (fun j _ => by rw [← hu]; exact inO_succ f c k j)))
      clear hv hpu hnx hfr hf2 hu
      go_wp2
      refine ⟨⟨k + 1, by omega, by rw [HNX.out], hH2.out⟩, ?_⟩
      rw [fresh_of hH2.out.h2 (show c < 10 by omega), HF2.out]
      have := HLS.out
      rw [← HNX.out, HU.out] at this
      simpa [intOf] using this
    · obtain rfl : k = t := by omega
      have hfu := HC.out.full
      rw [hu] at hfu
      have cm : wr.cell? ⟨w.heap.size + 1 + 1, u, none⟩ = some (.bool true) := by rw [hH.c2, bls_get _ _ _ (by omega), hfu]
      clear hfu hf2 hu
      go_wp2_with (first | fail | (refine wpL_loadFull (x := .tmp 5) rfl rfl rfl rowBo hH.h2 (bls_size _ _) ?_) | (refine wpL_storeFull (x := .tmp 4) rfl rfl rfl rfl rowBo hH.h1 (bls_size _ _) (bls_ok _ _) ?_))
      exact ret_c rfl rfl hH.r1.h1 rowBo (bls_size _ _) ⟨rfl, hH.r1.below⟩
/-- The model's map of rows, as far as the columns before k. -/
def rwF (g : Nat → UInt8) (N a b k : Nat) : Nat → UInt8 := fun v => if v < N ∧ (backF (rowF g a) N v).toNat < k then g (b * 10 + (backF (rowF g a) N v).toNat) else 0
theorem rwF_zero (g : Nat → UInt8) (N a b : Nat) : rwF g N a b 0 = fun _ => 0 := by funext v; simp [rwF]
theorem rwF_step {g : Nat → UInt8} {N a b k u : Nat} (h : IsSq N g) (ha : a < N) (hk : k < N) (hu : (g (a * 10 + k)).toNat = u) (v : Nat) : rwF g N a b (k + 1) v = if v = u then g (b * 10 + k) else rwF g N a b k v := by
  have hul : u < N := by rw [← hu]; exact sq_lt h ha hk
  have hbk : (backF (rowF g a) N u).toNat = k := by rw [← hu]; exact back_at (h.rows a ha) hk
  unfold rwF
  by_cases e : v = u
  · subst e
    rw [if_pos ⟨hul, by omega⟩, if_pos rfl, hbk]
  · rw [if_neg e]
    by_cases c : v < N
    · have hne : (backF (rowF g a) N v).toNat ≠ k := fun e2 => e (by
        have h2 := (back_lt (h.rows a ha) c).2
        rw [e2] at h2
        have h3 : (rowF g a k).toNat = u := hu
        omega)
      by_cases c2 : (backF (rowF g a) N v).toNat < k
      · rw [if_pos ⟨c, by omega⟩, if_pos ⟨c, c2⟩]
      · rw [if_neg (fun hh => by have := hh.2; omega), if_neg (fun hh => c2 hh.2)]
    · rw [if_neg (fun hh => c hh.1), if_neg (fun hh => c hh.1)]
theorem rwF_at {g : Nat → UInt8} {N a b v : Nat} (h : IsSq N g) (ha : a < N) (hv : v < N) : (rwF g N a b N v).toNat = swV g N a b v := by
  have := (back_lt (h.rows a ha) hv).1
  unfold rwF swV
  rw [if_pos ⟨hv, this⟩]
set_option maxRecDepth 20000 in
set_option maxHeartbeats 4000000 in
theorem l09Rows_any (N a b : Nat) (g : Nat → UInt8) (w : World) (hq : IsSq N g) (ha : a < N) (hb : b < N) :
    Calls Try.prog 101 #[.agg (sqc N g), .int .u8 a, .int .u8 b] w fun e w' => e = .returned (.agg (u8s 10 (rwF g N a b N))) ∧ Below w.heap.size w w' := by
  have h10 := hq.hi
  have HQ := hid hq
  have HST := hid (fun k u (hk : k < N) (hu : (g (a * 10 + k)).toNat = u) (v : Nat) => rwF_step (b := b) hq ha hk hu v)
  have HLT := hid (fun k (hk : k < N) => (show (g (a * 10 + k)).toNat < N from sq_lt hq ha hk))
  clear hq
  have hN10 : (N : Int) ≤ 10 := by omega
  have ha10 : (a : Int) < 10 := by omega
  have hb10 : (b : Int) < 10 := by omega
  have hH := Has.start3 w (sqc N g) (u8s 10 fun _ => 0) (u8s 10 fun _ => 0) 29 71 71
  go_enter Try.func101, Try.ntmps101
  go_wp2_with (first | fail | (refine wpL_alloc rfl rfl zeroPl ?_; intro g0 hg0; (try simp at hg0); subst hg0) | (refine wpL_build rfl rfl builtPl ?_) | (refine wpL_storeSame rfl rfl rfl rfl rowPl hH.h2 (u8s_ok _ _) ?_))
  go_loopw [8] (fun i wr => ∃ k : Nat, k ≤ N ∧ i = .int .i64 k ∧ Has w wr [(sqc N g, 29), (u8s 10 (fun _ => 0), 71), (u8s 10 (rwF g N a b k), 71)]) (fun i _ => 20 - (intOf i).toNat)
  case atStart => exact ⟨0, by omega, rfl, by rw [rwF_zero]; exact hH⟩
  case round =>
    clear hH
    obtain ⟨k, hk, rfl, hH⟩ := hrel
    have cz : wr.cell? ⟨w.heap.size, 0, none⟩ = some (.int .i64 N) := by rw [hH.c0, sqc_get0]
    by_cases hlt : k < N
    · have hk1 : (k : Int) < N := by omega
      have hk10 : (k : Int) < 10 := by omega
      obtain ⟨u, hu⟩ : ∃ u, (g (a * 10 + k)).toNat = u := ⟨_, rfl⟩
      have hul := HLT.out k hlt
      rw [hu] at hul
      have hst := HST.out k u hlt hu
      have HU := hid hu
      obtain ⟨r, hr⟩ : ∃ r, g (b * 10 + k) = r := ⟨_, rfl⟩
      have HR := hid hr
      rw [hr] at hst
      obtain ⟨T0, hT0⟩ : ∃ T, rwF g N a b k = T := ⟨_, rfl⟩
      obtain ⟨T1, hT1⟩ : ∃ T, rwF g N a b (k + 1) = T := ⟨_, rfl⟩
      have HT1 := hid hT1
      rw [hT0, hT1] at hst
      rw [hT0] at hH
      have HSS := hid hst
      clear hu hr hT0 hT1 hst
      have hu10 : (u : Int) < 10 := by omega
      go_wp2
      clear cz
      refine wp_region_frame (X := Unit) (fun d _ => [(16, bif d 0 then .int .u8 a else u16), (17, bif d 1 then .int .i64 k else u17), (18, bif d 2 then .pointer (some ⟨w.heap.size, 1, none⟩) else u18), (19, bif d 3 then .pointer (some ⟨w.heap.size, 1 + a * 10, none⟩) else u19), (20, bif d 4 then .pointer (some ⟨w.heap.size, 1 + a * 10 + k, none⟩) else u20), (21, bif d 5 then .int .u8 u else u21), (22, bif d 6 then .int .u8 b else u22), (23, bif d 7 then .int .i64 k else u23), (24, bif d 8 then .pointer (some ⟨w.heap.size, 1, none⟩) else u24), (25, bif d 9 then .pointer (some ⟨w.heap.size, 1 + b * 10, none⟩) else u25), (26, bif d 10 then .pointer (some ⟨w.heap.size, 1 + b * 10 + k, none⟩) else u26), (27, bif d 11 then .int .u8 r.toNat else u27), (28, bif d 12 then .pointer (some ⟨w.heap.size + 1 + 1, u, none⟩) else u28)])
        (fun d _ w' => Has w w' [(sqc N g, 29), (u8s 10 (fun _ => 0), 71), (u8s 10 (bif d 13 then T1 else T0), 71)]) (by kernel_rfl) (by kernel_rfl) ?h0_rw ?hs_rw ?hq_rw
      case h0_rw => exact ⟨(), (by simp [lput]), hH.drew⟩
      case hs_rw =>
        refine ⟨?_, ?_, ?_, ?_, ?_, ?_, ?_, ?_, ?_, ?_, ?_, ?_, ?_, ?_, trivial⟩
        all_goals
          clear hH
          intro d _ w1 hd hn hJ
          simp only [needs, Region.binds, reduceCtorEq, Bool.false_eq_true, false_implies, true_and, and_true, true_implies, forall_const] at hn
          simp only [lput, List.set, hn, cond_true]
          try simp only [hd, cond_false] at hJ
          have hH := hJ; clear hJ
          have c1 : w1.cell? ⟨w.heap.size, 1 + a * 10 + k, none⟩ = some (.int .u8 u) := by rw [hH.c0, Nat.add_assoc, sqc_get _ _ _ (by omega), HU.out]
          have c2 : w1.cell? ⟨w.heap.size, 1 + b * 10 + k, none⟩ = some (.int .u8 r.toNat) := by rw [hH.c0, Nat.add_assoc, sqc_get _ _ _ (by omega), HR.out]
          go_wp2_with (first | fail | (refine wpL_cellW (g := w.heap.size + 1 + 1) (v := .int .u8 r.toNat) (cs' := u8s 10 T1) (off := u) rfl rfl rfl rfl (by kernel_rfl) (by rfl) hH.h2 (by rw [u8s_size]; omega) (u8s_step 10 _ _ u r (fun j _ => HSS.out j)) ?_; replace hH := hH.r2 (cs' := u8s 10 T1)))
          first
            | (refine ⟨(), ?_, hH⟩; (simp [lput, done, hn]; done))
            | (refine ⟨?_, hH⟩; (simp [lput, done, hn]; done))
            | (refine ⟨(), ?_, hH⟩; (simp [lput, done, hn]; rfl))
            | (refine ⟨?_, hH⟩; (simp [lput, done, hn]; rfl))
            | (refine ⟨(), ?_, hH⟩; (simp [lput, done]; done))
            | (refine ⟨?_, hH⟩; (simp [lput, done]; done))
            | (refine ⟨(), ?_, hH⟩; (simp [lput, done]; rfl))
            | (refine ⟨?_, hH⟩; (simp [lput, done]; rfl))
      case hq_rw =>
        clear hH
        intro d _ w1 hd hJ
        simp only [allDone, List.length_cons, List.length_nil, Nat.reduceAdd, and_true] at hd
        have hH := hJ; clear hJ
        simp only [hd, cond_true] at hH
        simp only [lput, List.set, hd, cond_true]
        clear hd
        go_wp2
        go_roundw
        case rel => exact ⟨k + 1, by omega, by go_num, by rw [HT1.out]; exact hH⟩
        case measure => simp [intOf]; omega
    · obtain rfl : k = N := by omega
      go_wp2_with (first | fail | (refine wpL_loadFull (x := .tmp 7) rfl rfl rfl rowPl hH.h2 (u8s_size _ _) ?_) | (refine wpL_storeFull (x := .tmp 6) rfl rfl rfl rfl rowPl hH.h1 (u8s_size _ _) (u8s_ok _ _) ?_))
      exact ret_c rfl rfl hH.r1.h1 rowPl (u8s_size _ _) ⟨rfl, hH.r1.below⟩
end Go.Proofs.Ytbhjbllgmenbaaa
namespace Go.Proofs.Ytbhjbllgmenbaaa
set_option linter.unusedVariables false
set_option linter.unusedSimpArgs false
open Go.RowKit
/-- The square while both entries of the column u are being written: s tells whether that of row a has been, t that of row b. -/
def swG (g : Nat → UInt8) (a b : Nat) (S : Nat → Bool) (u : Nat) (s t : Bool) : Nat → UInt8 := fun j => if t = true ∧ j = b * 10 + u then g (a * 10 + u) else if s = true ∧ j = a * 10 + u then g (b * 10 + u) else swF g a b S j
section
variable {g : Nat → UInt8} {a b u : Nat} {S S' : Nat → Bool}
theorem swG_none : swG g a b S u false false = swF g a b S := by funext j; simp [swG]
theorem swG_a (hne : a ≠ b) (t : Bool) (j : Nat) : swG g a b S u true t j = if j = a * 10 + u then g (b * 10 + u) else swG g a b S u false t j := by
  unfold swG
  by_cases e : j = a * 10 + u
  · subst e
    rw [if_neg (fun h => by have := h.2; omega), if_pos ⟨rfl, rfl⟩, if_pos rfl]
  · rw [if_neg e]
    by_cases c : t = true ∧ j = b * 10 + u
    · rw [if_pos c, if_pos c]
    · rw [if_neg c, if_neg c, if_neg (fun h => e h.2), if_neg (fun h => e h.2)]
theorem swG_b (s : Bool) (j : Nat) : swG g a b S u s true j = if j = b * 10 + u then g (a * 10 + u) else swG g a b S u s false j := by
  unfold swG
  by_cases e : j = b * 10 + u
  · rw [if_pos ⟨rfl, e⟩, if_pos e]
  · simp [e]
theorem swG_both (hu : u < 10) (hne : a ≠ b) (hS : ∀ y, S' y = if y = u then true else S y) : swG g a b S u true true = swF g a b S' := by
  funext j
  rw [swF_step hu hne hS j, swG_b, swG_a hne, swH]
  by_cases e : j = b * 10 + u
  · rw [if_pos e, if_pos e]
  · rw [if_neg e, if_neg e, swG_none]
end
theorem imp_nW {a b : Bool} (h : a = true → b = true) (hb : b = false) : a = false := by
  cases a with
  | false => rfl
  | true => rw [h rfl] at hb; cases hb
def freshS (w : World) (gs off : Nat) (z : Nat) : Bool := match w.cell? ⟨gs, off, none⟩ with
  | some (.int _ n) => n == (z : Int)
  | _ => true
theorem freshS_of {w : World} {gs N a b c k : Nat} {g : Nat → UInt8} {f : Nat → Nat} {t : TypeId} (h : holds w gs (sqc N (swF g a b (inO f c k))) t) (ha : a < 10) (hc : c < 10) (hne : (g (a * 10 + c)).toNat ≠ (g (b * 10 + c)).toNat) : freshS w gs (1 + (a * 10 + c)) (g (a * 10 + c)).toNat = decide (k = 0) := by
  unfold freshS
  rw [holds_cell h, sqc_get _ _ _ (by omega), swF_a hc]
  by_cases e : k = 0
  · subst e; rw [inO_zero]; simp
  · have : inO f c k c = true := inO_iff.2 ⟨0, by omega, rfl⟩
    rw [this, if_pos rfl]
    simp only [e, decide_false, beq_eq_false_iff_ne, ne_eq]
    intro h2; exact hne (by omega)
set_option maxRecDepth 100000 in
set_option maxHeartbeats 8000000 in
theorem switchCycle_any (N a b c t : Nat) (g : Nat → UInt8) (w : World) (hq : IsSq N g) (ha : a < N) (hb : b < N) (hc : c < N) (hne : a ≠ b) (hC : Cyc N (swC g N a b) c t) :
    Calls Try.prog 59 #[.agg (sqc N g), .int .u8 a, .int .u8 b, .int .u8 c] w fun e w' => e = .returned (.agg (sqc N (swF g a b (inO (swC g N a b) c t)))) ∧ Below w.heap.size w w' := by
  have h10 := hq.hi
  have htN := hC.le
  have HQ := hid hq
  have HC := hid hC
  have HPM := hid (swC_pmt hq ha hb)
  have HNE := hid (fun y (hy : y < N) => rows_ne hq ha hb hne hy)
  have HRL := hid (fun i (hi : i < N) => (show (rowF g a i).toNat < 10 from by have := (hq.rows a ha).lt i hi; omega))
  have HBL := hid (fun y (hy : y < N) => (show (g (b * 10 + y)).toNat < N from sq_lt hq hb hy))
  have HCY := hid hne
  clear hq hC
  obtain ⟨f, hf⟩ : ∃ f, swC g N a b = f := ⟨_, rfl⟩
  have HF := hid (fun y => (show (backF (rowF g a) N (g (b * 10 + y)).toNat).toNat = f y by rw [← hf]; rfl))
  rw [hf] at HC HPM ⊢
  clear hf
  have hN10 : (N : Int) ≤ 10 := by omega
  have ha10 : (a : Int) < 10 := by omega
  have hb10 : (b : Int) < 10 := by omega
  have hoff : a * 10 + 10 ≤ 100 := by omega
  have hH := Has.start2 w (sqc N g) (sqc 0 fun _ => 0) 29 29
  go_enter Try.func59, Try.ntmps59
  go_wp2_with (first | fail | (refine wpL_allocN (o := ⟨some 9, _, _, _, _, _⟩) rfl rfl zeroSq ?_; intro gs w4 hgs hl4 hb4; have hlo : w.heap.size + 2 ≤ gs := (by simpa using hl4); replace hH := hH.call' hb4; clear hb4 hl4) | (refine wpL_alloc rfl rfl zeroSq ?_; intro g0 hg0; (try simp at hg0); subst hg0) | (refine wpL_loadFull (x := .tmp 4) rfl rfl rfl rowSq hH.h0 (sqc_size _ _) ?_) | (refine wpL_storeN (x := .tmp 9) rfl rfl rfl rfl rowSq hgs (sqc_size _ _) (sqc_ok _ _) ?_; intro w5 hz hOo hT; replace hgs := hz; replace hH := hT _ _ hH hlo; clear hz hOo hT))
  obtain ⟨BK, hBK⟩ : ∃ B, backF (rowF g a) N = B := ⟨_, rfl⟩
  have HBK := hid hBK
  rw [hBK] at HF
  clear hBK
  simp only [Act.put, List.setIfInBounds_toArray, List.set_cons_zero, List.set_cons_succ]
  refine wp_region_frame (X := Nat) (fun d x => [(13, bif d 0 then .int .u8 a else undef), (14, bif d 1 then .pointer (some ⟨w.heap.size, 1, none⟩) else undef), (15, bif d 2 then .pointer (some ⟨w.heap.size, 1 + a * 10, none⟩) else undef), (16, bif d 3 then .agg (u8s 10 (rowF g a)) else undef), (17, bif d 4 then .pointer (some ⟨w.heap.size, 0, none⟩) else undef), (18, bif d 5 then .int .i64 N else undef), (19, bif d 6 then .agg (u8s 10 BK) else undef), (10, bif d 7 then .pointer (some ⟨x, 0, none⟩) else undef)])
    (fun d x w' => Has w w' [(sqc N g, 29), (sqc 0 (fun _ => 0), 29)] ∧ holds w' gs (sqc N g) 29 ∧ (d 7 = true → (w.heap.size + 2 ≤ x ∧ gs ≠ x) ∧ holds w' x (bif d 8 then u8s 10 BK else u8s 10 fun _ => 0) 71) ∧ (d 8 = true → d 7 = true) ∧ (d 8 = true → d 6 = true)) (by kernel_rfl) (by kernel_rfl) ?h0_sx ?hs_sx ?hq_sx
  case h0_sx => exact ⟨0, (by simp [lput]), hH.drew, (show _ from hgs), (fun h => by cases h), (fun h => by cases h), (fun h => by cases h)⟩
  case hs_sx =>
    refine ⟨?_, ?_, ?_, ?_, ?_, ?_, ?_, ?_, ?_, trivial⟩
    all_goals
      clear hH hgs
      intro d x w1 hd hn hJ
      simp only [needs, Region.binds, reduceCtorEq, Bool.false_eq_true, false_implies, true_and, and_true, true_implies, forall_const] at hn
      simp only [lput, List.set, hn, cond_true]
      try simp only [hd, cond_false] at hJ
      obtain ⟨hH, hgs, hB, I8_7, I8_6⟩ := hJ
      (try have hB_ := hB (by simp only [hn]))
      have c0 := hH.c0 0
      rw [sqc_get0] at c0
      have zz := hH.size
      simp only [List.length_cons, List.length_nil] at zz
      have hgl := holds_lt hgs
      go_wp2_with (first | fail | (refine wpL_loadRowSq rfl rfl rfl rowB10 hH.h0 hoff ?_) | (go_at_call 96; refine (backOf_any (rowF g a) N _ h10 HRL.out).mono ?_; rintro e w3 ⟨rfl, hb⟩; rw [HBK.out]; replace hH := hH.call' hb; replace hgs := holds_below hgs hb hgl; replace hB := fun e => And.intro (hB e).1 (holds_below (hB e).2 hb (holds_lt (hB e).2)); clear hb) | (refine wpL_storeN (x := .tmp 10) rfl rfl rfl rfl rowPl hB_.2 (u8s_size _ _) (u8s_ok _ _) ?_; intro w5 hz5 hOo hT; replace hH := hT _ _ hH hB_.1.1; replace hgs := hOo _ _ _ hB_.1.2 hgs; clear hOo hT) | (refine wpL_allocN (o := ⟨some 10, _, _, _, _, _⟩) rfl rfl zeroPl ?_; intro mb w4 hz4 hl4 hb4; have z8 : d 8 = false := (by first | exact imp_nW I8_7 hd | exact imp_nW I8_7 rfl); replace hH := hH.call' hb4; replace hgs := holds_below hgs hb4 hgl; have hmb : (w.heap.size + 2 ≤ mb ∧ gs ≠ mb) := (by omega)))
      first
        | (refine ⟨mb, ?_, hH, hgs, (fun _ => ⟨hmb, by simpa [done, z8] using hz4⟩), (by intro e; simp [done]), (by intro e; simp [done, z8] at e)⟩; (simp [lput, done, hn, z8]; done))
        | (refine ⟨x, ?_, hH, hgs, (fun _ => ⟨hB_.1, by simpa [done] using hz5⟩), (by intro e; simp [done, hn]), (by intro e; simp [done, hn])⟩; (simp [lput, done, hn]; done))
        | (refine ⟨x, ?_, hH, hgs, (fun e => hB (done_ne e (by decide))), (by intro e; first | (simp [done]; done) | (have e2 := I8_7 (done_ne e (by decide)); simp [done, e2]; done) | (simp [done, hn]; done)), (by intro e; first | (simp [done]; done) | (have e2 := I8_6 (done_ne e (by decide)); simp [done, e2]; done) | (simp [done, hn]; done))⟩; (simp [lput, done, hn]; done))
        | (refine ⟨?_, hH, hgs, (fun e => hB (done_ne e (by decide))), (by intro e; first | (simp [done]; done) | (have e2 := I8_7 (done_ne e (by decide)); simp [done, e2]; done) | (simp [done, hn]; done)), (by intro e; first | (simp [done]; done) | (have e2 := I8_6 (done_ne e (by decide)); simp [done, e2]; done) | (simp [done, hn]; done))⟩; (simp [lput, done, hn]; done))
        | (refine ⟨x, ?_, hH, hgs, (fun e => hB (done_ne e (by decide))), (by intro e; first | (simp [done]; done) | (have e2 := I8_7 (done_ne e (by decide)); simp [done, e2]; done) | (simp [done, hn]; done)), (by intro e; first | (simp [done]; done) | (have e2 := I8_6 (done_ne e (by decide)); simp [done, e2]; done) | (simp [done, hn]; done))⟩; (simp [lput, done, hn]; rfl))
        | (refine ⟨?_, hH, hgs, (fun e => hB (done_ne e (by decide))), (by intro e; first | (simp [done]; done) | (have e2 := I8_7 (done_ne e (by decide)); simp [done, e2]; done) | (simp [done, hn]; done)), (by intro e; first | (simp [done]; done) | (have e2 := I8_6 (done_ne e (by decide)); simp [done, e2]; done) | (simp [done, hn]; done))⟩; (simp [lput, done, hn]; rfl))
        | (refine ⟨x, ?_, hH, hgs, (fun e => hB (done_ne e (by decide))), (by intro e; first | (simp [done]; done) | (have e2 := I8_7 (done_ne e (by decide)); simp [done, e2]; done) | (simp [done, hn]; done)), (by intro e; first | (simp [done]; done) | (have e2 := I8_6 (done_ne e (by decide)); simp [done, e2]; done) | (simp [done, hn]; done))⟩; (simp [lput, done]; done))
        | (refine ⟨?_, hH, hgs, (fun e => hB (done_ne e (by decide))), (by intro e; first | (simp [done]; done) | (have e2 := I8_7 (done_ne e (by decide)); simp [done, e2]; done) | (simp [done, hn]; done)), (by intro e; first | (simp [done]; done) | (have e2 := I8_6 (done_ne e (by decide)); simp [done, e2]; done) | (simp [done, hn]; done))⟩; (simp [lput, done]; done))
        | (refine ⟨x, ?_, hH, hgs, (fun e => hB (done_ne e (by decide))), (by intro e; first | (simp [done]; done) | (have e2 := I8_7 (done_ne e (by decide)); simp [done, e2]; done) | (simp [done, hn]; done)), (by intro e; first | (simp [done]; done) | (have e2 := I8_6 (done_ne e (by decide)); simp [done, e2]; done) | (simp [done, hn]; done))⟩; (simp [lput, done]; rfl))
        | (refine ⟨?_, hH, hgs, (fun e => hB (done_ne e (by decide))), (by intro e; first | (simp [done]; done) | (have e2 := I8_7 (done_ne e (by decide)); simp [done, e2]; done) | (simp [done, hn]; done)), (by intro e; first | (simp [done]; done) | (have e2 := I8_6 (done_ne e (by decide)); simp [done, e2]; done) | (simp [done, hn]; done))⟩; (simp [lput, done]; rfl))
  case hq_sx =>
    clear hH hgs
    intro d x w1 hd hJ
    simp only [allDone, List.length_cons, List.length_nil, Nat.reduceAdd, and_true] at hd
    obtain ⟨hH, hgs, hB, I8_7, I8_6⟩ := hJ
    replace hB := hB (by simp only [hd])
    clear I8_7
    clear I8_6
    simp only [hd, cond_true] at hH hB
    simp only [lput, List.set, hd, cond_true]
    clear hd
    obtain ⟨gc, hgc⟩ : ∃ q, x = q := ⟨_, rfl⟩
    rw [hgc] at hB ⊢
    obtain ⟨⟨hlc, hsc⟩, hBk⟩ := hB
    replace hBk : holds w1 gc (u8s 10 BK) 71 := hBk
    clear hgc
    go_wp2
    go_loopw [11] (fun v wr => ∃ k : Nat, k ≤ t ∧ v = .int .u8 (it f c k : Nat) ∧ Has w wr [(sqc N g, 29), (sqc 0 (fun _ => 0), 29)] ∧ holds wr gs (sqc N (swF g a b (inO f c k))) 29 ∧ holds wr gc (u8s 10 BK) 71) (fun v wr => leftO f c t (freshS wr gs (1 + (a * 10 + c)) (g (a * 10 + c)).toNat) (intOf v).toNat)
    case atStart => exact ⟨0, by omega, rfl, hH, by rw [inO_zero, swF_none _ (fun _ => rfl)]; exact hgs, hBk⟩
    case round =>
      clear hH hgs hBk
      obtain ⟨k, hk, rfl, hH, hgs, hBk⟩ := hrel
      have hul := it_lt HPM.out hc k
      have hfs := freshS_of hgs (show a < 10 by omega) (show c < 10 by omega) (HNE.out c hc)
      obtain ⟨u, hu⟩ : ∃ u, it f c k = u := ⟨_, rfl⟩
      have HU := hid hu
      rw [hu] at hul ⊢
      have hu10 : (u : Int) < 10 := by omega
      obtain ⟨p, hp⟩ : ∃ p, g (a * 10 + u) = p := ⟨_, rfl⟩
      obtain ⟨q, hqq⟩ : ∃ q, g (b * 10 + u) = q := ⟨_, rfl⟩
      have HP := hid hp
      have HQQ := hid hqq
      have hpq := HNE.out u hul
      have hql := HBL.out u hul
      rw [hp, hqq] at hpq
      rw [hqq] at hql
      have cp : wr.cell? ⟨w.heap.size, 1 + a * 10 + u, none⟩ = some (.int .u8 p.toNat) := by rw [hH.c0, Nat.add_assoc, sqc_get _ _ _ (by omega), hp]
      clear hp hqq
      by_cases hkt : k < t
      · have hfr := HC.out.fresh HPM.out hc hkt
        rw [hu] at hfr
        have cs : wr.cell? ⟨gs, 1 + a * 10 + u, none⟩ = some (.int .u8 p.toNat) := by rw [holds_cell hgs, Nat.add_assoc, sqc_get _ _ _ (by omega), swF_a (by omega), hfr, ← HP.out]; rfl
        go_wp2
        go_quiet (fail)
        clear cp cs
        obtain ⟨wd, hwd⟩ : ∃ q, wr.drewN nq = q := ⟨_, rfl⟩
        obtain ⟨SK, hSK⟩ : ∃ S, inO f c k = S := ⟨_, rfl⟩
        have HSS := hid (fun j => (show inO f c (k + 1) j = if j = u then true else SK j by rw [← hSK, ← hu]; exact inO_succ f c k j))
        have HLS := hid (HC.out.less HPM.out hc hkt)
        have HFS := hid hfs
        replace hH : Has w wd [(sqc N g, 29), (sqc 0 (fun _ => 0), 29)] := by rw [← hwd]; exact hH.drewN _
        obtain ⟨X00, hX00⟩ : ∃ X, sqc N (swG g a b SK u false false) = X := ⟨_, rfl⟩
        obtain ⟨X01, hX01⟩ : ∃ X, sqc N (swG g a b SK u false true) = X := ⟨_, rfl⟩
        obtain ⟨X10, hX10⟩ : ∃ X, sqc N (swG g a b SK u true false) = X := ⟨_, rfl⟩
        obtain ⟨X11, hX11⟩ : ∃ X, sqc N (swG g a b SK u true true) = X := ⟨_, rfl⟩
        have HX11 := hid hX11
        have HZA := hid (fun (t : Bool) => (show (bif t then X01 else X00).size = 101 by rw [← hX01, ← hX00]; cases t <;> exact sqc_size _ _))
        have HZB := hid (fun (t : Bool) => (show (bif t then X10 else X00).size = 101 by rw [← hX10, ← hX00]; cases t <;> exact sqc_size _ _))
        have HXA := hid (fun (t : Bool) => (show (bif t then X01 else X00).setIfInBounds (1 + a * 10 + u) (.int .u8 q.toNat) = (bif t then X11 else X10) by
          rw [← hX01, ← hX00, ← hX11, ← hX10, Nat.add_assoc, ← HQQ.out]
          cases t
          · exact sqc_set _ _ _ _ _ (fun j _ => swG_a HCY.out _ j)
          · exact sqc_set _ _ _ _ _ (fun j _ => swG_a HCY.out _ j)))
        have HXB := hid (fun (t : Bool) => (show (bif t then X10 else X00).setIfInBounds (1 + b * 10 + u) (.int .u8 p.toNat) = (bif t then X11 else X01) by
          rw [← hX01, ← hX00, ← hX11, ← hX10, Nat.add_assoc, ← HP.out]
          cases t
          · exact sqc_set _ _ _ _ _ (fun j _ => swG_b _ j)
          · exact sqc_set _ _ _ _ _ (fun j _ => swG_b _ j)))
        replace hgs : holds wd gs X00 29 := by rw [← hwd, ← hX00, swG_none, ← hSK]; exact hgs
        clear hX00 hX01 hX10 hX11
        replace hBk : holds wd gc (u8s 10 BK) 71 := by rw [← hwd]; exact hBk
        rw [hwd]
        clear hwd hSK hfs hfr
        go_wp2
        refine wp_region_frame (X := Unit) (fun d _ => [(42, bif d 0 then .int .u8 a else u42), (43, bif d 1 then .int .u8 u else u43), (44, bif d 2 then .int .u8 b else u44), (45, bif d 3 then .int .u8 u else u45), (46, bif d 4 then .int .u8 b else u46), (47, bif d 5 then .int .u8 u else u47), (48, bif d 6 then .pointer (some ⟨w.heap.size, 1, none⟩) else u48), (49, bif d 7 then .pointer (some ⟨w.heap.size, 1 + b * 10, none⟩) else u49), (50, bif d 8 then .pointer (some ⟨w.heap.size, 1 + b * 10 + u, none⟩) else u50), (51, bif d 9 then .int .u8 q.toNat else u51), (52, bif d 10 then .int .u8 a else u52), (53, bif d 11 then .int .u8 u else u53), (54, bif d 12 then .pointer (some ⟨w.heap.size, 1, none⟩) else u54), (55, bif d 13 then .pointer (some ⟨w.heap.size, 1 + a * 10, none⟩) else u55), (56, bif d 14 then .pointer (some ⟨w.heap.size, 1 + a * 10 + u, none⟩) else u56), (57, bif d 15 then .int .u8 p.toNat else u57), (58, bif d 16 then .pointer (some ⟨gs, 1, none⟩) else u58), (59, bif d 17 then .pointer (some ⟨gs, 1 + a * 10, none⟩) else u59), (60, bif d 18 then .pointer (some ⟨gs, 1 + a * 10 + u, none⟩) else u60), (61, bif d 20 then .pointer (some ⟨gs, 1, none⟩) else u61), (62, bif d 21 then .pointer (some ⟨gs, 1 + b * 10, none⟩) else u62), (63, bif d 22 then .pointer (some ⟨gs, 1 + b * 10 + u, none⟩) else u63)])
          (fun d _ w' => Has w w' [(sqc N g, 29), (sqc 0 (fun _ => 0), 29)] ∧ holds w' gs (bif d 19 then (bif d 23 then X11 else X10) else (bif d 23 then X01 else X00)) 29 ∧ holds w' gc (u8s 10 BK) 71) (by kernel_rfl) (by kernel_rfl) ?h0_sy ?hs_sy ?hq_sy
        case h0_sy => exact ⟨(), (by simp [lput]), hH.drew, (show _ from hgs), (show _ from hBk)⟩
        case hs_sy =>
          refine ⟨?_, ?_, ?_, ?_, ?_, ?_, ?_, ?_, ?_, ?_, ?_, ?_, ?_, ?_, ?_, ?_, ?_, ?_, ?_, ?_, ?_, ?_, ?_, ?_, trivial⟩
          all_goals
            clear hH hgs hBk
            intro d _ w1 hd hn hJ
            simp only [needs, Region.binds, reduceCtorEq, Bool.false_eq_true, false_implies, true_and, and_true, true_implies, forall_const] at hn
            simp only [lput, List.set, hn, cond_true]
            try simp only [hd, cond_false] at hJ
            obtain ⟨hH, hgs, hBk⟩ := hJ
            have c1 : w1.cell? ⟨w.heap.size, 1 + b * 10 + u, none⟩ = some (.int .u8 q.toNat) := by rw [hH.c0, Nat.add_assoc, sqc_get _ _ _ (by omega), HQQ.out]
            have c2 : w1.cell? ⟨w.heap.size, 1 + a * 10 + u, none⟩ = some (.int .u8 p.toNat) := by rw [hH.c0, Nat.add_assoc, sqc_get _ _ _ (by omega), HP.out]
            go_wp2_with (first | fail | (refine wpL_cellW (g := gs) (v := .int .u8 q.toNat) (cs' := (bif d 23 then X11 else X10)) (off := 1 + a * 10 + u) rfl rfl rfl rfl (by kernel_rfl) (by rfl) hgs (by rw [HZA.out]; omega) (HXA.out _) ?_; replace hH := hH.setRowAbove (by simpa using hlo) (bif d 23 then X11 else X10); have hgA : holds (w1.setRow gs (bif d 23 then X11 else X10)) gs (bif d 23 then X11 else X10) 29 := holds_row hgs; replace hBk : holds (w1.setRow gs (bif d 23 then X11 else X10)) gc (u8s 10 BK) 71 := holds_row_other hBk (Ne.symm hsc)) | (have y19 : d 19 = true := (by simp only [hn]); have hg10 : holds w1 gs X10 29 := (by simpa only [y19, cond_true] using hgs); refine wpL_cellW (g := gs) (v := .int .u8 p.toNat) (cs' := X11) (off := 1 + b * 10 + u) rfl rfl rfl rfl (by kernel_rfl) (by rfl) hg10 (by have := HZB.out true; simp only [cond_true] at this; omega) (HXB.out true) ?_; replace hH := hH.setRowAbove (by simpa using hlo) X11; have hgB : holds (w1.setRow gs X11) gs X11 29 := holds_row hg10; replace hBk : holds (w1.setRow gs X11) gc (u8s 10 BK) 71 := holds_row_other hBk (Ne.symm hsc)))
            first
              | (refine ⟨?_, hH, (by simpa [done] using hgA), hBk⟩; (simp [lput, done, hn]; done))
              | (refine ⟨?_, hH, (by simpa [done, y19] using hgB), hBk⟩; (simp [lput, done, hn]; done))
              | (refine ⟨(), ?_, hH, hgs, hBk⟩; (simp [lput, done, hn]; done))
              | (refine ⟨?_, hH, hgs, hBk⟩; (simp [lput, done, hn]; done))
              | (refine ⟨(), ?_, hH, hgs, hBk⟩; (simp [lput, done, hn]; rfl))
              | (refine ⟨?_, hH, hgs, hBk⟩; (simp [lput, done, hn]; rfl))
              | (refine ⟨(), ?_, hH, hgs, hBk⟩; (simp [lput, done]; done))
              | (refine ⟨?_, hH, hgs, hBk⟩; (simp [lput, done]; done))
              | (refine ⟨(), ?_, hH, hgs, hBk⟩; (simp [lput, done]; rfl))
              | (refine ⟨?_, hH, hgs, hBk⟩; (simp [lput, done]; rfl))
        case hq_sy =>
          clear hH hgs hBk
          intro d _ w1 hd hJ
          simp only [allDone, List.length_cons, List.length_nil, Nat.reduceAdd, and_true] at hd
          obtain ⟨hH, hgs, hBk⟩ := hJ
          simp only [hd, cond_true] at hH hgs
          simp only [lput, List.set, hd, cond_true]
          clear hd
          rw [← HX11.out, swG_both (S' := inO f c (k + 1)) (by omega) HCY.out HSS.out] at hgs
          have hfq := HF.out u
          rw [HQQ.out] at hfq
          obtain ⟨v, hv⟩ : ∃ v, f u = v := ⟨_, rfl⟩
          have hvn : v = it f c (k + 1) := by rw [← hv]; show f u = f (it f c k); rw [HU.out]
          have HV := hid hvn
          have hvl : v < N := by rw [hvn]; exact it_lt HPM.out hc (k + 1)
          rw [hv] at hfq
          have cw : w1.cell? ⟨w.heap.size, 1 + b * 10 + u, none⟩ = some (.int .u8 q.toNat) := by rw [hH.c0, Nat.add_assoc, sqc_get _ _ _ (by omega), HQQ.out]
          have cb : w1.cell? ⟨gc, q.toNat, none⟩ = some (.int .u8 v) := by rw [holds_cell hBk, u8s_get _ _ _ (by omega), hfq]
          have hq10 : (q.toNat : Int) < 10 := by omega
          clear hv hvn hfq
          go_wp2
          refine ⟨⟨k + 1, by omega, by rw [HV.out], hH, hgs, hBk⟩, ?_⟩
          rw [freshS_of hgs (show a < 10 by omega) (show c < 10 by omega) (HNE.out c hc), HFS.out]
          have := HLS.out
          rw [← HV.out, HU.out] at this
          simpa [intOf] using this
      · obtain rfl : k = t := by omega
        have hfu := HC.out.full
        rw [hu] at hfu
        have cs : wr.cell? ⟨gs, 1 + a * 10 + u, none⟩ = some (.int .u8 q.toNat) := by rw [holds_cell hgs, Nat.add_assoc, sqc_get _ _ _ (by omega), swF_a (by omega), hfu, ← HQQ.out]; rfl
        have hpq' : ¬ (q.toNat : Int) = (p.toNat : Int) := by omega
        go_wp2
        go_quiet (fail)
        go_wp2_with (first | fail | (refine wpL_loadFull (x := .tmp 9) rfl rfl rfl rowSq (show holds _ gs _ 29 from hgs) (sqc_size _ _) ?_) | (refine wpL_storeFull (x := .tmp 8) rfl rfl rfl rfl rowSq (hH.drewN nq).h1 (sqc_size _ _) (sqc_ok _ _) ?_))
        exact ret_c rfl rfl (hH.drewN nq).r1.h1 rowSq (sqc_size _ _) ⟨rfl, (hH.drewN nq).r1.below⟩
end Go.Proofs.Ytbhjbllgmenbaaa
namespace Go.Proofs.Ytbhjbllgmenbaaa
set_option linter.unusedVariables false
set_option linter.unusedSimpArgs false
open Go.RowKit
set_option maxRecDepth 20000 in
set_option maxHeartbeats 2000000 in
theorem l09Pair_by (o : Int) (g : Nat → UInt8) (a b c : UInt8) (z : Int) (w : World) (hz : (z == 0) = false)
    (hC : Hid (∀ w, Calls Try.prog 100 #[.agg (sqc o g), .int .u8 a.toNat, .int .u8 b.toNat] w fun e w' => e = .returned (.int .i64 z) ∧ Below w.heap.size w w')) :
    Calls Try.prog 66 #[.agg (sqc o g), .int .u8 a.toNat, .int .u8 b.toNat, .int .u8 c.toNat] w fun e w' => e = .returned (.int .i64 z) ∧ Below w.heap.size w w' := by
  have hz2 : ¬ z = 0 := by simpa using hz
  have hH := Has.start1 w (sqc o g) 29
  go_enter Try.func66, Try.ntmps66
  go_wp2_with (first | fail | (refine wpL_loadFull rfl rfl rfl rowSq hH.h0 (sqc_size _ _) ?_) | (go_at_call 100; refine (hC.out _).mono ?_; rintro e w2 ⟨rfl, hb⟩; replace hH := hH.call' hb; clear hb))
  go_ret
  exact ⟨rfl, hH.below⟩
set_option maxRecDepth 20000 in
set_option maxHeartbeats 2000000 in
theorem l09Pair_bad (N : Nat) (g : Nat → UInt8) (a b c : UInt8) (w : World) (hs : sqB (N : Int) g = true) (ha : a.toNat < N) (hb : b.toNat < N) (h : a.toNat = b.toNat ∨ N ≤ c.toNat) :
    Calls Try.prog 66 #[.agg (sqc N g), .int .u8 a.toNat, .int .u8 b.toNat, .int .u8 c.toNat] w fun e w' => e = .returned (.int .i64 2) ∧ Below w.heap.size w w' := by
  have hH := Has.start1 w (sqc N g) 29
  have ba := u8_bd a
  have bb := u8_bd b
  have bc := u8_bd c
  by_cases e : a.toNat = b.toNat
  · obtain rfl : a = b := UInt8.toNat.inj e
    clear h e
    go_enter Try.func66, Try.ntmps66
    go_wp2_with (first | fail | (refine wpL_loadFull rfl rfl rfl rowSq hH.h0 (sqc_size _ _) ?_) | (go_at_call 100; with_reducible refine (l01Two_in N g a _ _ hs ha hb).mono ?_; rintro e w2 ⟨rfl, hb⟩; replace hH := hH.call' hb; clear hb; have c0 := hH.c0 0; rw [sqc_get0] at c0))
    go_ret
    exact ⟨rfl, hH.below⟩
  · have e' : ¬ (a.toNat : Int) = (b.toNat : Int) := by omega
    have hc : (N : Int) ≤ (c.toNat : Int) := by omega
    clear h e
    go_enter Try.func66, Try.ntmps66
    go_wp2_with (first | fail | (refine wpL_loadFull rfl rfl rfl rowSq hH.h0 (sqc_size _ _) ?_) | (go_at_call 100; refine (l01Two_in N g a b _ hs ha hb).mono ?_; rintro e w2 ⟨rfl, hb⟩; replace hH := hH.call' hb; clear hb; have c0 := hH.c0 0; rw [sqc_get0] at c0))
    go_ret
    exact ⟨rfl, hH.below⟩
set_option maxRecDepth 20000 in
set_option maxHeartbeats 2000000 in
theorem l09Pair_in (N : Nat) (g : Nat → UInt8) (a b c : UInt8) (w : World) (hs : sqB (N : Int) g = true) (ha : a.toNat < N) (hb : b.toNat < N) (hne : a.toNat ≠ b.toNat) (hc : c.toNat < N) :
    Calls Try.prog 66 #[.agg (sqc N g), .int .u8 a.toNat, .int .u8 b.toNat, .int .u8 c.toNat] w fun e w' => e = .returned (.int .i64 0) ∧ Below w.heap.size w w' := by
  have hH := Has.start1 w (sqc N g) 29
  have ba := u8_bd a
  have bb := u8_bd b
  have bc := u8_bd c
  have e' : ¬ (a.toNat : Int) = (b.toNat : Int) := by omega
  have hc' : ¬ (N : Int) ≤ (c.toNat : Int) := by omega
  have eb : ((a.toNat : Int) == (b.toNat : Int)) = false := by simpa using e'
  have ec : decide (N ≤ c.toNat) = false := decide_eq_false (by omega)
  have EB := hid eb
  have EC := hid ec
  clear hne eb ec
  go_enter Try.func66, Try.ntmps66
  go_wp2_with (first | fail | (refine wpL_loadFull rfl rfl rfl rowSq hH.h0 (sqc_size _ _) ?_) | (go_at_call 100; refine (l01Two_in N g a b _ hs ha hb).mono ?_; rintro e w2 ⟨rfl, hb⟩; replace hH := hH.call' hb; clear hb; have c0 := hH.c0 0; rw [sqc_get0] at c0))
  · exfalso
    first | omega | (rename_i hx; rw [Bool.or_eq_true, EB.out, EC.out] at hx; simp at hx; done) | (rename_i hx; simp at hx; omega)
  · go_ret
    exact ⟨rfl, hH.below⟩
end Go.Proofs.Ytbhjbllgmenbaaa
namespace Go.Proofs.Ytbhjbllgmenbaaa
set_option linter.unusedVariables false
set_option linter.unusedSimpArgs false
open Go.RowKit
theorem holds_neW {w : World} {b b' : Nat} {cs cs' : Array Value} {t t' : TypeId} (h : holds w b cs t) (h' : holds w b' cs' t') (ht : t ≠ t') : b ≠ b' := fun e => by
  subst e
  have h2 : some (Obj.cells cs t (0, 0)) = some (Obj.cells cs' t' (0, 0)) := h.symm.trans h'
  injection h2 with h3
  injection h3 with _ h4
  exact ht h4
structure SV2 where
  p : Nat
  q : Nat
end Go.Proofs.Ytbhjbllgmenbaaa
namespace Go.Proofs.Ytbhjbllgmenbaaa
set_option linter.unusedVariables false
set_option linter.unusedSimpArgs false
open Go.RowKit
theorem infoB8 : (Try.prog.info? 5).map (fun i => (i.zero, i.size, i.bytes)) = some (some (.int .u8 0), 1, 1) := by kernel_rfl
/-- The first n bytes of block b are those of F. -/
def PreB (w : World) (b n : Nat) (F : Nat → UInt8) : Prop := ∃ cs, holds w b cs 5 ∧ ∀ k, k < n → cs[k]? = some (.int .u8 (F k).toNat)
/-- A slice of n bytes that has no room left. -/
def BsW (w : World) (ao : Option Addr) (n : Nat) (f : Nat → UInt8) : Prop := (ao = none ∧ n = 0) ∨ ∃ b, ao = some ⟨b, 0, none⟩ ∧ holds w b (u8s n f) 5
theorem BsW.alloc {w : World} {ao : Option Addr} {n : Nat} {f : Nat → UInt8} (h : BsW w ao n f) (o : Obj) : BsW (w.alloc o) ao n f := by
  rcases h with h | ⟨b, e, h⟩
  · exact .inl h
  · exact .inr ⟨b, e, holds_alloc h o⟩
theorem BsW.drew {w : World} {ao : Option Addr} {n : Nat} {f : Nat → UInt8} (h : BsW w ao n f) : BsW w.drew ao n f := h
theorem BsW.below {w w' : World} {ao : Option Addr} {n : Nat} {f : Nat → UInt8} (h : BsW w ao n f) (hb : Below w.heap.size w w') : BsW w' ao n f := by
  rcases h with h | ⟨b, e, h⟩
  · exact .inl h
  · exact .inr ⟨b, e, holds_below h hb (holds_lt h)⟩
theorem PreB.alloc {w : World} {b n : Nat} {F : Nat → UInt8} (h : PreB w b n F) (o : Obj) : PreB (w.alloc o) b n F := by
  obtain ⟨cs, hg, hc⟩ := h
  exact ⟨cs, holds_alloc hg o, hc⟩
theorem PreB.below {w w' : World} {b n : Nat} {F : Nat → UInt8} (h : PreB w b n F) (hb : Below w.heap.size w w') : PreB w' b n F := by
  obtain ⟨cs, hg, hc⟩ := h
  exact ⟨cs, holds_below hg hb (holds_lt hg), hc⟩
def addF (n : Nat) (f : Nat → UInt8) (x y : UInt8) (k : Nat) : UInt8 := if k < n then f k else if k = n then x else y
noncomputable def elC (o : Int) (g : Nat → UInt8) (n : Nat) (F : Nat → UInt8) : Nat := if sqB o g = false then 1 else if ∀ i, i < n → (F i).toNat < o.toNat then 0 else 2
section
variable {ops : Array Oper} {rest : List Oper} {o : Oper} {a : Act} {w : World} {Q : Exit → Act → World → Prop}
theorem wpL_appB2 {s x : Operand} (hgd : o.guard = none) (ho : o.op = .call { callee := .builtin .append, args := #[s, x], argTypes := #[111, 111] }) {ao : Option Addr} {n sb : Nat} {f : Nat → UInt8} {p q : UInt8}
    (hs : a.eval s = .slice ao n n) (hx : a.eval x = .slice (some ⟨sb, 0, none⟩) 2 2) (hB : BsW w ao n f) (hS : holds w sb (u8s 2 (pairF p q)) 5) (hn : n ≤ 100)
    (h : ∀ g cap w', PreB w' g (n + 2) (addF n f p q) → w.heap.size ≤ g → Below w.heap.size w w' → wpList Try.prog ops Q rest (a.put o.dst (.slice (some ⟨g, 0, none⟩) (n + 2) cap)) w') : wpList Try.prog ops Q (o :: rest) a w := by
  obtain ⟨i, hi, hz, h1, h2⟩ := info_parts infoB8
  refine wpList_append_grows w hgd s x 111 ho 5 i (.int .u8 0) 1 1 Try.underlying111 hi hz h1 h2 rfl (by omega) ao n n ((List.range n).map fun k => .int .u8 (f k).toNat) hs (fun e => ?_) (by simp) (fun b e j u hj => ?_) ⟨sb, 0, none⟩ 2 2 [.int .u8 p.toNat, .int .u8 q.toNat] hx rfl (fun j u hj => ?_) (fun u hu => ?_) (by omega) (by unfold maxLen; omega) (by omega) (fun v' w' how hgr => ?_)
  · rcases hB with ⟨_, h0⟩ | ⟨b, e2, _⟩
    · exact ⟨h0, h0⟩
    · rw [e] at e2; cases e2
  · rcases hB with ⟨h0, _⟩ | ⟨b2, e2, hb⟩
    · rw [e] at h0; cases h0
    · rw [e] at e2
      obtain rfl := Option.some.inj e2
      rw [List.getElem?_map] at hj
      by_cases hjn : j < n
      · rw [List.getElem?_range hjn] at hj
        obtain rfl := Option.some.inj hj
        have e3 : (⟨b2, 0, none⟩ : Addr).add j = ⟨b2, j, none⟩ := by unfold Addr.add; split <;> simp_all
        rw [e3, holds_cell hb, u8s_get n f j hjn]
      · rw [List.getElem?_eq_none (by simpa using hjn)] at hj; cases hj
  · have e3 : (⟨sb, 0, none⟩ : Addr).add j = ⟨sb, j, none⟩ := by unfold Addr.add; split <;> simp_all
    rw [e3, holds_cell hS]
    match j, hj with
    | 0, hj => simp at hj; subst hj; exact u8s_get 2 (pairF p q) 0 (by omega)
    | 1, hj => simp at hj; subst hj; exact u8s_get 2 (pairF p q) 1 (by omega)
    | j + 2, hj => simp at hj
  · simp only [List.mem_cons, List.not_mem_nil, or_false] at hu
    rcases hu with rfl | rfl <;> rfl
  · rcases how.2 with ⟨_, h0⟩ | ⟨g, cap, cur, rfl, hb, hg, hc, _, hs, hx⟩
    · omega
    · refine h g cap w' ⟨cur, hg, fun k hk => ?_⟩ hb ⟨hgr.os, hgr.tape, hgr.output, hgr.size, fun k hk => hgr.block k hk (by simp)⟩
      have e : (cur.toList.take ((n + 2) * 1))[k]? = _ := congrArg (fun l : List Value => l[k]?) hx
      rw [List.getElem?_take, if_pos (by omega), Array.getElem?_toList] at e
      rw [e]
      unfold addF
      by_cases hkn : k < n
      · rw [if_pos hkn, List.getElem?_append_left (by simpa using hkn), List.getElem?_map, List.getElem?_range hkn]; rfl
      · rw [if_neg hkn, List.getElem?_append_right (by simpa using hkn)]
        by_cases hk1 : k = n
        · rw [if_pos hk1]; subst hk1; simp
        · rw [if_neg hk1]
          have : k = n + 1 := by omega
          subst this; simp
end
set_option maxRecDepth 20000 in
set_option maxHeartbeats 1000000 in
theorem elementCodeP_no (o : Int) (g : Nat → UInt8) (n cp b : Nat) (w : World) (hs : sqB o g = false) :
    Calls Try.prog 104 #[.agg (sqc o g), .slice (some ⟨b, 0, none⟩) n cp] w fun e w' => e = .returned (.int .i64 1) ∧ Below w.heap.size w w' := by
  have hH := Has.start1 w (sqc o g) 29
  go_enter Try.func104, Try.ntmps104
  go_wp2_with (first | (refine wpL_loadFull rfl rfl rfl rowSq hH.h0 (sqc_size _ _) ?_) | (go_at_call 56; refine (IsSquare_any o g _).mono ?_; rintro e w2 ⟨rfl, hb⟩; replace hH := hH.call' hb; rw [hs]))
  go_ret
  exact ⟨rfl, hH.below⟩
set_option maxRecDepth 20000 in
set_option maxHeartbeats 2000000 in
theorem elementCodeP_in (N : Nat) (g f : Nat → UInt8) (n cp b : Nat) (cs : Array Value) (w : World) (hn : n ≤ 8) (hs : sqB (N : Int) g = true) (hg : holds w b cs 5) (hcs : Hid (∀ k, k < n → cs[k]? = some (.int .u8 (f k).toNat))) (hf : ∀ i, i < n → (f i).toNat < N) :
    Calls Try.prog 104 #[.agg (sqc N g), .slice (some ⟨b, 0, none⟩) n cp] w fun e w' => e = .returned (.int .i64 0) ∧ Below w.heap.size w w' := by
  have HF := hid hf; clear hf
  have hH := Has.start1 w (sqc N g) 29
  replace hg := holds_alloc hg (.cells (sqc N g) 29)
  go_enter Try.func104, Try.ntmps104
  go_wp2_with (first | (refine wpL_loadFull rfl rfl rfl rowSq hH.h0 (sqc_size _ _) ?_) | (go_at_call 56; refine (IsSquare_any N g _).mono ?_; rintro e w2 ⟨rfl, hb⟩; replace hH := hH.call' hb; replace hg := holds_below hg hb (holds_lt hg); clear hb; rw [hs]))
  go_loopw [12] (fun i wr => ∃ k : Nat, k ≤ n ∧ i = .int .i64 k ∧ Has w wr [(sqc N g, 29)] ∧ holds wr b cs 5) (fun i _ => 10 - (intOf i).toNat)
  case atStart => exact ⟨0, by omega, rfl, hH, hg⟩
  case round =>
    clear hH hg
    obtain ⟨k, hk, rfl, hH, hg⟩ := hrel
    by_cases hlt : k < n
    · have cx : wr.cell? ⟨b, k, none⟩ = some (.int .u8 (f k).toNat) := by rw [holds_cell hg, hcs.out k hlt]
      have cz : wr.cell? ⟨w.heap.size, 0, none⟩ = some (.int .i64 N) := by rw [hH.c0, sqc_get0]
      have hb := u8_bd (f k)
      have hx : ((f k).toNat : Int) < (N : Int) := by have := HF.out k hlt; omega
      go_wp2
      go_roundw
      case rel => exact ⟨k + 1, by omega, by go_num, hH, hg⟩
      case measure => simp [intOf]; omega
    · go_wp2
      go_ret
      exact ⟨rfl, hH.below⟩
set_option maxRecDepth 20000 in
set_option maxHeartbeats 2000000 in
theorem elementCodeP_far (N : Nat) (g f : Nat → UInt8) (n cp b k0 : Nat) (cs : Array Value) (w : World) (hn : n ≤ 8) (hs : sqB (N : Int) g = true) (hg : holds w b cs 5) (hcs : Hid (∀ k, k < n → cs[k]? = some (.int .u8 (f k).toNat))) (hf : FarAt f N n k0) :
    Calls Try.prog 104 #[.agg (sqc N g), .slice (some ⟨b, 0, none⟩) n cp] w fun e w' => e = .returned (.int .i64 2) ∧ Below w.heap.size w w' := by
  have HF := hid hf; clear hf
  have hH := Has.start1 w (sqc N g) 29
  replace hg := holds_alloc hg (.cells (sqc N g) 29)
  go_enter Try.func104, Try.ntmps104
  go_wp2_with (first | (refine wpL_loadFull rfl rfl rfl rowSq hH.h0 (sqc_size _ _) ?_) | (go_at_call 56; refine (IsSquare_any N g _).mono ?_; rintro e w2 ⟨rfl, hb⟩; replace hH := hH.call' hb; replace hg := holds_below hg hb (holds_lt hg); clear hb; rw [hs]))
  go_loopw [12] (fun i wr => ∃ k : Nat, k ≤ k0 ∧ i = .int .i64 k ∧ Has w wr [(sqc N g, 29)] ∧ holds wr b cs 5) (fun i _ => 10 - (intOf i).toNat)
  case atStart => exact ⟨0, by omega, rfl, hH, hg⟩
  case round =>
    clear hH hg
    obtain ⟨k, hk, rfl, hH, hg⟩ := hrel
    have hk0 := HF.out.lt
    have hlt : k < n := by omega
    have cx : wr.cell? ⟨b, k, none⟩ = some (.int .u8 (f k).toNat) := by rw [holds_cell hg, hcs.out k hlt]
    have cz : wr.cell? ⟨w.heap.size, 0, none⟩ = some (.int .i64 N) := by rw [hH.c0, sqc_get0]
    have hb := u8_bd (f k)
    by_cases h2 : k < k0
    · have hx : ((f k).toNat : Int) < (N : Int) := by have := HF.out.lo k h2; omega
      go_wp2
      go_roundw
      case rel => exact ⟨k + 1, by omega, by go_num, hH, hg⟩
      case measure => simp [intOf]; omega
    · obtain rfl : k = k0 := by omega
      have hx : (N : Int) ≤ ((f k).toNat : Int) := by have := HF.out.far; omega
      go_wp2
      go_ret
      exact ⟨rfl, hH.below⟩
theorem far_ex {n N : Nat} {F : Nat → UInt8} (h : ¬ ∀ i, i < n → (F i).toNat < N) : ∃ k0, FarAt F N n k0 := by
  induction n with
  | zero => exact absurd (fun i hi => by omega) h
  | succ n ih =>
    by_cases h1 : ∀ i, i < n → (F i).toNat < N
    · refine ⟨n, by omega, h1, ?_⟩
      by_cases h2 : N ≤ (F n).toNat
      · exact h2
      · exact absurd (fun i hi => by
          by_cases e : i = n
          · subst e; omega
          · exact h1 i (by omega)) h
    · obtain ⟨k0, hk⟩ := ih h1
      exact ⟨k0, by have := hk.lt; omega, hk.lo, hk.far⟩
theorem elementCode_pre (o : Int) (g F : Nat → UInt8) (n cp b : Nat) (w : World) (hn : n ≤ 8) (h : PreB w b n F) :
    Calls Try.prog 104 #[.agg (sqc o g), .slice (some ⟨b, 0, none⟩) n cp] w fun e w' => e = .returned (.int .i64 (elC o g n F)) ∧ Below w.heap.size w w' := by
  obtain ⟨cs, hg, hcs⟩ := h
  unfold elC
  cases hs : sqB o g with
  | false =>
    rw [if_pos rfl]
    exact elementCodeP_no o g n cp b w hs
  | true =>
    rw [if_neg (by simp)]
    obtain ⟨N, rfl, hq⟩ := sq_nat hs
    by_cases hf : ∀ i, i < n → (F i).toNat < N
    · rw [if_pos (by simpa using hf)]
      exact elementCodeP_in N g F n cp b cs w hn hs hg (hid hcs) hf
    · rw [if_neg (by simpa using hf)]
      obtain ⟨k0, hk⟩ := far_ex hf
      exact elementCodeP_far N g F n cp b k0 cs w hn hs hg (hid hcs) hk
structure RQ where
  s : Nat
  g : Nat
  cap : Nat
noncomputable def rowsC (o : Int) (g : Nat → UInt8) (n : Nat) (f : Nat → UInt8) (a b : UInt8) : Nat := if elC o g (n + 2) (addF n f a b) = 0 ∧ a = b then 2 else elC o g (n + 2) (addF n f a b)
set_option maxRecDepth 20000 in
set_option maxHeartbeats 4000000 in
theorem rowsCode_any (o : Int) (g f : Nat → UInt8) (n : Nat) (a b : UInt8) (ao : Option Addr) (w : World) (hn : n ≤ 4) (hv : BsW w ao n f) :
    Calls Try.prog 68 #[.agg (sqc o g), .int .u8 a.toNat, .int .u8 b.toNat, .slice ao n n] w fun e w' => e = .returned (.int .i64 (rowsC o g n f a b)) ∧ Below w.heap.size w w' := by
  unfold rowsC
  obtain ⟨z, hz⟩ : ∃ z, elC o g (n + 2) (addF n f a b) = z := ⟨_, rfl⟩
  rw [hz]
  have HZ := hid hz
  clear hz
  have hH := Has.start1 w (sqc o g) 29
  have hV := hid (hv.alloc (.cells (sqc o g) 29))
  clear hv
  go_enter Try.func68, Try.ntmps68
  go_wp2
  refine wp_region_frame (X := RQ) (fun d x => [(10, bif d 0 then .agg (sqc o g) else undef), (11, bif d 1 then .slice ao n n else undef), (12, bif d 2 then .int .u8 a.toNat else undef), (13, bif d 3 then .int .u8 b.toNat else undef), (14, bif d 4 then .slice (some ⟨x.s, 0, none⟩) 2 2 else undef), (15, bif d 5 then .slice (some ⟨x.g, 0, none⟩) (n + 2) x.cap else undef), (16, bif d 6 then .int .i64 z else undef), (9, bif d 7 then .int .i64 z else undef)])
    (fun d x w' => Has w w' [(sqc o g, 29)] ∧ Hid (BsW w' ao n f) ∧ (d 4 = true → holds w' x.s (u8s 2 (pairF a b)) 5) ∧ (d 5 = true → PreB w' x.g (n + 2) (addF n f a b))) (by kernel_rfl) (by kernel_rfl) ?h0_rc ?hs_rc ?hq_rc
  case h0_rc => exact ⟨⟨0, 0, 0⟩, (by simp [lput]), hH.drew, hid hV.out.drew, (fun h => by cases h), (fun h => by cases h)⟩
  case hs_rc =>
    refine ⟨?_, ?_, ?_, ?_, ?_, ?_, ?_, ?_, trivial⟩
    all_goals
      clear hH hV
      intro d x w1 hd hn hJ
      simp only [needs, Region.binds, reduceCtorEq, Bool.false_eq_true, false_implies, true_and, and_true, true_implies, forall_const] at hn
      simp only [lput, List.set, hn, cond_true]
      obtain ⟨hH, hV, hS, hA⟩ := hJ
      (try have hS_ := hS (by simp only [hn]))
      (try have hA_ := hA (by simp only [hn]))
      go_wp2_with (first | fail | (refine wpL_loadFull rfl rfl rfl rowSq hH.h0 (sqc_size _ _) ?_) | (refine wpL_slice2 (x := a) (y := b) rfl rfl (by rfl) (by rfl) ?_; obtain ⟨w2, hw2⟩ : ∃ w2, w1.alloc (.cells (u8s 2 (pairF a b)) 5) = w2 := ⟨_, rfl⟩; have hSn : holds w2 w1.heap.size (u8s 2 (pairF a b)) 5 := (by rw [← hw2]; exact holds_new _ _ _); replace hH : Has w w2 [(sqc o g, 29)] := (by rw [← hw2]; exact hH.alloc _); replace hV : Hid (BsW w2 ao n f) := (by rw [← hw2]; exact hid (hV.out.alloc _)); replace hA : d 5 = true → PreB w2 x.g (n + 2) (addF n f a b) := (fun e => by rw [← hw2]; exact (hA e).alloc _); rw [hw2]; clear hw2) | (refine wpL_appB2 (p := a) (q := b) (sb := x.s) (n := n) rfl (by rfl) (by rfl) (by rfl) hV.out hS_ (by omega) ?_; intro gn cn w2 hAn hgl hb; replace hH := hH.call' hb; replace hV := hid (hV.out.below hb); have hSk := holds_below hS_ hb (holds_lt hS_); clear hb) | (go_at_call 104; refine (elementCode_pre o g (addF n f a b) (n + 2) _ x.g _ (by omega) hA_).mono ?_; rintro e w2 ⟨rfl, hb⟩; rw [HZ.out]; replace hH := hH.call' hb; replace hV := hid (hV.out.below hb); replace hS := (fun e => holds_below (hS e) hb (holds_lt (hS e))); replace hA := (fun e => (hA e).below hb); clear hb))
      first
        | (refine ⟨{ x with s := w1.heap.size }, ?_, hH, hV, (fun _ => hSn), (fun e => hA (done_ne e (by decide)))⟩; (simp [lput, done, hn]; done))
        | (refine ⟨{ x with g := gn, cap := cn }, ?_, hH, hV, (fun _ => hSk), (fun _ => hAn)⟩; (simp [lput, done, hn]; done))
        | (refine ⟨x, ?_, hH, hV, (fun e => hS (done_ne e (by decide))), (fun e => hA (done_ne e (by decide)))⟩; (simp [lput, done, hn]; done))
        | (refine ⟨?_, hH, hV, (fun e => hS (done_ne e (by decide))), (fun e => hA (done_ne e (by decide)))⟩; (simp [lput, done, hn]; done))
        | (refine ⟨x, ?_, hH, hV, (fun e => hS (done_ne e (by decide))), (fun e => hA (done_ne e (by decide)))⟩; (simp [lput, done, hn]; rfl))
        | (refine ⟨?_, hH, hV, (fun e => hS (done_ne e (by decide))), (fun e => hA (done_ne e (by decide)))⟩; (simp [lput, done, hn]; rfl))
        | (refine ⟨x, ?_, hH, hV, (fun e => hS (done_ne e (by decide))), (fun e => hA (done_ne e (by decide)))⟩; (simp [lput, done]; done))
        | (refine ⟨?_, hH, hV, (fun e => hS (done_ne e (by decide))), (fun e => hA (done_ne e (by decide)))⟩; (simp [lput, done]; done))
        | (refine ⟨x, ?_, hH, hV, (fun e => hS (done_ne e (by decide))), (fun e => hA (done_ne e (by decide)))⟩; (simp [lput, done]; rfl))
        | (refine ⟨?_, hH, hV, (fun e => hS (done_ne e (by decide))), (fun e => hA (done_ne e (by decide)))⟩; (simp [lput, done]; rfl))
  case hq_rc =>
    clear hH hV
    intro d x w1 hd hJ
    simp only [allDone, List.length_cons, List.length_nil, Nat.reduceAdd, and_true] at hd
    obtain ⟨hH, hV, hS, hA⟩ := hJ
    replace hS := hS (by simp only [hd])
    replace hA := hA (by simp only [hd])
    simp only [lput, List.set, hd, cond_true]
    clear hd
    by_cases hz0 : z = 0
    · subst hz0
      by_cases hab : a = b
      · subst hab
        go_wp2
        go_ret
        exact ⟨by simp, hH.below⟩
      · have e1 : ¬ (a.toNat : Int) = (b.toNat : Int) := fun e => hab (UInt8.toNat.inj (by omega))
        have e2 : ((a.toNat : Int) == (b.toNat : Int)) = false := by simpa using e1
        go_wp2
        go_ret
        exact ⟨by simp [hab], hH.below⟩
    · have e1 : ¬ (z : Int) = 0 := by omega
      have e2 : ((z : Int) == 0) = false := by simpa using e1
      go_wp2
      go_ret
      exact ⟨by simp [hz0], hH.below⟩
end Go.Proofs.Ytbhjbllgmenbaaa
namespace Go.Proofs.Ytbhjbllgmenbaaa
set_option linter.unusedVariables false
set_option linter.unusedSimpArgs false
open Go.RowKit
theorem bsw_one {w : World} {x : UInt8} : BsW (w.alloc (.cells (u8s 1 (oneF x)) 5)) (some ⟨w.heap.size, 0, none⟩) 1 (oneF x) := .inr ⟨_, rfl, holds_new _ _ _⟩
theorem bsw_two {w : World} {x : UInt8} {c1 c2 : Array Value} {t1 t2 : TypeId} : BsW (((w.alloc (.cells c1 t1)).alloc (.cells c2 t2)).alloc (.cells (u8s 1 (oneF x)) 5)) (some ⟨w.heap.size + 2, 0, none⟩) 1 (oneF x) := by
  have h := bsw_one (w := (w.alloc (.cells c1 t1)).alloc (.cells c2 t2)) (x := x)
  have e : ((w.alloc (.cells c1 t1)).alloc (.cells c2 t2)).heap.size = w.heap.size + 2 := by simp
  rwa [e] at h
/-- The code for three bytes, as the program tells it. -/
theorem rowsC_no {o : Int} {g : Nat → UInt8} (n : Nat) (f : Nat → UInt8) (a b : UInt8) (h : sqB o g = false) : rowsC o g n f a b = 1 := by simp [rowsC, elC, h]
theorem addF1 {c a b : UInt8} {N : Nat} : (∀ i, i < 1 + 2 → (addF 1 (oneF c) a b i).toNat < N) ↔ c.toNat < N ∧ a.toNat < N ∧ b.toNat < N := by
  constructor
  · intro h
    exact ⟨h 0 (by omega), h 1 (by omega), h 2 (by omega)⟩
  · rintro ⟨h0, h1, h2⟩ i hi
    match i, hi with
    | 0, _ => exact h0
    | 1, _ => exact h1
    | 2, _ => exact h2
theorem rowsC1 {N : Nat} {g : Nat → UInt8} (c a b : UInt8) (h : sqB (N : Int) g = true) : rowsC N g 1 (oneF c) a b = if c.toNat < N ∧ a.toNat < N ∧ b.toNat < N ∧ a ≠ b then 0 else 2 := by
  have hE : elC N g (1 + 2) (addF 1 (oneF c) a b) = if c.toNat < N ∧ a.toNat < N ∧ b.toNat < N then 0 else 2 := by
    unfold elC
    rw [if_neg (by rw [h]; simp)]
    by_cases h3 : c.toNat < N ∧ a.toNat < N ∧ b.toNat < N
    · rw [if_pos h3, if_pos (show ∀ i, i < 1 + 2 → (addF 1 (oneF c) a b i).toNat < (N : Int).toNat from addF1.2 h3)]
    · rw [if_neg h3, if_neg (show ¬ ∀ i, i < 1 + 2 → (addF 1 (oneF c) a b i).toNat < (N : Int).toNat from fun q => h3 (addF1.1 q))]
  unfold rowsC
  rw [hE]
  by_cases h3 : c.toNat < N ∧ a.toNat < N ∧ b.toNat < N
  · rw [if_pos h3]
    by_cases hab : a = b
    · rw [if_pos ⟨rfl, hab⟩, if_neg (fun q => q.2.2.2 hab)]
    · rw [if_neg (fun q => hab q.2), if_pos ⟨h3.1, h3.2.1, h3.2.2, hab⟩]
  · rw [if_neg h3, if_neg (by simp), if_neg (fun q => h3 ⟨q.1, q.2.1, q.2.2.1⟩)]
end Go.Proofs.Ytbhjbllgmenbaaa
namespace Go.Proofs.Ytbhjbllgmenbaaa
set_option linter.unusedVariables false
set_option linter.unusedSimpArgs false
open Go.RowKit
/-- The number of elements of the cycle of c. -/
noncomputable def cyT (N : Nat) (f : Nat → Nat) (c : Nat) : Nat := @dite Nat (∃ t, Cyc N f c t) (Classical.propDecidable _) (fun h => Classical.choose h) (fun _ => 0)
/-- What has been met once the cycles of the numbers before k have been gone round. -/
noncomputable def metF (N : Nat) (f : Nat → Nat) : Nat → Nat → Bool
  | 0, _ => false
  | k + 1, z => metF N f k z || inO f k (cyT N f k) z
/-- The lengths of the cycles of the numbers before k that begin one. -/
noncomputable def lensL (N : Nat) (f : Nat → Nat) : Nat → List Int
  | 0 => []
  | k + 1 => lensL N f k ++ (if metF N f k k then [] else [((cyT N f k : Nat) : Int)])
section
variable {N c k : Nat} {f : Nat → Nat}
theorem cyT_spec (h : Pmt N f) (hc : c < N) : Cyc N f c (cyT N f c) := by
  unfold cyT
  have hx := cyc_ex h hc
  rw [dif_pos hx]
  exact Classical.choose_spec hx
theorem it_add (a : Nat) : ∀ b, it f (it f c a) b = it f c (a + b)
  | 0 => rfl
  | b + 1 => by
    show f (it f (it f c a) b) = f (it f c (a + b))
    rw [it_add a b]
theorem cyc_sym {z : Nat} (h : Pmt N f) (hc : c < N) (hz : z < N) (e : inO f c (cyT N f c) z = true) : inO f z (cyT N f z) c = true := by
  obtain ⟨a, ha, e⟩ := inO_iff.1 e
  have h1 := (cyT_spec h hz).all (cyT N f c - a)
  rw [← e, it_add, show a + (cyT N f c - a) = cyT N f c by omega, (cyT_spec h hc).back, e] at h1
  exact h1
theorem cyc_trans {y z : Nat} (h : Pmt N f) (hc : c < N) (e : inO f c (cyT N f c) y = true) (t : Nat) (e2 : inO f y t z = true) : inO f c (cyT N f c) z = true := by
  obtain ⟨a, _, e⟩ := inO_iff.1 e
  obtain ⟨b, _, e2⟩ := inO_iff.1 e2
  rw [← e2, ← e, it_add]
  exact (cyT_spec h hc).all _
theorem metF_iff {z : Nat} : ∀ {k}, metF N f k z = true ↔ ∃ i, i < k ∧ inO f i (cyT N f i) z = true
  | 0 => by
    constructor
    · intro h; cases h
    · rintro ⟨i, hi, _⟩; omega
  | k + 1 => by
    show (metF N f k z || inO f k (cyT N f k) z) = true ↔ _
    rw [Bool.or_eq_true, metF_iff (k := k)]
    constructor
    · rintro (⟨i, hi, e⟩ | e)
      · exact ⟨i, by omega, e⟩
      · exact ⟨k, by omega, e⟩
    · rintro ⟨i, hi, e⟩
      by_cases c : i = k
      · subst c; exact .inr e
      · exact .inl ⟨i, by omega, e⟩
theorem metF_skip (h : Pmt N f) (hk : k < N) (e : metF N f k k = true) : metF N f (k + 1) = metF N f k := by
  funext z
  show (metF N f k z || inO f k (cyT N f k) z) = metF N f k z
  cases hb : inO f k (cyT N f k) z with
  | false => rw [Bool.or_false]
  | true =>
    obtain ⟨i, hi, e2⟩ := metF_iff.1 e
    have : metF N f k z = true := metF_iff.2 ⟨i, hi, cyc_trans h (by omega) e2 _ hb⟩
    rw [this]; rfl
theorem metF_fresh {z : Nat} (h : Pmt N f) (hk : k < N) (e : metF N f k k = false) (hz : inO f k (cyT N f k) z = true) : metF N f k z = false := by
  cases hb : metF N f k z with
  | false => rfl
  | true =>
    obtain ⟨i, hi, e2⟩ := metF_iff.1 hb
    have hzl := (cyT_spec h hk).lt h hk hz
    have h1 := cyc_sym h hk hzl hz
    have : metF N f k k = true := metF_iff.2 ⟨i, hi, cyc_trans h (by omega) e2 _ h1⟩
    rw [this] at e; cases e
/-- What has been met on the way round the cycle of k. -/
noncomputable def metO (N : Nat) (f : Nat → Nat) (k j : Nat) : Nat → Bool := fun z => metF N f k z || inO f k j z
theorem metO_zero : metO N f k 0 = metF N f k := by
  funext z
  show (metF N f k z || inO f k 0 z) = metF N f k z
  rw [inO_zero, Bool.or_false]
theorem metO_step (j : Nat) (z : Nat) : metO N f k (j + 1) z = if z = it f k j then true else metO N f k j z := by
  unfold metO
  rw [inO_succ]
  by_cases e : z = it f k j
  · rw [if_pos e, if_pos e, Bool.or_true]
  · rw [if_neg e, if_neg e]
theorem metO_full : metO N f k (cyT N f k) = metF N f (k + 1) := rfl
theorem metO_no {j : Nat} (h : Pmt N f) (hk : k < N) (e : metF N f k k = false) (hj : j < cyT N f k) : metO N f k j (it f k j) = false := by
  unfold metO
  rw [metF_fresh h hk e (inO_iff.2 ⟨j, hj, rfl⟩), (cyT_spec h hk).fresh h hk hj]; rfl
theorem metO_yes (h : Pmt N f) (hk : k < N) : metO N f k (cyT N f k) (it f k (cyT N f k)) = true := by
  unfold metO
  rw [(cyT_spec h hk).full, Bool.or_true]
theorem lensL_yes (e : metF N f k k = true) : lensL N f (k + 1) = lensL N f k := by
  show lensL N f k ++ _ = _
  rw [if_pos e, List.append_nil]
theorem lensL_no (e : metF N f k k = false) : lensL N f (k + 1) = lensL N f k ++ [((cyT N f k : Nat) : Int)] := by
  show lensL N f k ++ _ = _
  rw [if_neg (by rw [e]; simp)]
theorem lensL_len : ∀ k, (lensL N f k).length ≤ k
  | 0 => Nat.le_refl _
  | k + 1 => by
    show (lensL N f k ++ _).length ≤ _
    have := lensL_len k
    rw [List.length_append]
    split <;> simp <;> omega
theorem lensL_in (h : Pmt N f) : ∀ k, k ≤ N → ∀ z, z ∈ lensL N f k → 1 ≤ z ∧ z ≤ N
  | 0, _, z, hz => by cases hz
  | k + 1, hk, z, hz => by
    rcases List.mem_append.1 hz with hz | hz
    · exact lensL_in h k (by omega) z hz
    · have hC := cyT_spec h (c := k) (by omega)
      have := hC.pos
      have := hC.le
      split at hz
      · cases hz
      · have := List.mem_singleton.1 hz; omega
/-- The cycle as a list has as many elements as the way round it has steps. -/
theorem cyc_len (h : Pmt N f) (h10 : N ≤ 10) (hc : c < N) : (selL (inO f c (cyT N f c)) 10).length = cyT N f c := by
  have hC := cyT_spec h hc
  have n1 : (selL (inO f c (cyT N f c)) 10).Nodup := List.Pairwise.imp (fun h => by omega) (selL_asc _ _)
  have n2 : ((List.range (cyT N f c)).map fun i => ((it f c i : Nat) : Int)).Nodup := by
    unfold List.Nodup
    rw [List.pairwise_map]
    refine List.Pairwise.imp_of_mem (R := (· < ·)) (fun {a b} _ hb hab e => ?_) List.pairwise_lt_range
    exact hC.ne h hc hab (List.mem_range.1 hb) (by omega)
  have hp := ((List.perm_ext_iff_of_nodup n1 n2).2 fun z => ?_).length_eq
  · rw [hp]; simp
  · rw [selL_mem, List.mem_map]
    constructor
    · rintro ⟨j, rfl, _, hj⟩
      obtain ⟨i, hi, e⟩ := inO_iff.1 hj
      exact ⟨i, List.mem_range.2 hi, by rw [e]⟩
    · rintro ⟨i, hi, rfl⟩
      have hl := it_lt h hc i
      exact ⟨_, rfl, by omega, inO_iff.2 ⟨i, List.mem_range.1 hi, rfl⟩⟩
end
/-- m with the first i numbers of a list marked. -/
def mkF (m : Nat → Bool) (l : List Int) (i : Nat) : Nat → Bool := fun z => m z || decide ((z : Int) ∈ l.take i)
theorem mkF_zero (m : Nat → Bool) (l : List Int) : mkF m l 0 = m := by funext z; simp [mkF]
theorem mkF_step {m : Nat → Bool} {l : List Int} {i u : Nat} (hi : i < l.length) (hu : l.getD i 0 = u) (z : Nat) : mkF m l (i + 1) z = if z = u then true else mkF m l i z := by
  have e : l.take (i + 1) = l.take i ++ [(u : Int)] := by
    rw [List.take_succ_eq_append_getElem hi]
    simp [List.getD, hi] at hu
    rw [hu]
  unfold mkF
  rw [e]
  by_cases h : z = u
  · subst h; simp
  · have : ((z : Int) ∈ l.take i ++ [(u : Int)]) ↔ (z : Int) ∈ l.take i := by
      rw [List.mem_append, List.mem_singleton]
      constructor
      · rintro (h2 | h2)
        · exact h2
        · omega
      · exact .inl
    rw [if_neg h, decide_eq_decide.2 this]
theorem mkF_sel {m p : Nat → Bool} {z : Nat} (hz : z < 10) : mkF m (selL p 10) (selL p 10).length z = (m z || p z) := by
  unfold mkF
  rw [List.take_length]
  congr 1
  cases hp : p z with
  | true => exact decide_eq_true (selL_mem.2 ⟨z, rfl, hz, hp⟩)
  | false =>
    refine decide_eq_false fun h => ?_
    obtain ⟨j, e, _, h2⟩ := selL_mem.1 h
    have : z = j := by omega
    subst this
    rw [hp] at h2; cases h2
theorem byCnt_len {c : Nat → Nat} (hc : ∀ k, c k ≤ 10) : ∀ m, (byCnt c m).length ≤ m * 10
  | 0 => by simp [byCnt]
  | m + 1 => by
    have := byCnt_len hc m
    have := hc (m + 1)
    show (byCnt c m ++ _).length ≤ _
    rw [List.length_append, List.length_replicate]
    omega
end Go.Proofs.Ytbhjbllgmenbaaa
namespace Go.Proofs.Ytbhjbllgmenbaaa
set_option linter.unusedVariables false
set_option linter.unusedSimpArgs false
open Go.RowKit
/-- What a function hands back that makes a list alone and may have sorted it. -/
def GotI (l : List Int) (w : World) (e : Ending) (w' : World) : Prop :=
  ∃ v, e = .returned v ∧ Below w.heap.size w w' ∧ IL w' w.heap.size w'.heap.size v l
theorem OL.form {w : World} {B : Nat} {v : Value} {l : List Int} (h : OL w B v l) (hn : 0 < l.length) : ∃ g cap, v = .slice (some ⟨g, 0, none⟩) l.length cap ∧ B ≤ g ∧ g < w.heap.size ∧ RowL w g l := by
  rcases IL.of_own h with ⟨_, e⟩ | ⟨g, cap, e, h1, h2, h3⟩
  · subst e; simp at hn
  · exact ⟨g, cap, e, h1, h2, h3⟩
theorem IL.of_row {w : World} {lo hi n g cap : Nat} {l : List Int} (hn : l.length = n) (h1 : lo ≤ g) (h2 : g < hi) (h : RowL w g l) : IL w lo hi (.slice (some ⟨g, 0, none⟩) n cap) l := by
  subst hn
  exact .inr ⟨g, cap, rfl, h1, h2, h⟩
theorem lensL_pos (N : Nat) (f : Nat → Nat) : ∀ k, 0 < k → 0 < (lensL N f k).length
  | 1, _ => by show 0 < ([] ++ (if metF N f 0 0 then [] else _)).length; simp [metF]
  | k + 2, _ => by
    have := lensL_pos N f (k + 1) (by omega)
    show 0 < (lensL N f (k + 1) ++ _).length
    rw [List.length_append]; omega
theorem OL.setOther {w : World} {B g i : Nat} {v x : Value} {l : List Int} (h : OL w B v l) (hg : g < B) : OL (w.setCell ⟨g, i, none⟩ x) B v l := by
  refine ⟨h.1, ?_⟩
  rcases h.2 with h2 | ⟨b, cap, cur, e, hb, hr, hx⟩
  · exact .inl h2
  · exact .inr ⟨b, cap, cur, e, hb, by rw [heap_setCell_other _ _ _ _ (by intro q; simp at q; omega)]; exact hr, hx⟩
set_option maxRecDepth 20000 in
set_option maxHeartbeats 4000000 in
theorem cyclesOf_any (N : Nat) (p : Nat → UInt8) (f : Nat → Nat) (w : World) (h1 : 1 ≤ N) (h10 : N ≤ 10) (hP : Pmt N f) (hf : ∀ i, i < N → (p i).toNat = f i) :
    Calls Try.prog 106 #[.agg (u8s 10 p), .int .i64 N] w (GotI (byCnt (fun j => (lensL N f N).count (j : Int)) 10) w) := by
  have HP := hid hP
  have HF := hid hf
  clear hP hf
  have hN10 : (N : Int) ≤ 10 := by omega
  have hH := Has.start2 w (u8s 10 p) (bls 10 fun _ => false) 71 77
  go_enter Try.func106, Try.ntmps106
  go_wp2_with (first | fail | (refine wpL_alloc rfl rfl zeroBo ?_; intro g0 hg0; (try simp at hg0); subst hg0))
  go_loopw [6, 11] (fun v i wr => ∃ k : Nat, k ≤ N ∧ i = .int .i64 k ∧ Has w wr [(u8s 10 p, 71), (bls 10 (metF N f k), 77)] ∧ Hid (OL wr (w.heap.size + 2) v (lensL N f k))) (fun _ i _ => 20 - (intOf i).toNat)
  case atStart => exact ⟨0, by omega, rfl, hH, hid (OL.nil _ _)⟩
  case round =>
    clear hH
    obtain ⟨k, hk, rfl, hH, hO⟩ := hrel
    have hsz := hH.size
    simp only [List.length_cons, List.length_nil] at hsz
    have hlen := lensL_len (N := N) (f := f) k
    by_cases hlt : k < N
    · have hk1 : (k : Int) < N := by omega
      have hk10 : (k : Int) < 10 := by omega
      cases hm : metF N f k k with
      | true =>
        have cm : wr.cell? ⟨w.heap.size + 1, k, none⟩ = some (.bool true) := by rw [hH.c1, bls_get _ _ _ (by omega), hm]
        have HS1 := hid (metF_skip HP.out hlt hm)
        have HS2 := hid (lensL_yes hm)
        clear hm
        go_wp2
        go_loopw [8, 9] (fun l x wq => l = .int .i64 0 ∧ x = .int .i64 k ∧ Hid (wq = wr)) (fun _ _ _ => 0)
        case atStart => exact ⟨rfl, rfl, hid rfl⟩
        case round =>
          obtain ⟨rfl, rfl, hw⟩ := hrel
          have hw' := hw.out
          subst hw'
          go_wp2
          go_roundw
          case rel => exact ⟨k + 1, by omega, by go_num, by rw [HS1.out]; exact hH, by rw [HS2.out]; exact hO⟩
          case measure => simp [intOf]; omega
      | false =>
        have HM := hid hm
        have HS2 := hid (lensL_no hm)
        have hC := cyT_spec HP.out hlt
        obtain ⟨t, ht⟩ : ∃ t, cyT N f k = t := ⟨_, rfl⟩
        have HT := hid ht
        rw [ht] at hC HS2
        have htN := hC.le
        have ht0 := hC.pos
        clear hm ht hC
        go_wp2
        go_loopw [8, 9] (fun l x wq => ∃ j : Nat, j ≤ t ∧ l = .int .i64 j ∧ x = .int .i64 (it f k j : Nat) ∧ Has w wq [(u8s 10 p, 71), (bls 10 (metO N f k j), 77)] ∧ Hid (OL wq (w.heap.size + 2) u6 (lensL N f k))) (fun l _ _ => 20 - (intOf l).toNat)
        case atStart => exact ⟨0, by omega, rfl, rfl, by rw [metO_zero]; exact hH, hO⟩
        case round =>
          clear hH hO hsz
          obtain ⟨j, hj, rfl, rfl, hH, hO⟩ := hrel
          have hul := it_lt HP.out hlt j
          obtain ⟨u, hu⟩ : ∃ u, it f k j = u := ⟨_, rfl⟩
          have HU := hid hu
          rw [hu] at hul ⊢
          have hu10 : (u : Int) < 10 := by omega
          by_cases hjt : j < t
          · have hno := metO_no HP.out hlt HM.out (by rw [HT.out]; exact hjt)
            rw [hu] at hno
            have cm : wr.cell? ⟨w.heap.size + 1, u, none⟩ = some (.bool false) := by rw [hH.c1, bls_get _ _ _ (by omega), hno]
            have fm := hH.f1 u
            obtain ⟨v, hv⟩ : ∃ v, f u = v := ⟨_, rfl⟩
            have hvl : v < N := by rw [← hv]; exact HP.out.lt u hul
            have cv : wr.cell? ⟨w.heap.size, u, none⟩ = some (.int .u8 v) := by rw [hH.c0, u8s_get _ _ _ (by omega), HF.out u hul, hv]
            have hv256 : (v : Int) < 256 := by omega
            have HNX := hid (show it f k (j + 1) = v by show f (it f k j) = v; rw [hu, hv])
            have hH2 := hid (hH.s1 u (.bool true) (bls_step 10 (metO N f k j) (metO N f k (j + 1)) u true (fun z _ => by rw [← hu]; exact metO_step j z)))
            have hO2 := hid (hO.out.setOther (g := w.heap.size + 1) (i := u) (x := .bool true) (by omega))
            clear hu hv hno
            go_wp2
            go_roundw
            case rel => exact ⟨j + 1, by omega, by go_num, by rw [HNX.out], hH2.out, hO2⟩
            case measure => simp [intOf]; omega
          · obtain rfl : j = t := by omega
            have hyes := metO_yes HP.out hlt
            rw [HT.out, hu] at hyes
            have cm : wr.cell? ⟨w.heap.size + 1, u, none⟩ = some (.bool true) := by rw [hH.c1, bls_get _ _ _ (by omega), hyes]
            have HMT := hid (show metO N f k j = metF N f (k + 1) by rw [← HT.out]; exact metO_full)
            have hj0 : (j : Int) > 0 := by omega
            have hsz := hH.size
            simp only [List.length_cons, List.length_nil] at hsz
            clear hu hyes
            go_wp2_with (first | fail | (refine wpL_appI (v := u6) (n := (lensL N f k).length) (base := w.heap.size + 2) (z := (j : Int)) rfl (by rfl) (by rfl) (by rfl) (World.ownsRow.alloc hO.out _) (by simp) (by omega) (by simp; omega) ?_; intro r cap w2 how hg hor hlt3; have hO2 := hid (OL.add how); replace hH := (hH.alloc _).grown hg (fun x hx => by have := (World.ownsRow.lt hO.out x hx).1; simp; omega); rw [← HS2.out] at hO2; clear how hg hor hlt3))
            go_roundw
            case rel => exact ⟨k + 1, by omega, by go_num, by rw [← HMT.out]; exact hH, hO2⟩
            case measure => simp [intOf]; omega
    · obtain rfl : k = N := by omega
      obtain ⟨g, cap, rfl, hgB, hgl, hRl⟩ := hO.out.form (lensL_pos _ _ k (by omega))
      obtain ⟨n, hn⟩ : ∃ n, (lensL k f k).length = n := ⟨_, rfl⟩
      have HN := hid hn
      have hn10 : n ≤ 10 := by omega
      rw [hn]
      clear hn hO
      have HIN := hid (lensL_in HP.out k (Nat.le_refl _))
      obtain ⟨L, hL⟩ : ∃ L, lensL k f k = L := ⟨_, rfl⟩
      rw [hL] at HN hRl HIN
      have HL := hid hL
      clear hL hlen
      go_wp2_with (first | fail | (go_at_call 126; refine (sort64_any g n cap L _ HN.out (by omega) hRl).mono ?_; rintro e w2 ⟨rfl, hg, l', h1, h2, h3⟩; have HB := hid (Go.Proofs.Ytbhjbllgmenbaaa.Below.grown hH.below hg (fun x hx => by simp at hx; omega) (by omega)); have HSZ := hid hg.size; clear hg hH))
      go_ret
      have hlen' : l'.length = n := by rw [h1.length_eq]; exact HN.out
      have e := asc_byCnt (m := 10) (c := fun j => L.count (j : Int)) h2 h1 (fun z hz => by have := HIN.out z hz; omega) (fun _ _ _ => rfl)
      rw [e] at h3 hlen'
      have := HSZ.out
      rw [HL.out]
      exact ⟨_, rfl, HB.out, IL.of_row hlen' (by omega) (by omega) h3⟩
end Go.Proofs.Ytbhjbllgmenbaaa
namespace Go.Proofs.Ytbhjbllgmenbaaa
set_option linter.unusedVariables false
set_option linter.unusedSimpArgs false
open Go.RowKit
/-- How many of the cycles of the numbers before k have j elements. -/
noncomputable def cntC (N : Nat) (f : Nat → Nat) (k j : Nat) : Nat := (lensL N f k).count (j : Int)
theorem cntC_le (N : Nat) (f : Nat → Nat) (k j : Nat) : cntC N f k j ≤ k := Nat.le_trans List.count_le_length (lensL_len k)
theorem cntC_yes {N : Nat} {f : Nat → Nat} {k : Nat} (h : metF N f k k = true) : cntC N f (k + 1) = cntC N f k := by
  funext j; unfold cntC; rw [lensL_yes h]
theorem cntC_no {N : Nat} {f : Nat → Nat} {k t : Nat} (h : metF N f k k = false) (ht : cyT N f k = t) (j : Nat) : cntC N f (k + 1) j = if j = t then cntC N f k j + 1 else cntC N f k j := by
  unfold cntC
  rw [lensL_no h, List.count_append, ht]
  by_cases e : j = t
  · subst e; rw [if_pos rfl]; simp
  · have h0 : ([((t : Nat) : Int)] : List Int).count (j : Int) = 0 := List.count_eq_zero.2 (fun hm => e (by have := List.mem_singleton.1 hm; omega))
    rw [if_neg e, h0, Nat.add_zero]
theorem holds_neC {w : World} {b b' : Nat} {cs cs' : Array Value} {t t' : TypeId} (h : holds w b cs t) (h' : holds w b' cs' t') (ht : t ≠ t') : b ≠ b' := fun e => by
  subst e
  have h2 : some (Obj.cells cs t (0, 0)) = some (Obj.cells cs' t' (0, 0)) := h.symm.trans h'
  injection h2 with h3
  injection h3 with _ h4
  exact ht h4
theorem rowZ11 : IsRow Try.prog 120 11 := ⟨.inr ⟨_, _, Try.underlying120⟩, by kernel_rfl⟩
theorem zeroZ11 : ZeroIs Try.prog 120 (zns 11 fun _ => 0) := by unfold ZeroIs; kernel_rfl
theorem builtZ11 : Try.prog.built 120 [] = some (zns 11 fun _ => 0) := by kernel_rfl
theorem OL.ne_block {w : World} {B gc : Nat} {v : Value} {l : List Int} {cs : Array Value} {T : TypeId} (h : OL w B v l) (hg : holds w gc cs T) (hT : 2 ≠ T) : v.ownBlock ≠ some gc := fun e => by
  rcases h.2 with ⟨h0, _⟩ | ⟨b, cap, cur, e2, _, hr, _⟩
  · rw [h0] at e; cases e
  · rw [e2] at e
    obtain rfl : b = gc := Option.some.inj e
    exact holds_neC hr hg hT rfl
theorem OL.of_holds {w : World} {B g0 : Nat} (h : holds w g0 #[] 2) (hB : B ≤ g0) : OL w B (.slice (some ⟨g0, 0, none⟩) 0 0) [] :=
  ⟨rfl, .inr ⟨g0, 0, #[], rfl, hB, h, Nat.le_refl _, by unfold maxLen; omega, rfl, rfl⟩⟩
/-- What the model's function has made: its map of rows, the marks, the counts and the empty list. -/
structure LS (N : Nat) (g T : Nat → UInt8) (w0 w : World) (g0 gp gm gc : Nat) (M : Nat → Bool) (C : Nat → Nat) : Prop where
  has : Has w0 w [(sqc N g, 29)]
  p : holds w gp (u8s 10 T) 71
  m : holds w gm (bls 10 M) 77
  c : holds w gc (zns 11 C) 120
  z : holds w g0 #[] 2
  b0 : w0.heap.size + 1 ≤ g0
  b1 : g0 < gp
  b2 : gp < gm
  b3 : gm < gc
section
variable {N g0 gp gm gc : Nat} {g T : Nat → UInt8} {w0 w w' : World} {M M' : Nat → Bool} {C C' : Nat → Nat}
theorem LS.below (h : LS N g T w0 w g0 gp gm gc M C) (hb : Below w.heap.size w w') : LS N g T w0 w' g0 gp gm gc M C :=
  ⟨h.has.call' hb, holds_below h.p hb (holds_lt h.p), holds_below h.m hb (holds_lt h.m), holds_below h.c hb (holds_lt h.c), holds_below h.z hb (holds_lt h.z), h.b0, h.b1, h.b2, h.b3⟩
theorem LS.setM (h : LS N g T w0 w g0 gp gm gc M C) (i : Nat) (v : Value) (e : (bls 10 M).setIfInBounds i v = bls 10 M') : LS N g T w0 (w.setCell ⟨gm, i, none⟩ v) g0 gp gm gc M' C := by
  have h0 := h.b0; have h1 := h.b1; have h2 := h.b2; have h3 := h.b3
  refine ⟨h.has.setCellAbove (by simp; omega) i v, holds_other h.p _ _ (by simp; omega), ?_, holds_other h.c _ _ (by simp; omega), holds_other h.z _ _ (by simp; omega), h0, h1, h2, h3⟩
  rw [← e]; exact holds_set h.m i v
theorem LS.setC (h : LS N g T w0 w g0 gp gm gc M C) (i : Nat) (v : Value) (e : (zns 11 C).setIfInBounds i v = zns 11 C') : LS N g T w0 (w.setCell ⟨gc, i, none⟩ v) g0 gp gm gc M C' := by
  have h0 := h.b0; have h1 := h.b1; have h2 := h.b2; have h3 := h.b3
  refine ⟨h.has.setCellAbove (by simp; omega) i v, holds_other h.p _ _ (by simp; omega), holds_other h.m _ _ (by simp; omega), ?_, holds_other h.z _ _ (by simp; omega), h0, h1, h2, h3⟩
  rw [← e]; exact holds_set h.c i v
theorem LS.congrM (h : LS N g T w0 w g0 gp gm gc M C) (e : ∀ z, z < 10 → M' z = M z) : LS N g T w0 w g0 gp gm gc M' C := by
  have : bls 10 M' = bls 10 M := bls_ext 10 (bls 10 M') M (by simp) (fun i hi => by rw [bls_get _ _ _ hi, e i hi])
  exact ⟨h.has, h.p, by rw [this]; exact h.m, h.c, h.z, h.b0, h.b1, h.b2, h.b3⟩
end
set_option maxRecDepth 20000 in
set_option maxHeartbeats 8000000 in
theorem l09Lengths_any (N a b : Nat) (g : Nat → UInt8) (w : World) (hq : IsSq N g) (ha : a < N) (hb : b < N) :
    Calls Try.prog 67 #[.agg (sqc N g), .int .u8 a, .int .u8 b] w (GotI (byCnt (fun j => (lensL N (swV g N a b) N).count (j : Int)) 10) w) := by
  have h10 := hq.hi
  have HQ := hid hq
  have HPV := hid (swV_pmt hq ha hb)
  have HRW := hid (fun i (hi : i < N) => rwF_at (b := b) hq ha hi)
  clear hq
  obtain ⟨T, hT⟩ : ∃ T, rwF g N a b N = T := ⟨_, rfl⟩
  have HT := hid hT
  rw [hT] at HRW
  obtain ⟨f, hf⟩ : ∃ f, swV g N a b = f := ⟨_, rfl⟩
  rw [hf] at HPV HRW
  rw [hf]
  clear hT hf
  have hN10 : (N : Int) ≤ 10 := by omega
  have hH := Has.start1 w (sqc N g) 29
  go_enter Try.func67, Try.ntmps67
  go_wp2_with (first | fail | (refine wpL_loadFull rfl rfl rfl rowSq hH.h0 (sqc_size _ _) ?_) | (go_at_call 101; refine (l09Rows_any N a b g _ HQ.out ha hb).mono ?_; rintro e w2 ⟨rfl, hb⟩; rw [HT.out]; replace hH := hH.call' hb; clear hb) | (refine wpL_build rfl rfl builtBo ?_) | (refine wpL_build rfl rfl builtZ11 ?_) | (refine wpL_storeN (x := .tmp 7) rfl rfl rfl rfl rowPl hgp (u8s_size _ _) (u8s_ok _ _) ?_; intro w5 hz hO hT; replace hgm := hO _ _ _ (by omega) hgm; replace hgc := hO _ _ _ (by omega) hgc; replace hg0 := hO _ _ _ (by omega) hg0; replace hH := hT _ _ hH (by simp; omega); replace hgp := hz; clear hz hO hT) | (refine wpL_storeN (x := .tmp 8) rfl rfl rfl rfl rowBo hgm (bls_size _ _) (bls_ok _ _) ?_; intro w6 hz hO hT; replace hgp := hO _ _ _ (by omega) hgp; replace hgc := hO _ _ _ (by omega) hgc; replace hg0 := hO _ _ _ (by omega) hg0; replace hH := hT _ _ hH (by simp; omega); replace hgm := hz; clear hz hO hT) | (refine wpL_storeN (x := .tmp 9) rfl rfl rfl rfl rowZ11 hgc (zns_size _ _) (zns_ok _ _) ?_; intro w7 hz hO hT; replace hgp := hO _ _ _ (by omega) hgp; replace hgm := hO _ _ _ (by omega) hgm; replace hg0 := hO _ _ _ (by omega) hg0; replace hH := hT _ _ hH (by simp; omega); replace hgc := hz; clear hz hO hT) | (refine wpL_allocN (o := ⟨some 7, _, _, _, _, _⟩) rfl rfl zeroPl ?_; intro gp w4 hgp hlp hb; have hg0 := holds_below (holds_new w2 #[] 2) hb (by simp); have hs0 := hH.size; replace hH := (hH.alloc _).call' hb; obtain ⟨g0, hge⟩ : ∃ g0, w2.heap.size = g0 := ⟨_, rfl⟩; have hlp' : g0 < gp := (by simp at hlp; omega); have hb0 : w.heap.size + 1 ≤ g0 := (by simp at hs0; omega); rw [hge] at hg0 ⊢; clear hb hlp hs0 hge) | (refine wpL_allocN (o := ⟨some 8, _, _, _, _, _⟩) rfl rfl zeroBo ?_; intro gm w4 hgm hlm hb; have hlm' : gp < gm := (by have := holds_lt hgp; omega); replace hgp := holds_below hgp hb (holds_lt hgp); replace hg0 := holds_below hg0 hb (holds_lt hg0); replace hH := hH.call' hb; clear hb hlm) | (refine wpL_allocN (o := ⟨some 9, _, _, _, _, _⟩) rfl rfl zeroZ11 ?_; intro gc w4 hgc hlc hb; have hlc' : gm < gc := (by have := holds_lt hgm; omega); replace hgp := holds_below hgp hb (holds_lt hgp); replace hgm := holds_below hgm hb (holds_lt hgm); replace hg0 := holds_below hg0 hb (holds_lt hg0); replace hH := hH.call' hb; clear hb hlc))
  have hL : LS N g T w _ g0 gp gm gc (metF N f 0) (cntC N f 0) := ⟨hH, hgp, hgm, hgc, hg0, hb0, hlp', hlm', hlc'⟩
  clear hH hgp hgm hgc hg0
  go_loopw [11] (fun v wr => ∃ k : Nat, k ≤ N ∧ v = .int .u8 k ∧ LS N g T w wr g0 gp gm gc (metF N f k) (cntC N f k)) (fun v _ => 20 - (intOf v).toNat)
  case atStart => exact ⟨0, by omega, rfl, hL⟩
  case round =>
    clear hL
    obtain ⟨k, hk, rfl, hL⟩ := hrel
    have cz : wr.cell? ⟨w.heap.size, 0, none⟩ = some (.int .i64 N) := by rw [hL.has.c0, sqc_get0]
    by_cases hlt : k < N
    · have hk1 : (k : Int) < N := by omega
      have hk10 : (k : Int) < 10 := by omega
      cases hm : metF N f k k with
      | true =>
        have cm : wr.cell? ⟨gm, k, none⟩ = some (.bool true) := by rw [holds_cell hL.m, bls_get _ _ _ (by omega), hm]
        have HS1 := hid (metF_skip HPV.out hlt hm)
        have HS2 := hid (cntC_yes hm)
        clear hm
        go_wp2
        go_roundw
        case rel => exact ⟨k + 1, by omega, by go_num, by rw [HS1.out, HS2.out]; exact hL⟩
        case measure => simp [intOf]; omega
      | false =>
        have cm : wr.cell? ⟨gm, k, none⟩ = some (.bool false) := by rw [holds_cell hL.m, bls_get _ _ _ (by omega), hm]
        have hC := cyT_spec HPV.out hlt
        have hcl := cyc_len HPV.out h10 hlt
        obtain ⟨t, ht⟩ : ∃ t, cyT N f k = t := ⟨_, rfl⟩
        have HS2 := hid (cntC_no hm ht)
        have HMS := hid (show ∀ z, metF N f (k + 1) z = (metF N f k z || inO f k t z) from fun z => by rw [← ht]; rfl)
        rw [ht] at hC hcl
        have htN := hC.le
        have ht0 := hC.pos
        have HC := hid hC
        have HCL := hid hcl
        clear hm ht hC hcl
        go_wp2_with (first | fail | (refine wpL_loadFull (x := .tmp 7) rfl rfl rfl rowPl hL.p (u8s_size _ _) ?_) | (go_at_call 103; refine (l09Cycle_any N k t T f _ h10 hlt HPV.out HRW.out HC.out).mono ?_; rintro e w2 ⟨rfl, hb⟩; replace hL := hL.below hb; clear hb) | (go_at_call 102; refine (l05Told_any (inO f k t) _).mono ?_; rintro e w3 ⟨v3, rfl, hb, hO⟩; obtain ⟨gy, cap, rfl, hgy, _, hy⟩ := hO.form (by rw [HCL.out]; exact ht0); have hgy2 : gc < gy := (by have := holds_lt hL.c; omega); replace hL := hL.below hb; clear hb hO hgy))
        clear cz cm
        obtain ⟨l, hl⟩ : ∃ l, selL (inO f k t) 10 = l := ⟨_, rfl⟩
        have HLL := hid hl
        rw [hl] at hy HCL ⊢
        rw [HCL.out]
        have HLI := hid (show ∀ i, i < l.length → ∃ u : Nat, l.getD i 0 = u ∧ u < 10 from fun i hi => by
          have : l.getD i 0 ∈ l := by simp [List.getD, hi]
          rw [← hl] at this
          obtain ⟨u, e, h2, _⟩ := selL_mem.1 this
          exact ⟨u, by rw [← hl]; exact e, h2⟩)
        clear hl
        have ht10 : (t : Int) ≤ 10 := by omega
        go_wp2
        go_loopw [13] (fun i wr => ∃ j : Nat, j ≤ t ∧ i = .int .i64 j ∧ LS N g T w wr g0 gp gm gc (mkF (metF N f k) l j) (cntC N f k) ∧ Hid (RowL wr gy l)) (fun i _ => 20 - (intOf i).toNat)
        case atStart => exact ⟨0, by omega, rfl, by rw [mkF_zero]; exact hL, hid hy⟩
        case round =>
          clear hL hy
          obtain ⟨j, hj, rfl, hL, hy⟩ := hrel
          by_cases hjt : j < t
          · have hjl : j < l.length := by rw [HCL.out]; exact hjt
            obtain ⟨u, hu, hu10⟩ := HLI.out j hjl
            have cy := hy.out.cell hjl
            rw [hu] at cy
            have hu10' : (u : Int) < 10 := by omega
            have hjt' : (j : Int) < t := by omega
            obtain ⟨b1, c1⟩ : ∃ v, wr.cell? ⟨gm, u, none⟩ = some v := ⟨_, by rw [holds_cell hL.m, bls_get _ _ _ hu10]⟩
            have f1 := holds_frozen hL.m u
            have hgb3 := hL.b3
            have hL2 := hid (hL.setM u (.bool true) (bls_step 10 (mkF (metF N f k) l j) (mkF (metF N f k) l (j + 1)) u true (fun z _ => mkF_step hjl hu z)))
            have hy2 := hid (hy.out.block (w' := wr.setCell ⟨gm, u, none⟩ (.bool true)) (heap_setCell_other _ _ _ _ (by simp; omega)))
            clear hu hL hy hgb3
            go_wp2
            go_roundw
            case rel => exact ⟨j + 1, by omega, by go_num, hL2.out, hy2⟩
            case measure => simp [intOf]; omega
          · obtain rfl : j = t := by omega
            have c1 : wr.cell? ⟨gc, j, none⟩ = some (.int .i64 (cntC N f k j : Nat)) := by rw [holds_cell hL.c, zns_get _ _ _ (by omega)]
            have f1 := holds_frozen hL.c j
            have hcb := cntC_le N f k j
            obtain ⟨q, hq⟩ : ∃ q, cntC N f k j = q := ⟨_, rfl⟩
            rw [hq] at c1 hcb
            have hL2 := hid ((hL.congrM (M' := metF N f (k + 1)) (fun z hz => by
              have := mkF_sel (m := metF N f k) (p := inO f k j) (z := z) hz
              rw [HLL.out, HCL.out] at this
              rw [HMS.out, this])).setC (C' := cntC N f (k + 1)) j (.int .i64 (q + 1 : Nat)) (zns_step 11 _ _ j (q + 1) (fun z _ => by
                rw [HS2.out z]
                by_cases e : z = j
                · rw [if_pos e, if_pos e, e, hq]
                · rw [if_neg e, if_neg e])))
            have e1 : IntKind.i64.wrap ((q : Int) + 1) = ((q + 1 : Nat) : Int) := by rw [IntWalk.i64_in _ (by omega)]; first | done | omega
            clear hL hq
            have hj10 : (j : Int) < 11 := by omega
            go_wp2
            go_roundw
            case rel => exact ⟨k + 1, by omega, by go_num, hL2.out⟩
            case measure => simp [intOf]; omega
    · obtain rfl : k = N := by omega
      have hCL := fun j => cntC_le k f k j
      obtain ⟨C, hC⟩ : ∃ C, cntC k f k = C := ⟨_, rfl⟩
      have HC := hid hC
      rw [hC] at hL
      have HCB := hid (show ∀ j, C j ≤ 10 from fun j => by have := hCL j; rw [hC] at this; omega)
      clear hC hCL
      have hH := hL.has
      have hgc := hL.c
      have hO := hid (OL.of_holds (B := w.heap.size + 1) hL.z hL.b0)
      clear hL
      go_wp2
      clear cz
      go_loopw [10, 14] (fun v n wr => ∃ m : Nat, 1 ≤ m ∧ m ≤ 11 ∧ n = .int .i64 m ∧ Has w wr [(sqc k g, 29)] ∧ holds wr gc (zns 11 C) 120 ∧ Hid (OL wr (w.heap.size + 1) v (byCnt C (m - 1)))) (fun _ n _ => 20 - (intOf n).toNat)
      case atStart => exact ⟨1, by omega, by omega, rfl, hH, hgc, hO⟩
      case round =>
        clear hH hgc hO
        obtain ⟨m, hm1, hm, rfl, hH, hgc, hO⟩ := hrel
        have hbl := byCnt_len HCB.out (m - 1)
        by_cases hlt2 : m ≤ 10
        · have hm10 : (m : Int) ≤ 10 := by omega
          have hm11 : (m : Int) < 11 := by omega
          obtain ⟨q, hq⟩ : ∃ q, C m = q := ⟨_, rfl⟩
          have HQ2 := hid hq
          have hq10 := HCB.out m
          rw [hq] at hq10
          have c1 : wr.cell? ⟨gc, m, none⟩ = some (.int .i64 (q : Nat)) := by rw [holds_cell hgc, zns_get _ _ _ (by omega), hq]
          clear hq
          go_wp2
          go_loopw [10, 15] (fun v r wr => ∃ i j : Nat, i + j = q ∧ r = .int .i64 j ∧ Has w wr [(sqc k g, 29)] ∧ holds wr gc (zns 11 C) 120 ∧ Hid (OL wr (w.heap.size + 1) v (byCnt C (m - 1) ++ List.replicate i (m : Int)))) (fun _ r _ => (intOf r).toNat)
          case atStart => exact ⟨0, q, by omega, rfl, hH, hgc, hid (by simpa using hO.out)⟩
          case round =>
            clear hH hgc hO c1
            obtain ⟨i, j, hij, rfl, hH, hgc, hO⟩ := hrel
            by_cases hj0 : j = 0
            · subst hj0
              have HD := hid (show byCnt C (m + 1 - 1) = byCnt C (m - 1) ++ List.replicate i (m : Int) by rw [Nat.add_sub_cancel]; obtain ⟨p, rfl⟩ : ∃ p, m = p + 1 := ⟨m - 1, by omega⟩; rw [show i = C (p + 1) by rw [HQ2.out]; omega]; rfl)
              go_wp2
              go_roundw
              case rel => exact ⟨m + 1, by omega, by omega, by go_num, hH, hgc, by rw [HD.out]; exact hO⟩
              case measure => simp [intOf]; omega
            · have hj1 : (j : Int) > 0 := by omega
              have hsz := hH.size
              simp only [List.length_cons, List.length_nil] at hsz
              have hll : (byCnt C (m - 1) ++ List.replicate i (m : Int)).length ≤ 200 := by rw [List.length_append, List.length_replicate]; omega
              obtain ⟨X, hX⟩ : ∃ X, byCnt C (m - 1) ++ List.replicate i (m : Int) = X := ⟨_, rfl⟩
              have HX := hid (show byCnt C (m - 1) ++ List.replicate (i + 1) (m : Int) = X ++ [(m : Int)] by rw [← hX, List.replicate_succ', List.append_assoc])
              rw [hX] at hO hll
              have hne := OL.ne_block hO.out hgc (by decide)
              have HNE := hid hne
              clear hX hne
              go_wp2_with (first | fail | (refine wpL_appI (v := u10) (n := X.length) (base := w.heap.size + 1) (z := (m : Int)) rfl (by rfl) (by rfl) (by rfl) (World.ownsRow.alloc hO.out _) (by simp) (by omega) (by simp; omega) ?_; intro r cap w2 how hg hor hlt3; have hO2 := hid (OL.add how); replace hgc := (show holds w2 gc _ _ from (hg.block gc (by have := holds_lt hgc; simp; omega) (fun e => HNE.out e.symm)).trans (holds_alloc hgc _)); replace hH := (hH.alloc _).grown hg (fun x hx => by have := (World.ownsRow.lt hO.out x hx).1; simp; omega); clear how hg hor hlt3))
              go_roundw
              case rel => exact ⟨i + 1, j - 1, by omega, by go_num, hH, hgc, by rw [HX.out]; exact hO2⟩
              case measure => simp [intOf]; omega
        · obtain rfl : m = 11 := by omega
          go_wp2
          go_ret
          rw [show (fun j : Nat => (lensL k f k).count (j : Int)) = C from HC.out]
          exact ⟨_, rfl, hH.below, (IL.of_own hO.out).lower (by omega)⟩
end Go.Proofs.Ytbhjbllgmenbaaa
namespace Go.Proofs.Ytbhjbllgmenbaaa
set_option linter.unusedVariables false
set_option linter.unusedSimpArgs false
open Go.RowKit
/-- The lengths of the cycles of the rows a and b. -/
noncomputable def rcL (g : Nat → UInt8) (N a b : Nat) : List Int := byCnt (fun j => (lensL N (swV g N a b) N).count (j : Int)) 10
theorem rcL_len (g : Nat → UInt8) (N a b : Nat) (h10 : N ≤ 10) : (rcL g N a b).length ≤ 100 := byCnt_len (fun k => by
  have : (lensL N (swV g N a b) N).count (k : Int) ≤ N := Nat.le_trans List.count_le_length (lensL_len N)
  omega) 10
theorem GotI.tuple {l : List Int} {w w1 w' : World} {v : Value} (hb : Below w.heap.size w w') (hI : IL w' w1.heap.size w'.heap.size v l) (hlo : w.heap.size ≤ w1.heap.size) : GotL l 0 w (.returned (.tuple #[v, .int .i64 0])) w' :=
  ⟨v, rfl, hb, hI.lower hlo⟩
set_option maxRecDepth 20000 in
set_option maxHeartbeats 4000000 in
theorem rowCycles_any (N a b : Nat) (g : Nat → UInt8) (w : World) (hq : IsSq N g) (ha : a < N) (hb : b < N) :
    Calls Try.prog 69 #[.agg (sqc N g), .int .u8 a, .int .u8 b] w (GotI (rcL g N a b) w) := by
  have h10 := hq.hi
  have h1 := hq.lo
  have HPV := hid (swV_pmt hq ha hb)
  have HA := hid (fun i (hi : i < N) => (show (rowF g a i).toNat < 10 from by have := (hq.rows a ha).lt i hi; omega))
  have HBK := hid (fun i (hi : i < N) => (show (backF (rowF g a) N i).toNat < 10 from by have := (back_lt (hq.rows a ha) hi).1; omega))
  obtain ⟨s, hs⟩ : ∃ s, thenF (backF (rowF g a) N) (rowF g b) N = s := ⟨_, rfl⟩
  have HS := hid hs
  have HF := hid (show ∀ i, i < N → (s i).toNat = swV g N a b i from fun i hi => by
    rw [← hs]; unfold thenF swV; simp [hi, rowF])
  obtain ⟨f, hf⟩ : ∃ f, swV g N a b = f := ⟨_, rfl⟩
  rw [hf] at HPV HF
  unfold rcL
  rw [hf]
  clear hs hf hq
  have hN10 : (N : Int) ≤ 10 := by omega
  have ha10 : (a : Int) < 10 := by omega
  have hb10 : (b : Int) < 10 := by omega
  have hoffa : a * 10 + 10 ≤ 100 := by omega
  have hoffb : b * 10 + 10 ≤ 100 := by omega
  have hH := Has.start1 w (sqc N g) 29
  go_enter Try.func69, Try.ntmps69
  go_wp2
  refine wp_region_frame (X := Nat) (fun d x => [(8, bif d 0 then .int .u8 a else undef), (9, bif d 1 then .pointer (some ⟨w.heap.size, 1, none⟩) else undef), (10, bif d 2 then .pointer (some ⟨w.heap.size, 1 + a * 10, none⟩) else undef), (11, bif d 3 then .agg (u8s 10 (rowF g a)) else undef), (12, bif d 4 then .pointer (some ⟨w.heap.size, 0, none⟩) else undef), (13, bif d 5 then .int .i64 N else undef), (14, bif d 6 then .agg (u8s 10 (backF (rowF g a) N)) else undef), (15, bif d 7 then .int .u8 b else undef), (16, bif d 8 then .pointer (some ⟨w.heap.size, 1, none⟩) else undef), (17, bif d 9 then .pointer (some ⟨w.heap.size, 1 + b * 10, none⟩) else undef), (18, bif d 10 then .agg (u8s 10 (rowF g b)) else undef), (19, bif d 11 then .pointer (some ⟨w.heap.size, 0, none⟩) else undef), (20, bif d 12 then .int .i64 N else undef), (21, bif d 13 then .agg (u8s 10 s) else undef), (7, bif d 14 then .pointer (some ⟨x, 0, none⟩) else undef)])
    (fun d x w' => Has w w' [(sqc N g, 29)] ∧ (d 14 = true → w.heap.size + 1 ≤ x ∧ holds w' x (bif d 15 then u8s 10 s else u8s 10 fun _ => 0) 71) ∧ (d 15 = true → d 14 = true)) (by kernel_rfl) (by kernel_rfl) ?h0_rc ?hs_rc ?hq_rc
  case h0_rc => exact ⟨0, (by simp [lput]), hH.drew, (fun h => by cases h), (fun h => by cases h)⟩
  case hs_rc =>
    refine ⟨?_, ?_, ?_, ?_, ?_, ?_, ?_, ?_, ?_, ?_, ?_, ?_, ?_, ?_, ?_, ?_, trivial⟩
    all_goals
      clear hH
      intro d x w1 hd hn hJ
      simp only [needs, Region.binds, reduceCtorEq, Bool.false_eq_true, false_implies, true_and, and_true, true_implies, forall_const] at hn
      simp only [lput, List.set, hn, cond_true]
      try simp only [hd, cond_false] at hJ
      obtain ⟨hH, hB, I15_14⟩ := hJ
      (try have hB_ := hB (by simp only [hn]))
      have c0 : w1.cell? ⟨w.heap.size, 0, none⟩ = some (.int .i64 N) := by rw [hH.c0, sqc_get0]
      have zz := hH.size
      simp only [List.length_cons, List.length_nil] at zz
      go_wp2_with (first | fail | (refine wpL_loadRowSq (off := a * 10) rfl rfl rfl rowPl hH.h0 hoffa ?_) | (refine wpL_loadRowSq (off := b * 10) rfl rfl rfl rowPl hH.h0 hoffb ?_) | (go_at_call 96; refine (backOf_any (rowF g a) N _ h10 HA.out).mono ?_; rintro e w3 ⟨rfl, hb⟩; replace hH := hH.call' hb; replace hB := fun e => And.intro (hB e).1 (holds_below (hB e).2 hb (holds_lt (hB e).2)); clear hb) | (go_at_call 105; refine (thenOf_any (backF (rowF g a) N) (rowF g b) N _ h10 HBK.out).mono ?_; rintro e w3 ⟨rfl, hb⟩; rw [HS.out]; replace hH := hH.call' hb; replace hB := fun e => And.intro (hB e).1 (holds_below (hB e).2 hb (holds_lt (hB e).2)); clear hb) | (refine wpL_storeN (x := .tmp 7) rfl rfl rfl rfl rowPl hB_.2 (u8s_size _ _) (u8s_ok _ _) ?_; intro w5 hz hO hT; replace hH := hT _ _ hH hB_.1) | (refine wpL_allocN (o := ⟨some 7, _, _, _, _, _⟩) rfl rfl zeroPl ?_; intro gq w4 hz hl hb; replace hH := hH.call' hb))
      first
        | (have z9 : d 15 = false := (by first | exact imp_no I15_14 hd | exact imp_no I15_14 rfl); refine ⟨gq, ?_, hH, (fun _ => ⟨by omega, by simpa [done, z9] using hz⟩), (by intro e; simp [done])⟩; (simp [lput, done, hn, z9]; done))
        | (refine ⟨x, ?_, hH, (fun _ => ⟨hB_.1, by simpa [done] using hz⟩), (by intro e; simp [done, hn])⟩; (simp [lput, done, hn]; done))
        | (refine ⟨x, ?_, hH, (fun e => hB (done_ne e (by decide))), (by intro e; first | (simp [done]; done) | (have e2 := I15_14 (done_ne e (by decide)); simp [done, e2]; done) | (simp [done, hn]; done))⟩; (simp [lput, done, hn]; done))
        | (refine ⟨?_, hH, (fun e => hB (done_ne e (by decide))), (by intro e; first | (simp [done]; done) | (have e2 := I15_14 (done_ne e (by decide)); simp [done, e2]; done) | (simp [done, hn]; done))⟩; (simp [lput, done, hn]; done))
        | (refine ⟨x, ?_, hH, (fun e => hB (done_ne e (by decide))), (by intro e; first | (simp [done]; done) | (have e2 := I15_14 (done_ne e (by decide)); simp [done, e2]; done) | (simp [done, hn]; done))⟩; (simp [lput, done, hn]; rfl))
        | (refine ⟨?_, hH, (fun e => hB (done_ne e (by decide))), (by intro e; first | (simp [done]; done) | (have e2 := I15_14 (done_ne e (by decide)); simp [done, e2]; done) | (simp [done, hn]; done))⟩; (simp [lput, done, hn]; rfl))
        | (refine ⟨x, ?_, hH, (fun e => hB (done_ne e (by decide))), (by intro e; first | (simp [done]; done) | (have e2 := I15_14 (done_ne e (by decide)); simp [done, e2]; done) | (simp [done, hn]; done))⟩; (simp [lput, done]; done))
        | (refine ⟨?_, hH, (fun e => hB (done_ne e (by decide))), (by intro e; first | (simp [done]; done) | (have e2 := I15_14 (done_ne e (by decide)); simp [done, e2]; done) | (simp [done, hn]; done))⟩; (simp [lput, done]; done))
        | (refine ⟨x, ?_, hH, (fun e => hB (done_ne e (by decide))), (by intro e; first | (simp [done]; done) | (have e2 := I15_14 (done_ne e (by decide)); simp [done, e2]; done) | (simp [done, hn]; done))⟩; (simp [lput, done]; rfl))
        | (refine ⟨?_, hH, (fun e => hB (done_ne e (by decide))), (by intro e; first | (simp [done]; done) | (have e2 := I15_14 (done_ne e (by decide)); simp [done, e2]; done) | (simp [done, hn]; done))⟩; (simp [lput, done]; rfl))
  case hq_rc =>
    clear hH
    intro d x w1 hd hJ
    simp only [allDone, List.length_cons, List.length_nil, Nat.reduceAdd, and_true] at hd
    obtain ⟨hH, hB, I15_14⟩ := hJ
    replace hB := hB (by simp only [hd])
    clear I15_14
    simp only [hd, cond_true] at hH hB
    simp only [lput, List.set, hd, cond_true]
    clear hd
    obtain ⟨hlo, hx⟩ := hB
    have c0 : w1.cell? ⟨w.heap.size, 0, none⟩ = some (.int .i64 N) := by rw [hH.c0, sqc_get0]
    have hsz := hH.size
    simp only [List.length_cons, List.length_nil] at hsz
    go_wp2_with (first | fail | (refine wpL_loadFull (x := .tmp 7) rfl rfl rfl rowPl hx (u8s_size _ _) ?_) | (go_at_call 106; refine (cyclesOf_any N s f _ h1 h10 HPV.out HF.out).mono ?_; rintro e w6 ⟨v6, rfl, hb, hI⟩; replace hH := hH.call' hb; clear hb))
    go_ret
    exact ⟨_, rfl, hH.below, hI.lower (by omega)⟩
theorem addF0 {a b : UInt8} {N : Nat} {F : Nat → UInt8} : (∀ i, i < 0 + 2 → (addF 0 F a b i).toNat < N) ↔ a.toNat < N ∧ b.toNat < N := by
  constructor
  · intro h
    exact ⟨h 0 (by omega), h 1 (by omega)⟩
  · rintro ⟨h0, h1⟩ i hi
    match i, hi with
    | 0, _ => exact h0
    | 1, _ => exact h1
theorem rowsC0 {N : Nat} {g F : Nat → UInt8} (a b : UInt8) (h : sqB (N : Int) g = true) : rowsC N g 0 F a b = if a.toNat < N ∧ b.toNat < N ∧ a ≠ b then 0 else 2 := by
  have hE : elC N g (0 + 2) (addF 0 F a b) = if a.toNat < N ∧ b.toNat < N then 0 else 2 := by
    unfold elC
    rw [if_neg (by rw [h]; simp)]
    by_cases h3 : a.toNat < N ∧ b.toNat < N
    · rw [if_pos h3, if_pos (show ∀ i, i < 0 + 2 → (addF 0 F a b i).toNat < (N : Int).toNat from addF0.2 h3)]
    · rw [if_neg h3, if_neg (show ¬ ∀ i, i < 0 + 2 → (addF 0 F a b i).toNat < (N : Int).toNat from fun q => h3 (addF0.1 q))]
  unfold rowsC
  rw [hE]
  by_cases h3 : a.toNat < N ∧ b.toNat < N
  · rw [if_pos h3]
    by_cases hab : a = b
    · rw [if_pos ⟨rfl, hab⟩, if_neg (fun q => q.2.2 hab)]
    · rw [if_neg (fun q => hab q.2), if_pos ⟨h3.1, h3.2, hab⟩]
  · rw [if_neg h3, if_neg (by simp), if_neg (fun q => h3 ⟨q.1, q.2.1⟩)]
set_option maxRecDepth 20000 in
set_option maxHeartbeats 2000000 in
theorem implRowCycles_err (o : Int) (g : Nat → UInt8) (a b : UInt8) (z : Nat) (w : World) (hz : ((z : Int) == 0) = false) (hC : Hid (rowsC o g 0 (fun _ => 0) a b = z)) :
    Calls Try.prog 24 #[.agg (sqc o g), .int .u8 a.toNat, .int .u8 b.toNat] w fun e w' => e = .returned (.tuple #[.slice none 0 0, .int .i64 z]) ∧ Below w.heap.size w w' := by
  have hz2 : ¬ (z : Int) = 0 := by simpa using hz
  have hz3 : ¬ z = 0 := by omega
  have hH := Has.start1 w (sqc o g) 29
  go_enter Try.func24, Try.ntmps24
  go_wp2_with (first | fail | (refine wpL_loadFull rfl rfl rfl rowSq hH.h0 (sqc_size _ _) ?_) | (go_at_call 68; refine (rowsCode_any o g (fun _ => 0) 0 a b none _ (by omega) (.inl ⟨rfl, rfl⟩)).mono ?_; rintro e w2 ⟨rfl, hb⟩; rw [hC.out]; replace hH := hH.call' hb; clear hb))
  go_ret2
  exact ⟨rfl, hH.below⟩
set_option maxRecDepth 20000 in
set_option maxHeartbeats 2000000 in
theorem implRowCycles_in (N : Nat) (g : Nat → UInt8) (a b : UInt8) (w : World) (hq : IsSq N g) (ha : a.toNat < N) (hb : b.toNat < N) (hC : Hid (rowsC N g 0 (fun _ => 0) a b = 0)) :
    Calls Try.prog 24 #[.agg (sqc N g), .int .u8 a.toNat, .int .u8 b.toNat] w (GotL (rcL g N a.toNat b.toNat) 0 w) := by
  have HQ := hid hq
  clear hq
  have hH := Has.start1 w (sqc N g) 29
  go_enter Try.func24, Try.ntmps24
  go_wp2_with (first | fail | (refine wpL_loadFull rfl rfl rfl rowSq hH.h0 (sqc_size _ _) ?_) | (go_at_call 68; refine (rowsCode_any N g (fun _ => 0) 0 a b none _ (by omega) (.inl ⟨rfl, rfl⟩)).mono ?_; rintro e w2 ⟨rfl, hb⟩; rw [hC.out]; replace hH := hH.call' hb; clear hb) | (go_at_call 69; refine (rowCycles_any N a.toNat b.toNat g _ HQ.out ha hb).mono ?_; rintro e w3 ⟨v3, rfl, hb3, hI⟩; have hs3 := hH.size; simp only [List.length_cons, List.length_nil] at hs3; replace hI := hI.lower (show w.heap.size ≤ _ by omega); replace hH := hH.call' hb3; clear hb3 hs3))
  go_ret2
  exact ⟨_, rfl, hH.below, hI⟩
set_option maxRecDepth 20000 in
set_option maxHeartbeats 2000000 in
theorem specRowCycles_err (o : Int) (g : Nat → UInt8) (a b : UInt8) (z : Int) (w : World) (hz : (z == 0) = false)
    (hC : Hid (∀ w, Calls Try.prog 66 #[.agg (sqc o g), .int .u8 a.toNat, .int .u8 b.toNat, .int .u8 (0 : UInt8).toNat] w fun e w' => e = .returned (.int .i64 z) ∧ Below w.heap.size w w')) :
    Calls Try.prog 23 #[.agg (sqc o g), .int .u8 a.toNat, .int .u8 b.toNat] w fun e w' => e = .returned (.tuple #[.slice none 0 0, .int .i64 z]) ∧ Below w.heap.size w w' := by
  have hz2 : ¬ z = 0 := by simpa using hz
  have hH := Has.start1 w (sqc o g) 29
  go_enter Try.func23, Try.ntmps23
  go_wp2_with (first | fail | (refine wpL_loadFull rfl rfl rfl rowSq hH.h0 (sqc_size _ _) ?_) | (go_at_call 66; refine (hC.out _).mono ?_; rintro e w2 ⟨rfl, hb⟩; replace hH := hH.call' hb; clear hb))
  go_ret2
  exact ⟨rfl, hH.below⟩
set_option maxRecDepth 20000 in
set_option maxHeartbeats 2000000 in
theorem specRowCycles_in (N : Nat) (g : Nat → UInt8) (a b : UInt8) (w : World) (hq : IsSq N g) (ha : a.toNat < N) (hb : b.toNat < N)
    (hC : Hid (∀ w, Calls Try.prog 66 #[.agg (sqc N g), .int .u8 a.toNat, .int .u8 b.toNat, .int .u8 (0 : UInt8).toNat] w fun e w' => e = .returned (.int .i64 0) ∧ Below w.heap.size w w')) :
    Calls Try.prog 23 #[.agg (sqc N g), .int .u8 a.toNat, .int .u8 b.toNat] w (GotL (rcL g N a.toNat b.toNat) 0 w) := by
  have HQ := hid hq
  clear hq
  have hH := Has.start1 w (sqc N g) 29
  go_enter Try.func23, Try.ntmps23
  go_wp2_with (first | fail | (refine wpL_loadFull rfl rfl rfl rowSq hH.h0 (sqc_size _ _) ?_) | (go_at_call 66; refine (hC.out _).mono ?_; rintro e w2 ⟨rfl, hb⟩; replace hH := hH.call' hb; clear hb) | (go_at_call 67; refine (l09Lengths_any N a.toNat b.toNat g _ HQ.out ha hb).mono ?_; rintro e w3 ⟨v3, rfl, hb3, hI⟩; have hs3 := hH.size; simp only [List.length_cons, List.length_nil] at hs3; replace hI := hI.lower (show w.heap.size ≤ _ by omega); replace hH := hH.call' hb3; clear hb3 hs3))
  go_ret2
  exact ⟨_, rfl, hH.below, hI⟩
end Go.Proofs.Ytbhjbllgmenbaaa
namespace Go.Proofs.Ytbhjbllgmenbaaa
set_option linter.unusedVariables false
set_option linter.unusedSimpArgs false
open Go.RowKit
section
variable {N : Nat} {f f' : Nat → Nat}
theorem byCnt_perm {l : List Int} {m : Nat} (hl : ∀ z, z ∈ l → 1 ≤ z ∧ z ≤ m) : (byCnt (fun j => l.count (j : Int)) m).Perm l := by
  refine List.perm_iff_count.2 fun z => ?_
  rw [byCnt_count]
  by_cases h : 1 ≤ z ∧ z ≤ m
  · rw [if_pos h]
    show l.count ((z.toNat : Nat) : Int) = _
    rw [show ((z.toNat : Nat) : Int) = z by omega]
  · rw [if_neg h]
    exact (List.count_eq_zero.2 fun hz => h (hl z hz)).symm
/-- There is one cycle alone exactly if that of 0 has all numbers. -/
theorem one_met (h : Pmt N f) (hall : ∀ z, z < N → inO f 0 (cyT N f 0) z = true) : ∀ k, 0 < k → k ≤ N → (lensL N f k).length = 1
  | 1, _, _ => by show ([] ++ (if metF N f 0 0 then [] else [((cyT N f 0 : Nat) : Int)])).length = 1; simp [metF]
  | k + 2, _, hk => by
    have ih := one_met h hall (k + 1) (by omega) (by omega)
    rw [lensL_yes (metF_iff.2 ⟨0, by omega, hall _ (by omega)⟩)]
    exact ih
theorem lensL_mono : ∀ d k, (lensL N f k).length ≤ (lensL N f (k + d)).length
  | 0, _ => Nat.le_refl _
  | d + 1, k => by
    have := lensL_mono d k
    show _ ≤ (lensL N f (k + d) ++ _).length
    rw [List.length_append]; omega
theorem met_one (h : Pmt N f) (h1 : (lensL N f N).length = 1) : ∀ z, z < N → inO f 0 (cyT N f 0) z = true := by
  intro z
  induction z using Nat.strongRecOn with
  | ind z ih =>
    intro hz
    by_cases hz0 : z = 0
    · subst hz0
      exact inO_iff.2 ⟨0, (cyT_spec h hz).pos, rfl⟩
    · cases hm : metF N f z z with
      | true =>
        obtain ⟨i, hi, e⟩ := metF_iff.1 hm
        exact cyc_trans h (by omega) (ih i hi (by omega)) _ e
      | false =>
        have a1 := lensL_pos N f z (by omega)
        have a2 : (lensL N f (z + 1)).length = (lensL N f z).length + 1 := by rw [lensL_no hm]; simp
        have a3 := lensL_mono (N := N) (f := f) (N - (z + 1)) (z + 1)
        rw [show z + 1 + (N - (z + 1)) = N by omega] at a3
        omega
theorem it_inv (h : Pmt N f) (hi : ∀ x, x < N → f' (f x) = x) (h0 : 0 < N) : ∀ k, it f' (it f 0 k) k = 0
  | 0 => rfl
  | k + 1 => by
    have e : it f' (it f 0 (k + 1)) 1 = it f 0 k := hi _ (it_lt h h0 k)
    have := it_add (f := f') (c := it f 0 (k + 1)) 1 k
    rw [e, it_inv h hi h0 k, Nat.add_comm 1 k] at this
    exact this.symm
theorem one_inv (h : Pmt N f) (h' : Pmt N f') (hi : ∀ x, x < N → f' (f x) = x) (h0 : 0 < N) (h1 : (lensL N f N).length = 1) : (lensL N f' N).length = 1 := by
  refine one_met h' (fun z hz => ?_) N h0 (Nat.le_refl _)
  obtain ⟨k, _, e⟩ := inO_iff.1 (met_one h h1 z hz)
  refine cyc_sym h' hz h0 ?_
  have := (cyT_spec h' hz).all k
  rwa [← e, it_inv h hi h0 k, e] at this
end
section
variable {g : Nat → UInt8} {N a b : Nat}
theorem swV_inv (h : IsSq N g) (ha : a < N) (hb : b < N) {v : Nat} (hv : v < N) : swV g N b a (swV g N a b v) = v := by
  have h1 := back_lt (h.rows a ha) hv
  have h2 := back_at (h.rows b hb) h1.1
  unfold swV
  have e : (backF (rowF g b) N (g (b * 10 + (backF (rowF g a) N v).toNat)).toNat).toNat = (backF (rowF g a) N v).toNat := h2
  rw [e]
  exact h1.2
theorem rcL_lens (h : IsSq N g) (ha : a < N) (hb : b < N) : (rcL g N a b).length = (lensL N (swV g N a b) N).length :=
  (byCnt_perm fun z hz => by have := lensL_in (swV_pmt h ha hb) N (Nat.le_refl _) z hz; have := h.hi; omega).length_eq
theorem rcL_pos (h : IsSq N g) (ha : a < N) (hb : b < N) : 1 ≤ (rcL g N a b).length := by
  rw [rcL_lens h ha hb]; exact lensL_pos _ _ N (by omega)
theorem rcL_swap (h : IsSq N g) (ha : a < N) (hb : b < N) : (rcL g N a b).length = 1 ↔ (rcL g N b a).length = 1 := by
  rw [rcL_lens h ha hb, rcL_lens h hb ha]
  exact ⟨one_inv (swV_pmt h ha hb) (swV_pmt h hb ha) (fun x hx => swV_inv h ha hb hx) (by omega), one_inv (swV_pmt h hb ha) (swV_pmt h ha hb) (fun x hx => swV_inv h hb ha hx) (by omega)⟩
end
/-- Have any two different rows one cycle alone? -/
noncomputable def rhB (g : Nat → UInt8) (N : Nat) : Bool := @decide (∀ y x, y < N → x < y → (rcL g N x y).length = 1) (Classical.propDecidable _)
theorem rhB_iff {g : Nat → UInt8} {N : Nat} : rhB g N = true ↔ ∀ y x, y < N → x < y → (rcL g N x y).length = 1 := by
  unfold rhB; exact @decide_eq_true_iff _ (Classical.propDecidable _)
theorem rhB_no {g : Nat → UInt8} {N x y : Nat} (hy : y < N) (hx : x < y) (h : (rcL g N x y).length ≠ 1) : rhB g N = false := by
  cases e : rhB g N with
  | false => rfl
  | true => exact absurd (rhB_iff.1 e y x hy hx) h
theorem GotI.form {l : List Int} {w : World} {lo hi : Nat} {v : Value} (h : IL w lo hi v l) : ∃ a cap, v = .slice a l.length cap := by
  rcases h with ⟨h, e⟩ | ⟨g, cap, e, _⟩
  · subst e; exact ⟨none, 0, h⟩
  · exact ⟨_, cap, e⟩
set_option maxRecDepth 20000 in
set_option maxHeartbeats 2000000 in
theorem implIsRowHamiltonian_no (o : Int) (g : Nat → UInt8) (w : World) (hs : sqB o g = false) :
    Calls Try.prog 28 #[.agg (sqc o g)] w fun e w' => e = .returned (.tuple #[.bool false, .int .i64 1]) ∧ Below w.heap.size w w' := by
  have hH := Has.start1 w (sqc o g) 29
  go_enter Try.func28, Try.ntmps28
  go_wp2_with (first | fail | (refine wpL_loadFull rfl rfl rfl rowSq hH.h0 (sqc_size _ _) ?_) | (go_at_call 56; refine (IsSquare_any o g _).mono ?_; rintro e w2 ⟨rfl, hb⟩; replace hH := hH.call' hb; rw [hs]))
  go_ret2
  exact ⟨rfl, hH.below⟩
set_option maxRecDepth 20000 in
set_option maxHeartbeats 4000000 in
theorem implIsRowHamiltonian_yes (N : Nat) (g : Nat → UInt8) (w : World) (hs : sqB (N : Int) g = true) (hq : IsSq N g) :
    Calls Try.prog 28 #[.agg (sqc N g)] w fun e w' => e = .returned (.tuple #[.bool (rhB g N), .int .i64 0]) ∧ Below w.heap.size w w' := by
  have h10 := hq.hi
  have HQ := hid hq
  clear hq
  have hN10 : (N : Int) ≤ 10 := by omega
  have hH := Has.start1 w (sqc N g) 29
  go_enter Try.func28, Try.ntmps28
  go_wp2_with (first | fail | (refine wpL_loadFull rfl rfl rfl rowSq hH.h0 (sqc_size _ _) ?_) | (go_at_call 56; refine (IsSquare_any N g _).mono ?_; rintro e w2 ⟨rfl, hb⟩; replace hH := hH.call' hb; clear hb; rw [hs]; have c0 := hH.c0 0; rw [sqc_get0] at c0))
  try clear c0
  go_loopw [12] (fun y wr => ∃ k : Nat, k ≤ N ∧ y = .int .u8 k ∧ Has w wr [(sqc N g, 29)] ∧ Hid (∀ y x, y < k → x < y → (rcL g N x y).length = 1)) (fun y _ => 20 - (intOf y).toNat)
  case atStart => exact ⟨0, by omega, rfl, hH, hid (fun y x hy _ => by omega)⟩
  case round =>
    clear hH
    obtain ⟨k, hk, rfl, hH, hA⟩ := hrel
    by_cases hlt : k < N
    · have hk1 : (k : Int) < N := by omega
      go_wp2
      go_loopw [16] (fun x wr => ∃ j : Nat, j ≤ k ∧ x = .int .u8 j ∧ Has w wr [(sqc N g, 29)] ∧ Hid (∀ x, x < j → (rcL g N x k).length = 1)) (fun x _ => 20 - (intOf x).toNat)
      case atStart => exact ⟨0, by omega, rfl, hH, hid (fun x hx => by omega)⟩
      case round =>
        clear hH
        obtain ⟨j, hj, rfl, hH, hB⟩ := hrel
        by_cases hjk : j < k
        · have hj1 : (j : Int) < k := by omega
          obtain ⟨n, hn⟩ : ∃ n, (rcL g N j k).length = n := ⟨_, rfl⟩
          have HP := hid (rcL_pos HQ.out (a := j) (b := k) (by omega) hlt)
          have HN := hid hn
          clear hn
          by_cases h1 : n = 1
          · subst h1
            go_wp2_with (first | fail | (refine wpL_loadFull rfl rfl rfl rowSq hH.h0 (sqc_size _ _) ?_) | (go_at_call 69; refine (rowCycles_any N j k g _ HQ.out (by omega) hlt).mono ?_; rintro e w3 ⟨v3, rfl, hb3, hI⟩; obtain ⟨a0, c0, rfl⟩ := GotI.form hI; rw [HN.out]; replace hH := hH.call' hb3; clear hb3 hI))
            go_roundw
            case rel => exact ⟨j + 1, by omega, by go_num, hH, hid (fun x hx => by
              by_cases e : x = j
              · subst e; exact HN.out
              · exact hB.out x (by omega))⟩
            case measure => simp [intOf]; omega
          · have hn1 : (n : Int) > 1 := by have := HP.out; rw [HN.out] at this; omega
            have HR := hid (rhB_no hlt hjk (by rw [HN.out]; exact h1))
            go_wp2_with (first | fail | (refine wpL_loadFull rfl rfl rfl rowSq hH.h0 (sqc_size _ _) ?_) | (go_at_call 69; refine (rowCycles_any N j k g _ HQ.out (by omega) hlt).mono ?_; rintro e w3 ⟨v3, rfl, hb3, hI⟩; obtain ⟨a0, c0, rfl⟩ := GotI.form hI; rw [HN.out]; replace hH := hH.call' hb3; clear hb3 hI))
            go_ret2
            rw [HR.out]
            exact ⟨rfl, hH.below⟩
        · obtain rfl : j = k := by omega
          go_wp2
          go_roundw
          case rel => exact ⟨j + 1, by omega, by go_num, hH, hid (fun y x hy hx => by
            by_cases e : y = j
            · subst e; exact hB.out x hx
            · exact hA.out y x (by omega) hx)⟩
          case measure => simp [intOf]; omega
    · obtain rfl : k = N := by omega
      have HR := hid (rhB_iff.2 hA.out)
      go_wp2
      go_ret2
      rw [HR.out]
      exact ⟨rfl, hH.below⟩
set_option maxRecDepth 20000 in
set_option maxHeartbeats 2000000 in
theorem specIsRowHamiltonian_no (o : Int) (g : Nat → UInt8) (w : World) (hs : sqB o g = false) :
    Calls Try.prog 27 #[.agg (sqc o g)] w fun e w' => e = .returned (.tuple #[.bool false, .int .i64 1]) ∧ Below w.heap.size w w' := by
  have hH := Has.start1 w (sqc o g) 29
  go_enter Try.func27, Try.ntmps27
  go_wp2_with (first | fail | (refine wpL_loadFull rfl rfl rfl rowSq hH.h0 (sqc_size _ _) ?_) | (go_at_call 70; refine (l01Is_any o g _).mono ?_; rintro e w2 ⟨rfl, hb⟩; replace hH := hH.call' hb; rw [hs]))
  go_ret2
  exact ⟨rfl, hH.below⟩
set_option maxRecDepth 20000 in
set_option maxHeartbeats 4000000 in
theorem specIsRowHamiltonian_yes (N : Nat) (g : Nat → UInt8) (w : World) (hs : sqB (N : Int) g = true) (hq : IsSq N g) :
    Calls Try.prog 27 #[.agg (sqc N g)] w fun e w' => e = .returned (.tuple #[.bool (rhB g N), .int .i64 0]) ∧ Below w.heap.size w w' := by
  have h10 := hq.hi
  have HQ := hid hq
  clear hq
  have hN10 : (N : Int) ≤ 10 := by omega
  have hH := Has.start1 w (sqc N g) 29
  go_enter Try.func27, Try.ntmps27
  go_wp2_with (first | fail | (refine wpL_loadFull rfl rfl rfl rowSq hH.h0 (sqc_size _ _) ?_) | (go_at_call 70; refine (l01Is_any N g _).mono ?_; rintro e w2 ⟨rfl, hb⟩; replace hH := hH.call' hb; clear hb; rw [hs]))
  go_loopw [4] (fun y wr => ∃ k : Nat, k ≤ N ∧ y = .int .u8 k ∧ Has w wr [(sqc N g, 29)] ∧ Hid (∀ y x, y < k → x < y → (rcL g N x y).length = 1)) (fun y _ => 20 - (intOf y).toNat)
  case atStart => exact ⟨0, by omega, rfl, hH, hid (fun y x hy _ => by omega)⟩
  case round =>
    clear hH
    obtain ⟨k, hk, rfl, hH, hA⟩ := hrel
    have cz : wr.cell? ⟨w.heap.size, 0, none⟩ = some (.int .i64 N) := by rw [hH.c0, sqc_get0]
    by_cases hlt : k < N
    · have hk1 : (k : Int) < N := by omega
      go_wp2
      clear cz
      go_loopw [5] (fun x wr => ∃ j : Nat, j ≤ k ∧ x = .int .u8 j ∧ Has w wr [(sqc N g, 29)] ∧ Hid (∀ x, x < j → (rcL g N x k).length = 1)) (fun x _ => 20 - (intOf x).toNat)
      case atStart => exact ⟨0, by omega, rfl, hH, hid (fun x hx => by omega)⟩
      case round =>
        clear hH
        obtain ⟨j, hj, rfl, hH, hB⟩ := hrel
        by_cases hjk : j < k
        · have hj1 : (j : Int) < k := by omega
          obtain ⟨n, hn⟩ : ∃ n, (rcL g N k j).length = n := ⟨_, rfl⟩
          have HP := hid (rcL_swap HQ.out (a := j) (b := k) (by omega) hlt)
          have HN := hid hn
          clear hn
          by_cases h1 : n = 1
          · subst h1
            go_wp2_with (first | fail | (refine wpL_loadFull rfl rfl rfl rowSq hH.h0 (sqc_size _ _) ?_) | (go_at_call 67; refine (l09Lengths_any N k j g _ HQ.out hlt (by omega)).mono ?_; rintro e w3 ⟨v3, rfl, hb3, hI⟩; obtain ⟨a0, c0, rfl⟩ := GotI.form hI; rw [show (byCnt (fun j' => (lensL N (swV g N k j) N).count (j' : Int)) 10).length = 1 from HN.out]; replace hH := hH.call' hb3; clear hb3 hI))
            go_roundw
            case rel => exact ⟨j + 1, by omega, by go_num, hH, hid (fun x hx => by
              by_cases e : x = j
              · subst e; exact HP.out.2 HN.out
              · exact hB.out x (by omega))⟩
            case measure => simp [intOf]; omega
          · have hn1 : ¬ (n : Int) = 1 := by omega
            have HR := hid (rhB_no hlt hjk (fun e => h1 (by rw [← HN.out]; exact HP.out.1 e)))
            go_wp2_with (first | fail | (refine wpL_loadFull rfl rfl rfl rowSq hH.h0 (sqc_size _ _) ?_) | (go_at_call 67; refine (l09Lengths_any N k j g _ HQ.out hlt (by omega)).mono ?_; rintro e w3 ⟨v3, rfl, hb3, hI⟩; obtain ⟨a0, c0, rfl⟩ := GotI.form hI; rw [show (byCnt (fun j' => (lensL N (swV g N k j) N).count (j' : Int)) 10).length = n from HN.out]; replace hH := hH.call' hb3; clear hb3 hI))
            go_ret2
            rw [HR.out]
            exact ⟨rfl, hH.below⟩
        · obtain rfl : j = k := by omega
          go_wp2
          go_roundw
          case rel => exact ⟨j + 1, by omega, by go_num, hH, hid (fun y x hy hx => by
            by_cases e : y = j
            · subst e; exact hB.out x hx
            · exact hA.out y x (by omega) hx)⟩
          case measure => simp [intOf]; omega
    · obtain rfl : k = N := by omega
      have HR := hid (rhB_iff.2 hA.out)
      go_wp2
      go_ret2
      rw [HR.out]
      exact ⟨rfl, hH.below⟩
end Go.Proofs.Ytbhjbllgmenbaaa
