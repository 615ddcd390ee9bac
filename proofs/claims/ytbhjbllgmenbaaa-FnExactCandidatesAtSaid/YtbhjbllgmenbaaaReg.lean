/- Proved: a rule for a region whose order Go leaves open: an invariant over the set of operations that have been carried out. Conditions: those that the theorem names. -/
import Derived.Test.YtbhjbllgmenbaaaLib
import Derived.Orders
namespace Go.Proofs.Ytbhjbllgmenbaaa
set_option linter.unusedVariables false
set_option linter.unusedSimpArgs false
open Go.RowKit

/-- Every edge that binds in any order leads to an earlier operation. -/
def acyc (l : List Oper) : Bool := l.zipIdx.all fun (o, i) => o.after.all fun e => !Region.binds .any e || decide (e.on < i)
def falses (l : List Bool) : Nat := l.countP (fun b => !b)
theorem falses_set : ∀ (l : List Bool) (i : Nat), l[i]? = some false → falses (l.set i true) + 1 = falses l
  | [], i, h => by simp at h
  | b :: l, 0, h => by simp at h; subst h; simp [falses]
  | b :: l, i + 1, h => by
    have := falses_set l i (by simpa using h)
    simp only [List.set_cons_succ, falses, List.countP_cons] at *
    omega
theorem falses_zero : ∀ (l : List Bool), falses l = 0 → ∀ (i : Nat) (b : Bool), l[i]? = some b → b = true := by
  intro l h i b hb
  simp only [falses, List.countP_eq_zero] at h
  have := h b (List.mem_of_getElem? hb)
  simpa using this
/-- i is put to the operations that have been carried out. -/
def done (d : Nat → Bool) (i : Nat) : Nat → Bool := fun j => if j = i then true else d j
theorem done_no {d : Nat → Bool} {i j : Nat} (h : done d i j = false) : d j = false := by
  unfold done at h
  split at h
  · cases h
  · exact h
theorem done_ne {d : Nat → Bool} {i j : Nat} (h : done d i j = true) (hj : j ≠ i) : d j = true := by
  unfold done at h
  rwa [if_neg hj] at h
section
variable {P : Program} {ops : Array Oper} {Q : Exit → Act → World → Prop}
theorem ready_nil {listed : Array Bool} (hl : listed.size = ops.size) (hac : acyc ops.toList = true) (hr : Region.ready .any ops listed = []) : ∀ i, i < ops.size → listed.getD i false = true := by
  intro i
  induction i using Nat.strongRecOn with
  | ind i ih =>
    intro hi
    cases hb : listed.getD i false with
    | true => rfl
    | false =>
      exfalso
      have hmem : i ∈ Region.ready .any ops listed := by
        unfold Region.ready
        rw [List.mem_filter]
        refine ⟨List.mem_range.2 hi, ?_⟩
        have e1 : listed.getD i true = false := by
          have : i < listed.size := by omega
          simp [Array.getD, this] at hb ⊢; exact hb
        have e2 : ops[i]? = some ops[i] := by simp [hi]
        rw [e1, e2]
        simp only [Bool.not_false, Bool.true_and, Option.map_some, Option.getD_some]
        rw [Array.all_eq_true_iff_forall_mem]
        intro e he
        cases hbn : Region.binds .any e with
        | false => simp
        | true =>
          simp only [Bool.not_true, Bool.false_or]
          have hz : (ops[i], i) ∈ ops.toList.zipIdx := by
            rw [List.mem_zipIdx_iff_getElem?]
            simp
          have h1 := List.all_eq_true.1 hac _ hz
          have h2 := (Array.all_eq_true_iff_forall_mem.1 h1) e he
          simp only [hbn, Bool.not_true, Bool.false_or, decide_eq_true_eq] at h2
          exact ih e.on h2 (by omega)
      rw [hr] at hmem
      cases hmem
theorem wpAny_inv (hac : acyc ops.toList = true) (I : (Nat → Bool) → Act → World → Prop)
    (hs : ∀ (d : Nat → Bool) i o a w, ops[i]? = some o → d i = false → (∀ e ∈ o.after.toList, Region.binds .any e = true → d e.on = true) → I d a w → wpOp P ops Q i (fun a' w' => I (done d i) a' w') a w)
    (hq : ∀ (d : Nat → Bool) a w, (∀ i, i < ops.size → d i = true) → I d a w → Q .normal a w) :
    ∀ (fuel : Nat) (listed : Array Bool) (a : Act) (w : World), listed.size = ops.size → falses listed.toList ≤ fuel → I (fun i => listed.getD i false) a w → wpAny P .any ops Q fuel listed a w
  | 0, listed, a, w, hl, hf, hI => by
    have hz := falses_zero listed.toList (by omega)
    have hall : ∀ i, i < ops.size → listed.getD i false = true := fun i hi => by
      have hi' : i < listed.size := by omega
      have := hz i listed[i] (by simp [hi'])
      simp [Array.getD, hi', this]
    refine ⟨?_, hq _ a w hall hI⟩
    unfold Region.ready
    rw [List.filter_eq_nil_iff]
    intro i hi
    have hi' : i < listed.size := by simp at hi; omega
    have := hall i (by simpa using hi)
    simp [Array.getD, hi'] at this ⊢
    simp [this]
  | fuel + 1, listed, a, w, hl, hf, hI => by
    refine ⟨fun hr => hq _ a w (ready_nil hl hac hr) hI, fun i hi => ?_⟩
    unfold Region.ready at hi
    rw [List.mem_filter] at hi
    obtain ⟨hi1, hi2⟩ := hi
    have hi1 : i < ops.size := List.mem_range.1 hi1
    have hil : i < listed.size := by omega
    have e2 : ops[i]? = some ops[i] := by simp [hi1]
    rw [e2] at hi2
    simp only [Option.map_some, Option.getD_some, Bool.and_eq_true, Bool.not_eq_true'] at hi2
    obtain ⟨h1, h2⟩ := hi2
    have hfl : listed[i] = false := by simpa [Array.getD, hil] using h1
    have hfd : listed.getD i false = false := by simp [Array.getD, hil, hfl]
    refine wpOp_mono (fun a' w' hI' => ?_) (hs (fun j => listed.getD j false) i ops[i] a w e2 hfd (fun e he hb => ?_) hI)
    · refine wpAny_inv hac I hs hq fuel (listed.setIfInBounds i true) a' w' (by simp [hl]) ?_ ?_
      · have := falses_set listed.toList i (by simp [hil, hfl])
        rw [Array.toList_setIfInBounds]
        omega
      · have e : (fun j => (listed.setIfInBounds i true).getD j false) = done (fun j => listed.getD j false) i := by
          funext j
          unfold done
          by_cases ej : j = i
          · subst ej; simp [Array.getD, hil]
          · by_cases hj : j < listed.size
            · simp [Array.getD, hj, ej, Array.getElem_setIfInBounds, Ne.symm ej]
            · simp [Array.getD, hj, ej]
        rw [e]; exact hI'
    · have := (Array.all_eq_true_iff_forall_mem.1 h2) e (by simpa using he)
      simpa [hb] using this
theorem falses_replicate (n : Nat) : falses (List.replicate n false) = n := by
  simp [falses, List.countP_replicate]
/-- What the list of edges asks of d. -/
def needs (d : Nat → Bool) : List Edge → Prop
  | [] => True
  | e :: l => (Region.binds .any e = true → d e.on = true) ∧ needs d l
theorem needs_of {d : Nat → Bool} : ∀ (l : List Edge), (∀ e ∈ l, Region.binds .any e = true → d e.on = true) → needs d l
  | [], _ => trivial
  | e :: l, h => ⟨h e (by simp), needs_of l (fun x hx => h x (by simp [hx]))⟩
/-- For each operation of the list, by its place. -/
def each (φ : Nat → Oper → Prop) : Nat → List Oper → Prop
  | _, [] => True
  | k, o :: l => φ k o ∧ each φ (k + 1) l
theorem each_get {φ : Nat → Oper → Prop} : ∀ (l : List Oper) (k : Nat), each φ k l → ∀ i o, l[i]? = some o → φ (k + i) o
  | [], _, _, i, o, h => by simp at h
  | x :: l, k, h, 0, o, ho => by simp at ho; subst ho; exact h.1
  | x :: l, k, h, i + 1, o, ho => by
    have := each_get l (k + 1) h.2 i o (by simpa using ho)
    rwa [show k + 1 + i = k + (i + 1) by omega] at this
/-- The first n have been carried out. -/
def allDone (d : Nat → Bool) : Nat → Prop
  | 0 => True
  | n + 1 => d n = true ∧ allDone d n
theorem allDone_of {d : Nat → Bool} : ∀ (n : Nat), (∀ i, i < n → d i = true) → allDone d n
  | 0, _ => trivial
  | n + 1, h => ⟨h n (by omega), allDone_of n (fun i hi => h i (by omega))⟩
/-- The post of one operation of the region: the invariant with it. -/
def stepPost (I : (Nat → Bool) → Act → World → Prop) (d : Nat → Bool) (i : Nat) (Q : Exit → Act → World → Prop) : Exit → Act → World → Prop
  | .normal, a, w => I (done d i) a w
  | e, a, w => Q e a w
/-- A REGION WHOSE ORDER IS OPEN, by an invariant over the set of operations that have been carried out. -/
theorem wp_region_inv {id : Nat} {l : List Oper} {a : Act} {w : World} (I : (Nat → Bool) → Act → World → Prop) (hm : P.follows .mixedOrders = true) (hac : acyc l = true) (h0 : I (fun _ => false) a w.drew)
    (hs : each (fun i o => ∀ (d : Nat → Bool) a w, d i = false → needs d o.after.toList → I d a w → wpList P l.toArray (stepPost I d i Q) [o] a w) 0 l)
    (hq : ∀ (d : Nat → Bool) a w, allDone d l.length → I d a w → Q .normal a w) : (Code.region id l.toArray true).wp P Q a w := by
  refine wp_region_any hm (wpAny_inv (by simpa using hac) I ?_ ?_ _ _ _ _ (by simp) (by simp [falses_replicate]) ?_)
  · intro d i o a w ho hd hn hI
    have h0 := each_get l 0 hs i o (by simpa using ho)
    rw [Nat.zero_add] at h0
    have h := h0 d a w hd (needs_of _ hn) hI
    unfold wpOp
    simp only [ho]
    unfold wpList at h
    split
    · rename_i hw
      rw [if_pos hw] at h
      have hop : ∀ {Q1 : Exit → Act → World → Prop} {K : Act → World → Prop}, o.wp P a w K Q1 → (∀ (e : Exit) a w, e ≠ .normal → Q1 e a w → Q e a w) → (LetsOut Q1 → LetsOut Q) → o.wp P a w K Q := by
        intro Q1 K hh hQ hL
        unfold Oper.wp at *
        generalize (execOp a.eval o).run P w = r at *
        cases r with
        | ok n w' =>
          cases n <;> simp only [Oper.upon] at hh ⊢ <;>
            first
              | exact hh
              | exact Calls.mono hh (fun e w'' he => by cases e <;> first | exact he | exact hQ _ _ _ (fun hx => by cases hx) he | exact hL he)
        | halt x w' => cases x <;> simp only [Oper.upon] at hh ⊢ <;> first | exact hh | exact hQ _ _ _ (fun hx => by cases hx) hh
      have hL : LetsOut (stepPost I d i Q) → LetsOut Q := fun hh => by
        obtain ⟨a, w, h⟩ := hh
        exact ⟨a, w, h⟩
      rcases h with h | h
      · left
        exact hop (Oper.wp_mono (K := wpList P l.toArray (stepPost I d i Q) []) (fun a' w' hh => hh) h) (fun e a w hx hh => by cases e <;> first | exact (hx rfl).elim | exact hh) hL
      · right; exact ⟨h.1, hL h.2⟩
    · rename_i hw
      rw [if_neg hw] at h
      exact h
  · intro d a w hd hI
    exact hq d a w (allDone_of _ (by simpa using hd)) hI
  · have e : (fun i => (Array.replicate l.toArray.size false).getD i false) = fun _ => false := by
      funext i
      simp [Array.getD]
    rw [e]; exact h0
/-- Slots written one after the other. -/
def lput : List Value → List (Nat × Value) → List Value
  | l, [] => l
  | l, (s, v) :: L => lput (l.set s v) L
/-- THE SAME, the frame told by what stands in the slots that the region writes (X: what is not known ahead: the new blocks' numbers). -/
theorem wp_region_frame {X : Type} {id : Nat} {l : List Oper} {l0 : List Value} {ds : List Deferred} {w : World} (F : (Nat → Bool) → X → List (Nat × Value)) (J : (Nat → Bool) → X → World → Prop) (hm : P.follows .mixedOrders = true) (hac : acyc l = true)
    (h0 : ∃ x, l0 = lput l0 (F (fun _ => false) x) ∧ J (fun _ => false) x w.drew)
    (hs : each (fun i o => ∀ (d : Nat → Bool) x w, d i = false → needs d o.after.toList → J d x w → wpList P l.toArray (stepPost (fun d a' w' => ∃ x, a' = ⟨(lput l0 (F d x)).toArray, ds⟩ ∧ J d x w') d i Q) [o] ⟨(lput l0 (F d x)).toArray, ds⟩ w) 0 l)
    (hq : ∀ (d : Nat → Bool) x w, allDone d l.length → J d x w → Q .normal ⟨(lput l0 (F d x)).toArray, ds⟩ w) : (Code.region id l.toArray true).wp P Q ⟨l0.toArray, ds⟩ w := by
  refine wp_region_inv (fun d a' w' => ∃ x, a' = ⟨(lput l0 (F d x)).toArray, ds⟩ ∧ J d x w') hm hac ?_ ?_ ?_
  · obtain ⟨x, e, hJ⟩ := h0
    exact ⟨x, by rw [← e], hJ⟩
  · have key : ∀ (L : List Oper) (k : Nat), each (fun i o => ∀ (d : Nat → Bool) x w, d i = false → needs d o.after.toList → J d x w → wpList P l.toArray (stepPost (fun d a' w' => ∃ x, a' = ⟨(lput l0 (F d x)).toArray, ds⟩ ∧ J d x w') d i Q) [o] ⟨(lput l0 (F d x)).toArray, ds⟩ w) k L →
        each (fun i o => ∀ (d : Nat → Bool) a' w, d i = false → needs d o.after.toList → (∃ x, a' = ⟨(lput l0 (F d x)).toArray, ds⟩ ∧ J d x w) → wpList P l.toArray (stepPost (fun d a' w' => ∃ x, a' = ⟨(lput l0 (F d x)).toArray, ds⟩ ∧ J d x w') d i Q) [o] a' w) k L := by
      intro L
      induction L with
      | nil => intro k _; trivial
      | cons o L ih =>
        intro k h
        refine ⟨fun d a' w hd hn hI => ?_, ih (k + 1) h.2⟩
        obtain ⟨x, rfl, hJ⟩ := hI
        exact h.1 d x w hd hn hJ
    exact key l 0 hs
  · intro d a' w hd hI
    obtain ⟨x, rfl, hJ⟩ := hI
    exact hq d x w hd hJ
end
end Go.Proofs.Ytbhjbllgmenbaaa
