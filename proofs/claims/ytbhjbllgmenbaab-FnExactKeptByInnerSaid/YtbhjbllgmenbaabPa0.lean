/- Proved: lemmas on the quotients of a square as squares, and on three squares side by side, without any program. Conditions: those that each lemma names. -/
import Derived.Test.YtbhjbllgmenbaabQs
import Derived.Test.YtbhjbllgmenbaabSq0
namespace Go.Proofs.Ytbhjbllgmenbaab
set_option linter.unusedVariables false
set_option linter.unusedSimpArgs false
open Go.RowKit
theorem bk_lt {p : Nat → UInt8} {N : Nat} (h : IsPerm p N) {z : Nat} (hz : z < N) : (backF p N z).toNat < N ∧ (p (backF p N z).toNat).toNat = z := by
  obtain ⟨y, h1, h2, h3⟩ := backF_of h z hz
  rw [h3]; exact ⟨h1, h2⟩
theorem bk_at {p : Nat → UInt8} {N : Nat} (h : IsPerm p N) {y : Nat} (hy : y < N) : (backF p N (p y).toNat).toNat = y := by
  rw [backF_at h y hy N hy (Nat.le_refl _), u8_of _ (by have := h.hi; omega)]
theorem bk_none {p : Nat → UInt8} (z : Nat) : ∀ k, (∀ i, i < k → (p i).toNat ≠ z) → backF p k z = 0
  | 0, _ => rfl
  | k + 1, h => by
    show (if z = (p k).toNat then UInt8.ofNat k else backF p k z) = _
    rw [if_neg (fun e => h k (by omega) e.symm)]
    exact bk_none z k (fun i hi => h i (by omega))
theorem bk_out {p : Nat → UInt8} {N : Nat} (h : IsPerm p N) {z : Nat} (hz : N ≤ z) : backF p N z = 0 :=
  bk_none z N (fun i hi e => by have := h.lt i hi; omega)
/-- The quotients of a square as squares. -/
def unF (g : Nat → UInt8) (N : Nat) : Nat → UInt8 := fillT N (fun x z => backF (rowF g x) N z) N 0
def ovF (g : Nat → UInt8) (N : Nat) : Nat → UInt8 := fillT N (fun z y => backF (colF g y) N z) N 0
theorem fillT_out {N : Nat} {v : Nat → Nat → UInt8} {x y : Nat} (hx : x < 10) (hy : y < 10) (h : N ≤ x ∨ N ≤ y) : fillT N v N 0 (x * 10 + y) = 0 := by
  unfold fillT
  rw [if_neg (by omega)]
theorem bk_inj {p : Nat → UInt8} {N i j : Nat} (h : IsPerm p N) (hi : i < N) (hj : j < N) (e : (backF p N i).toNat = (backF p N j).toNat) : i = j := by
  have a := (bk_lt h hi).2
  have b := (bk_lt h hj).2
  rw [e] at a; omega
theorem unF_get {g : Nat → UInt8} {N x z : Nat} (h10 : N ≤ 10) (hx : x < N) (hz : z < N) : unF g N (x * 10 + z) = backF (rowF g x) N z := fillT_get N _ x z hx hz h10
theorem ovF_get {g : Nat → UInt8} {N z y : Nat} (h10 : N ≤ 10) (hz : z < N) (hy : y < N) : ovF g N (z * 10 + y) = backF (colF g y) N z := fillT_get N _ z y hz hy h10
theorem unF_sq {g : Nat → UInt8} {N : Nat} (h : IsSq N g) : IsSq N (unF g N) := by
  have h10 := h.hi
  refine ⟨h.lo, h.hi, fun x hx => ⟨h.lo, h.hi, fun z hz => ?_, fun i j hij hj => ?_, fun i hi hi10 => ?_⟩, fun z hz => ⟨h.lo, h.hi, fun x hx => ?_, fun i j hij hj => ?_, fun i hi hi10 => ?_⟩, fun x y hx hy ho => fillT_out hx hy ho⟩
  · unfold rowF; rw [unF_get h10 hx hz]; exact (bk_lt (h.rows x hx) hz).1
  · unfold rowF; rw [unF_get h10 hx (by omega), unF_get h10 hx hj]
    intro e; have := bk_inj (h.rows x hx) (by omega) hj e; omega
  · unfold rowF unF; rw [fillT_out (by omega) hi10 (.inr hi)]; rfl
  · unfold colF; rw [unF_get h10 hx hz]; exact (bk_lt (h.rows x hx) hz).1
  · unfold colF; rw [unF_get h10 (by omega) hz, unF_get h10 hj hz]
    intro e
    obtain ⟨a1, a2⟩ := bk_lt (h.rows i (by omega)) hz
    obtain ⟨b1, b2⟩ := bk_lt (h.rows j hj) hz
    rw [e] at a2
    refine (h.cols _ b1).inj i j hij hj ?_
    show (rowF g i _).toNat = (rowF g j _).toNat
    rw [a2, b2]
  · unfold colF unF; rw [fillT_out hi10 (by omega) (.inl hi)]; rfl
theorem ovF_sq {g : Nat → UInt8} {N : Nat} (h : IsSq N g) : IsSq N (ovF g N) := by
  have h10 := h.hi
  refine ⟨h.lo, h.hi, fun z hz => ⟨h.lo, h.hi, fun y hy => ?_, fun i j hij hj => ?_, fun i hi hi10 => ?_⟩, fun y hy => ⟨h.lo, h.hi, fun z hz => ?_, fun i j hij hj => ?_, fun i hi hi10 => ?_⟩, fun x y hx hy ho => fillT_out hx hy ho⟩
  · unfold rowF; rw [ovF_get h10 hz hy]; exact (bk_lt (h.cols y hy) hz).1
  · unfold rowF; rw [ovF_get h10 hz (by omega), ovF_get h10 hz hj]
    intro e
    obtain ⟨a1, a2⟩ := bk_lt (h.cols i (by omega)) hz
    obtain ⟨b1, b2⟩ := bk_lt (h.cols j hj) hz
    rw [e] at a2
    refine (h.rows _ b1).inj i j hij hj ?_
    show (colF g i _).toNat = (colF g j _).toNat
    rw [a2, b2]
  · unfold rowF ovF; rw [fillT_out (by omega) hi10 (.inr hi)]; rfl
  · unfold colF; rw [ovF_get h10 hz hy]; exact (bk_lt (h.cols y hy) hz).1
  · unfold colF; rw [ovF_get h10 (by omega) hy, ovF_get h10 hj hy]
    intro e; have := bk_inj (h.cols y hy) (by omega) hj e; omega
  · unfold colF ovF; rw [fillT_out hi10 (by omega) (.inl hi)]; rfl
/-- What a parastrophe with a number has for x and y. -/
def opV (g : Nat → UInt8) (N k x y : Nat) : UInt8 :=
  if k = 0 then g (x * 10 + y) else if k = 1 then g (y * 10 + x) else if k = 2 then backF (rowF g x) N y else if k = 3 then backF (colF g y) N x else if k = 4 then backF (rowF g y) N x else backF (colF g x) N y
def paF (g : Nat → UInt8) (N k : Nat) : Nat → UInt8 := fillT N (opV g N k) N 0
theorem fillT_eq {N : Nat} {v : Nat → Nat → UInt8} {f : Nat → UInt8} (h10 : N ≤ 10) (h : ∀ x y, x < N → y < N → f (x * 10 + y) = v x y) (ho : ∀ x y, x < 10 → y < 10 → N ≤ x ∨ N ≤ y → f (x * 10 + y) = 0) (i : Nat) (hi : i < 100) : f i = fillT N v N 0 i := by
  obtain ⟨x, y, hx, hy, rfl⟩ : ∃ x y, x < 10 ∧ y < 10 ∧ i = x * 10 + y := ⟨i / 10, i % 10, by omega, by omega, by omega⟩
  by_cases e : x < N ∧ y < N
  · rw [fillT_get N v x y e.1 e.2 h10]; exact h x y e.1 e.2
  · rw [fillT_out hx hy (by omega)]; exact ho x y hx hy (by omega)
theorem turn_at (g : Nat → UInt8) (x y : Nat) (hy : y < 10) : turn g (x * 10 + y) = g (y * 10 + x) := by
  unfold turn
  rw [show (x * 10 + y) % 10 = y by omega, show (x * 10 + y) / 10 = x by omega]
theorem IsSq.turn {g : Nat → UInt8} {N : Nat} (h : IsSq N g) : IsSq N (turn g) := by
  have h10 := h.hi
  refine ⟨h.lo, h.hi, fun x hx => (h.cols x hx).congr (fun i hi => rowF_turn g x i hi), fun y hy => (h.rows y hy).congr (fun i hi => ?_), fun x y hx hy ho => ?_⟩
  · unfold colF rowF; rw [turn_at g i y (by omega)]
  · rw [turn_at g x y hy]; exact h.zero y x hy hx ho.symm
theorem pa_0 {g : Nat → UInt8} {N : Nat} (h : IsSq N g) (o : Int) : sqc o g = sqc o (paF g N 0) :=
  sqc_congr o _ _ (fillT_eq h.hi (fun x y _ _ => by simp [opV]) h.zero)
theorem pa_1 {g : Nat → UInt8} {N : Nat} (h : IsSq N g) (o : Int) : sqc o (turn g) = sqc o (paF g N 1) :=
  sqc_congr o _ _ (fillT_eq h.hi (fun x y _ hy => by rw [turn_at g x y (by have := h.hi; omega)]; simp [opV]) h.turn.zero)
theorem pa_2 {g : Nat → UInt8} {N : Nat} (h : IsSq N g) (o : Int) : sqc o (unF g N) = sqc o (paF g N 2) :=
  sqc_congr o _ _ (fillT_eq h.hi (fun x y hx hy => by rw [unF_get h.hi hx hy]; simp [opV]) (unF_sq h).zero)
theorem pa_3 {g : Nat → UInt8} {N : Nat} (h : IsSq N g) (o : Int) : sqc o (ovF g N) = sqc o (paF g N 3) :=
  sqc_congr o _ _ (fillT_eq h.hi (fun x y hx hy => by rw [ovF_get h.hi hx hy]; simp [opV]) (ovF_sq h).zero)
theorem pa_4 {g : Nat → UInt8} {N : Nat} (h : IsSq N g) (o : Int) : sqc o (turn (unF g N)) = sqc o (paF g N 4) :=
  sqc_congr o _ _ (fillT_eq h.hi (fun x y hx hy => by rw [turn_at _ x y (by have := h.hi; omega), unF_get h.hi hy hx]; simp [opV]) (unF_sq h).turn.zero)
theorem pa_5 {g : Nat → UInt8} {N : Nat} (h : IsSq N g) (o : Int) : sqc o (turn (ovF g N)) = sqc o (paF g N 5) :=
  sqc_congr o _ _ (fillT_eq h.hi (fun x y hx hy => by rw [turn_at _ x y (by have := h.hi; omega), ovF_get h.hi hy hx]; simp [opV]) (ovF_sq h).turn.zero)
/-- The quotients, as far as k rows and j places of the next have been read. -/
def unS (g : Nat → UInt8) (N k j : Nat) : Nat → UInt8 := fun i => if i / 10 < k then backF (rowF g (i / 10)) N (i % 10) else if i / 10 = k then backF (rowF g k) j (i % 10) else 0
def ovS (g : Nat → UInt8) (N k j : Nat) : Nat → UInt8 := fun i => if i % 10 < N then backF (colF g (i % 10)) (if i % 10 < j then k + 1 else k) (i / 10) else 0
theorem unS_zero (g : Nat → UInt8) (N : Nat) : unS g N 0 0 = fun _ => 0 := by
  funext i; unfold unS; rw [if_neg (by omega)]; split <;> rfl
theorem ovS_zero (g : Nat → UInt8) (N : Nat) : ovS g N 0 0 = fun _ => 0 := by
  funext i; unfold ovS; rw [if_neg (Nat.not_lt_zero _)]; split <;> rfl
theorem unS_step {g : Nat → UInt8} {N k j : Nat} (h : IsSq N g) (hk : k < N) (hj : j < N) (i : Nat) :
    unS g N k (j + 1) i = if i = k * 10 + (g (k * 10 + j)).toNat then UInt8.ofNat j else unS g N k j i := by
  have hl := (h.rows k hk).lt j hj
  have h10 := h.hi
  have hr : rowF g k j = g (k * 10 + j) := rfl
  rw [hr] at hl
  unfold unS
  by_cases e : i = k * 10 + (g (k * 10 + j)).toNat
  · rw [if_pos e, if_neg (by omega), if_pos (by omega)]
    show (if i % 10 = (rowF g k j).toNat then UInt8.ofNat j else backF (rowF g k) j (i % 10)) = _
    rw [if_pos (by rw [hr]; omega)]
  · rw [if_neg e]
    by_cases e1 : i / 10 < k
    · rw [if_pos e1, if_pos e1]
    · rw [if_neg e1, if_neg e1]
      by_cases e2 : i / 10 = k
      · rw [if_pos e2, if_pos e2]
        show (if i % 10 = (rowF g k j).toNat then UInt8.ofNat j else backF (rowF g k) j (i % 10)) = _
        rw [if_neg (by rw [hr]; omega)]
      · rw [if_neg e2, if_neg e2]
theorem ovS_step {g : Nat → UInt8} {N k j : Nat} (h : IsSq N g) (hk : k < N) (hj : j < N) (i : Nat) :
    ovS g N k (j + 1) i = if i = (g (k * 10 + j)).toNat * 10 + j then UInt8.ofNat k else ovS g N k j i := by
  have hl := (h.rows k hk).lt j hj
  have h10 := h.hi
  have hr : rowF g k j = g (k * 10 + j) := rfl
  rw [hr] at hl
  unfold ovS
  by_cases e : i = (g (k * 10 + j)).toNat * 10 + j
  · rw [if_pos e]
    have e1 : i % 10 = j := by omega
    rw [e1, if_pos hj, if_pos (by omega)]
    show (if i / 10 = (colF g j k).toNat then UInt8.ofNat k else backF (colF g j) k (i / 10)) = _
    rw [if_pos (by show _ = (g (k * 10 + j)).toNat; omega)]
  · rw [if_neg e]
    by_cases e1 : i % 10 < N
    · rw [if_pos e1, if_pos e1]
      by_cases e2 : i % 10 = j
      · rw [e2, if_pos (by omega), if_neg (by omega)]
        show (if i / 10 = (colF g j k).toNat then UInt8.ofNat k else backF (colF g j) k (i / 10)) = _
        rw [if_neg (by show ¬ _ = (g (k * 10 + j)).toNat; omega)]
      · by_cases e3 : i % 10 < j
        · rw [if_pos (by omega), if_pos e3]
        · rw [if_neg (by omega), if_neg e3]
    · rw [if_neg e1, if_neg e1]
theorem unS_row (g : Nat → UInt8) (N k : Nat) : unS g N (k + 1) 0 = unS g N k N := by
  funext i
  unfold unS
  by_cases e1 : i / 10 < k
  · rw [if_pos (by omega), if_pos e1]
  · rw [if_neg e1]
    by_cases e2 : i / 10 = k
    · rw [if_pos (by omega), if_pos e2, e2]
    · rw [if_neg (by omega), if_neg e2]; split <;> rfl
theorem ovS_row (g : Nat → UInt8) (N k : Nat) : ovS g N (k + 1) 0 = ovS g N k N := by
  funext i
  unfold ovS
  by_cases e1 : i % 10 < N
  · rw [if_pos e1, if_pos e1, if_neg (Nat.not_lt_zero _), if_pos e1]
  · rw [if_neg e1, if_neg e1]
theorem unS_done {g : Nat → UInt8} {N : Nat} (h : IsSq N g) (o : Int) : sqc o (unS g N N 0) = sqc o (unF g N) :=
  sqc_congr o _ _ (fillT_eq h.hi (fun x y hx hy => by
    unfold unS
    rw [show (x * 10 + y) / 10 = x by have := h.hi; omega, show (x * 10 + y) % 10 = y by have := h.hi; omega, if_pos hx]) (fun x y hx hy ho => by
    unfold unS
    rw [show (x * 10 + y) / 10 = x by omega, show (x * 10 + y) % 10 = y by omega]
    by_cases e : x < N
    · rw [if_pos e]; exact bk_out (h.rows x e) (by omega)
    · rw [if_neg e]; split <;> rfl))
theorem ovS_done {g : Nat → UInt8} {N : Nat} (h : IsSq N g) (o : Int) : sqc o (ovS g N N 0) = sqc o (ovF g N) :=
  sqc_congr o _ _ (fillT_eq h.hi (fun x y hx hy => by
    unfold ovS
    rw [show (x * 10 + y) / 10 = x by have := h.hi; omega, show (x * 10 + y) % 10 = y by have := h.hi; omega, if_pos hy, if_neg (Nat.not_lt_zero _)]) (fun x y hx hy ho => by
    unfold ovS
    rw [show (x * 10 + y) / 10 = x by omega, show (x * 10 + y) % 10 = y by omega]
    by_cases e : y < N
    · rw [if_pos e, if_neg (Nat.not_lt_zero _)]; exact bk_out (h.cols y e) (by omega)
    · rw [if_neg e]))
/-- The cells of three squares of one order side by side. -/
def dvc (o : Int) (g u v : Nat → UInt8) : Array Value := sqc o g ++ (sqc o u ++ sqc o v)
@[simp, go_sem] theorem dvc_size (o : Int) (g u v : Nat → UInt8) : (dvc o g u v).size = 303 := by unfold dvc; simp
theorem dvc_get0 (o : Int) (g u v : Nat → UInt8) (i : Nat) (h : i < 101) : (dvc o g u v)[i]? = (sqc o g)[i]? := by
  unfold dvc; rw [Array.getElem?_append_left (by simpa using h)]
theorem dvc_get1 (o : Int) (g u v : Nat → UInt8) (i : Nat) (h : i < 101) : (dvc o g u v)[101 + i]? = (sqc o u)[i]? := by
  unfold dvc; rw [Array.getElem?_append_right (by simp), Array.getElem?_append_left (by simp; omega)]; congr 1; simp
theorem dvc_get2 (o : Int) (g u v : Nat → UInt8) (i : Nat) : (dvc o g u v)[202 + i]? = (sqc o v)[i]? := by
  have h1 := sqc_size o g
  have h2 := sqc_size o u
  unfold dvc; rw [Array.getElem?_append_right (by omega), Array.getElem?_append_right (by omega), h1, h2, show 202 + i - 101 - 101 = i by omega]
theorem dvc_ext (cs : Array Value) (o : Int) (g u v : Nat → UInt8) (hs : cs.size = 303) (h0 : ∀ i, i < 101 → cs[i]? = (sqc o g)[i]?) (h1 : ∀ i, i < 101 → cs[101 + i]? = (sqc o u)[i]?) (h2 : ∀ i, i < 101 → cs[202 + i]? = (sqc o v)[i]?) : cs = dvc o g u v := by
  apply Array.ext_getElem?
  intro j
  by_cases a : j < 101
  · rw [h0 j a, dvc_get0 _ _ _ _ _ a]
  · by_cases b : j < 202
    · obtain ⟨i, rfl⟩ : ∃ i, j = 101 + i := ⟨j - 101, by omega⟩
      rw [h1 i (by omega), dvc_get1 _ _ _ _ _ (by omega)]
    · by_cases c : j < 303
      · obtain ⟨i, rfl⟩ : ∃ i, j = 202 + i := ⟨j - 202, by omega⟩
        rw [h2 i (by omega), dvc_get2]
      · rw [Array.getElem?_eq_none (by omega), Array.getElem?_eq_none (by simp; omega)]
theorem dvc_set1 (o : Int) (g u u' v : Nat → UInt8) (k : Nat) (x : Value) (b : UInt8) (hx : x = .int .u8 b.toNat) (hk : k < 100) (h : ∀ j, j < 100 → u' j = if j = k then b else u j) : (dvc o g u v).setIfInBounds (101 + (1 + k)) x = dvc o g u' v := by
  subst hx
  apply dvc_ext
  · simp
  · intro i hi; rw [Array.getElem?_setIfInBounds, if_neg (by omega), dvc_get0 _ _ _ _ _ hi]
  · intro i hi
    rw [← sqc_set o u u' k b h, Array.getElem?_setIfInBounds, Array.getElem?_setIfInBounds]
    by_cases e : 1 + k = i
    · subst e; rw [if_pos rfl, if_pos (by rw [dvc_size]; omega), if_pos rfl, if_pos (by rw [sqc_size]; omega)]
    · rw [if_neg (by omega), if_neg e, dvc_get1 _ _ _ _ _ hi]
  · intro i hi; rw [Array.getElem?_setIfInBounds, if_neg (by omega), dvc_get2]
theorem dvc_set2 (o : Int) (g u v v' : Nat → UInt8) (k : Nat) (x : Value) (b : UInt8) (hx : x = .int .u8 b.toNat) (hk : k < 100) (h : ∀ j, j < 100 → v' j = if j = k then b else v j) : (dvc o g u v).setIfInBounds (202 + (1 + k)) x = dvc o g u v' := by
  subst hx
  apply dvc_ext
  · simp
  · intro i hi; rw [Array.getElem?_setIfInBounds, if_neg (by omega), dvc_get0 _ _ _ _ _ hi]
  · intro i hi; rw [Array.getElem?_setIfInBounds, if_neg (by omega), dvc_get1 _ _ _ _ _ hi]
  · intro i hi
    rw [← sqc_set o v v' k b h, Array.getElem?_setIfInBounds, Array.getElem?_setIfInBounds]
    by_cases e : 1 + k = i
    · subst e; rw [if_pos rfl, if_pos (by rw [dvc_size]; omega), if_pos rfl, if_pos (by rw [sqc_size]; omega)]
    · rw [if_neg (by omega), if_neg e, dvc_get2]
theorem dvc_sub0 (o : Int) (g u v : Nat → UInt8) : (dvc o g u v).extract 0 (0 + 101) = sqc o g := by
  apply Array.ext_getElem?
  intro j
  rw [Array.getElem?_extract]
  by_cases h : j < 101
  · rw [if_pos (by simp; omega), Nat.zero_add, dvc_get0 _ _ _ _ _ h]
  · rw [if_neg (by simp; omega), Array.getElem?_eq_none (by simp; omega)]
theorem dvc_sub1 (o : Int) (g u v : Nat → UInt8) : (dvc o g u v).extract 101 (101 + 101) = sqc o u := by
  apply Array.ext_getElem?
  intro j
  rw [Array.getElem?_extract]
  by_cases h : j < 101
  · rw [if_pos (by simp; omega), dvc_get1 _ _ _ _ _ h]
  · rw [if_neg (by simp; omega), Array.getElem?_eq_none (by simp; omega)]
theorem dvc_sub2 (o : Int) (g u v : Nat → UInt8) : (dvc o g u v).extract 202 (202 + 101) = sqc o v := by
  apply Array.ext_getElem?
  intro j
  rw [Array.getElem?_extract]
  by_cases h : j < 101
  · rw [if_pos (by simp; omega), dvc_get2]
  · rw [if_neg (by simp; omega), Array.getElem?_eq_none (by simp; omega)]
theorem dvc_byte1 (o : Int) (g u v : Nat → UInt8) (i : Nat) (h : i < 100) : (dvc o g u v)[102 + i]? = some (.int .u8 (u i).toNat) := by
  rw [show 102 + i = 101 + (1 + i) by omega, dvc_get1 _ _ _ _ _ (by omega), sqc_get _ _ _ h]
theorem dvc_byte2 (o : Int) (g u v : Nat → UInt8) (i : Nat) (h : i < 100) : (dvc o g u v)[203 + i]? = some (.int .u8 (v i).toNat) := by
  rw [show 203 + i = 202 + (1 + i) by omega, dvc_get2, sqc_get _ _ _ h]
/-- The cells of six squares side by side. -/
def six (a b c d e f : Array Value) : Array Value := (a.toList ++ (b.toList ++ (c.toList ++ (d.toList ++ (e.toList ++ f.toList))))).toArray
theorem six_eq (a b c d e f : Array Value) : six a b c d e f = a ++ (b ++ (c ++ (d ++ (e ++ f)))) := by
  apply Array.toList_inj.1
  simp [six]
theorem cut_mid (A B C : Array Value) {n m : Nat} (hA : A.size = n) (hB : B.size = m) : (A ++ (B ++ C)).extract n (n + m) = B := by
  apply Array.ext_getElem?
  intro j
  rw [Array.getElem?_extract]
  by_cases h : j < m
  · rw [if_pos (by simp; omega), Array.getElem?_append_right (by omega), Array.getElem?_append_left (by omega)]
    congr 1; omega
  · rw [if_neg (by simp; omega), Array.getElem?_eq_none (by omega)]
theorem six_size {a b c d e f : Array Value} (ha : a.size = 101) (hb : b.size = 101) (hc : c.size = 101) (hd : d.size = 101) (he : e.size = 101) (hf : f.size = 101) : (six a b c d e f).size = 606 := by rw [six_eq]; simp; omega
theorem six_0 {a b c d e f : Array Value} (ha : a.size = 101) : (six a b c d e f).extract 0 (0 + 101) = a := by
  have := cut_mid #[] a (b ++ (c ++ (d ++ (e ++ f)))) (n := 0) rfl ha
  rw [six_eq]; simpa using this
theorem six_1 {a b c d e f : Array Value} (ha : a.size = 101) (hb : b.size = 101) : (six a b c d e f).extract 101 (101 + 101) = b := by rw [six_eq]; exact cut_mid a b _ ha hb
theorem six_2 {a b c d e f : Array Value} (ha : a.size = 101) (hb : b.size = 101) (hc : c.size = 101) : (six a b c d e f).extract 202 (202 + 101) = c := by
  have := cut_mid (a ++ b) c (d ++ (e ++ f)) (n := 202) (by simp; omega) hc
  rw [six_eq]; rwa [Array.append_assoc] at this
theorem six_3 {a b c d e f : Array Value} (ha : a.size = 101) (hb : b.size = 101) (hc : c.size = 101) (hd : d.size = 101) : (six a b c d e f).extract 303 (303 + 101) = d := by
  have := cut_mid (a ++ (b ++ c)) d (e ++ f) (n := 303) (by simp; omega) hd
  rw [six_eq]; rwa [Array.append_assoc, Array.append_assoc] at this
theorem six_4 {a b c d e f : Array Value} (ha : a.size = 101) (hb : b.size = 101) (hc : c.size = 101) (hd : d.size = 101) (he : e.size = 101) : (six a b c d e f).extract 404 (404 + 101) = e := by
  have := cut_mid (a ++ (b ++ (c ++ d))) e f (n := 404) (by simp; omega) he
  rw [six_eq]; rwa [Array.append_assoc, Array.append_assoc, Array.append_assoc] at this
theorem six_5 {a b c d e f : Array Value} (ha : a.size = 101) (hb : b.size = 101) (hc : c.size = 101) (hd : d.size = 101) (he : e.size = 101) (hf : f.size = 101) : (six a b c d e f).extract 505 (505 + 101) = f := by
  have := cut_mid (a ++ (b ++ (c ++ (d ++ e)))) f #[] (n := 505) (by simp; omega) hf
  rw [Array.append_assoc, Array.append_assoc, Array.append_assoc, Array.append_assoc, Array.append_empty] at this
  rw [six_eq]; exact this
end Go.Proofs.Ytbhjbllgmenbaab
