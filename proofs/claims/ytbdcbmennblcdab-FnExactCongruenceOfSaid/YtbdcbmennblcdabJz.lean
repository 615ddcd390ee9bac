/- Proved: what the program's functions on congruences and normal closures return. Conditions: those that each theorem names. -/
import Derived.Test.YtbdcbmennblcdabNy
import Derived.Test.YtbdcbmennblcdabPw
import Derived.Lib.AppendZeros
import Derived.Test.YtbdcbmennblcdabLa0
import Derived.Test.YtbdcbmennblcdabIa
import Derived.Test.YtbdcbmennblcdabLx
import Derived.Test.YtbdcbmennblcdabMl
namespace Go.Proofs.Ytbdcbmennblcdab
set_option linter.unusedVariables false
set_option linter.unusedSimpArgs false
open Go.RowKit
/-- E is an equivalence of the numbers before N. -/
structure Equi (N : Nat) (E : Nat → Nat → Prop) : Prop where
  refl : ∀ x, x < N → E x x
  symm : ∀ x y, x < N → y < N → E x y → E y x
  trans : ∀ x y z, x < N → y < N → z < N → E x y → E y z → E x z
/-- E is kept by the m maps M. -/
def KeptBy (N m : Nat) (M : Nat → Nat → Nat) (E : Nat → Nat → Prop) : Prop := ∀ j, j < m → ∀ x y, x < N → y < N → E x y → E (M j x) (M j y)
/-- The least congruence that has the pairs I. -/
def Cgr (N m : Nat) (M : Nat → Nat → Nat) (I : Nat → Nat → Prop) (x y : Nat) : Prop := ∀ E, Equi N E → KeptBy N m M E → (∀ a b, I a b → E a b) → E x y
/-- The pair is joined, or waits in the queue. -/
def Good (N : Nat) (d : Nat → Nat) (Q : List (Nat × Nat)) (a b : Nat) : Prop := d a = d b ∨ (a, b) ∈ Q
structure CgInv (N m : Nat) (M : Nat → Nat → Nat) (I : Nat → Nat → Prop) (d : Nat → Nat) (Q : List (Nat × Nat)) : Prop where
  inQ : ∀ p, p ∈ Q → p.1 < N ∧ p.2 < N
  sound : ∀ x y, x < N → y < N → d x = d y → Cgr N m M I x y
  soundQ : ∀ p, p ∈ Q → Cgr N m M I p.1 p.2
  has : ∀ a b, I a b → Good N d Q a b
  gen : ∀ E, Equi N E → (∀ a b, a < N → b < N → (∀ j, j < m → Good N d Q (M j a) (M j b)) → E a b) → ∀ x y, x < N → y < N → d x = d y → E x y
theorem CgInv.start {N m : Nat} {M : Nat → Nat → Nat} {I : Nat → Nat → Prop} {d : Nat → Nat} {Q : List (Nat × Nat)} (hd : ∀ x y, x < N → y < N → d x = d y → x = y) (hQ : ∀ p, p ∈ Q → p.1 < N ∧ p.2 < N) (hI : ∀ a b, I a b ↔ (a, b) ∈ Q) : CgInv N m M I d Q :=
  ⟨hQ, fun x y hx hy e E hE _ _ => by rw [hd x y hx hy e]; exact hE.refl y hy, fun p hp E _ _ hIE => hIE _ _ ((hI _ _).2 hp), fun a b h => .inr ((hI a b).1 h), fun E hE _ x y hx hy e => by rw [hd x y hx hy e]; exact hE.refl y hy⟩
/-- A pair that is joined already is struck. -/
theorem CgInv.skip {N m : Nat} {M : Nat → Nat → Nat} {I : Nat → Nat → Prop} {d : Nat → Nat} {a b : Nat} {Q : List (Nat × Nat)} (h : CgInv N m M I d ((a, b) :: Q)) (e : d a = d b) : CgInv N m M I d Q := by
  have hg : ∀ u v, Good N d ((a, b) :: Q) u v → Good N d Q u v := fun u v hu => by
    rcases hu with h1 | h1
    · exact .inl h1
    · rcases List.mem_cons.1 h1 with h2 | h2
      · obtain ⟨rfl, rfl⟩ := Prod.mk.inj h2; exact .inl e
      · exact .inr h2
  exact ⟨fun p hp => h.inQ p (List.mem_cons_of_mem _ hp), h.sound, fun p hp => h.soundQ p (List.mem_cons_of_mem _ hp), fun u v hu => hg u v (h.has u v hu), fun E hE hk x y hx hy e2 => h.gen E hE (fun u v hu hv hj => hk u v hu hv fun j hjm => hg _ _ (hj j hjm)) x y hx hy e2⟩
/-- Two classes are joined: the numbers of the class s get the class t. -/
def joinF (d : Nat → Nat) (s t : Nat) : Nat → Nat := fun z => if d z = s then t else d z
theorem joinF_same {d : Nat → Nat} {s t x y : Nat} (e : d x = d y) : joinF d s t x = joinF d s t y := by unfold joinF; rw [e]
theorem joinF_cases {d : Nat → Nat} {s t x y : Nat} (e : joinF d s t x = joinF d s t y) : d x = d y ∨ (d x = s ∧ d y = t) ∨ (d x = t ∧ d y = s) := by
  unfold joinF at e
  by_cases h1 : d x = s
  · by_cases h2 : d y = s
    · exact .inl (h1.trans h2.symm)
    · rw [if_pos h1, if_neg h2] at e; exact .inr (.inl ⟨h1, e.symm⟩)
  · by_cases h2 : d y = s
    · rw [if_neg h1, if_pos h2] at e; exact .inr (.inr ⟨e, h2⟩)
    · rw [if_neg h1, if_neg h2] at e; exact .inl e
/-- The images of a pair. -/
def imgs (M : Nat → Nat → Nat) (m a b : Nat) : List (Nat × Nat) := (List.range m).map fun j => (M j a, M j b)
theorem imgs_mem {M : Nat → Nat → Nat} {m a b : Nat} {p : Nat × Nat} : p ∈ imgs M m a b ↔ ∃ j, j < m ∧ p = (M j a, M j b) := by
  simp only [imgs, List.mem_map, List.mem_range]
  constructor
  · rintro ⟨j, h, rfl⟩; exact ⟨j, h, rfl⟩
  · rintro ⟨j, h, rfl⟩; exact ⟨j, h, rfl⟩
theorem imgs_len (M : Nat → Nat → Nat) (m a b : Nat) : (imgs M m a b).length = m := by simp [imgs]
theorem imgs_succ (M : Nat → Nat → Nat) (m a b : Nat) : imgs M (m + 1) a b = imgs M m a b ++ [(M m a, M m b)] := by simp [imgs, List.range_succ]
theorem CgInv.join {N m : Nat} {M : Nat → Nat → Nat} {I : Nat → Nat → Prop} {d : Nat → Nat} {a b s t : Nat} {Q Q' : List (Nat × Nat)} (h : CgInv N m M I d ((a, b) :: Q)) (hM : ∀ j, j < m → ∀ x, x < N → M j x < N)
    (hst : (s = d a ∧ t = d b) ∨ (s = d b ∧ t = d a)) (hQ : ∀ p, p ∈ Q' ↔ p ∈ Q ∨ p ∈ imgs M m a b) : CgInv N m M I (joinF d s t) Q' := by
  obtain ⟨ha, hb⟩ := h.inQ (a, b) (List.mem_cons_self ..)
  have hab : joinF d s t a = joinF d s t b := by
    unfold joinF
    rcases hst with ⟨rfl, rfl⟩ | ⟨rfl, rfl⟩
    · rw [if_pos rfl]; split; rfl; rfl
    · rw [if_pos rfl]; split; rfl; rfl
  have hg : ∀ u v, Good N d ((a, b) :: Q) u v → Good N (joinF d s t) Q' u v := fun u v hu => by
    rcases hu with h1 | h1
    · exact .inl (joinF_same h1)
    · rcases List.mem_cons.1 h1 with h2 | h2
      · obtain ⟨rfl, rfl⟩ := Prod.mk.inj h2; exact .inl hab
      · exact .inr ((hQ _).2 (.inl h2))
  have hC : Cgr N m M I a b := h.soundQ (a, b) (List.mem_cons_self ..)
  have key : ∀ E : Nat → Nat → Prop, Equi N E → (∀ x y, x < N → y < N → d x = d y → E x y) → E a b → ∀ x y, x < N → y < N → joinF d s t x = joinF d s t y → E x y := by
    intro E hE hs hEab x y hx hy e
    have hba := hE.symm a b ha hb hEab
    have go : ∀ x y, x < N → y < N → d x = d a → d y = d b → E x y := fun x y hx hy e1 e2 =>
      hE.trans x a y hx ha hy (hs x a hx ha e1) (hE.trans a b y ha hb hy hEab (hs b y hb hy e2.symm))
    rcases joinF_cases e with h1 | ⟨h1, h2⟩ | ⟨h1, h2⟩
    · exact hs x y hx hy h1
    · rcases hst with ⟨rfl, rfl⟩ | ⟨rfl, rfl⟩
      · exact go x y hx hy h1 h2
      · exact hE.symm y x hy hx (go y x hy hx h2 h1)
    · rcases hst with ⟨rfl, rfl⟩ | ⟨rfl, rfl⟩
      · exact hE.symm y x hy hx (go y x hy hx h2 h1)
      · exact go x y hx hy h1 h2
  refine ⟨fun p hp => ?_, fun x y hx hy e E hE hK hI => ?_, fun p hp => ?_, fun u v hu => hg u v (h.has u v hu), fun E hE hk x y hx hy e => ?_⟩
  · rcases (hQ p).1 hp with h1 | h1
    · exact h.inQ p (List.mem_cons_of_mem _ h1)
    · obtain ⟨j, hj, rfl⟩ := imgs_mem.1 h1; exact ⟨hM j hj a ha, hM j hj b hb⟩
  · exact key E hE (fun x y hx hy e => h.sound x y hx hy e E hE hK hI) (hC E hE hK hI) x y hx hy e
  · rcases (hQ p).1 hp with h1 | h1
    · exact h.soundQ p (List.mem_cons_of_mem _ h1)
    · obtain ⟨j, hj, rfl⟩ := imgs_mem.1 h1
      intro E hE hK hI
      exact hK j hj a b ha hb (hC E hE hK hI)
  · refine key E hE (fun x y hx hy e2 => h.gen E hE (fun u v hu hv hj => hk u v hu hv fun j hjm => hg _ _ (hj j hjm)) x y hx hy e2) ?_ x y hx hy e
    exact hk a b ha hb fun j hj => .inr ((hQ _).2 (.inr (imgs_mem.2 ⟨j, hj, rfl⟩)))
/-- With an empty queue the classes are those of the least congruence. -/
theorem CgInv.done {N m : Nat} {M : Nat → Nat → Nat} {I : Nat → Nat → Prop} {d : Nat → Nat} (h : CgInv N m M I d []) (hM : ∀ j, j < m → ∀ x, x < N → M j x < N) {x y : Nat} (hx : x < N) (hy : y < N) : d x = d y ↔ Cgr N m M I x y := by
  constructor
  · exact h.sound x y hx hy
  · intro hC
    refine hC (fun u v => d u = d v) ⟨fun _ _ => rfl, fun _ _ _ _ e => e.symm, fun _ _ _ _ _ _ e f => e.trans f⟩ ?_ (fun a b hI => by
      rcases h.has a b hI with h1 | h1
      · exact h1
      · cases h1)
    intro j hj u v hu hv e
    have := h.gen (fun u v => ∀ j, j < m → d (M j u) = d (M j v)) ⟨fun _ _ _ _ => rfl, fun _ _ _ _ e j hj => (e j hj).symm, fun _ _ _ _ _ _ e f j hj => (e j hj).trans (f j hj)⟩ (fun a b _ _ hg j hj => by
      rcases hg j hj with h1 | h1
      · exact h1
      · cases h1) u v hu hv e
    exact this j hj
/-- How many pairs of numbers are apart. -/
def apart (N : Nat) (d : Nat → Nat) : Nat := c2 (fun x y => decide (d x ≠ d y)) N N
theorem apart_le {N : Nat} (h : N ≤ 10) (d : Nat → Nat) : apart N d ≤ 100 := c2_le _ h h
theorem ind_mono {a b : Bool} (h : a = true → b = true) : ind a ≤ ind b := by
  cases a with
  | false => exact Nat.zero_le _
  | true => rw [h rfl]; exact Nat.le_refl _
theorem sm_mono {f f' : Nat → Nat} : ∀ {k : Nat}, (∀ i, i < k → f i ≤ f' i) → sm f k ≤ sm f' k
  | 0, _ => Nat.le_refl _
  | k + 1, h => Nat.add_le_add (sm_mono fun i hi => h i (by omega)) (h k (by omega))
theorem sm_lt {f f' : Nat → Nat} : ∀ {k z : Nat}, z < k → (∀ i, i < k → f i ≤ f' i) → f z < f' z → sm f k < sm f' k
  | 0, _, h, _, _ => by omega
  | k + 1, z, hz, h, hl => by
    show sm f k + f k < sm f' k + f' k
    by_cases e : z = k
    · subst e
      have := sm_mono (f := f) (f' := f') (k := z) (fun i hi => h i (by omega))
      omega
    · have := sm_lt (f := f) (f' := f') (k := k) (z := z) (by omega) (fun i hi => h i (by omega)) hl
      have := h k (by omega)
      omega
theorem apart_join {N : Nat} {d : Nat → Nat} {a b s t : Nat} (ha : a < N) (hb : b < N) (hst : (s = d a ∧ t = d b) ∨ (s = d b ∧ t = d a)) (hne : d a ≠ d b) : apart N (joinF d s t) < apart N d := by
  have hab : joinF d s t a = joinF d s t b := by
    unfold joinF
    rcases hst with ⟨rfl, rfl⟩ | ⟨rfl, rfl⟩
    · rw [if_pos rfl]; split; rfl; rfl
    · rw [if_pos rfl]; split; rfl; rfl
  have hle : ∀ x y, ind (decide (joinF d s t x ≠ joinF d s t y)) ≤ ind (decide (d x ≠ d y)) := fun x y => ind_mono fun h => by
    simp only [decide_eq_true_eq] at h ⊢
    exact fun e => h (joinF_same e)
  refine sm_lt ha (fun x _ => sm_mono fun y _ => hle x y) (sm_lt hb (fun y _ => hle a y) ?_)
  show ind (decide (joinF d s t a ≠ joinF d s t b)) < ind (decide (d a ≠ d b))
  rw [decide_eq_false (by simpa using hab), decide_eq_true hne]
  exact Nat.zero_lt_one
end Go.Proofs.Ytbdcbmennblcdab
namespace Go.Proofs.Ytbdcbmennblcdab
set_option linter.unusedVariables false
set_option linter.unusedSimpArgs false
open Go.RowKit
/-- Each class is told by its least number. -/
def MinRep (N : Nat) (d : Nat → Nat) : Prop := ∀ x, x < N → d x < N ∧ d (d x) = d x ∧ ∀ y, y < N → d y = d x → d x ≤ y
theorem MinRep.start (N : Nat) {d : Nat → Nat} (h : ∀ x, x < N → d x = x) : MinRep N d := fun x hx => by
  refine ⟨by rw [h x hx]; exact hx, by rw [h x hx]; exact h x hx, fun y hy e => ?_⟩
  rw [h x hx] at e ⊢
  rw [h y hy] at e
  omega
theorem MinRep.join {N : Nat} {d : Nat → Nat} {s t : Nat} (h : MinRep N d) (hs : ∃ a, a < N ∧ d a = s) (ht : ∃ a, a < N ∧ d a = t) (hlt : t < s) : MinRep N (joinF d s t) := by
  obtain ⟨a, ha, rfl⟩ := hs
  obtain ⟨b, hb, rfl⟩ := ht
  have ea := h a ha
  have eb := h b hb
  intro x hx
  have ex := h x hx
  by_cases hxs : d x = d a
  · have hj : joinF d (d a) (d b) x = d b := by unfold joinF; rw [if_pos hxs]
    rw [hj]
    have hjb : joinF d (d a) (d b) (d b) = d b := by
      unfold joinF
      rw [eb.2.1]
      rw [if_neg (by omega)]
    refine ⟨eb.1, hjb, fun y hy e => ?_⟩
    unfold joinF at e
    by_cases hya : d y = d a
    · have := ea.2.2 y hy hya; omega
    · rw [if_neg hya] at e; exact eb.2.2 y hy e
  · have hj : joinF d (d a) (d b) x = d x := by unfold joinF; rw [if_neg hxs]
    rw [hj]
    refine ⟨ex.1, by unfold joinF; rw [ex.2.1, if_neg hxs], fun y hy e => ?_⟩
    unfold joinF at e
    by_cases hya : d y = d a
    · rw [if_pos hya] at e
      have h1 := ea.2.2 y hy hya
      have h2 := ex.2.2 (d b) eb.1 (by rw [eb.2.1]; exact e)
      omega
    · rw [if_neg hya] at e; exact ex.2.2 y hy e
theorem cgr_refl {N m : Nat} {M : Nat → Nat → Nat} {I : Nat → Nat → Prop} {x : Nat} (hx : x < N) : Cgr N m M I x x := fun E hE _ _ => hE.refl x hx
/-- The least number of the class of x. -/
noncomputable def cgMin (N m : Nat) (M : Nat → Nat → Nat) (I : Nat → Nat → Prop) (x : Nat) : Nat := @dite Nat (x < N) (Classical.propDecidable _) (fun h => Classical.choose (least (fun y => Cgr N m M I x y) x (cgr_refl h))) (fun _ => 0)
noncomputable def cgD (N m : Nat) (M : Nat → Nat → Nat) (I : Nat → Nat → Prop) : Nat → UInt8 := fun x => UInt8.ofNat (cgMin N m M I x)
theorem cgMin_of {N m : Nat} {M : Nat → Nat → Nat} {I : Nat → Nat → Prop} {d : Nat → Nat} (h : MinRep N d) (hd : ∀ x y, x < N → y < N → (d x = d y ↔ Cgr N m M I x y)) {x : Nat} (hx : x < N) : cgMin N m M I x = d x := by
  unfold cgMin
  rw [dif_pos hx]
  obtain ⟨h1, h2, h3⟩ := Classical.choose_spec (least (fun y => Cgr N m M I x y) x (cgr_refl hx))
  generalize Classical.choose (least (fun y => Cgr N m M I x y) x (cgr_refl hx)) = c at h1 h2 h3
  have e := h x hx
  have hc : d x = d c := (hd x c hx (by omega)).2 h2
  have hle := e.2.2 c (by omega) hc.symm
  rcases Nat.lt_or_ge (d x) c with h4 | h4
  · exact absurd ((hd x (d x) hx e.1).1 e.2.1.symm) (h3 (d x) h4)
  · omega
theorem cgMin_lt {N m : Nat} {M : Nat → Nat → Nat} {I : Nat → Nat → Prop} {x : Nat} (hx : x < N) : cgMin N m M I x ≤ x := by
  unfold cgMin
  rw [dif_pos hx]
  exact (Classical.choose_spec (least (fun y => Cgr N m M I x y) x (cgr_refl hx))).1
theorem cgMin_out {N m : Nat} {M : Nat → Nat → Nat} {I : Nat → Nat → Prop} {x : Nat} (hx : ¬ x < N) : cgMin N m M I x = 0 := by
  unfold cgMin
  rw [dif_neg hx]
theorem cgD_cells {N m : Nat} {M : Nat → Nat → Nat} {I : Nat → Nat → Prop} {D : Nat → UInt8} (h : MinRep N (fun x => (D x).toNat)) (hd : ∀ x y, x < N → y < N → ((D x).toNat = (D y).toNat ↔ Cgr N m M I x y)) (h0 : ∀ x, N ≤ x → x < 10 → D x = 0) : u8s 10 D = u8s 10 (cgD N m M I) :=
  u8s_congr 10 _ _ (fun i hi => by
    unfold cgD
    by_cases hx : i < N
    · rw [cgMin_of h hd hx, UInt8.ofNat_toNat]
    · rw [cgMin_out hx, h0 i (by omega) hi]; rfl)
/-- The pairs L as cells. -/
def qcells (L : List (Nat × Nat)) : List Value := L.flatMap fun p => [.int .u8 (p.1 : Nat), .int .u8 (p.2 : Nat)]
theorem qcells_len (L : List (Nat × Nat)) : (qcells L).length = L.length * 2 := by
  induction L with
  | nil => rfl
  | cons p L ih => simp [qcells] at ih ⊢; omega
theorem qcells_app (L : List (Nat × Nat)) (p : Nat × Nat) : qcells (L ++ [p]) = qcells L ++ [.int .u8 (p.1 : Nat), .int .u8 (p.2 : Nat)] := by simp [qcells]
theorem qcells_cons (L : List (Nat × Nat)) (p : Nat × Nat) : qcells (p :: L) = .int .u8 (p.1 : Nat) :: .int .u8 (p.2 : Nat) :: qcells L := by simp [qcells]
/-- v is a queue of its own, made behind B, of the pairs L. -/
def QP (w : World) (B : Nat) (v : Value) (L : List (Nat × Nat)) : Prop :=
  (v = .slice none 0 0 ∧ L = []) ∨ ∃ g off cap cur, v = .slice (some ⟨g, off, none⟩) L.length cap ∧ B ≤ g ∧ holds w g cur 150 ∧ L.length ≤ cap ∧ cap ≤ maxLen ∧ off + cap * 2 ≤ cur.size ∧ (cur.toList.drop off).take (L.length * 2) = qcells L
theorem QP.nil (w : World) (B : Nat) : QP w B (.slice none 0 0) [] := .inl ⟨rfl, rfl⟩
theorem QP.kept {w w' : World} {B : Nat} {v : Value} {L : List (Nat × Nat)} (h : QP w B v L) (e : ∀ k, k < w.heap.size → w'.heap[k]? = w.heap[k]?) : QP w' B v L := by
  rcases h with h | ⟨g, off, cap, cur, hv, hB, hg, hr⟩
  · exact .inl h
  · exact .inr ⟨g, off, cap, cur, hv, hB, by show w'.heap[g]? = _; rw [e g (holds_lt hg)]; exact hg, hr⟩
theorem QP.below {w w' : World} {B : Nat} {v : Value} {L : List (Nat × Nat)} (h : QP w B v L) (hb : Below w.heap.size w w') : QP w' B v L := h.kept hb.block
theorem QP.alloc {w : World} {B : Nat} {v : Value} {L : List (Nat × Nat)} (h : QP w B v L) (o : Obj) : QP (w.alloc o) B v L := h.kept fun k hk => heap_alloc_old w o hk
theorem QP.lt {w : World} {B : Nat} {v : Value} {L : List (Nat × Nat)} (h : QP w B v L) : ∀ k, v.ownBlock = some k → B ≤ k ∧ k < w.heap.size := by
  rcases h with ⟨rfl, _⟩ | ⟨g, off, cap, cur, rfl, hB, hg, _⟩
  · intro k hk; cases hk
  · intro k hk
    have : g = k := by simpa [Value.ownBlock] using hk
    subst this
    exact ⟨hB, holds_lt hg⟩
theorem QP.set {w : World} {B gb i : Nat} {v u : Value} {L : List (Nat × Nat)} (h : QP w B v L) (hne : gb < B) : QP (w.setCell ⟨gb, i, none⟩ u) B v L := by
  rcases h with h | ⟨g, off, cap, cur, hv, hB, hg, hr⟩
  · exact .inl h
  · exact .inr ⟨g, off, cap, cur, hv, hB, holds_other hg _ _ (by simp; omega), hr⟩
/-- What a queue with a first pair looks like. -/
theorem QP.form {w : World} {B : Nat} {v : Value} {p : Nat × Nat} {L : List (Nat × Nat)} (h : QP w B v (p :: L)) : ∃ g off cap, v = .slice (some ⟨g, off, none⟩) (L.length + 1) cap ∧ L.length + 1 ≤ cap ∧ cap ≤ maxLen ∧ B ≤ g ∧ w.cell? ⟨g, off, none⟩ = some (.int .u8 (p.1 : Nat)) ∧ w.cell? ⟨g, off + 1, none⟩ = some (.int .u8 (p.2 : Nat)) ∧ QP w B (.slice (some (if cap = 1 then ⟨g, off, none⟩ else ⟨g, off + 2, none⟩)) L.length (cap - 1)) L := by
  rcases h with ⟨_, h⟩ | ⟨g, off, cap, cur, rfl, hB, hg, hc, hm, hs, ht⟩
  · cases h
  · simp only [List.length_cons] at hc ht ⊢
    rw [qcells_cons] at ht
    have hsz : off + 2 ≤ cur.size := by omega
    have e0 : cur[off]? = some (.int .u8 (p.1 : Nat)) := by
      have := congrArg (fun l => l[0]?) ht
      simp only [List.getElem?_cons_zero, List.getElem?_take, List.getElem?_drop] at this
      rw [if_pos (by omega)] at this
      simpa using this
    have e1 : cur[off + 1]? = some (.int .u8 (p.2 : Nat)) := by
      have := congrArg (fun l => l[1]?) ht
      simp only [List.getElem?_cons_succ, List.getElem?_cons_zero, List.getElem?_take, List.getElem?_drop] at this
      rw [if_pos (by omega)] at this
      simpa using this
    have et : (cur.toList.drop (off + 2)).take (L.length * 2) = qcells L := by
      have h2 := congrArg (List.drop 2) ht
      rw [List.drop_take, List.drop_drop] at h2
      simp only [List.drop_succ_cons, List.drop_zero] at h2
      rw [← h2]
      congr 1 <;> omega
    refine ⟨g, off, cap, rfl, hc, hm, hB, by rw [holds_cell hg]; exact e0, by rw [holds_cell hg]; exact e1, ?_⟩
    by_cases h1 : cap = 1
    · rw [if_pos h1]
      obtain rfl : L = [] := List.eq_nil_of_length_eq_zero (by omega)
      exact .inr ⟨g, off, cap - 1, cur, rfl, hB, hg, by simp, by omega, by omega, by simp [qcells]⟩
    · rw [if_neg h1]
      exact .inr ⟨g, off + 2, cap - 1, cur, rfl, hB, hg, by omega, by omega, by omega, et⟩
theorem infoQ : (Try.prog.info? 150).map (fun i => (i.zero, i.size, i.bytes)) = some (some (.agg (u8s 2 fun _ => 0)), 2, 2) := by kernel_rfl
theorem built2Q (x y : Int) : Try.prog.built 150 [(0, .int .u8 x), (1, .int .u8 y)] = some #[.int .u8 x, .int .u8 y] := by kernel_rfl
theorem built1Q (x y : Int) : (Try.prog).builtSlice 150 1 [(0, Value.agg #[.int .u8 x, .int .u8 y])] = some #[.int .u8 x, .int .u8 y] := by kernel_rfl
section
variable {P : Program} (w : World)
theorem run_append_room_off (t ty e : TypeId) (i : TypeInfo) (ht : P.underlying t = some (.slice e)) (hi : P.info? e = some i)
    (g off sLen sCap : Nat) (cur : Array Value) (hg : w.heap[g]? = some (.cells cur e (0, 0)))
    (a : Addr) (m c : Nat) (news : List Value) (hl : news.length = m * i.size) (hnews : ∀ j u, news[j]? = some u → w.cell? (a.add j) = some u) (h1 : ∀ u ∈ news, u.oneCell' = true)
    (hroom : sLen + m ≤ sCap) (hfit : off + sLen * i.size + news.length ≤ cur.size) :
    (Builtin.append_ #[t, t] ty #[.slice (some ⟨g, off, none⟩) sLen sCap, .slice (some a) m c]).run P w =
      .ok (.slice (some ⟨g, off, none⟩) (sLen + m) sCap) (w.setRow g (cur.toList.take (off + sLen * i.size) ++ news ++ cur.toList.drop (off + sLen * i.size + news.length)).toArray) := by
  have hf := run_firstCells_some (P := P) w i.size m a m c news hl hnews
  have hst := run_storeCells_at P g (off + sLen * i.size) e news 0 cur w hg (by simpa using hfit) h1
  simp only [Nat.add_zero] at hst
  simp [Builtin.append_, run_underlying ht, sizeOf, typeInfo, hi, Builtin.lenOf, hroom, hf, Addr.add_lit, hst]
end
section
variable {ops : Array Oper} {rest : List Oper} {o : Oper} {a : Act} {w : World} {Q : Exit → Act → World → Prop}
theorem wpL_build2Q {i j : Operand} {x y : Int} (hgd : o.guard = none) (ho : o.op = .build 150 #[(0, i), (1, j)]) (hx : a.eval i = .int .u8 x) (hy : a.eval j = .int .u8 y)
    (h : wpList Try.prog ops Q rest (a.put o.dst (.agg #[.int .u8 x, .int .u8 y])) w) : wpList Try.prog ops Q (o :: rest) a w := by
  refine wpList_build hgd 150 _ ho ?_ ?_
  · simp [hx, hy, built2Q]
  · simpa [hx, hy, built2Q] using h
theorem wpL_sliceQ {p : Operand} {x y : Int} (hgd : o.guard = none) (ho : o.op = .buildSlice 149 1 #[(0, p)]) (hx : a.eval p = .agg #[.int .u8 x, .int .u8 y])
    (h : wpList Try.prog ops Q rest (a.put o.dst (.slice (some ⟨w.heap.size, 0, none⟩) 1 1)) (w.alloc (.cells #[.int .u8 x, .int .u8 y] 150))) : wpList Try.prog ops Q (o :: rest) a w := by
  refine Great.wpList_buildSliceTo hgd 149 150 1 _ ho _ rfl o.dst rfl Try.underlying149 #[.int .u8 x, .int .u8 y] ?_ h
  have hp : ((#[(0, p)] : Array (Nat × Operand)).map fun (i, x) => (i, a.eval x)).toList = [(0, Value.agg #[.int .u8 x, .int .u8 y])] := by simp [hx]
  rw [hp]
  exact built1Q x y
theorem wpL_appQ {s x : Operand} (hgd : o.guard = none) (ho : o.op = .call { callee := .builtin .append, args := #[s, x], argTypes := #[149, 149] }) {v : Value} {B c gb : Nat} {L : List (Nat × Nat)} {p : Nat × Nat}
    (hs : a.eval s = v) (hx : a.eval x = .slice (some ⟨gb, 0, none⟩) 1 c) (hQ : QP w B v L) (hc : holds w gb #[.int .u8 (p.1 : Nat), .int .u8 (p.2 : Nat)] 150) (hn : L.length ≤ 100000) (hbase : B ≤ w.heap.size)
    (h : ∀ v' w', QP w' B v' (L ++ [p]) → w.grownBy w' v.ownBlock → wpList Try.prog ops Q rest (a.put o.dst v') w') : wpList Try.prog ops Q (o :: rest) a w := by
  obtain ⟨i, hi, hz, h1, h2⟩ := info_parts infoQ
  have hcell : ∀ j u, ([.int .u8 (p.1 : Nat), .int .u8 (p.2 : Nat)] : List Value)[j]? = some u → w.cell? ((⟨gb, 0, none⟩ : Addr).add j) = some u := fun j u hj => by
    have hadd : (⟨gb, 0, none⟩ : Addr).add j = ⟨gb, j, none⟩ := by unfold Addr.add; split <;> simp_all
    rw [hadd, holds_cell hc, ← hj, List.getElem?_toArray]
  have hone : ∀ u ∈ ([.int .u8 (p.1 : Nat), .int .u8 (p.2 : Nat)] : List Value), u.oneCell' = true := fun u hu => by
    simp only [List.mem_cons, List.not_mem_nil, or_false] at hu
    rcases hu with rfl | rfl <;> rfl
  have hzs : (Value.agg (u8s 2 fun _ => 0)).cells.size = 2 := by simp [Value.cells]
  rcases hQ with ⟨rfl, rfl⟩ | ⟨g, off, cap, cur, rfl, hB, hg, hcp, hm, hsz, ht⟩
  · have hr := run_append_nil (P := Try.prog) w 149 o.type 150 i _ Try.underlying149 hi hz ⟨gb, 0, none⟩ 1 c [.int .u8 (p.1 : Nat), .int .u8 (p.2 : Nat)] (by rw [h1]; rfl) hcell (by omega) (by omega) (by rw [h2]; omega)
    refine Lib.wpList_append_run w hgd s x _ _ ho _ _ hs hx _ _ hr (h _ _ (.inr ⟨w.heap.size, 0, grownCap w 1 0 150, _, rfl, hbase, heap_alloc_new w.drew _, ?_, ?_, ?_, ?_⟩) ⟨rfl, rfl, rfl, by simp, fun k hk _ => heap_alloc_old w.drew _ hk⟩)
    · exact grownCap_ge w 1 0 _
    · exact grownCap_le_maxLen w 1 0 _ (by unfold maxLen; omega)
    · have := grownCap_ge w 1 0 150
      rw [Array.size_append, size_zeroCells, hzs]
      simp; omega
    · simp [qcells]
  · by_cases hroom : L.length + 1 ≤ cap
    · have hr := run_append_room_off (P := Try.prog) w 149 o.type 150 i Try.underlying149 hi g off L.length cap cur hg ⟨gb, 0, none⟩ 1 c [.int .u8 (p.1 : Nat), .int .u8 (p.2 : Nat)] (by rw [h1]; rfl) hcell hone hroom (by rw [h1]; simp; omega)
      rw [h1] at hr
      refine Lib.wpList_append_run w hgd s x _ _ ho _ _ hs hx _ _ hr (h _ _ (.inr ⟨g, off, cap, _, by simp, hB, setRow_heap w g cur _ _ _ hg, by simpa using hroom, hm, ?_, ?_⟩) ⟨rfl, rfl, rfl, by simp, fun k _ hk => setRow_other w g k _ (fun e => hk (by simp [Value.ownBlock, e]))⟩)
      · simp; omega
      · rw [qcells_app, ← ht]
        have hlen : (cur.toList.take (off + L.length * 2)).length = off + L.length * 2 := by simp; omega
        simp only [List.length_append, List.length_cons, List.length_nil, Nat.zero_add, List.append_assoc]
        rw [List.drop_append_of_le_length (by omega), List.drop_take]
        rw [show off + L.length * 2 - off = L.length * 2 by omega]
        have hl2 : (List.take (L.length * 2) (List.drop off cur.toList)).length = L.length * 2 := by simp; omega
        rw [List.take_append, hl2, List.take_of_length_le (by omega), show (L.length + 1) * 2 - L.length * 2 = 2 by omega]
        simp
    · have holdsC : ∀ j u, (qcells L)[j]? = some u → w.cell? ((⟨g, off, none⟩ : Addr).add j) = some u := fun j u hj => by
        have hadd : (⟨g, off, none⟩ : Addr).add j = ⟨g, off + j, none⟩ := by unfold Addr.add; split <;> simp_all
        rw [hadd, holds_cell hg]
        rw [← ht, List.getElem?_take] at hj
        split at hj
        · rw [List.getElem?_drop] at hj; simpa using hj
        · cases hj
      have hr := run_append_grow (P := Try.prog) w 149 o.type 150 i _ Try.underlying149 hi hz ⟨g, off, none⟩ L.length cap (qcells L) (by rw [h1]; exact qcells_len L) holdsC ⟨gb, 0, none⟩ 1 c [.int .u8 (p.1 : Nat), .int .u8 (p.2 : Nat)] (by rw [h1]; rfl) hcell (by omega) (by omega) (growslice_fits (by omega) (by rw [h2]; omega))
      refine Lib.wpList_append_run w hgd s x _ _ ho _ _ hs hx _ _ hr (h _ _ (.inr ⟨w.heap.size, 0, grownCap w (L.length + 1) cap 150, _, by simp, hbase, heap_alloc_new w.drew _, ?_, ?_, ?_, ?_⟩) ⟨rfl, rfl, rfl, by simp, fun k hk _ => heap_alloc_old w.drew _ hk⟩)
      · simpa using grownCap_ge w (L.length + 1) cap 150
      · exact grownCap_le_maxLen w _ _ _ (by unfold maxLen; omega)
      · have := grownCap_ge w (L.length + 1) cap 150
        rw [Array.size_append, Array.size_append, size_zeroCells, hzs]
        simp [qcells_len]; omega
      · rw [qcells_app]
        have hl := qcells_len L
        simp only [Array.toList_append, List.append_assoc, List.drop_zero, List.length_append, List.length_cons, List.length_nil]
        rw [← List.append_assoc, List.take_append_of_le_length (by simp [hl]; omega), List.take_of_length_le (by simp [hl]; omega)]
theorem wpL_popQ {x : Operand} (hgd : o.guard = none) (ho : o.op = .slice 149 x (some (.const (.int .i64 1))) none none) {g off n cap : Nat} (hx : a.eval x = .slice (some ⟨g, off, none⟩) (n + 1) cap) (hc : n + 1 ≤ cap)
    (h : wpList Try.prog ops Q rest (a.put o.dst (.slice (some (if cap = 1 then ⟨g, off, none⟩ else ⟨g, off + 2, none⟩)) n (cap - 1))) w) : wpList Try.prog ops Q (o :: rest) a w :=
  wpList_plain hgd fun K hK => by
    obtain ⟨i, hi, hz, h1, h2⟩ := info_parts infoQ
    have hq : (sizeOf 150).run Try.prog w = .ok 2 w := by simp [sizeOf, typeInfo, hi, h1]
    have hrun : (Instr.slice 149 (.slice (some ⟨g, off, none⟩) (n + 1) cap) (some (.int .i64 1)) none none).run Try.prog w = .ok (.slice (some (if cap = 1 then ⟨g, off, none⟩ else ⟨g, off + 2, none⟩)) n (cap - 1)) w := by
      have h3 : (1 : Int) ≤ ((n + 1 : Nat) : Int) := by omega
      have h4 : ¬ ((n : Int) + 1 < 1) := by omega
      by_cases hC : cap = 1
      · subst hC
        simp [Instr.slice, Instr.sliceBounds, Instr.sliceBound, asIntOf, Sem.run_bind, run_underlying Try.underlying149, hq, h3, h4]
      · simp [Instr.slice, Instr.sliceBounds, Instr.sliceBound, asIntOf, Sem.run_bind, run_underlying Try.underlying149, hq, h3, h4, hC, Addr.add]
    have hrun2 : (Instr.sliceAt 149 (.slice (some ⟨g, off, none⟩) (n + 1) cap) (some (.int .i64 1)) none none).run Try.prog w = .ok (.slice (some (if cap = 1 then ⟨g, off, none⟩ else ⟨g, off + 2, none⟩)) n (cap - 1)) w := by
      simp only [Instr.sliceAt, Sem.run_bind, run_underlying Try.underlying149, Result.andThen_ok]
      exact hrun
    have hc1 : a.eval (.const (.int .i64 1)) = .int .i64 1 := rfl
    unfold Oper.wp execOp
    simp only [ho, hx, hc1, Option.map_some, Option.map_none, Sem.run_bind, hrun2, Result.andThen_ok]
    exact hK _ _ h
end
end Go.Proofs.Ytbdcbmennblcdab
namespace Go.Proofs.Ytbdcbmennblcdab
set_option linter.unusedVariables false
set_option linter.unusedSimpArgs false
open Go.RowKit
theorem PRow.grown {w w' : World} {g n : Nat} {r : Option Nat} {F : Nat → UInt8} (h : PRow w g n F) (hg : w.grownBy w' r) (hne : r ≠ some g) : PRow w' g n F := h.block (hg.block g h.lt (fun e => hne e.symm))
theorem PRow.alloc {w : World} {g n : Nat} {F : Nat → UInt8} (h : PRow w g n F) (o : Obj) : PRow (w.alloc o) g n F := h.block (heap_alloc_old w o h.lt)
section
variable {ops : Array Oper} {rest : List Oper} {o : Oper} {a : Act} {w : World} {Q : Exit → Act → World → Prop}
theorem wpL_appPs {s x : Operand} (hgd : o.guard = none) (ho : o.op = .call { callee := .builtin .append, args := #[s, x], argTypes := #[52, 52] }) {v : Value} {n m base c g : Nat} {F f : Nat → UInt8} (F' : Nat → UInt8)
    (hs : a.eval s = v) (hx : a.eval x = .slice (some ⟨g, 0, none⟩) m c) (hown : OP w base v n F) (hg : PRow w g m f) (hm : 0 < m) (hn : n ≤ 1000) (hm2 : m ≤ 1000) (hbase : base ≤ w.heap.size) (hF : ∀ i, i < n * 10 → F' i = F i) (hf : ∀ j, j < m * 10 → F' (n * 10 + j) = f j)
    (h : ∀ g cap w', OP w' base (.slice (some ⟨g, 0, none⟩) (n + m) cap) (n + m) F' → w.grownBy w' v.ownBlock → (v.ownBlock = some g ∨ g = w.heap.size) → g < w'.heap.size → wpList Try.prog ops Q rest (a.put o.dst (.slice (some ⟨g, 0, none⟩) (n + m) cap)) w') : wpList Try.prog ops Q (o :: rest) a w := by
  obtain ⟨i, hi, hz, h1, h2⟩ := info_parts infoP
  refine wpList_append_lies w hgd s x 52 ho base 94 i (.agg (u8s 10 fun _ => 0)) 10 10 Try.underlying52 hi hz h1 h2 (by simp [Value.cells]) (by omega) v n _ hs hown ⟨g, 0, none⟩ m c (u8s (m * 10) f).toList hx (by simp) (fun j u hj => ?_) (fun u hu => ?_) hm (by unfold maxLen; omega) (by omega) hbase _ rfl (fun g cap w' ho2 hg2 hor hlt => h g cap w' ?_ hg2 hor hlt)
  · have hadd : (⟨g, 0, none⟩ : Addr).add j = ⟨g, j, none⟩ := by unfold Addr.add; split <;> simp_all
    have hjl : j < m * 10 := by
      have := (List.getElem?_eq_some_iff.1 hj).1
      simpa using this
    rw [hadd, hg.cell hjl]
    rw [Array.getElem?_toList, u8s_get _ _ _ hjl] at hj
    exact hj
  · exact (Array.all_eq_true_iff_forall_mem.1 (u8s_one (m * 10) f)) u (by simpa using hu)
  · unfold OP
    rw [show (n + m) * 10 = n * 10 + m * 10 by omega, ← u8s_app (n * 10) (m * 10) F F' f hF hf]
    exact ho2
end
theorem zeroCells_size (z : Array Value) (n : Nat) : (Builtin.zeroCells z n).size = n * z.size := size_zeroCells z n
set_option maxRecDepth 20000 in
set_option maxHeartbeats 2000000 in
theorem growPlaces_any (n : Nat) (F : Nat → UInt8) (w : World) (h1 : 1 ≤ n) (h2 : n ≤ 100) :
    Calls Try.prog 138 #[.slice none 0 0, .int .i64 n] w (GotP 0 F w) := by
  obtain ⟨i, hi, hz, hs1, hs2⟩ := info_parts infoP
  have hn0 : ¬ (n : Int) < 0 := by omega
  have hn1 : 0 < (n : Int) := by omega
  have hn2 : (n : Int) ≤ 100 := by omega
  obtain ⟨C, hC⟩ : ∃ C, C = grownCap w n 0 94 := ⟨_, rfl⟩
  obtain ⟨Z, hZ⟩ : ∃ Z, Z = Builtin.zeroCells (Value.agg (u8s 10 fun _ => 0)).cells n ++ Builtin.zeroCells (Value.agg (u8s 10 fun _ => 0)).cells (C - n) := ⟨_, rfl⟩
  have hCn : n ≤ C := by rw [hC]; exact grownCap_ge w n 0 _
  have hCm : C ≤ maxLen := by rw [hC]; exact grownCap_le_maxLen w n 0 _ (by unfold maxLen; omega)
  have hZs : Z.size = C * 10 := by
    rw [hZ, Array.size_append, zeroCells_size, zeroCells_size]
    have : (Value.agg (u8s 10 fun _ => 0)).cells.size = 10 := by simp [Value.cells]
    rw [this]; omega
  have HR : Hid (∀ ty, (Builtin.append_ #[52, 3] ty #[.slice none 0 0, .int .i64 n]).run Try.prog w = .ok (.slice (some ⟨w.heap.size, 0, none⟩) n C) (w.drew.alloc (.cells Z 94))) := hid (fun ty => by
    rw [hZ, hC]
    exact Lib.run_append_nil_zeros w 52 3 ty 94 i (.agg (u8s 10 fun _ => 0)) .i64 .i64 Try.underlying52 Try.underlying3 hi hz n (by omega) (by rw [hs1]; omega) (by omega) (by rw [hs2]; omega))
  have hsl : (Instr.slice 52 (.slice (some ⟨w.heap.size, 0, none⟩) n C) none (some (.int .i64 0)) none).run Try.prog (w.drew.alloc (.cells Z 94)) = .ok (.slice (some ⟨w.heap.size, 0, none⟩) 0 C) (w.drew.alloc (.cells Z 94)) := by
    have hq : (sizeOf 94).run Try.prog (w.drew.alloc (.cells Z 94)) = .ok i.size (w.drew.alloc (.cells Z 94)) := by simp [sizeOf, typeInfo, hi]
    by_cases hC0 : C = 0
    · simp [Instr.slice, Instr.sliceBounds, Instr.sliceBound, asIntOf, Sem.run_bind, run_underlying Try.underlying52, hq, hC0, Addr.add]
    · simp [Instr.slice, Instr.sliceBounds, Instr.sliceBound, asIntOf, Sem.run_bind, run_underlying Try.underlying52, hq, hC0, Addr.add]
  have HO : Hid (OP (w.drew.alloc (.cells Z 94)) w.heap.size (.slice (some ⟨w.heap.size, 0, none⟩) 0 C) 0 F) := hid ⟨rfl, .inr ⟨w.heap.size, C, Z, rfl, Nat.le_refl _, heap_alloc_new w.drew _, Nat.zero_le _, hCm, hZs, rfl⟩⟩
  clear hC hZ hi hz hs1 hs2 hZs
  go_enter Try.func138, Try.ntmps138
  go_wp2_with (at_builtin; refine Lib.wpList_append_run _ rfl _ _ _ _ rfl _ _ rfl rfl _ _ (HR.out _) ?_)
  go_ret
  exact ⟨_, rfl, ((Below.refl _ _).drew).alloc (Nat.le_refl _) _, HO.out⟩
/-- The bytes of n permutations, then those of others. -/
def catF (F1 F2 : Nat → UInt8) (n : Nat) : Nat → UInt8 := fun i => if i < n * 10 then F1 i else F2 (i - n * 10)
theorem catF_lo {F1 F2 : Nat → UInt8} {n i : Nat} (h : i < n * 10) : catF F1 F2 n i = F1 i := by unfold catF; rw [if_pos h]
theorem catF_hi {F1 F2 : Nat → UInt8} {n j : Nat} : catF F1 F2 n (n * 10 + j) = F2 j := by unfold catF; rw [if_neg (by omega), Nat.add_sub_cancel_left]
/-- The two slices that Concat gets. -/
def Two2 (w : World) (b : Nat) (v1 v2 : Value) : Prop := w.cell? ⟨b, 0, none⟩ = some v1 ∧ w.cell? ⟨b, 1, none⟩ = some v2 ∧ b < w.heap.size
theorem Two2.below {w w' : World} {b : Nat} {v1 v2 : Value} (h : Two2 w b v1 v2) (hb : Below w.heap.size w w') : Two2 w' b v1 v2 :=
  ⟨(World.cell?_of_block (a := ⟨b, 0, none⟩) (hb.block b h.2.2)).trans h.1, (World.cell?_of_block (a := ⟨b, 1, none⟩) (hb.block b h.2.2)).trans h.2.1, by have := hb.size; have := h.2.2; omega⟩
theorem Two2.grown {w w' : World} {b : Nat} {v1 v2 : Value} {r : Option Nat} (h : Two2 w b v1 v2) (hg : w.grownBy w' r) (hne : r ≠ some b) : Two2 w' b v1 v2 :=
  ⟨(World.cell?_of_block (a := ⟨b, 0, none⟩) (hg.block b h.2.2 (fun e => hne e.symm))).trans h.1, (World.cell?_of_block (a := ⟨b, 1, none⟩) (hg.block b h.2.2 (fun e => hne e.symm))).trans h.2.1, by have := hg.size; have := h.2.2; omega⟩
set_option maxRecDepth 20000 in
set_option maxHeartbeats 4000000 in
theorem concatPlaces_any (b g1 g2 c1 c2 n : Nat) (F1 F2 : Nat → UInt8) (w : World) (h1 : 1 ≤ n) (h2 : n ≤ 10) (hT : Two2 w b (.slice (some ⟨g1, 0, none⟩) n c1) (.slice (some ⟨g2, 0, none⟩) n c2)) (hp1 : PRow w g1 n F1) (hp2 : PRow w g2 n F2) :
    Calls Try.prog 100 #[.slice (some ⟨b, 0, none⟩) 2 2] w (GotP (n + n) (catF F1 F2 n) w) := by
  have hT0 := hid hT
  have hn1 : 1 ≤ (n : Int) := by omega
  have hn2 : (n : Int) ≤ 10 := by omega
  have k1 := hT.1
  have k2 := hT.2.1
  have hb := hT.2.2
  have hg1 := hp1.lt
  have hg2 := hp2.lt
  clear hT
  go_enter Try.func100, Try.ntmps100
  go_wp2
  go_loop [3, 11] (fun s i => (s = .int .i64 0 ∧ i = .int .i64 0) ∨ (s = .int .i64 n ∧ i = .int .i64 1) ∨ (s = .int .i64 ((n + n : Nat) : Int) ∧ i = .int .i64 2)) (fun _ i => 3 - (intOf i).toNat)
  case atStart => exact .inl ⟨rfl, rfl⟩
  case round =>
    rcases hrel with ⟨rfl, rfl⟩ | ⟨rfl, rfl⟩ | ⟨rfl, rfl⟩
    · go_wp2
      go_round
      case rel => exact .inr (.inl ⟨by go_num, rfl⟩)
      case measure => simp [intOf]
    · go_wp2
      go_round
      case rel => exact .inr (.inr ⟨by go_num, rfl⟩)
      case measure => simp [intOf]
    · clear k1 k2
      go_wp2_with (first | fail | (go_at_call 138; refine (growPlaces_any (n + n) (catF F1 F2 n) _ (by omega) (by omega)).mono ?_; rintro e w2 ⟨v0, rfl, hB, hO⟩; replace hT0 := hid (hT0.out.below hB); replace hp1 := hp1.below hB; replace hp2 := hp2.below hB))
      obtain ⟨S, hS⟩ : ∃ S, w.heap.size = S := ⟨_, rfl⟩
      rw [hS] at hO hB hg1 hg2 hb
      have hSB : S ≤ w2.heap.size := by have := hB.size; omega
      have HB := hid hB
      have HO := hid hO
      have HP1 := hid hp1
      have HP2 := hid hp2
      have HS := hid hS
      clear hB hO hp1 hp2 hS
      go_loopw [6, 27] (fun v i wr => S ≤ wr.heap.size ∧ Hid (Below S w wr) ∧ Hid (Two2 wr b (.slice (some ⟨g1, 0, none⟩) n c1) (.slice (some ⟨g2, 0, none⟩) n c2)) ∧ Hid (PRow wr g1 n F1) ∧ Hid (PRow wr g2 n F2) ∧ ∃ k m : Nat, i = .int .i64 k ∧ ((k = 0 ∧ m = 0) ∨ (k = 1 ∧ m = n) ∨ (k = 2 ∧ m = n + n)) ∧ Hid (OP wr S v m (catF F1 F2 n))) (fun _ i _ => 3 - (intOf i).toNat)
      case atStart => exact ⟨hSB, HB, hT0, HP1, HP2, 0, 0, rfl, .inl ⟨rfl, rfl⟩, HO⟩
      case round =>
        clear hSB HB hT0 HP1 HP2 HO
        obtain ⟨hSB, HB, HT, HP1, HP2, k, m, rfl, hkm, HO⟩ := hrel
        have k1 := HT.out.1
        have k2 := HT.out.2.1
        rcases hkm with ⟨rfl, rfl⟩ | ⟨rfl, rfl⟩ | ⟨rfl, rfl⟩
        · go_wp2_with (first | fail | (refine wpL_appPs (v := u6) (n := 0) (m := n) (base := S) (F := catF F1 F2 n) (f := F1) rfl (by rfl) (catF F1 F2 n) (by rfl) (by rfl) HO.out HP1.out (by omega) (by omega) (by omega) hSB (fun i _ => rfl) (fun j hj => by rw [Nat.zero_mul, Nat.zero_add]; exact catF_lo hj) ?_; intro r cap w3 how hg hor hlt))
          have hne : ∀ x, u6.ownBlock = some x → S ≤ x := fun x hx => (World.ownsRow.lt HO.out x hx).1
          have HB2 := hid (_root_.Go.Proofs.Ytbdcbmennblcdab.Below.grown HB.out hg hne (by rw [HS.out]; exact Nat.le_refl _))
          have HT2 := hid (HT.out.grown hg (fun e => by have := hne _ e; omega))
          have HP12 := hid (HP1.out.grown hg (fun e => by have := hne _ e; omega))
          have HP22 := hid (HP2.out.grown hg (fun e => by have := hne _ e; omega))
          have hs3 := hg.size
          rw [Nat.zero_add] at how
          have HO2 := hid how
          clear hg hne how HO
          go_wp2
          go_roundw
          case rel => exact ⟨by omega, HB2, HT2, HP12, HP22, 1, n, rfl, .inr (.inl ⟨rfl, rfl⟩), by first | exact HO2 | simpa using HO2⟩
          case measure => simp [intOf]
        · go_wp2_with (first | fail | (refine wpL_appPs (v := u6) (n := m) (m := m) (base := S) (F := catF F1 F2 m) (f := F2) rfl (by rfl) (catF F1 F2 m) (by rfl) (by rfl) HO.out HP2.out (by omega) (by omega) (by omega) hSB (fun i _ => rfl) (fun j hj => catF_hi) ?_; intro r cap w3 how hg hor hlt))
          have hne : ∀ x, u6.ownBlock = some x → S ≤ x := fun x hx => (World.ownsRow.lt HO.out x hx).1
          have HB2 := hid (_root_.Go.Proofs.Ytbdcbmennblcdab.Below.grown HB.out hg hne (by rw [HS.out]; exact Nat.le_refl _))
          have HT2 := hid (HT.out.grown hg (fun e => by have := hne _ e; omega))
          have HP12 := hid (HP1.out.grown hg (fun e => by have := hne _ e; omega))
          have HP22 := hid (HP2.out.grown hg (fun e => by have := hne _ e; omega))
          have hs3 := hg.size
          have HO2 := hid how
          clear hg hne how HO
          go_wp2
          go_roundw
          case rel => exact ⟨by omega, HB2, HT2, HP12, HP22, 2, m + m, rfl, .inr (.inr ⟨rfl, rfl⟩), HO2⟩
          case measure => simp [intOf]
        · go_wp2
          go_ret
          exact ⟨_, rfl, by rw [HS.out]; exact HB.out, by rw [HS.out]; exact HO.out⟩
end Go.Proofs.Ytbdcbmennblcdab
namespace Go.Proofs.Ytbdcbmennblcdab
set_option linter.unusedVariables false
set_option linter.unusedSimpArgs false
open Go.RowKit
def natF (D : Nat → UInt8) : Nat → Nat := fun x => (D x).toNat
/-- What a round of the main loop finds: the classes D and the queue Q. -/
structure JInv (N m : Nat) (M : Nat → Nat → Nat) (I : Nat → Nat → Prop) (D : Nat → UInt8) (Q : List (Nat × Nat)) : Prop where
  cg : CgInv N m M I (natF D) Q
  min : MinRep N (natF D)
  out : ∀ x, N ≤ x → D x = 0
  bnd : Q.length + 41 * apart N (natF D) ≤ 4200
/-- The pairs that stand in the queue at the start. -/
def startL (x : Nat) (y : Nat → Nat) (k : Nat) : List (Nat × Nat) := (List.range k).map fun i => (x, y i)
theorem startL_succ (x : Nat) (y : Nat → Nat) (k : Nat) : startL x y (k + 1) = startL x y k ++ [(x, y k)] := by simp [startL, List.range_succ]
theorem startL_len (x : Nat) (y : Nat → Nat) (k : Nat) : (startL x y k).length = k := by simp [startL]
/-- The pairs that are to be joined: x with each of the others. -/
def StI (x : Nat) (y : Nat → Nat) (ko : Nat) : Nat → Nat → Prop := fun a b => a = x ∧ ∃ i, i < ko ∧ b = y i
theorem startL_mem {x : Nat} {y : Nat → Nat} {ko a b : Nat} : StI x y ko a b ↔ (a, b) ∈ startL x y ko := by
  unfold StI startL
  simp only [List.mem_map, List.mem_range, Prod.mk.injEq]
  constructor
  · rintro ⟨rfl, i, hi, rfl⟩; exact ⟨i, hi, rfl, rfl⟩
  · rintro ⟨i, hi, rfl, rfl⟩; exact ⟨rfl, i, hi, rfl⟩
theorem JInv.start {N m : Nat} {M : Nat → Nat → Nat} {x ko : Nat} {y : Nat → Nat} {D : Nat → UInt8} (h10 : N ≤ 10) (hD : ∀ x, x < N → (D x).toNat = x) (h0 : ∀ x, N ≤ x → D x = 0) (hx : x < N) (hy : ∀ i, i < ko → y i < N) (hk : ko ≤ 10) :
    JInv N m M (StI x y ko) D (startL x y ko) := by
  have e : ∀ z, z < N → natF D z = z := hD
  refine ⟨CgInv.start (fun a b ha hb h => by rwa [e a ha, e b hb] at h) (fun p hp => ?_) (fun a b => startL_mem), MinRep.start N e, h0, ?_⟩
  · obtain ⟨a, b⟩ := p
    obtain ⟨rfl, i, hi, rfl⟩ := startL_mem.2 hp
    exact ⟨hx, hy i hi⟩
  · rw [startL_len]
    have := apart_le h10 (natF D)
    omega
theorem JInv.skip {N m : Nat} {M : Nat → Nat → Nat} {I : Nat → Nat → Prop} {D : Nat → UInt8} {a b : Nat} {Q : List (Nat × Nat)} (h : JInv N m M I D ((a, b) :: Q)) (e : D a = D b) : JInv N m M I D Q :=
  ⟨h.cg.skip (by unfold natF; rw [e]), h.min, h.out, by have := h.bnd; simp only [List.length_cons] at this; omega⟩
/-- As far as the numbers before z, those of the class s have got the class t. -/
def relF (D : Nat → UInt8) (s t : UInt8) (z : Nat) : Nat → UInt8 := fun x => if x < z ∧ D x = s then t else D x
theorem relF_zero (D : Nat → UInt8) (s t : UInt8) : relF D s t 0 = D := by funext x; simp [relF]
theorem relF_at (D : Nat → UInt8) (s t : UInt8) (z : Nat) : relF D s t z z = D z := by simp [relF]
theorem relF_yes {D : Nat → UInt8} {s t : UInt8} {z : Nat} (h : D z = s) (x : Nat) : relF D s t (z + 1) x = if x = z then t else relF D s t z x := by
  unfold relF
  by_cases e : x = z
  · subst e; rw [if_pos rfl, if_pos ⟨by omega, h⟩]
  · rw [if_neg e]
    by_cases c : x < z
    · simp [c, show x < z + 1 by omega]
    · simp [c, show ¬ x < z + 1 by omega]
theorem relF_no {D : Nat → UInt8} {s t : UInt8} {z : Nat} (h : D z ≠ s) : relF D s t (z + 1) = relF D s t z := by
  funext x
  unfold relF
  by_cases e : x = z
  · subst e; simp [h]
  · by_cases c : x < z
    · simp [c, show x < z + 1 by omega]
    · simp [c, show ¬ x < z + 1 by omega]
theorem relF_join {N : Nat} {D : Nat → UInt8} {s t : UInt8} (h0 : ∀ x, N ≤ x → D x = 0) (hs : s ≠ 0) : natF (relF D s t N) = joinF (natF D) s.toNat t.toNat := by
  funext x
  show (relF D s t N x).toNat = if (D x).toNat = s.toNat then t.toNat else (D x).toNat
  unfold relF
  by_cases c : x < N
  · by_cases e : D x = s
    · rw [if_pos ⟨c, e⟩, if_pos (by rw [e])]
    · rw [if_neg (fun h => e h.2), if_neg (fun h => e (UInt8.toNat.inj h))]
  · have e := h0 x (by omega)
    rw [if_neg (fun h => c h.1), if_neg (fun h => hs ?_)]
    rw [e] at h
    exact (UInt8.toNat.inj h).symm
theorem JInv.join {N m : Nat} {M : Nat → Nat → Nat} {I : Nat → Nat → Prop} {D : Nat → UInt8} {a b : Nat} {s t : UInt8} {Q : List (Nat × Nat)} (h : JInv N m M I D ((a, b) :: Q)) (hM : ∀ j, j < m → ∀ x, x < N → M j x < N) (hm : m ≤ 40)
    (hst : (s = D a ∧ t = D b) ∨ (s = D b ∧ t = D a)) (hlt : t.toNat < s.toNat) : JInv N m M I (relF D s t N) (Q ++ imgs M m a b) := by
  obtain ⟨ha, hb⟩ := h.cg.inQ (a, b) (List.mem_cons_self ..)
  have hs0 : s ≠ 0 := fun e => by rw [e] at hlt; simp at hlt
  have hst' : (s.toNat = natF D a ∧ t.toNat = natF D b) ∨ (s.toNat = natF D b ∧ t.toNat = natF D a) := by
    rcases hst with ⟨rfl, rfl⟩ | ⟨rfl, rfl⟩
    · exact .inl ⟨rfl, rfl⟩
    · exact .inr ⟨rfl, rfl⟩
  have ej := relF_join (t := t) h.out hs0
  refine ⟨?_, ?_, fun x hx => ?_, ?_⟩
  · rw [ej]
    exact h.cg.join hM hst' fun p => by rw [List.mem_append]
  · rw [ej]
    refine h.min.join ?_ ?_ hlt
    · rcases hst' with ⟨e, _⟩ | ⟨e, _⟩
      · exact ⟨a, ha, e.symm⟩
      · exact ⟨b, hb, e.symm⟩
    · rcases hst' with ⟨_, e⟩ | ⟨_, e⟩
      · exact ⟨b, hb, e.symm⟩
      · exact ⟨a, ha, e.symm⟩
  · unfold relF
    rw [if_neg (fun e => by omega)]
    exact h.out x hx
  · rw [ej]
    have hne : natF D a ≠ natF D b := by
      rcases hst' with ⟨e1, e2⟩ | ⟨e1, e2⟩ <;> omega
    have h1 := apart_join ha hb hst' hne
    have h2 := h.bnd
    simp only [List.length_cons, List.length_append, imgs_len] at h2 ⊢
    omega
theorem JInv.done {N m : Nat} {M : Nat → Nat → Nat} {I : Nat → Nat → Prop} {D : Nat → UInt8} (h : JInv N m M I D []) (hM : ∀ j, j < m → ∀ x, x < N → M j x < N) : u8s 10 D = u8s 10 (cgD N m M I) :=
  cgD_cells h.min (fun x y hx hy => h.cg.done hM hx hy) fun x hx _ => h.out x hx
end Go.Proofs.Ytbdcbmennblcdab
namespace Go.Proofs.Ytbdcbmennblcdab
set_option linter.unusedVariables false
set_option linter.unusedSimpArgs false
open Go.RowKit
theorem rowDi : IsRow Try.prog 69 10 := ⟨.inr ⟨_, _, Try.underlying69⟩, by kernel_rfl⟩
theorem zeroDi : ZeroIs Try.prog 69 (u8s 10 fun _ => 0) := by unfold ZeroIs; kernel_rfl
theorem QP.len {w : World} {B : Nat} {v : Value} {L : List (Nat × Nat)} (h : QP w B v L) : ∃ a c, v = .slice a L.length c := by
  rcases h with ⟨rfl, rfl⟩ | ⟨g, off, cap, cur, rfl, _⟩
  · exact ⟨none, 0, rfl⟩
  · exact ⟨_, _, rfl⟩
def lenV : Value → Nat
  | .slice _ n _ => n
  | _ => 0
/-- The classes as the block gb holds them. -/
def cellD (w : World) (gb : Nat) : Nat → Nat := fun i => match w.cell? ⟨gb, i, none⟩ with
  | some (.int _ n) => n.toNat
  | _ => 0
theorem apart_congr {N : Nat} {d d' : Nat → Nat} (h : ∀ x, x < N → d x = d' x) : apart N d = apart N d' := by
  unfold apart c2
  refine sm_congr fun x hx => sm_congr fun y hy => ?_
  show ind (decide (d x ≠ d y)) = ind (decide (d' x ≠ d' y))
  rw [h x hx, h y hy]
theorem cellD_of {w : World} {gb N : Nat} {D : Nat → UInt8} {t : TypeId} (h : holds w gb (u8s 10 D) t) (h10 : N ≤ 10) : apart N (cellD w gb) = apart N (natF D) :=
  apart_congr fun x hx => by
    unfold cellD natF
    rw [holds_cell h, u8s_get _ _ _ (by omega)]
    simp
section
variable {ops : Array Oper} {rest : List Oper} {o : Oper} {a : Act} {w : World} {Q : Exit → Act → World → Prop}
theorem wpL_popN {x : Operand} (hgd : o.guard = none) (ho : o.op = .slice 149 x (some (.const (.int .i64 1))) none none) {g off n cap c2 : Nat} {aq : Addr} (hx : a.eval x = .slice (some ⟨g, off, none⟩) (n + 1) cap) (hc : n + 1 ≤ cap)
    (he : (if cap = 1 then (⟨g, off, none⟩ : Addr) else ⟨g, off + 2, none⟩) = aq) (hc2 : cap - 1 = c2)
    (h : wpList Try.prog ops Q rest (a.put o.dst (.slice (some aq) n c2)) w) : wpList Try.prog ops Q (o :: rest) a w :=
  wpL_popQ hgd ho hx hc (by rw [he, hc2]; exact h)
end
/-- The image of x under the map j of the list F. -/
def mapF (F : Nat → UInt8) : Nat → Nat → Nat := fun j x => (F (j * 10 + x)).toNat
theorem JInv.less {N m : Nat} {M : Nat → Nat → Nat} {I : Nat → Nat → Prop} {D : Nat → UInt8} {a b : Nat} {s t : UInt8} {Q : List (Nat × Nat)} (h : JInv N m M I D ((a, b) :: Q))
    (hst : (s = D a ∧ t = D b) ∨ (s = D b ∧ t = D a)) (hlt : t.toNat < s.toNat) : apart N (natF (relF D s t N)) + 1 ≤ apart N (natF D) := by
  obtain ⟨ha, hb⟩ := h.cg.inQ (a, b) (List.mem_cons_self ..)
  have hs0 : s ≠ 0 := fun e => by rw [e] at hlt; simp at hlt
  have hst' : (s.toNat = natF D a ∧ t.toNat = natF D b) ∨ (s.toNat = natF D b ∧ t.toNat = natF D a) := by
    rcases hst with ⟨rfl, rfl⟩ | ⟨rfl, rfl⟩
    · exact .inl ⟨rfl, rfl⟩
    · exact .inr ⟨rfl, rfl⟩
  have hne : natF D a ≠ natF D b := by
    rcases hst' with ⟨e1, e2⟩ | ⟨e1, e2⟩ <;> omega
  have h1 := apart_join ha hb hst' hne
  rw [relF_join h.out hs0]
  omega
structure QV where
  s : Nat
  v : Value
set_option maxRecDepth 100000 in
set_option maxHeartbeats 8000000 in
theorem joined_any (N m gp cp x0 ko co : Nat) (F : Nat → UInt8) (ao : Option Addr) (y : Nat → Nat) (w : World) (h1 : 1 ≤ N) (h10 : N ≤ 10) (hm : m ≤ 40) (hP : PRow w gp m F)
    (hF : ∀ j, j < m → ∀ x, x < N → mapF F j x < N) (ho : NIn w (.slice ao ko co) ko (fun i => (y i : Nat))) (hx0 : x0 < N) (hy : ∀ i, i < ko → y i < N) (hko : ko ≤ 10) :
    Calls Try.prog 103 #[.slice (some ⟨gp, 0, none⟩) m cp, .int .i64 N, .int .i64 x0, .slice ao ko co] w fun e w' => e = .returned (.agg (u8s 10 (cgD N m (mapF F) (StI x0 y ko)))) ∧ Below w.heap.size w w' := by
  have HF := hid hF
  have HY := hid hy
  have hgp := hP.lt
  have HP := hid hP
  have HO := hid ho
  clear hF hy hP ho
  have hN10 : (N : Int) ≤ 10 := by omega
  have hx10 : (x0 : Int) < 10 := by omega
  have hko1 : (ko : Int) ≤ 10 := by omega
  have hH := Has.start1 w (u8s 10 fun _ => 0) 69
  go_enter Try.func103, Try.ntmps103
  go_wp2_with (first | fail | (go_at_call 139; refine (samePlaces_any N _ h10).mono ?_; rintro e w2 ⟨rfl, hb⟩; replace hH := hH.call' hb; clear hb) | (refine wpL_storeFull (x := .tmp 9) rfl rfl rfl rfl rowDi hgd (u8s_size _ _) (u8s_ok _ _) ?_; replace hgd := holds_row (cs' := u8s 10 (sameF N)) hgd; replace hH := hH.setRowAbove (by simpa using hlo) (u8s 10 (sameF N))) | (refine wpL_alloc (o := ⟨some 8, _, _, _, _, _⟩) rfl rfl zeroDi ?_; intro g0 hg0; (try simp at hg0); subst hg0) | (refine wpL_allocN (o := ⟨some 9, _, _, _, _, _⟩) rfl rfl zeroDi ?_; intro gd w3 hgd hl3 hb; have hlo : w.heap.size + 1 ≤ gd := (by have := hH.size; simp only [List.length_cons, List.length_nil] at this; omega); replace hH := hH.call' hb; clear hb))
  obtain ⟨wz, hwz⟩ : ∃ wz, w3.setRow gd (u8s 10 (sameF N)) = wz := ⟨_, rfl⟩
  rw [hwz] at hH hgd ⊢
  clear hwz
  obtain ⟨B, hB⟩ : ∃ B, wz.heap.size = B := ⟨_, rfl⟩
  have hgdB := holds_lt hgd
  have hwB := hH.size
  simp only [List.length_cons, List.length_nil] at hwB
  rw [hB] at hgdB hwB
  go_wp2
  go_loopw [10, 24] (fun v i wr => ∃ k : Nat, k ≤ ko ∧ i = .int .i64 k ∧ Has w wr [(u8s 10 fun _ => 0, 69)] ∧ holds wr gd (u8s 10 (sameF N)) 69 ∧ B ≤ wr.heap.size ∧ Hid (QP wr B v (startL x0 y k))) (fun _ i _ => 20 - (intOf i).toNat)
  case atStart => exact ⟨0, by omega, rfl, hH, hgd, by omega, hid (QP.nil _ _)⟩
  case round =>
    clear hH hgd hB
    obtain ⟨k, hk, rfl, hH, hgd, hBs, hQ⟩ := hrel
    by_cases hlt : k < ko
    · have hkk : (k : Int) < ko := by omega
      have hNi := HO.out.below hH.below
      obtain ⟨ap, hap, cy⟩ : ∃ ap, ao = some ap ∧ wr.cell? (ap.add k) = some (.int .i64 (y k : Nat)) := by
        rcases hNi with ⟨_, h0⟩ | ⟨ap, cap, e, hc⟩
        · omega
        · injection e with e1 e2 e3
          exact ⟨ap, e1, hc k hlt⟩
      subst hap
      clear hNi
      have hyk := HY.out k hlt
      obtain ⟨yk, hye⟩ : ∃ q, y k = q := ⟨_, rfl⟩
      have HYK := hid hye
      rw [hye] at cy hyk
      clear hye
      have hyk10 : (yk : Int) < 10 := by omega
      have HQt := hid hQ.out.lt
      go_wp2_with (first | fail | (refine wpL_build2Q (x := x0) (y := yk) rfl rfl (by rfl) (by rfl) ?_) | (refine wpL_sliceQ (x := x0) (y := yk) rfl (by rfl) (by rfl) ?_) | (refine wpL_appQ (v := u10) (B := B) (L := startL x0 y k) (p := (x0, yk)) rfl (by rfl) (by rfl) (by rfl) (hQ.out.alloc _) (holds_new _ _ _) (by rw [startL_len]; omega) (by simp; omega) ?_; intro v2 w2 hq hgr; rw [← HYK.out, ← startL_succ] at hq; have hsz2 := hgr.size; simp at hsz2; have HQ2 := hid hq; replace hH := (hH.alloc _).grown hgr (fun x hx => by have := HQt.out x hx; simp; omega); replace hgd := holds_grown (holds_alloc hgd _) hgr (fun e => by have := HQt.out gd e; omega); clear hq hgr))
      go_roundw
      case rel => exact ⟨k + 1, by omega, by go_num, hH, hgd, by omega, HQ2⟩
      case measure => simp [intOf]; omega
    · obtain rfl : k = ko := by omega
      clear hk
      have HJ : Hid (JInv N m (mapF F) (StI x0 y k) (sameF N) (startL x0 y k)) := hid (JInv.start h10 (fun x hx => by unfold sameF; rw [if_pos hx, u8_of x (by omega)]) (fun x hx => by unfold sameF; rw [if_neg (by omega)]) hx0 HY.out hko)
      go_wp2
      have HA := hid (fun (D : Nat → UInt8) (wr : World) (h : holds wr gd (u8s 10 D) 69) => cellD_of h h10)
      go_loopw [10] (fun v wr => ∃ (D : Nat → UInt8) (L : List (Nat × Nat)), Has w wr [(u8s 10 fun _ => 0, 69)] ∧ holds wr gd (u8s 10 D) 69 ∧ B ≤ wr.heap.size ∧ Hid (QP wr B v L) ∧ Hid (JInv N m (mapF F) (StI x0 y k) D L)) (fun v wr => lenV v + 41 * apart N (cellD wr gd))
      case atStart => exact ⟨sameF N, startL x0 y k, hH, hgd, hBs, hQ, HJ⟩
      case round =>
        clear hH hgd hBs hQ HJ
        obtain ⟨D, L, hH, hgd, hBs, hQ, HJ⟩ := hrel
        cases L with
        | nil =>
          obtain ⟨av, cv, ev⟩ := hQ.out.len
          subst ev
          have HDn := hid (HJ.out.done HF.out)
          go_wp2_with (first | fail | (refine wpL_loadFull (x := .tmp 9) rfl rfl rfl rowDi hgd (u8s_size _ _) ?_) | (refine wpL_storeFull (x := .tmp 8) rfl rfl rfl rfl rowDi hH.h0 (u8s_size _ _) (u8s_ok _ _) ?_))
          exact ret_c rfl rfl hH.r0.h0 rowDi (u8s_size _ _) ⟨by rw [HDn.out], hH.r0.below⟩
        | cons p L =>
          obtain ⟨a, b⟩ := p
          obtain ⟨gq, oq, cq, ev, hc1, hc2, hBg, ca, cb, hpop⟩ := hQ.out.form
          subst ev
          obtain ⟨aq, haq⟩ : ∃ aq, (if cq = 1 then (⟨gq, oq, none⟩ : Addr) else ⟨gq, oq + 2, none⟩) = aq := ⟨_, rfl⟩
          obtain ⟨c2, hcc⟩ : ∃ c, cq - 1 = c := ⟨_, rfl⟩
          rw [haq, hcc] at hpop
          have hPop := hid hpop
          have HAQ := hid haq
          have HCC := hid hcc
          clear haq hcc
          have ha := (HJ.out.cg.inQ (a, b) (List.mem_cons_self ..)).1
          have hb := (HJ.out.cg.inQ (a, b) (List.mem_cons_self ..)).2
          have HJ1 := hid HJ.out.bnd
          clear hpop hQ
          have ha10 : (a : Int) < 10 := by simp only at ha; omega
          have hb10 : (b : Int) < 10 := by simp only at hb; omega
          go_wp2
          go_quiet (fail)
          go_wp2_with (first | fail | (refine wpL_popN rfl rfl (by rfl) hc1 HAQ.out HCC.out ?_))
          obtain ⟨wd, hwd⟩ : ∃ wd, wr.drewN nq = wd := ⟨_, rfl⟩
          have hHd : Has w wd [(u8s 10 fun _ => 0, 69)] := by rw [← hwd]; exact hH.drewN _
          have hgdd : holds wd gd (u8s 10 D) 69 := by rw [← hwd]; exact hgd
          have hBd : B ≤ wd.heap.size := by rw [← hwd]; exact hBs
          have hPd : Hid (QP wd B (.slice (some aq) L.length c2) L) := hid (by rw [← hwd]; exact hPop.out.kept fun _ _ => rfl)
          rw [hwd]
          have HAr := hid (HA.out D wr hgd)
          clear hwd hH hgd hPop ca cb hBs
          obtain ⟨da, hda⟩ : ∃ q, D a = q := ⟨_, rfl⟩
          obtain ⟨db, hdb⟩ : ∃ q, D b = q := ⟨_, rfl⟩
          have HDA := hid hda
          have HDB := hid hdb
          have cda : wd.cell? ⟨gd, a, none⟩ = some (.int .u8 da.toNat) := by rw [holds_cell hgdd, u8s_get _ _ _ (by omega), hda]
          have cdb : wd.cell? ⟨gd, b, none⟩ = some (.int .u8 db.toNat) := by rw [holds_cell hgdd, u8s_get _ _ _ (by omega), hdb]
          clear hda hdb
          by_cases heq : da = db
          · subst heq
            have HJs := hid (HJ.out.skip (HDA.out.trans HDB.out.symm))
            go_quiet (fail)
            go_wp2
            refine ⟨⟨D, L, hHd.drewN _, hgdd, hBd, hid (hPd.out.kept fun _ _ => rfl), HJs⟩, ?_⟩
            rw [HAr.out, HA.out D _ (show holds (wd.drewN nq) gd (u8s 10 D) 69 from hgdd)]
            show L.length + _ < L.length + 1 + _
            omega
          · have hd10 : da.toNat < 256 := da.toNat_lt
            have he10 : db.toNat < 256 := db.toNat_lt
            obtain ⟨s, t, hst, hlt, hmn, hmx⟩ : ∃ s t : UInt8, ((s = D a ∧ t = D b) ∨ (s = D b ∧ t = D a)) ∧ t.toNat < s.toNat ∧ min (da.toNat : Int) db.toNat = t.toNat ∧ max (da.toNat : Int) db.toNat = s.toNat := by
              rcases Nat.lt_or_gt_of_ne (fun e => heq (UInt8.toNat.inj e)) with h | h
              · exact ⟨db, da, .inr ⟨HDB.out.symm, HDA.out.symm⟩, h, by omega, by omega⟩
              · exact ⟨da, db, .inl ⟨HDA.out.symm, HDB.out.symm⟩, h, by omega, by omega⟩
            have hs10 : s.toNat < 256 := s.toNat_lt
            have hne1 : ¬ (t.toNat : Int) = s.toNat := by omega
            have HJj := hid (HJ.out.join HF.out hm hst hlt)
            have HBN := hid HJ.out.bnd
            have HLS := hid (HJ.out.less hst hlt)
            have hN1 : ¬ (N : Int) ≤ 0 := by omega
            clear hst
            go_quiet (fail)
            go_wp2
            clear hmn hmx
            obtain ⟨we, hwe⟩ : ∃ we, wd.drewN nq = we := ⟨_, rfl⟩
            have hHe : Has w we [(u8s 10 fun _ => 0, 69)] := by rw [← hwe]; exact hHd.drewN _
            have hgde : holds we gd (u8s 10 D) 69 := by rw [← hwe]; exact hgdd
            have hBe : B ≤ we.heap.size := by rw [← hwe]; exact hBd
            have hPe : Hid (QP we B (.slice (some aq) L.length c2) L) := hid (by rw [← hwe]; exact hPd.out.kept fun _ _ => rfl)
            rw [hwe]
            clear hwe hHd hgdd hPd cda cdb hBd
            go_loopw [68] (fun i wr => ∃ z : Nat, z ≤ N ∧ i = .int .i64 z ∧ Has w wr [(u8s 10 fun _ => 0, 69)] ∧ holds wr gd (u8s 10 (relF D s t z)) 69 ∧ B ≤ wr.heap.size ∧ Hid (QP wr B (.slice (some aq) L.length c2) L)) (fun i _ => 20 - (intOf i).toNat)
            case atStart => exact ⟨0, by omega, rfl, hHe, by rw [relF_zero]; exact hgde, hBe, hPe⟩
            case round =>
              clear hHe hgde hBe hPe
              obtain ⟨z, hzN, rfl, hH, hgd, hBs, hQ⟩ := hrel
              by_cases hz : z < N
              · have hz1 : (z : Int) < N := by omega
                have hz10 : (z : Int) < 10 := by omega
                obtain ⟨dz, hdz⟩ : ∃ q, D z = q := ⟨_, rfl⟩
                have cz : wr.cell? ⟨gd, z, none⟩ = some (.int .u8 dz.toNat) := by rw [holds_cell hgd, u8s_get _ _ _ (by omega), relF_at, hdz]
                have fz := holds_frozen hgd z
                have HDZ := hid hdz
                clear hdz
                by_cases hzs : dz = s
                · subst hzs
                  have hs := holds_set hgd z (.int .u8 t.toNat)
                  rw [u8s_step 10 (relF D dz t z) (relF D dz t (z + 1)) z t (fun j _ => relF_yes HDZ.out j)] at hs
                  have HS := hid hs
                  clear hs
                  go_wp2
                  go_roundw
                  case rel => exact ⟨z + 1, by omega, by go_num, hH.setCellAbove (by simpa using hlo) _ _, HS.out, by simp [World.setCell]; omega, hid (hQ.out.set hgdB)⟩
                  case measure => simp [intOf]; omega
                · have hzs1 : ¬ (dz.toNat : Int) = s.toNat := fun e => hzs (UInt8.toNat.inj (by omega))
                  go_wp2
                  go_roundw
                  case rel => exact ⟨z + 1, by omega, by go_num, hH, by rw [relF_no (by rw [HDZ.out]; exact hzs)]; exact hgd, hBs, hQ⟩
                  case measure => simp [intOf]; omega
              · obtain rfl : z = N := by omega
                have hal : a < z := by simpa using ha
                have hbl : b < z := by simpa using hb
                have hLl : Hid (L.length ≤ 4200) := hid (by have := HBN.out; simp only [List.length_cons] at this; omega)
                go_wp2
                obtain ⟨D2, hD2⟩ : ∃ D2, relF D s t z = D2 := ⟨_, rfl⟩
                rw [hD2] at hgd HJj HLS
                clear hD2
                go_loopw [10, 82] (fun v i wr => ∃ j : Nat, j ≤ m ∧ i = .int .i64 j ∧ Has w wr [(u8s 10 fun _ => 0, 69)] ∧ holds wr gd (u8s 10 D2) 69 ∧ B ≤ wr.heap.size ∧ Hid (QP wr B v (L ++ imgs (mapF F) j a b))) (fun _ i _ => 50 - (intOf i).toNat)
                case atStart => exact ⟨0, by omega, rfl, hH, hgd, hBs, hid (by simpa [imgs] using hQ.out)⟩
                case round =>
                  clear hH hgd hBs hQ
                  obtain ⟨j, hjm, rfl, hH, hgd, hBs, hQ⟩ := hrel
                  by_cases hjl : j < m
                  · have hjl1 : (j : Int) < m := by omega
                    have hPj := HP.out.below hH.below
                    obtain ⟨ia, hia⟩ : ∃ q, mapF F j a = q := ⟨_, rfl⟩
                    obtain ⟨ib, hib⟩ : ∃ q, mapF F j b = q := ⟨_, rfl⟩
                    have hial : ia < z := by rw [← hia]; exact HF.out j hjl a hal
                    have hibl : ib < z := by rw [← hib]; exact HF.out j hjl b hbl
                    have HIA := hid hia
                    have HIB := hid hib
                    clear hia hib
                    have hqlt := hid hQ.out.lt
                    obtain ⟨f, hf⟩ : ∃ f : Nat → UInt8, (fun i => F (j * 10 + i)) = f := ⟨_, rfl⟩
                    have hfe : ∀ i, i < 10 → F (j * 10 + i) = f i := fun i _ => by rw [← hf]
                    have HFa := hid (hfe a (by omega))
                    have HFb := hid (hfe b (by omega))
                    clear hf
                    have hga : (a : Int) < 10 := by omega
                    have hgb2 : (b : Int) < 10 := by omega
                    go_wp2_with (first | fail | (refine wpL_loadPr (n := m) (k := j) (F := F) (f := f) rfl rfl (by rfl) hPj hjl hfe ?_) | (refine wpL_storeN (x := .tmp 19) rfl rfl rfl rfl rowPl hgt (u8s_size _ _) (u8s_ok _ _) ?_; intro w5 hz hO hT; replace hN := hT _ _ hN (by simpa using hl19); replace hgt := hz; replace hH := hT _ _ hH hlo19; clear hz hO hT) | (refine wpL_allocN (o := ⟨some 19, _, _, _, _, _⟩) rfl rfl zeroPl ?_; intro gt w4 hgt hl19 hb; have hlo19 : w.heap.size + 1 ≤ gt := (by have := hH.size; simp only [List.length_cons, List.length_nil] at this; omega); have hN := (Has.nil wr).call' hb; replace hH := hH.call' hb; clear hb))
                    replace hgd := holds_below hgd hN.below (holds_lt hgd)
                    replace hQ := hid (hQ.out.below hN.below)
                    replace hBs : B ≤ w5.heap.size := Nat.le_trans hBs hN.below.size
                    simp only [Act.put, List.setIfInBounds_toArray, List.set_cons_zero, List.set_cons_succ]
                    have hown : Hid (∀ x, u10.ownBlock = some x → B ≤ x ∧ x < gt) := hid (fun x hx => ⟨(hqlt.out x hx).1, Nat.lt_of_lt_of_le (hqlt.out x hx).2 hl19⟩)
                    have hLen : Hid ((L ++ imgs (mapF F) j a b).length ≤ 100000) := hid (by rw [List.length_append, imgs_len]; have := hLl.out; omega)
                    have hsuc : Hid (imgs (mapF F) (j + 1) a b = imgs (mapF F) j a b ++ [(ia, ib)]) := hid (by rw [imgs_succ, HIA.out, HIB.out])
                    have HFA := hid (show (f a).toNat = ia by rw [← HFa.out]; exact HIA.out)
                    have HFB := hid (show (f b).toNat = ib by rw [← HFb.out]; exact HIB.out)
                    have hOg : Hid (∀ x, u10.ownBlock = some x → x < w5.heap.size) := hid (fun x hx => Nat.lt_trans (hown.out x hx).2 (holds_lt hgt))
                    clear hqlt hN hl19
                    refine wp_region_frame (X := QV) (fun d x => [(86, bif d 0 then u10 else u86), (87, bif d 1 then .int .u8 a else u87), (88, bif d 2 then .pointer (some ⟨gt, a, none⟩) else u88), (89, bif d 3 then .int .u8 ia else u89), (90, bif d 4 then .int .u8 b else u90), (91, bif d 5 then .pointer (some ⟨gt, b, none⟩) else u91), (92, bif d 6 then .int .u8 ib else u92), (93, bif d 7 then .agg #[.int .u8 (ia : Nat), .int .u8 (ib : Nat)] else u93), (94, bif d 8 then .slice (some ⟨x.s, 0, none⟩) 1 1 else u94), (95, bif d 9 then x.v else u95), (10, bif d 10 then x.v else u10)])
                      (fun d x w' => Has w w' [(u8s 10 fun _ => 0, 69)] ∧ holds w' gd (u8s 10 D2) 69 ∧ holds w' gt (u8s 10 f) 94 ∧ B ≤ w'.heap.size ∧ Hid (∀ x, u10.ownBlock = some x → x < w'.heap.size) ∧ (d 8 = true → holds w' x.s #[.int .u8 (ia : Nat), .int .u8 (ib : Nat)] 150 ∧ (∀ y, u10.ownBlock = some y → y ≠ x.s)) ∧ (d 9 = true → Hid (QP w' B x.v (L ++ imgs (mapF F) (j + 1) a b))) ∧ (d 9 = false → Hid (QP w' B u10 (L ++ imgs (mapF F) j a b))) ∧ (d 9 = true → d 0 = true) ∧ (d 9 = true → d 8 = true) ∧ (d 10 = true → d 9 = true)) (by kernel_rfl) (by kernel_rfl) ?h0_im ?hs_im ?hq_im
                    case h0_im => exact ⟨⟨0, .bool false⟩, (by simp [lput]), hH.drew, hgd, (show _ from hgt), (by simpa using hBs), (show _ from hOg), (fun h => by cases h), (fun h => by cases h), (fun _ => hid (hQ.out.kept fun _ _ => rfl)), (fun h => by cases h), (fun h => by cases h), (fun h => by cases h)⟩
                    case hs_im =>
                      refine ⟨?_, ?_, ?_, ?_, ?_, ?_, ?_, ?_, ?_, ?_, ?_, trivial⟩
                      all_goals
                        clear hH hgd hgt hBs hOg hQ
                        intro d x w1 hd hn hJ
                        simp only [needs, Region.binds, reduceCtorEq, Bool.false_eq_true, false_implies, true_and, and_true, true_implies, forall_const] at hn
                        simp only [lput, List.set, hn, cond_true]
                        obtain ⟨hH, hgd, hgt, hBs, hOg, hS, hV, hQ, I9_0, I9_8, I10_9⟩ := hJ
                        (try have hS_ := hS (by simp only [hn]))
                        (try have hV_ := hV (by simp only [hn]))
                        (try have hQ_ := hQ hd)
                        have ca : w1.cell? ⟨gt, a, none⟩ = some (.int .u8 ia) := by rw [holds_cell hgt, u8s_get _ _ _ (by omega), HFA.out]
                        have cb : w1.cell? ⟨gt, b, none⟩ = some (.int .u8 ib) := by rw [holds_cell hgt, u8s_get _ _ _ (by omega), HFB.out]
                        (try have z10 : d 10 = false := imp_no I10_9 (by first | exact imp_no I9_0 hd | exact imp_no I9_0 rfl))
                        (try simp only [z10, cond_false])
                        have hgdl := holds_lt hgd
                        have hgtl := holds_lt hgt
                        have hsz := hH.size
                        go_wp2_with (first | fail | (refine wpL_build2Q (x := ia) (y := ib) rfl rfl (by rfl) (by rfl) ?_) | (refine wpL_sliceQ (x := ia) (y := ib) rfl (by rfl) (by rfl) ?_; obtain ⟨w2, hw2⟩ : ∃ w2, w1.alloc (.cells #[.int .u8 (ia : Int), .int .u8 (ib : Int)] 150) = w2 := ⟨_, rfl⟩; have hSn : holds w2 w1.heap.size #[.int .u8 (ia : Nat), .int .u8 (ib : Nat)] 150 := (by rw [← hw2]; exact holds_new _ _ _); replace hH : Has w w2 [(u8s 10 fun _ => 0, 69)] := (by rw [← hw2]; exact hH.alloc _); replace hgd : holds w2 gd (u8s 10 D2) 69 := (by rw [← hw2]; exact holds_alloc hgd _); replace hgt : holds w2 gt (u8s 10 f) 94 := (by rw [← hw2]; exact holds_alloc hgt _); have hs2 : w2.heap.size = w1.heap.size + 1 := (by rw [← hw2]; simp); replace hBs : B ≤ w2.heap.size := (by omega); have hne : ∀ y, u10.ownBlock = some y → y ≠ w1.heap.size := (fun y hy e => by have := hOg.out y hy; omega); replace hOg : Hid (∀ x, u10.ownBlock = some x → x < w2.heap.size) := hid (fun x hx => by have := hOg.out x hx; omega); replace hV : d 9 = true → Hid (QP w2 B x.v (L ++ imgs (mapF F) (j + 1) a b)) := (fun e => by rw [← hw2]; exact hid ((hV e).out.alloc _)); replace hQ : d 9 = false → Hid (QP w2 B u10 (L ++ imgs (mapF F) j a b)) := (fun e => by rw [← hw2]; exact hid ((hQ e).out.alloc _)); rw [hw2]; clear hw2) | (refine wpL_appQ (v := u10) (B := B) (L := L ++ imgs (mapF F) j a b) (p := (ia, ib)) rfl (by rfl) (by rfl) (by rfl) hQ_.out hS_.1 hLen.out hBs ?_; intro v2 w2 hq hgr; rw [List.append_assoc, ← hsuc.out] at hq; have hs2 := hgr.size; replace hH := hH.grown hgr (fun y hy => by have := (hown.out y hy).1; simp only [List.length_cons, List.length_nil]; omega); replace hgd := holds_grown hgd hgr (fun e => by have := (hown.out gd e).1; omega); replace hgt := holds_grown hgt hgr (fun e => by have := (hown.out gt e).2; omega); have hSa := holds_grown hS_.1 hgr (fun e => hS_.2 _ e rfl); replace hBs : B ≤ w2.heap.size := (by omega); replace hOg : Hid (∀ x, u10.ownBlock = some x → x < w2.heap.size) := hid (fun x hx => by have := hOg.out x hx; omega); have HqV := hid hq; clear hq))
                        first
                          | (have z9 : d 9 = false := (by first | exact imp_no I9_8 hd | exact imp_no I9_8 rfl); refine ⟨⟨w1.heap.size, x.v⟩, ?_, hH, hgd, hgt, hBs, hOg, (fun _ => ⟨hSn, hne⟩), (fun e => hV (done_ne e (by decide))), (fun e => hQ (done_no e)), (by intro e; first | (simp [done]; done) | (have e2 := I9_0 (done_ne e (by decide)); simp [done, e2]; done) | (simp [done, hn]; done)), (by intro e; simp [done]), (by intro e; have e2 := I10_9 (done_ne e (by decide)); simp [done, e2])⟩; (simp [lput, done, hn, z9]; done))
                          | (have z10 : d 10 = false := (by first | exact imp_no I10_9 hd | exact imp_no I10_9 rfl); refine ⟨⟨x.s, v2⟩, ?_, hH, hgd, hgt, hBs, hOg, (fun _ => ⟨hSa, hS_.2⟩), (fun _ => HqV), (fun e => by simp [done] at e), (by intro e; simp [done, hn]), (by intro e; simp [done, hn]), (by intro e; simp [done])⟩; (simp [lput, done, hn, z10]; done))
                          | (refine ⟨x, ?_, hH, hgd, hgt, hBs, hOg, (fun e => hS (done_ne e (by decide))), (fun e => hV (done_ne e (by decide))), (fun e => hQ (done_no e)), (by intro e; first | (simp [done]; done) | (have e2 := I9_0 (done_ne e (by decide)); simp [done, e2]; done) | (simp [done, hn]; done)), (by intro e; first | (simp [done]; done) | (have e2 := I9_8 (done_ne e (by decide)); simp [done, e2]; done) | (simp [done, hn]; done)), (by intro e; first | (simp [done]; done) | (have e2 := I10_9 (done_ne e (by decide)); simp [done, e2]; done) | (simp [done, hn]; done))⟩; (simp [lput, done, hn, z10]; done))
                          | (refine ⟨x, ?_, hH, hgd, hgt, hBs, hOg, (fun e => hS (done_ne e (by decide))), (fun e => hV (done_ne e (by decide))), (fun e => hQ (done_no e)), (by intro e; first | (simp [done]; done) | (have e2 := I9_0 (done_ne e (by decide)); simp [done, e2]; done) | (simp [done, hn]; done)), (by intro e; first | (simp [done]; done) | (have e2 := I9_8 (done_ne e (by decide)); simp [done, e2]; done) | (simp [done, hn]; done)), (by intro e; first | (simp [done]; done) | (have e2 := I10_9 (done_ne e (by decide)); simp [done, e2]; done) | (simp [done, hn]; done))⟩; (simp [lput, done, hn]; done))
                          | (refine ⟨?_, hH, hgd, hgt, hBs, hOg, (fun e => hS (done_ne e (by decide))), (fun e => hV (done_ne e (by decide))), (fun e => hQ (done_no e)), (by intro e; first | (simp [done]; done) | (have e2 := I9_0 (done_ne e (by decide)); simp [done, e2]; done) | (simp [done, hn]; done)), (by intro e; first | (simp [done]; done) | (have e2 := I9_8 (done_ne e (by decide)); simp [done, e2]; done) | (simp [done, hn]; done)), (by intro e; first | (simp [done]; done) | (have e2 := I10_9 (done_ne e (by decide)); simp [done, e2]; done) | (simp [done, hn]; done))⟩; (simp [lput, done, hn]; done))
                          | (refine ⟨x, ?_, hH, hgd, hgt, hBs, hOg, (fun e => hS (done_ne e (by decide))), (fun e => hV (done_ne e (by decide))), (fun e => hQ (done_no e)), (by intro e; first | (simp [done]; done) | (have e2 := I9_0 (done_ne e (by decide)); simp [done, e2]; done) | (simp [done, hn]; done)), (by intro e; first | (simp [done]; done) | (have e2 := I9_8 (done_ne e (by decide)); simp [done, e2]; done) | (simp [done, hn]; done)), (by intro e; first | (simp [done]; done) | (have e2 := I10_9 (done_ne e (by decide)); simp [done, e2]; done) | (simp [done, hn]; done))⟩; (simp [lput, done, hn]; rfl))
                          | (refine ⟨?_, hH, hgd, hgt, hBs, hOg, (fun e => hS (done_ne e (by decide))), (fun e => hV (done_ne e (by decide))), (fun e => hQ (done_no e)), (by intro e; first | (simp [done]; done) | (have e2 := I9_0 (done_ne e (by decide)); simp [done, e2]; done) | (simp [done, hn]; done)), (by intro e; first | (simp [done]; done) | (have e2 := I9_8 (done_ne e (by decide)); simp [done, e2]; done) | (simp [done, hn]; done)), (by intro e; first | (simp [done]; done) | (have e2 := I10_9 (done_ne e (by decide)); simp [done, e2]; done) | (simp [done, hn]; done))⟩; (simp [lput, done, hn]; rfl))
                          | (refine ⟨x, ?_, hH, hgd, hgt, hBs, hOg, (fun e => hS (done_ne e (by decide))), (fun e => hV (done_ne e (by decide))), (fun e => hQ (done_no e)), (by intro e; first | (simp [done]; done) | (have e2 := I9_0 (done_ne e (by decide)); simp [done, e2]; done) | (simp [done, hn]; done)), (by intro e; first | (simp [done]; done) | (have e2 := I9_8 (done_ne e (by decide)); simp [done, e2]; done) | (simp [done, hn]; done)), (by intro e; first | (simp [done]; done) | (have e2 := I10_9 (done_ne e (by decide)); simp [done, e2]; done) | (simp [done, hn]; done))⟩; (simp [lput, done]; done))
                          | (refine ⟨?_, hH, hgd, hgt, hBs, hOg, (fun e => hS (done_ne e (by decide))), (fun e => hV (done_ne e (by decide))), (fun e => hQ (done_no e)), (by intro e; first | (simp [done]; done) | (have e2 := I9_0 (done_ne e (by decide)); simp [done, e2]; done) | (simp [done, hn]; done)), (by intro e; first | (simp [done]; done) | (have e2 := I9_8 (done_ne e (by decide)); simp [done, e2]; done) | (simp [done, hn]; done)), (by intro e; first | (simp [done]; done) | (have e2 := I10_9 (done_ne e (by decide)); simp [done, e2]; done) | (simp [done, hn]; done))⟩; (simp [lput, done]; done))
                          | (refine ⟨x, ?_, hH, hgd, hgt, hBs, hOg, (fun e => hS (done_ne e (by decide))), (fun e => hV (done_ne e (by decide))), (fun e => hQ (done_no e)), (by intro e; first | (simp [done]; done) | (have e2 := I9_0 (done_ne e (by decide)); simp [done, e2]; done) | (simp [done, hn]; done)), (by intro e; first | (simp [done]; done) | (have e2 := I9_8 (done_ne e (by decide)); simp [done, e2]; done) | (simp [done, hn]; done)), (by intro e; first | (simp [done]; done) | (have e2 := I10_9 (done_ne e (by decide)); simp [done, e2]; done) | (simp [done, hn]; done))⟩; (simp [lput, done]; rfl))
                          | (refine ⟨?_, hH, hgd, hgt, hBs, hOg, (fun e => hS (done_ne e (by decide))), (fun e => hV (done_ne e (by decide))), (fun e => hQ (done_no e)), (by intro e; first | (simp [done]; done) | (have e2 := I9_0 (done_ne e (by decide)); simp [done, e2]; done) | (simp [done, hn]; done)), (by intro e; first | (simp [done]; done) | (have e2 := I9_8 (done_ne e (by decide)); simp [done, e2]; done) | (simp [done, hn]; done)), (by intro e; first | (simp [done]; done) | (have e2 := I10_9 (done_ne e (by decide)); simp [done, e2]; done) | (simp [done, hn]; done))⟩; (simp [lput, done]; rfl))
                    case hq_im =>
                      clear hH hgd hgt hBs hOg hQ
                      intro d x w1 hd hJ
                      simp only [allDone, List.length_cons, List.length_nil, Nat.reduceAdd, and_true] at hd
                      obtain ⟨hH, hgd, hgt, hBs, hOg, hS, hV, hQ, I9_0, I9_8, I10_9⟩ := hJ
                      replace hS := hS (by simp only [hd])
                      replace hV := hV (by simp only [hd])
                      clear hQ
                      clear I9_0
                      clear I9_8
                      clear I10_9
                      simp only [lput, List.set, hd, cond_true]
                      clear hd
                      go_wp2
                      go_roundw
                      case rel => exact ⟨j + 1, by omega, by go_num, hH, hgd, hBs, hV⟩
                      case measure => simp [intOf]; omega
                  · obtain rfl : j = m := by omega
                    go_wp2
                    obtain ⟨ax, cx, ev⟩ := hQ.out.len
                    refine ⟨⟨D2, _, hH, hgd, hBs, hQ, HJj⟩, ?_⟩
                    rw [HAr.out, HA.out D2 _ hgd, ev]
                    have h1 := HLS.out
                    show (L ++ imgs (mapF F) j a b).length + _ < L.length + 1 + _
                    rw [List.length_append, imgs_len]
                    omega
end Go.Proofs.Ytbdcbmennblcdab
namespace Go.Proofs.Ytbdcbmennblcdab
set_option linter.unusedVariables false
set_option linter.unusedSimpArgs false
open Go.RowKit
theorem built2PP (p q : Option Addr) (n m c d : Nat) : (Try.prog).builtSlice 52 2 [(0, Value.slice p n c), (1, Value.slice q m d)] = some #[.slice p n c, .slice q m d] := by kernel_rfl
theorem turnAt (g : Nat → UInt8) (x y : Nat) (hy : y < 10) : turn g (x * 10 + y) = g (y * 10 + x) := by
  unfold turn
  rw [show (x * 10 + y) % 10 = y by omega, show (x * 10 + y) / 10 = x by omega]
section
variable {ops : Array Oper} {rest : List Oper} {o : Oper} {a : Act} {w : World} {Q : Exit → Act → World → Prop}
theorem wpL_slice2P {i j : Operand} {p q : Option Addr} {n m c d : Nat} (hgd : o.guard = none) (ho : o.op = .buildSlice 146 2 #[(0, i), (1, j)]) (hx : a.eval i = .slice p n c) (hy : a.eval j = .slice q m d)
    (h : ∀ w' b, Two2 w' b (.slice p n c) (.slice q m d) → w.heap.size = b → Below w.heap.size w w' → wpList Try.prog ops Q rest (a.put o.dst (.slice (some ⟨b, 0, none⟩) 2 2)) w') : wpList Try.prog ops Q (o :: rest) a w := by
  refine Great.wpList_buildSliceTo hgd 146 52 2 _ ho _ rfl o.dst rfl Try.underlying146 #[.slice p n c, .slice q m d] ?_ ?_
  · have hp : ((#[(0, i), (1, j)] : Array (Nat × Operand)).map fun (i, x) => (i, a.eval x)).toList = [(0, Value.slice p n c), (1, Value.slice q m d)] := by simp [hx, hy]
    rw [hp]
    exact built2PP p q n m c d
  · refine h _ _ ⟨?_, ?_, ?_⟩ rfl ((Below.refl _ _).alloc (Nat.le_refl _) _)
    · rw [holds_cell (holds_new w #[.slice p n c, .slice q m d] 52)]; rfl
    · rw [holds_cell (holds_new w #[.slice p n c, .slice q m d] 52)]; rfl
    · simp
end
structure CQ where
  g1 : Nat
  c1 : Nat
  g2 : Nat
  c2 : Nat
  b : Nat
  g3 : Nat
  c3 : Nat
/-- The row maps and the column maps of a square. -/
def rcF (g : Nat → UInt8) (N : Nat) : Nat → UInt8 := catF g (turn g) N
theorem rcF_lt {g : Nat → UInt8} {N : Nat} (hq : IsSq N g) : ∀ j, j < N + N → ∀ x, x < N → mapF (rcF g N) j x < N := by
  intro j hj x hx
  have h10 := hq.hi
  unfold mapF rcF
  by_cases h : j < N
  · rw [catF_lo (by omega)]
    exact (hq.rows j h).lt x hx
  · rw [show j * 10 + x = N * 10 + ((j - N) * 10 + x) by omega, catF_hi, turnAt _ _ _ (by omega)]
    exact (hq.cols (j - N) (by omega)).lt x hx
set_option maxRecDepth 20000 in
set_option maxHeartbeats 4000000 in
theorem congruenceOf_any (N x0 ko co : Nat) (g : Nat → UInt8) (ao : Option Addr) (y : Nat → Nat) (w : World) (hq : IsSq N g) (ho : NIn w (.slice ao ko co) ko (fun i => (y i : Nat))) (hx0 : x0 < N) (hy : ∀ i, i < ko → y i < N) (hko : ko ≤ 10) :
    Calls Try.prog 57 #[.agg (sqc N g), .int .i64 x0, .slice ao ko co] w fun e w' => e = .returned (.agg (u8s 10 (cgD N (N + N) (mapF (rcF g N)) (StI x0 y ko)))) ∧ Below w.heap.size w w' := by
  have h1 := hq.lo
  have h10 := hq.hi
  have HF := hid (rcF_lt hq)
  have HY := hid hy
  have HO := hid ho
  clear hq hy ho
  have hH := Has.start2 w (sqc N g) (u8s 10 fun _ => 0) 31 69
  go_enter Try.func57, Try.ntmps57
  go_wp2_with (first | fail | (refine wpL_alloc rfl rfl zeroDi ?_; intro g hg; (try simp at hg); subst hg))
  refine wp_region_frame (X := CQ) (fun d x => [(8, bif d 0 then .agg (sqc N g) else undef), (9, bif d 1 then .slice (some ⟨x.g1, 0, none⟩) N x.c1 else undef), (10, bif d 2 then .agg (sqc N g) else undef), (11, bif d 3 then .slice (some ⟨x.g2, 0, none⟩) N x.c2 else undef), (12, bif d 4 then .slice (some ⟨x.b, 0, none⟩) 2 2 else undef), (13, bif d 5 then .slice (some ⟨x.g3, 0, none⟩) (N + N) x.c3 else undef), (7, bif d 6 then .slice (some ⟨x.g3, 0, none⟩) (N + N) x.c3 else undef)])
    (fun d x w' => Has w w' [(sqc N g, 31), (u8s 10 fun _ => 0, 69)] ∧ (d 1 = true → Hid (PRow w' x.g1 N g)) ∧ (d 3 = true → Hid (PRow w' x.g2 N (turn g))) ∧ (d 4 = true → Hid (Two2 w' x.b (.slice (some ⟨x.g1, 0, none⟩) N x.c1) (.slice (some ⟨x.g2, 0, none⟩) N x.c2))) ∧ (d 5 = true → Hid (PRow w' x.g3 (N + N) (rcF g N))) ∧ (d 4 = true → d 1 = true) ∧ (d 4 = true → d 3 = true) ∧ (d 5 = true → d 4 = true) ∧ (d 6 = true → d 5 = true)) (by kernel_rfl) (by kernel_rfl) ?h0_cg ?hs_cg ?hq_cg
  case h0_cg => exact ⟨⟨0, 0, 0, 0, 0, 0, 0⟩, (by simp [lput]), hH.drew, (fun h => by cases h), (fun h => by cases h), (fun h => by cases h), (fun h => by cases h), (fun h => by cases h), (fun h => by cases h), (fun h => by cases h), (fun h => by cases h)⟩
  case hs_cg =>
    refine ⟨?_, ?_, ?_, ?_, ?_, ?_, ?_, trivial⟩
    all_goals
      clear hH
      intro d x w1 hd hn hJ
      simp only [needs, Region.binds, reduceCtorEq, Bool.false_eq_true, false_implies, true_and, and_true, true_implies, forall_const] at hn
      simp only [lput, List.set, hn, cond_true]
      obtain ⟨hH, hR, hC, hT, hV, I4_1, I4_3, I5_4, I6_5⟩ := hJ
      (try have hR_ := hR (by simp only [hn]))
      (try have hC_ := hC (by simp only [hn]))
      (try have hT_ := hT (by simp only [hn]))
      (try have hV_ := hV (by simp only [hn]))
      (try have hR4 := hR (I4_1 (by simp only [hn])))
      (try have hC4 := hC (I4_3 (by simp only [hn])))
      go_wp2_with (first | fail | (refine wpL_loadFull rfl rfl rfl rowSq hH.h0 (sqc_size _ _) ?_) | (go_at_call 101; refine (rowMapsOf_any N g _ h1 h10).mono ?_; rintro e w3 ⟨v, rfl, hb, hOP⟩; obtain ⟨gr, cr, rfl, hBr, hPr⟩ := hOP.form (by omega); have HPr := hid hPr; replace hH := hH.call' hb; replace hC := fun e => hid ((hC e).out.below hb); clear hOP hPr) | (go_at_call 102; refine (columnMapsOf_any N g _ h1 h10).mono ?_; rintro e w3 ⟨v, rfl, hb, hOP⟩; obtain ⟨gc, cc, rfl, hBc, hPc⟩ := hOP.form (by omega); have HPc := hid hPc; replace hH := hH.call' hb; replace hR := fun e => hid ((hR e).out.below hb); clear hOP hPc) | (refine wpL_slice2P rfl (by rfl) (by rfl) (by rfl) ?_; intro w3 bb hTT hbb hb; have HTT := hid hTT; replace hH := hH.call' hb; replace hR := fun e => hid ((hR e).out.below hb); replace hC := fun e => hid ((hC e).out.below hb); clear hTT) | (go_at_call 100; refine (concatPlaces_any x.b x.g1 x.g2 x.c1 x.c2 N g (turn g) _ h1 h10 hT_.out hR4.out hC4.out).mono ?_; rintro e w3 ⟨v, rfl, hb, hOP⟩; obtain ⟨gv, cv, rfl, hBv, hPv⟩ := hOP.form (by omega); have HPv := hid hPv; replace hH := hH.call' hb; replace hR := fun e => hid ((hR e).out.below hb); replace hC := fun e => hid ((hC e).out.below hb); replace hT := fun e => hid ((hT e).out.below hb); clear hOP hPv))
      first
        | (have z4 := imp_no I4_1 hd; have z5 := imp_no I5_4 z4; have z6 := imp_no I6_5 z5; refine ⟨{ x with g1 := gr, c1 := cr }, ?_, hH, (fun _ => HPr), (fun e => hC (done_ne e (by decide))), (fun e => by simp [done, z4] at e), (fun e => by simp [done, z5] at e), (by intro e; simp [done]), (by intro e; simp [done, z4] at e), (by intro e; simp [done, z5] at e), (by intro e; simp [done, z6] at e)⟩; (simp [lput, done, hn, z4, z5, z6]; done))
        | (have z4 := imp_no I4_3 hd; have z5 := imp_no I5_4 z4; have z6 := imp_no I6_5 z5; refine ⟨{ x with g2 := gc, c2 := cc }, ?_, hH, (fun e => hR (done_ne e (by decide))), (fun _ => HPc), (fun e => by simp [done, z4] at e), (fun e => by simp [done, z5] at e), (by intro e; simp [done, z4] at e), (by intro e; simp [done]), (by intro e; simp [done, z5] at e), (by intro e; simp [done, z6] at e)⟩; (simp [lput, done, hn, z4, z5, z6]; done))
        | (have z5 := imp_no I5_4 hd; have z6 := imp_no I6_5 z5; refine ⟨{ x with b := bb }, ?_, hH, (fun e => hR (done_ne e (by decide))), (fun e => hC (done_ne e (by decide))), (fun _ => HTT), (fun e => by simp [done, z5] at e), (by intro e; simp [done, hn]), (by intro e; simp [done, hn]), (by intro e; simp [done]), (by intro e; simp [done, z6] at e)⟩; (simp [lput, done, hn, z5, z6]; done))
        | (have z6 := imp_no I6_5 hd; have e1 : d 1 = true := I4_1 (by simp only [hn]); have e3 : d 3 = true := I4_3 (by simp only [hn]); refine ⟨{ x with g3 := gv, c3 := cv }, ?_, hH, (fun e => hR (done_ne e (by decide))), (fun e => hC (done_ne e (by decide))), (fun e => hT (done_ne e (by decide))), (fun _ => HPv), (by intro e; have e2 := I4_1 (done_ne e (by decide)); simp [done, e2]), (by intro e; have e2 := I4_3 (done_ne e (by decide)); simp [done, e2]), (by intro e; simp [done, hn]), (by intro e; simp [done])⟩; (simp [lput, done, hn, z6, e1, e3]; done))
        | (refine ⟨x, ?_, hH, (fun e => hR (done_ne e (by decide))), (fun e => hC (done_ne e (by decide))), (fun e => hT (done_ne e (by decide))), (fun e => hV (done_ne e (by decide))), (by intro e; first | (simp [done]; done) | (have e2 := I4_1 (done_ne e (by decide)); simp [done, e2]; done) | (simp [done, hn]; done)), (by intro e; first | (simp [done]; done) | (have e2 := I4_3 (done_ne e (by decide)); simp [done, e2]; done) | (simp [done, hn]; done)), (by intro e; first | (simp [done]; done) | (have e2 := I5_4 (done_ne e (by decide)); simp [done, e2]; done) | (simp [done, hn]; done)), (by intro e; first | (simp [done]; done) | (have e2 := I6_5 (done_ne e (by decide)); simp [done, e2]; done) | (simp [done, hn]; done))⟩; (simp [lput, done, hn]; done))
        | (refine ⟨?_, hH, (fun e => hR (done_ne e (by decide))), (fun e => hC (done_ne e (by decide))), (fun e => hT (done_ne e (by decide))), (fun e => hV (done_ne e (by decide))), (by intro e; first | (simp [done]; done) | (have e2 := I4_1 (done_ne e (by decide)); simp [done, e2]; done) | (simp [done, hn]; done)), (by intro e; first | (simp [done]; done) | (have e2 := I4_3 (done_ne e (by decide)); simp [done, e2]; done) | (simp [done, hn]; done)), (by intro e; first | (simp [done]; done) | (have e2 := I5_4 (done_ne e (by decide)); simp [done, e2]; done) | (simp [done, hn]; done)), (by intro e; first | (simp [done]; done) | (have e2 := I6_5 (done_ne e (by decide)); simp [done, e2]; done) | (simp [done, hn]; done))⟩; (simp [lput, done, hn]; done))
        | (refine ⟨x, ?_, hH, (fun e => hR (done_ne e (by decide))), (fun e => hC (done_ne e (by decide))), (fun e => hT (done_ne e (by decide))), (fun e => hV (done_ne e (by decide))), (by intro e; first | (simp [done]; done) | (have e2 := I4_1 (done_ne e (by decide)); simp [done, e2]; done) | (simp [done, hn]; done)), (by intro e; first | (simp [done]; done) | (have e2 := I4_3 (done_ne e (by decide)); simp [done, e2]; done) | (simp [done, hn]; done)), (by intro e; first | (simp [done]; done) | (have e2 := I5_4 (done_ne e (by decide)); simp [done, e2]; done) | (simp [done, hn]; done)), (by intro e; first | (simp [done]; done) | (have e2 := I6_5 (done_ne e (by decide)); simp [done, e2]; done) | (simp [done, hn]; done))⟩; (simp [lput, done, hn]; rfl))
        | (refine ⟨?_, hH, (fun e => hR (done_ne e (by decide))), (fun e => hC (done_ne e (by decide))), (fun e => hT (done_ne e (by decide))), (fun e => hV (done_ne e (by decide))), (by intro e; first | (simp [done]; done) | (have e2 := I4_1 (done_ne e (by decide)); simp [done, e2]; done) | (simp [done, hn]; done)), (by intro e; first | (simp [done]; done) | (have e2 := I4_3 (done_ne e (by decide)); simp [done, e2]; done) | (simp [done, hn]; done)), (by intro e; first | (simp [done]; done) | (have e2 := I5_4 (done_ne e (by decide)); simp [done, e2]; done) | (simp [done, hn]; done)), (by intro e; first | (simp [done]; done) | (have e2 := I6_5 (done_ne e (by decide)); simp [done, e2]; done) | (simp [done, hn]; done))⟩; (simp [lput, done, hn]; rfl))
        | (refine ⟨x, ?_, hH, (fun e => hR (done_ne e (by decide))), (fun e => hC (done_ne e (by decide))), (fun e => hT (done_ne e (by decide))), (fun e => hV (done_ne e (by decide))), (by intro e; first | (simp [done]; done) | (have e2 := I4_1 (done_ne e (by decide)); simp [done, e2]; done) | (simp [done, hn]; done)), (by intro e; first | (simp [done]; done) | (have e2 := I4_3 (done_ne e (by decide)); simp [done, e2]; done) | (simp [done, hn]; done)), (by intro e; first | (simp [done]; done) | (have e2 := I5_4 (done_ne e (by decide)); simp [done, e2]; done) | (simp [done, hn]; done)), (by intro e; first | (simp [done]; done) | (have e2 := I6_5 (done_ne e (by decide)); simp [done, e2]; done) | (simp [done, hn]; done))⟩; (simp [lput, done]; done))
        | (refine ⟨?_, hH, (fun e => hR (done_ne e (by decide))), (fun e => hC (done_ne e (by decide))), (fun e => hT (done_ne e (by decide))), (fun e => hV (done_ne e (by decide))), (by intro e; first | (simp [done]; done) | (have e2 := I4_1 (done_ne e (by decide)); simp [done, e2]; done) | (simp [done, hn]; done)), (by intro e; first | (simp [done]; done) | (have e2 := I4_3 (done_ne e (by decide)); simp [done, e2]; done) | (simp [done, hn]; done)), (by intro e; first | (simp [done]; done) | (have e2 := I5_4 (done_ne e (by decide)); simp [done, e2]; done) | (simp [done, hn]; done)), (by intro e; first | (simp [done]; done) | (have e2 := I6_5 (done_ne e (by decide)); simp [done, e2]; done) | (simp [done, hn]; done))⟩; (simp [lput, done]; done))
        | (refine ⟨x, ?_, hH, (fun e => hR (done_ne e (by decide))), (fun e => hC (done_ne e (by decide))), (fun e => hT (done_ne e (by decide))), (fun e => hV (done_ne e (by decide))), (by intro e; first | (simp [done]; done) | (have e2 := I4_1 (done_ne e (by decide)); simp [done, e2]; done) | (simp [done, hn]; done)), (by intro e; first | (simp [done]; done) | (have e2 := I4_3 (done_ne e (by decide)); simp [done, e2]; done) | (simp [done, hn]; done)), (by intro e; first | (simp [done]; done) | (have e2 := I5_4 (done_ne e (by decide)); simp [done, e2]; done) | (simp [done, hn]; done)), (by intro e; first | (simp [done]; done) | (have e2 := I6_5 (done_ne e (by decide)); simp [done, e2]; done) | (simp [done, hn]; done))⟩; (simp [lput, done]; rfl))
        | (refine ⟨?_, hH, (fun e => hR (done_ne e (by decide))), (fun e => hC (done_ne e (by decide))), (fun e => hT (done_ne e (by decide))), (fun e => hV (done_ne e (by decide))), (by intro e; first | (simp [done]; done) | (have e2 := I4_1 (done_ne e (by decide)); simp [done, e2]; done) | (simp [done, hn]; done)), (by intro e; first | (simp [done]; done) | (have e2 := I4_3 (done_ne e (by decide)); simp [done, e2]; done) | (simp [done, hn]; done)), (by intro e; first | (simp [done]; done) | (have e2 := I5_4 (done_ne e (by decide)); simp [done, e2]; done) | (simp [done, hn]; done)), (by intro e; first | (simp [done]; done) | (have e2 := I6_5 (done_ne e (by decide)); simp [done, e2]; done) | (simp [done, hn]; done))⟩; (simp [lput, done]; rfl))
  case hq_cg =>
    clear hH
    intro d x w1 hd hJ
    simp only [allDone, List.length_cons, List.length_nil, Nat.reduceAdd, and_true] at hd
    obtain ⟨hH, hR, hC, hT, hV, I4_1, I4_3, I5_4, I6_5⟩ := hJ
    replace hR := hR (by simp only [hd])
    replace hC := hC (by simp only [hd])
    replace hT := hT (by simp only [hd])
    replace hV := hV (by simp only [hd])
    clear I4_1
    clear I4_3
    clear I5_4
    clear I6_5
    simp only [lput, List.set, hd, cond_true]
    clear hd
    clear hR hC hT
    rcases x with ⟨g1, c1, g2, c2, b, g3, c3⟩
    replace hV : PRow w1 g3 (N + N) (rcF g N) := hV.out
    have c0 := hH.c0 0
    rw [sqc_get0] at c0
    have hO2 := HO.out.below hH.below
    go_wp2_with (first | fail | (go_at_call 103; refine (joined_any N (N + N) g3 c3 x0 ko co (rcF g N) ao y _ h1 h10 (by omega) hV HF.out hO2 hx0 HY.out hko).mono ?_; rintro e w3 ⟨rfl, hb⟩; replace hH := hH.call' hb; clear hb) | (refine wpL_storeFull rfl rfl rfl rfl rowDi hH.h1 (u8s_size _ _) (u8s_ok _ _) ?_))
    exact ret_c rfl rfl hH.r1.h1 rowDi (u8s_size _ _) ⟨rfl, hH.r1.below⟩
end Go.Proofs.Ytbdcbmennblcdab
namespace Go.Proofs.Ytbdcbmennblcdab
set_option linter.unusedVariables false
set_option linter.unusedSimpArgs false
open Go.RowKit
/-- A list of one's own is one that comes in. -/
theorem OL.nin {w : World} {B : Nat} {v : Value} {l : List Int} (h : OL w B v l) (hl : ∀ z ∈ l, 0 ≤ z) : ∃ ao co, v = .slice ao l.length co ∧ NIn w (.slice ao l.length co) l.length (fun i => ((l.getD i 0).toNat : Nat)) := by
  rcases IL.of_own h with ⟨h1, h0⟩ | ⟨g, cap, hv, _, _, hr⟩
  · subst h0
    exact ⟨none, 0, h1, .inl ⟨rfl, rfl⟩⟩
  · refine ⟨some ⟨g, 0, none⟩, cap, hv, .inr ⟨⟨g, 0, none⟩, cap, rfl, fun i hi => ?_⟩⟩
    have hadd : (⟨g, 0, none⟩ : Addr).add i = ⟨g, i, none⟩ := by unfold Addr.add; split <;> simp_all
    have hm : l.getD i 0 ∈ l := by
      rw [List.getD, List.getElem?_eq_getElem hi]
      exact List.getElem_mem hi
    have h0 := hl _ hm
    rw [hadd, hr.cell hi]
    show some (Value.int .i64 (l.getD i 0)) = some (Value.int .i64 (((l.getD i 0).toNat : Nat) : Int))
    rw [Int.toNat_of_nonneg h0]
theorem selL_mem {p : Nat → Bool} {k : Nat} {z : Int} (h : z ∈ selL p k) : ∃ j : Nat, j < k ∧ p j = true ∧ z = j := by
  unfold selL at h
  obtain ⟨j, hj, rfl⟩ := List.mem_map.1 h
  have := List.mem_filter.1 hj
  exact ⟨j, List.mem_range.1 this.1, this.2, rfl⟩
/-- The elements of a set, one after the other. -/
def setY (s : Nat → Bool) : Nat → Nat := fun i => ((selL s 10).getD i 0).toNat
/-- How many they are. -/
def setN (s : Nat → Bool) : Nat := (selL s 10).length
/-- The normal closure of a set: the class of 0. -/
noncomputable def ncF (g : Nat → UInt8) (N : Nat) (s : Nat → Bool) : Nat → Bool := fun i => if i < N then (cgD N (N + N) (mapF (rcF g N)) (StI 0 (setY s) (setN s)) i == 0) else s i
theorem setN_nin {w : World} {B : Nat} {v : Value} {s : Nat → Bool} (h : OL w B v (selL s 10)) (hl : ∀ z ∈ selL s 10, 0 ≤ z) : ∃ ao co, v = .slice ao (setN s) co ∧ NIn w (.slice ao (setN s) co) (setN s) (fun i => (setY s i : Nat)) := OL.nin h hl
structure NQ where
  ao : Option Addr
  co : Nat
  b : Nat
theorem ncF_step (g : Nat → UInt8) (N : Nat) (s : Nat → Bool) (k j : Nat) (hk : k < N) : (fun i => if i < k + 1 then ncF g N s i else s i) j = if j = k then (cgD N (N + N) (mapF (rcF g N)) (StI 0 (setY s) (setN s)) k == 0) else (fun i => if i < k then ncF g N s i else s i) j := by
  show (if j < k + 1 then ncF g N s j else s j) = if j = k then _ else if j < k then ncF g N s j else s j
  by_cases h : j = k
  · subst h; rw [if_pos (by omega), if_pos rfl]; unfold ncF; rw [if_pos hk]
  · rw [if_neg h]
    by_cases h2 : j < k
    · rw [if_pos (by omega), if_pos h2]
    · rw [if_neg (by omega), if_neg h2]
theorem ncF_done (g : Nat → UInt8) (N : Nat) (s : Nat → Bool) : (fun i => if i < N then ncF g N s i else s i) = ncF g N s := by
  funext i
  by_cases h : i < N
  · rw [if_pos h]
  · rw [if_neg h]; unfold ncF; rw [if_neg h]
set_option maxRecDepth 20000 in
set_option maxHeartbeats 4000000 in
theorem normalClosureOf_any (N : Nat) (g : Nat → UInt8) (s : Nat → Bool) (w : World) (hq : IsSq N g) (hs : ∀ i, i < 10 → s i = true → i < N) :
    Calls Try.prog 62 #[.agg (sqc N g), .agg (bls 10 s)] w fun e w' => e = .returned (.agg (bls 10 (ncF g N s))) ∧ Below w.heap.size w w' := by
  have h1 := hq.lo
  have h10 := hq.hi
  have HQ := hid hq
  have HY : Hid (∀ i, i < setN s → setY s i < N) := hid (fun i hi => by
    have hi2 : i < (selL s 10).length := hi
    have hm : (selL s 10).getD i 0 ∈ selL s 10 := by
      rw [List.getD, List.getElem?_eq_getElem hi2]
      exact List.getElem_mem hi2
    obtain ⟨j, hj, hp, e⟩ := selL_mem hm
    have : setY s i = j := by unfold setY; rw [e]; simp
    rw [this]; exact hs j hj hp)
  have hN10 : setN s ≤ 10 := selL_len s 10
  have HP : Hid (∀ z ∈ selL s 10, 0 ≤ z) := hid (fun z hz => by obtain ⟨j, _, _, e⟩ := selL_mem hz; omega)
  clear hq hs
  obtain ⟨C, hC⟩ : ∃ C, cgD N (N + N) (mapF (rcF g N)) (StI 0 (setY s) (setN s)) = C := ⟨_, rfl⟩
  have HC := hid hC
  have HS := hid (fun (k j : Nat) (hk : k < N) => by have := ncF_step g N s k j hk; rw [hC] at this; exact this)
  clear hC
  have hH := Has.start3 w (sqc N g) (bls 10 s) (bls 10 fun _ => false) 31 75 75
  go_enter Try.func62, Try.ntmps62
  go_wp2_with (first | fail | (refine wpL_alloc rfl rfl zeroMe ?_; intro g hg; (try simp at hg); subst hg))
  refine wp_region_frame (X := NQ) (fun d x => [(7, bif d 0 then .agg (sqc N g) else undef), (8, bif d 1 then .agg (bls 10 s) else undef), (9, bif d 2 then .slice x.ao (setN s) x.co else undef), (10, bif d 3 then .agg (u8s 10 C) else undef), (5, bif d 4 then .pointer (some ⟨x.b, 0, none⟩) else undef)])
    (fun d x w' => Has w w' [(sqc N g, 31), (bls 10 s, 75), (bls 10 fun _ => false, 75)] ∧ (d 2 = true → (d 3 = false → Hid (NIn w' (.slice x.ao (setN s) x.co) (setN s) (fun i => (setY s i : Nat))))) ∧ (d 4 = true → w.heap.size + 3 ≤ x.b ∧ holds w' x.b (bif d 5 then u8s 10 C else u8s 10 fun _ => 0) 69) ∧ (d 3 = true → d 2 = true) ∧ (d 5 = true → d 4 = true)) (by kernel_rfl) (by kernel_rfl) ?h0_nc ?hs_nc ?hq_nc
  case h0_nc => exact ⟨⟨none, 0, 0⟩, (by simp [lput]), hH.drew, (fun h => by cases h), (fun h => by cases h), (fun h => by cases h), (fun h => by cases h)⟩
  case hs_nc =>
    refine ⟨?_, ?_, ?_, ?_, ?_, ?_, trivial⟩
    all_goals
      clear hH
      intro d x w1 hd hn hJ
      simp only [needs, Region.binds, reduceCtorEq, Bool.false_eq_true, false_implies, true_and, and_true, true_implies, forall_const] at hn
      simp only [lput, List.set, hn, cond_true]
      try simp only [hd, cond_false] at hJ
      obtain ⟨hH, hL, hB, I3_2, I5_4⟩ := hJ
      (try have hL_ := hL (by simp only [hn]))
      (try have hB_ := hB (by simp only [hn]))
      have zz := hH.size
      simp only [List.length_cons, List.length_nil] at zz
      go_wp2_with (first | fail | (refine wpL_loadFull rfl rfl rfl rowSq hH.h0 (sqc_size _ _) ?_) | (refine wpL_loadFull rfl rfl rfl rowMe hH.h1 (bls_size _ _) ?_) | (go_at_call 64; refine (membersList_any s _).mono ?_; rintro e w3 ⟨v, rfl, hb, hOL⟩; obtain ⟨ao, co, rfl, hNI⟩ := setN_nin hOL HP.out; have HNI := hid hNI; replace hH := hH.call' hb; replace hB := fun e => And.intro (hB e).1 (holds_below (hB e).2 hb (holds_lt (hB e).2)); clear hOL hNI) | (go_at_call 57; refine (congruenceOf_any N 0 (setN s) x.co g x.ao (setY s) _ HQ.out (by first | exact (hL_ hd).out | exact (hL_ rfl).out | exact (hL_ trivial).out | exact hL_.out) (by omega) HY.out hN10).mono ?_; rintro e w3 ⟨rfl, hb⟩; rw [HC.out]; have hC3 := True.intro; replace hH := hH.call' hb; replace hL := fun e f => hid ((hL e f).out.below hb); replace hB := fun e => And.intro (hB e).1 (holds_below (hB e).2 hb (holds_lt (hB e).2))) | (refine wpL_storeN (x := .tmp 5) rfl rfl rfl rfl rowDi hB_.2 (u8s_size _ _) (u8s_ok _ _) ?_; intro w5 hz5 hO hT; replace hH := hT _ _ hH hB_.1) | (refine wpL_allocN (o := ⟨some 5, _, _, _, _, _⟩) rfl rfl zeroDi ?_; intro mb w4 hz4 hl hb; replace hH := hH.call' hb; replace hL := fun e f => hid ((hL e f).out.below hb)))
      first
        | (have z3 : d 3 = false := (by first | exact imp_no I3_2 hd | exact imp_no I3_2 rfl); refine ⟨{ x with ao := ao, co := co }, ?_, hH, (fun _ _ => HNI), (fun e => hB (done_ne e (by decide))), (by intro e; simp [done]), (by intro e; first | (simp [done]; done) | (have e2 := I5_4 (done_ne e (by decide)); simp [done, e2]; done) | (simp [done, hn]; done))⟩; (simp [lput, done, hn, z3]; done))
        | (have z5 : d 5 = false := (by first | exact imp_no I5_4 hd | exact imp_no I5_4 rfl); have hmb : w.heap.size + 3 ≤ mb := (by omega); refine ⟨{ x with b := mb }, ?_, hH, (fun e => hL (done_ne e (by decide))), (fun _ => ⟨hmb, by simpa [done, z5] using hz4⟩), (by intro e; first | (simp [done]; done) | (have e2 := I3_2 (done_ne e (by decide)); simp [done, e2]; done) | (simp [done, hn]; done)), (by intro e; simp [done])⟩; (simp [lput, done, hn, z5]; done))
        | (have gz := hz5; refine ⟨x, ?_, hH, (fun e f => by simp [done, hn] at f), (fun _ => ⟨hB_.1, by simpa [done] using hz5⟩), (by intro e; first | (simp [done]; done) | (have e2 := I3_2 (done_ne e (by decide)); simp [done, e2]; done) | (simp [done, hn]; done)), (by intro e; simp [done, hn])⟩; (simp [lput, done, hn]; done))
        | (have gz := hC3; refine ⟨x, ?_, hH, (fun e f => by simp [done] at f), (fun e => hB (done_ne e (by decide))), (by intro e; simp [done, hn]), (by intro e; first | (simp [done]; done) | (have e2 := I5_4 (done_ne e (by decide)); simp [done, e2]; done) | (simp [done, hn]; done))⟩; (simp [lput, done, hn]; done))
        | (refine ⟨x, ?_, hH, (fun e => hL (done_ne e (by decide))), (fun e => hB (done_ne e (by decide))), (by intro e; first | (simp [done]; done) | (have e2 := I3_2 (done_ne e (by decide)); simp [done, e2]; done) | (simp [done, hn]; done)), (by intro e; first | (simp [done]; done) | (have e2 := I5_4 (done_ne e (by decide)); simp [done, e2]; done) | (simp [done, hn]; done))⟩; (simp [lput, done, hn]; done))
        | (refine ⟨?_, hH, (fun e => hL (done_ne e (by decide))), (fun e => hB (done_ne e (by decide))), (by intro e; first | (simp [done]; done) | (have e2 := I3_2 (done_ne e (by decide)); simp [done, e2]; done) | (simp [done, hn]; done)), (by intro e; first | (simp [done]; done) | (have e2 := I5_4 (done_ne e (by decide)); simp [done, e2]; done) | (simp [done, hn]; done))⟩; (simp [lput, done, hn]; done))
        | (refine ⟨x, ?_, hH, (fun e => hL (done_ne e (by decide))), (fun e => hB (done_ne e (by decide))), (by intro e; first | (simp [done]; done) | (have e2 := I3_2 (done_ne e (by decide)); simp [done, e2]; done) | (simp [done, hn]; done)), (by intro e; first | (simp [done]; done) | (have e2 := I5_4 (done_ne e (by decide)); simp [done, e2]; done) | (simp [done, hn]; done))⟩; (simp [lput, done, hn]; rfl))
        | (refine ⟨?_, hH, (fun e => hL (done_ne e (by decide))), (fun e => hB (done_ne e (by decide))), (by intro e; first | (simp [done]; done) | (have e2 := I3_2 (done_ne e (by decide)); simp [done, e2]; done) | (simp [done, hn]; done)), (by intro e; first | (simp [done]; done) | (have e2 := I5_4 (done_ne e (by decide)); simp [done, e2]; done) | (simp [done, hn]; done))⟩; (simp [lput, done, hn]; rfl))
        | (refine ⟨x, ?_, hH, (fun e => hL (done_ne e (by decide))), (fun e => hB (done_ne e (by decide))), (by intro e; first | (simp [done]; done) | (have e2 := I3_2 (done_ne e (by decide)); simp [done, e2]; done) | (simp [done, hn]; done)), (by intro e; first | (simp [done]; done) | (have e2 := I5_4 (done_ne e (by decide)); simp [done, e2]; done) | (simp [done, hn]; done))⟩; (simp [lput, done]; done))
        | (refine ⟨?_, hH, (fun e => hL (done_ne e (by decide))), (fun e => hB (done_ne e (by decide))), (by intro e; first | (simp [done]; done) | (have e2 := I3_2 (done_ne e (by decide)); simp [done, e2]; done) | (simp [done, hn]; done)), (by intro e; first | (simp [done]; done) | (have e2 := I5_4 (done_ne e (by decide)); simp [done, e2]; done) | (simp [done, hn]; done))⟩; (simp [lput, done]; done))
        | (refine ⟨x, ?_, hH, (fun e => hL (done_ne e (by decide))), (fun e => hB (done_ne e (by decide))), (by intro e; first | (simp [done]; done) | (have e2 := I3_2 (done_ne e (by decide)); simp [done, e2]; done) | (simp [done, hn]; done)), (by intro e; first | (simp [done]; done) | (have e2 := I5_4 (done_ne e (by decide)); simp [done, e2]; done) | (simp [done, hn]; done))⟩; (simp [lput, done]; rfl))
        | (refine ⟨?_, hH, (fun e => hL (done_ne e (by decide))), (fun e => hB (done_ne e (by decide))), (by intro e; first | (simp [done]; done) | (have e2 := I3_2 (done_ne e (by decide)); simp [done, e2]; done) | (simp [done, hn]; done)), (by intro e; first | (simp [done]; done) | (have e2 := I5_4 (done_ne e (by decide)); simp [done, e2]; done) | (simp [done, hn]; done))⟩; (simp [lput, done]; rfl))
  case hq_nc =>
    clear hH
    intro d x w1 hd hJ
    simp only [allDone, List.length_cons, List.length_nil, Nat.reduceAdd, and_true] at hd
    obtain ⟨hH, hL, hB, I3_2, I5_4⟩ := hJ
    replace hL := hL (by simp only [hd])
    replace hB := hB (by simp only [hd])
    clear I3_2
    clear I5_4
    simp only [hd, cond_true] at hH hB
    simp only [lput, List.set, hd, cond_true]
    clear hd
    clear hL
    rcases x with ⟨ao, co, b⟩
    obtain ⟨hlo, hB⟩ := hB
    replace hB : holds w1 b (u8s 10 C) 69 := hB
    have HLo : Hid (w.heap.size + 3 ≤ b) := hid hlo
    have c0 := hH.c0 0
    rw [sqc_get0] at c0
    clear hlo
    go_wp2
    clear c0
    go_loopw [13] (fun i wr => ∃ k : Nat, k ≤ N ∧ i = .int .i64 k ∧ Has w wr [(sqc N g, 31), (bls 10 (fun i => if i < k then ncF g N s i else s i), 75), (bls 10 fun _ => false, 75)] ∧ holds wr b (u8s 10 C) 69) (fun i _ => 10 - (intOf i).toNat)
    case atStart => exact ⟨0, by omega, rfl, by simpa using hH, hB⟩
    case round =>
      clear hH hB
      obtain ⟨k, hk, rfl, hH, hB⟩ := hrel
      by_cases hlt : k < N
      · have hlt' : (k : Int) < N := by omega
        have hk10 : (k : Int) < 10 := by omega
        obtain ⟨u, hu⟩ : ∃ u, C k = u := ⟨_, rfl⟩
        have c1 : wr.cell? ⟨b, k, none⟩ = some (.int .u8 u.toNat) := by rw [holds_cell hB, u8s_get _ _ _ (by omega), hu]
        have c2 := hH.c1 k
        rw [bls_get _ _ _ (by omega)] at c2
        have f2 := hH.f1 k
        by_cases hz : u = 0
        · have HU := hid (show (C k == 0) = true by rw [hu]; rw [hz]; rfl)
          have ui : ((u.toNat : Int) == 0) = true := by rw [hz]; rfl
          clear hu hz
          go_wp2
          go_roundw
          case rel => exact ⟨k + 1, by omega, by go_num, hH.s1 _ _ (bls_step 10 _ _ k true (fun j _ => by rw [← HU.out]; exact HS.out k j hlt)), holds_other hB _ _ (by simp; have := HLo.out; omega)⟩
          case measure => simp [intOf]; omega
        · have HU := hid (show (C k == 0) = false by rw [hu]; simpa using hz)
          have ui : ((u.toNat : Int) == 0) = false := by simp; exact fun h => hz (UInt8.toNat.inj (by simpa using h))
          clear hu hz
          go_wp2
          go_roundw
          case rel => exact ⟨k + 1, by omega, by go_num, hH.s1 _ _ (bls_step 10 _ _ k false (fun j _ => by rw [← HU.out]; exact HS.out k j hlt)), holds_other hB _ _ (by simp; have := HLo.out; omega)⟩
          case measure => simp [intOf]; omega
      · obtain rfl : k = N := by omega
        rw [ncF_done] at hH
        go_wp2_with (first | fail | (refine wpL_loadFull rfl rfl rfl rowMe hH.h1 (bls_size _ _) ?_) | (refine wpL_storeFull rfl rfl rfl rfl rowMe hH.h2 (bls_size _ _) (bls_ok _ _) ?_))
        exact ret_c rfl rfl hH.r2.h2 rowMe (bls_size _ _) ⟨rfl, hH.r2.below⟩
end Go.Proofs.Ytbdcbmennblcdab
namespace Go.Proofs.Ytbdcbmennblcdab
set_option linter.unusedVariables false
set_option linter.unusedSimpArgs false
open Go.RowKit
set_option maxRecDepth 20000 in
set_option maxHeartbeats 1000000 in
theorem implNormalClosure_err (o : Int) (g : Nat → UInt8) (b n c : Nat) (f : Nat → Int) (z : Int) (w : World) (hz : (z == 0) = false) (hR : Row w b n f)
    (hC : Hid (∀ w, Row w b n f → Calls Try.prog 61 #[.agg (sqc o g), .slice (some ⟨b, 0, none⟩) n c] w fun e w' => e = .returned (.tuple #[.agg (bls 10 fun _ => false), .int .i64 z]) ∧ Below w.heap.size w w')) :
    Calls Try.prog 26 #[.agg (sqc o g), .slice (some ⟨b, 0, none⟩) n c] w fun e w' => e = .returned (.tuple #[.slice none 0 0, .int .i64 z]) ∧ Below w.heap.size w w' := by
  have hz2 : ¬ (z = 0) := by simpa using hz
  have hH := Has.start1 w (sqc o g) 31
  replace hR := hid (hR.alloc (.cells (sqc o g) 31))
  go_enter Try.func26, Try.ntmps26
  go_wp2_with (first | fail | (refine wpL_loadFull rfl rfl rfl rowSq hH.h0 (sqc_size _ _) ?_) | (go_at_call 61; refine (hC.out _ hR.out).mono ?_; rintro e w2 ⟨rfl, hb⟩; replace hH := hH.call' hb; clear hb) | (refine wpL_allocN (o := ⟨some 6, _, _, _, _, _⟩) rfl rfl zeroMe ?_; intro gb w4 hgb hl4 hb; have hlo : w.heap.size + 1 ≤ gb := (by have := hH.size; simp only [List.length_cons, List.length_nil] at this; omega); replace hH := hH.call' hb; clear hb hl4) | (refine wpL_storeN (x := .tmp 6) rfl rfl rfl rfl rowMe hgb (bls_size _ _) (bls_ok _ _) ?_; intro w5 hz hOo hT; replace hgb := hz; replace hH := hT _ _ hH hlo; clear hz hOo hT))
  go_ret2
  exact ⟨rfl, hH.below⟩
set_option maxRecDepth 20000 in
set_option maxHeartbeats 1000000 in
theorem implIsNormal_err (o : Int) (g : Nat → UInt8) (b n c : Nat) (f : Nat → Int) (z : Int) (w : World) (hz : (z == 0) = false) (hR : Row w b n f)
    (hC : Hid (∀ w, Row w b n f → Calls Try.prog 61 #[.agg (sqc o g), .slice (some ⟨b, 0, none⟩) n c] w fun e w' => e = .returned (.tuple #[.agg (bls 10 fun _ => false), .int .i64 z]) ∧ Below w.heap.size w w')) :
    Calls Try.prog 23 #[.agg (sqc o g), .slice (some ⟨b, 0, none⟩) n c] w fun e w' => e = .returned (.tuple #[.bool false, .int .i64 z]) ∧ Below w.heap.size w w' := by
  have hz2 : ¬ (z = 0) := by simpa using hz
  have hH := Has.start1 w (sqc o g) 31
  replace hR := hid (hR.alloc (.cells (sqc o g) 31))
  go_enter Try.func23, Try.ntmps23
  go_wp2_with (first | fail | (refine wpL_loadFull rfl rfl rfl rowSq hH.h0 (sqc_size _ _) ?_) | (go_at_call 61; refine (hC.out _ hR.out).mono ?_; rintro e w2 ⟨rfl, hb⟩; replace hH := hH.call' hb; clear hb) | (refine wpL_allocN (o := ⟨some 6, _, _, _, _, _⟩) rfl rfl zeroMe ?_; intro gb w4 hgb hl4 hb; have hlo : w.heap.size + 1 ≤ gb := (by have := hH.size; simp only [List.length_cons, List.length_nil] at this; omega); replace hH := hH.call' hb; clear hb hl4) | (refine wpL_storeN (x := .tmp 6) rfl rfl rfl rfl rowMe hgb (bls_size _ _) (bls_ok _ _) ?_; intro w5 hz hOo hT; replace hgb := hz; replace hH := hT _ _ hH hlo; clear hz hOo hT))
  go_ret2
  exact ⟨rfl, hH.below⟩
set_option maxRecDepth 20000 in
set_option maxHeartbeats 4000000 in
theorem implNormalClosure_in (N b n c : Nat) (g : Nat → UInt8) (f : Nat → Int) (w : World) (hq : IsSq N g) (hR : Row w b n f) (hIn : ∀ i, i < 10 → inL f n i = true → i < N)
    (hC : Hid (∀ w, Row w b n f → Calls Try.prog 61 #[.agg (sqc N g), .slice (some ⟨b, 0, none⟩) n c] w fun e w' => e = .returned (.tuple #[.agg (bls 10 (inL f n)), .int .i64 0]) ∧ Below w.heap.size w w')) :
    Calls Try.prog 26 #[.agg (sqc N g), .slice (some ⟨b, 0, none⟩) n c] w (GotL (selL (ncF g N (inL f n)) 10) 0 w) := by
  have HQ := hid hq
  have HIn := hid hIn
  clear hq hIn
  have hH := Has.start1 w (sqc N g) 31
  replace hR := hid (hR.alloc (.cells (sqc N g) 31))
  go_enter Try.func26, Try.ntmps26
  go_wp2_with (first | fail | (refine wpL_loadFull rfl rfl rfl rowSq hH.h0 (sqc_size _ _) ?_) | (refine wpL_loadFull (x := .tmp 6) rfl rfl rfl rowMe hgb (bls_size _ _) ?_) | (go_at_call 61; refine (hC.out _ hR.out).mono ?_; rintro e w2 ⟨rfl, hb⟩; replace hH := hH.call' hb; clear hb hR) | (refine wpL_allocN (o := ⟨some 6, _, _, _, _, _⟩) rfl rfl zeroMe ?_; intro gb w4 hgb hl4 hb; have hlo : w.heap.size + 1 ≤ gb := (by have := hH.size; simp only [List.length_cons, List.length_nil] at this; omega); replace hH := hH.call' hb; clear hb hl4) | (refine wpL_storeN (x := .tmp 6) rfl rfl rfl rfl rowMe hgb (bls_size _ _) (bls_ok _ _) ?_; intro w5 hz hOo hT; replace hgb := hz; replace hH := hT _ _ hH hlo; clear hz hOo hT) | (go_at_call 62; refine (normalClosureOf_any N g (inL f n) _ HQ.out HIn.out).mono ?_; rintro e w6 ⟨rfl, hb⟩; replace hH := hH.call' hb; clear hb hgb) | (go_at_call 64; refine (membersList_any (ncF g N (inL f n)) _).mono ?_; rintro e w7 ⟨v0, rfl, hb, hO⟩; have hlo2 := hH.size; simp only [List.length_cons, List.length_nil] at hlo2; replace hH := hH.call' hb; clear hb))
  go_ret2
  exact hO.got hH.below (by omega)
set_option maxRecDepth 20000 in
set_option maxHeartbeats 4000000 in
theorem implIsNormal_in (N b n c : Nat) (g : Nat → UInt8) (f : Nat → Int) (w : World) (hq : IsSq N g) (hR : Row w b n f) (hIn : ∀ i, i < 10 → inL f n i = true → i < N)
    (hC : Hid (∀ w, Row w b n f → Calls Try.prog 61 #[.agg (sqc N g), .slice (some ⟨b, 0, none⟩) n c] w fun e w' => e = .returned (.tuple #[.agg (bls 10 (inL f n)), .int .i64 0]) ∧ Below w.heap.size w w')) :
    Calls Try.prog 23 #[.agg (sqc N g), .slice (some ⟨b, 0, none⟩) n c] w fun e w' => e = .returned (.tuple #[.bool (eqL (ncF g N (inL f n)) (inL f n)), .int .i64 0]) ∧ Below w.heap.size w w' := by
  have HQ := hid hq
  have HIn := hid hIn
  clear hq hIn
  have hH := Has.start1 w (sqc N g) 31
  replace hR := hid (hR.alloc (.cells (sqc N g) 31))
  go_enter Try.func23, Try.ntmps23
  go_wp2_with (first | fail | (refine wpL_loadFull rfl rfl rfl rowSq hH.h0 (sqc_size _ _) ?_) | (go_at_call 61; refine (hC.out _ hR.out).mono ?_; rintro e w2 ⟨rfl, hb⟩; replace hH := hH.call' hb; clear hb hR) | (refine wpL_allocN (o := ⟨some 6, _, _, _, _, _⟩) rfl rfl zeroMe ?_; intro gb w4 hgb hl4 hb; have hlo : w.heap.size + 1 ≤ gb := (by have := hH.size; simp only [List.length_cons, List.length_nil] at this; omega); replace hH := hH.call' hb; clear hb hl4) | (refine wpL_storeN (x := .tmp 6) rfl rfl rfl rfl rowMe hgb (bls_size _ _) (bls_ok _ _) ?_; intro w5 hz hOo hT; replace hgb := hz; replace hH := hT _ _ hH hlo; clear hz hOo hT))
  refine wp_region_frame (X := Unit) (fun d _ => [(17, bif d 0 then .agg (sqc N g) else undef), (18, bif d 1 then .agg (bls 10 (inL f n)) else undef), (19, bif d 2 then .agg (bls 10 (ncF g N (inL f n))) else undef), (20, bif d 3 then .agg (bls 10 (inL f n)) else undef), (21, bif d 4 then .bool (eqL (ncF g N (inL f n)) (inL f n)) else undef), (4, bif d 5 then .bool (eqL (ncF g N (inL f n)) (inL f n)) else .bool false), (5, bif d 6 then .int .i64 0 else .int .i64 0)])
    (fun d _ w' => Has w w' [(sqc N g, 31)] ∧ holds w' gb (bls 10 (inL f n)) 75) (by kernel_rfl) (by kernel_rfl) ?h0_sb ?hs_sb ?hq_sb
  case h0_sb => exact ⟨(), (by simp [lput]), hH.drew, (show _ from hgb)⟩
  case hs_sb =>
    refine ⟨?_, ?_, ?_, ?_, ?_, ?_, ?_, trivial⟩
    all_goals
      clear hH hgb
      intro d _ w1 hd hn hJ
      simp only [needs, Region.binds, reduceCtorEq, Bool.false_eq_true, false_implies, true_and, and_true, true_implies, forall_const] at hn
      simp only [lput, List.set, hn, cond_true]
      obtain ⟨hH, hgb⟩ := hJ
      go_wp2_with (first | fail | (refine wpL_loadFull rfl rfl rfl rowSq hH.h0 (sqc_size _ _) ?_) | (refine wpL_loadFull (x := .tmp 6) rfl rfl rfl rowMe hgb (bls_size _ _) ?_) | (go_at_call 62; refine (normalClosureOf_any N g (inL f n) _ HQ.out HIn.out).mono ?_; rintro e w6 ⟨rfl, hb⟩; replace hH := hH.call' hb; replace hgb := holds_below hgb hb (holds_lt hgb); clear hb) | (refine wpL_eqAgg rfl rfl rfl rfl gdMe (eqMe _ _ _) ?_))
      first
        | (refine ⟨(), ?_, hH, hgb⟩; (simp [lput, done, hn]; done))
        | (refine ⟨?_, hH, hgb⟩; (simp [lput, done, hn]; done))
        | (refine ⟨(), ?_, hH, hgb⟩; (simp [lput, done, hn]; rfl))
        | (refine ⟨?_, hH, hgb⟩; (simp [lput, done, hn]; rfl))
        | (refine ⟨(), ?_, hH, hgb⟩; (simp [lput, done]; done))
        | (refine ⟨?_, hH, hgb⟩; (simp [lput, done]; done))
        | (refine ⟨(), ?_, hH, hgb⟩; (simp [lput, done]; rfl))
        | (refine ⟨?_, hH, hgb⟩; (simp [lput, done]; rfl))
  case hq_sb =>
    clear hH hgb
    intro d _ w1 hd hJ
    simp only [allDone, List.length_cons, List.length_nil, Nat.reduceAdd, and_true] at hd
    obtain ⟨hH, hgb⟩ := hJ
    simp only [lput, List.set, hd, cond_true]
    clear hd
    go_wp2
    go_ret2
    exact ⟨rfl, hH.below⟩
end Go.Proofs.Ytbdcbmennblcdab
