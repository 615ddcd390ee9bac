/- Proved: what DerivedSubloop and AssociatorSubloop return, of program and model alike. Conditions: those that each theorem names. -/
import Derived.Test.YtbdcbmennblcdabNu
import Derived.Test.YtbdcbmennblcdabLc
import Derived.Test.YtbdcbmennblcdabPa
import Derived.Test.YtbdcbmennblcdabMl
import Derived.Deep.LoopGhost
import Derived.Shelf.Abstract
import Derived.Test.YtbdcbmennblcdabNz
import Derived.Test.YtbdcbmennblcdabPc0
import Derived.Great.Walk
namespace Go.Proofs.Ytbdcbmennblcdab
set_option linter.unusedVariables false
set_option linter.unusedSimpArgs false
open Go.RowKit
end Go.Proofs.Ytbdcbmennblcdab
namespace Go.Proofs.Ytbdcbmennblcdab
set_option linter.unusedVariables false
set_option linter.unusedSimpArgs false
open Go.RowKit
/-- The divided square of a square stands in block gb. -/
abbrev Dv (w : World) (gb N : Nat) (g : Nat → UInt8) : Prop := holds w gb (dvc N g (unF g N) (ovF g N)) 152
theorem Dv.below {w w' : World} {gb N : Nat} {g : Nat → UInt8} (h : Dv w gb N g) (hb : Below w.heap.size w w') : Dv w' gb N g := holds_below h hb (holds_lt h)
set_option maxRecDepth 20000 in
set_option maxHeartbeats 1000000 in
theorem product_any (N gb : Nat) (g : Nat → UInt8) (x y : UInt8) (w : World) (h10 : N ≤ 10) (hx : x.toNat < N) (hy : y.toNat < N) (hg : Dv w gb N g) :
    Calls Try.prog 141 #[.pointer (some ⟨gb, 0, none⟩), .int .u8 x.toNat, .int .u8 y.toNat] w fun e w' => e = .returned (.int .u8 (g (x.toNat * 10 + y.toNat)).toNat) ∧ Below w.heap.size w w' := by
  have hx' : (x.toNat : Int) < 10 := by omega
  have hy' : (y.toNat : Int) < 10 := by omega
  have ca : w.cell? ⟨gb, 1 + x.toNat * 10 + y.toNat, none⟩ = some (.int .u8 (g (x.toNat * 10 + y.toNat)).toNat) := by rw [holds_cell hg, dvc_get0 _ _ _ _ _ (by omega), Nat.add_assoc, sqc_get _ _ _ (by omega)]
  go_enter Try.func141, Try.ntmps141
  go_wp2
  go_ret
  exact ⟨rfl, Below.refl _ _⟩
set_option maxRecDepth 20000 in
set_option maxHeartbeats 1000000 in
theorem leftQuotient_any (N gb : Nat) (g : Nat → UInt8) (x y : UInt8) (w : World) (h10 : N ≤ 10) (hx : x.toNat < N) (hy : y.toNat < N) (hg : Dv w gb N g) :
    Calls Try.prog 140 #[.pointer (some ⟨gb, 0, none⟩), .int .u8 x.toNat, .int .u8 y.toNat] w fun e w' => e = .returned (.int .u8 (ld g N x.toNat y.toNat).toNat) ∧ Below w.heap.size w w' := by
  have hx' : (x.toNat : Int) < 10 := by omega
  have hy' : (y.toNat : Int) < 10 := by omega
  have hv : unF g N (x.toNat * 10 + y.toNat) = ld g N x.toNat y.toNat := unF_get h10 hx hy
  have ca : w.cell? ⟨gb, 102 + x.toNat * 10 + y.toNat, none⟩ = some (.int .u8 (ld g N x.toNat y.toNat).toNat) := by rw [holds_cell hg, Nat.add_assoc, dvc_byte1 _ _ _ _ _ (by omega), hv]
  clear hv
  go_enter Try.func140, Try.ntmps140
  go_wp2
  go_ret
  exact ⟨rfl, Below.refl _ _⟩
end Go.Proofs.Ytbdcbmennblcdab
namespace Go.Proofs.Ytbdcbmennblcdab
set_option linter.unusedVariables false
set_option linter.unusedSimpArgs false
open Go.RowKit
set_option maxRecDepth 20000 in
set_option maxHeartbeats 1000000 in
theorem commutator_any (N gb : Nat) (g : Nat → UInt8) (x y : UInt8) (w : World) (hq : IsSq N g) (hx : x.toNat < N) (hy : y.toNat < N) (hg : Dv w gb N g) :
    Calls Try.prog 110 #[.pointer (some ⟨gb, 0, none⟩), .int .u8 x.toNat, .int .u8 y.toNat] w fun e w' => e = .returned (.int .u8 (cmm g N x.toNat y.toNat).toNat) ∧ Below w.heap.size w w' := by
  have h10 := hq.hi
  obtain ⟨p, hp⟩ : ∃ p : UInt8, g (y.toNat * 10 + x.toNat) = p := ⟨_, rfl⟩
  obtain ⟨q, hqq⟩ : ∃ q : UInt8, g (x.toNat * 10 + y.toNat) = q := ⟨_, rfl⟩
  have hpl : p.toNat < N := by rw [← hp]; exact mu_lt hq hy hx
  have hql : q.toNat < N := by rw [← hqq]; exact mu_lt hq hx hy
  have hv : cmm g N x.toNat y.toNat = ld g N p.toNat q.toNat := by unfold cmm mu; rw [hp, hqq]
  rw [hv]
  have HP := hid hp
  have HQ := hid hqq
  clear hp hqq hv hq
  have hB : Below w.heap.size w w := Below.refl _ _
  go_enter Try.func110, Try.ntmps110
  go_wp2_with (first | (go_at_call 141; with_reducible refine (product_any N gb g y x _ h10 hy hx hg).mono ?_; rintro e w2 ⟨rfl, hb⟩; rw [HP.out]; replace hg := Dv.below hg hb; replace hB := hB.trans (hb.mono hB.size); clear hb) | (go_at_call 141; with_reducible refine (product_any N gb g x y _ h10 hx hy hg).mono ?_; rintro e w3 ⟨rfl, hb⟩; rw [HQ.out]; replace hg := Dv.below hg hb; replace hB := hB.trans (hb.mono hB.size); clear hb) | (go_at_call 140; with_reducible refine (leftQuotient_any N gb g p q _ h10 hpl hql hg).mono ?_; rintro e w4 ⟨rfl, hb⟩; replace hB := hB.trans (hb.mono hB.size); clear hb))
  go_ret
  exact ⟨rfl, hB⟩
set_option maxRecDepth 20000 in
set_option maxHeartbeats 1000000 in
theorem associator_any (N gb : Nat) (g : Nat → UInt8) (x y z : UInt8) (w : World) (hq : IsSq N g) (hx : x.toNat < N) (hy : y.toNat < N) (hz : z.toNat < N) (hg : Dv w gb N g) :
    Calls Try.prog 109 #[.pointer (some ⟨gb, 0, none⟩), .int .u8 x.toNat, .int .u8 y.toNat, .int .u8 z.toNat] w fun e w' => e = .returned (.int .u8 (asc g N x.toNat y.toNat z.toNat).toNat) ∧ Below w.heap.size w w' := by
  have h10 := hq.hi
  obtain ⟨p, hp⟩ : ∃ p : UInt8, g (y.toNat * 10 + z.toNat) = p := ⟨_, rfl⟩
  obtain ⟨q, hqq⟩ : ∃ q : UInt8, g (x.toNat * 10 + y.toNat) = q := ⟨_, rfl⟩
  have hpl : p.toNat < N := by rw [← hp]; exact mu_lt hq hy hz
  have hql : q.toNat < N := by rw [← hqq]; exact mu_lt hq hx hy
  obtain ⟨r, hr⟩ : ∃ r : UInt8, g (x.toNat * 10 + p.toNat) = r := ⟨_, rfl⟩
  obtain ⟨s, hs⟩ : ∃ s : UInt8, g (q.toNat * 10 + z.toNat) = s := ⟨_, rfl⟩
  have hrl : r.toNat < N := by rw [← hr]; exact mu_lt hq hx hpl
  have hsl : s.toNat < N := by rw [← hs]; exact mu_lt hq hql hz
  have hv : asc g N x.toNat y.toNat z.toNat = ld g N r.toNat s.toNat := by unfold asc mu; rw [hp, hqq, hr, hs]
  rw [hv]
  have HP := hid hp
  have HQ := hid hqq
  have HR := hid hr
  have HS := hid hs
  clear hp hqq hr hs hv hq
  have hB : Below w.heap.size w w := Below.refl _ _
  go_enter Try.func109, Try.ntmps109
  go_wp2_with (first | (go_at_call 141; with_reducible refine (product_any N gb g y z _ h10 hy hz hg).mono ?_; rintro e w2 ⟨rfl, hb⟩; rw [HP.out]; replace hg := Dv.below hg hb; replace hB := hB.trans (hb.mono hB.size); clear hb) | (go_at_call 141; with_reducible refine (product_any N gb g x y _ h10 hx hy hg).mono ?_; rintro e w3 ⟨rfl, hb⟩; rw [HQ.out]; replace hg := Dv.below hg hb; replace hB := hB.trans (hb.mono hB.size); clear hb) | (go_at_call 141; with_reducible refine (product_any N gb g x p _ h10 hx hpl hg).mono ?_; rintro e w4 ⟨rfl, hb⟩; rw [HR.out]; replace hg := Dv.below hg hb; replace hB := hB.trans (hb.mono hB.size); clear hb) | (go_at_call 141; with_reducible refine (product_any N gb g q z _ h10 hql hz hg).mono ?_; rintro e w5 ⟨rfl, hb⟩; rw [HS.out]; replace hg := Dv.below hg hb; replace hB := hB.trans (hb.mono hB.size); clear hb) | (go_at_call 140; with_reducible refine (leftQuotient_any N gb g r s _ h10 hrl hsl hg).mono ?_; rintro e w6 ⟨rfl, hb⟩; replace hB := hB.trans (hb.mono hB.size); clear hb))
  go_ret
  exact ⟨rfl, hB⟩
end Go.Proofs.Ytbdcbmennblcdab
namespace Go.Proofs.Ytbdcbmennblcdab
set_option linter.unusedVariables false
set_option linter.unusedSimpArgs false
open Go.RowKit
/-- Block b begins with the m functions ids. -/
def DRow (w : World) (b m : Nat) (ids : Nat → FuncId) : Prop := ∃ cs, holds w b cs 153 ∧ ∀ j, j < m → cs[j]? = some (.func (.func (ids j)) #[] #[])
theorem DRow.lt {w : World} {b m : Nat} {ids : Nat → FuncId} (h : DRow w b m ids) : b < w.heap.size := by
  obtain ⟨cs, h1, _⟩ := h; exact holds_lt h1
theorem DRow.block {w w' : World} {b m : Nat} {ids : Nat → FuncId} (h : DRow w b m ids) (e : w'.heap[b]? = w.heap[b]?) : DRow w' b m ids := by
  obtain ⟨cs, h1, h2⟩ := h; exact ⟨cs, by show w'.heap[b]? = _; rw [e]; exact h1, h2⟩
theorem DRow.below {w w' : World} {b m : Nat} {ids : Nat → FuncId} (h : DRow w b m ids) (hb : Below w.heap.size w w') : DRow w' b m ids := h.block (hb.block b h.lt)
theorem DRow.alloc {w : World} {b m : Nat} {ids : Nat → FuncId} (h : DRow w b m ids) (o : Obj) : DRow (w.alloc o) b m ids := h.block (heap_alloc_old w o h.lt)
theorem DRow.cell {w : World} {b m : Nat} {ids : Nat → FuncId} (h : DRow w b m ids) {j : Nat} (hj : j < m) : w.cell? ⟨b, j, none⟩ = some (.func (.func (ids j)) #[] #[]) := by
  obtain ⟨cs, h1, h2⟩ := h; rw [holds_cell h1]; exact h2 j hj
theorem Dv.alloc {w : World} {gb N : Nat} {g : Nat → UInt8} (h : Dv w gb N g) (o : Obj) : Dv (w.alloc o) gb N g := holds_alloc h o
/-- All m differences of a are in the set s. -/
def winP (N m : Nat) (s : Nat → Bool) (D : Nat → Nat → Nat → Nat → UInt8) (a : Nat) : Prop := ∀ x, x < N → ∀ y, y < N → ∀ j, j < m → s (D j a x y).toNat = true
noncomputable def winB (N m : Nat) (s : Nat → Bool) (D : Nat → Nat → Nat → Nat → UInt8) (a : Nat) : Bool := @decide (winP N m s D a) (Classical.propDecidable _)
theorem winB_iff {N m : Nat} {s : Nat → Bool} {D : Nat → Nat → Nat → Nat → UInt8} {a : Nat} : winB N m s D a = true ↔ winP N m s D a := by unfold winB; exact @decide_eq_true_iff _ (Classical.propDecidable _)
theorem winB_no {N m : Nat} {s : Nat → Bool} {D : Nat → Nat → Nat → Nat → UInt8} {a x y j : Nat} (hx : x < N) (hy : y < N) (hj : j < m) (h : s (D j a x y).toNat = false) : winB N m s D a = false := by
  cases e : winB N m s D a with
  | false => rfl
  | true => rw [winB_iff.1 e x hx y hy j hj] at h; cases h
noncomputable def foF (N m : Nat) (s : Nat → Bool) (D : Nat → Nat → Nat → Nat → UInt8) (k : Nat) : Nat → Bool := fun i => decide (i < k) && winB N m s D i
theorem foF_zero (N m : Nat) (s : Nat → Bool) (D : Nat → Nat → Nat → Nat → UInt8) : foF N m s D 0 = fun _ => false := by funext i; simp [foF]
theorem foF_yes {N m : Nat} {s : Nat → Bool} {D : Nat → Nat → Nat → Nat → UInt8} {k : Nat} (h : winB N m s D k = true) (j : Nat) : foF N m s D (k + 1) j = if j = k then true else foF N m s D k j := by
  unfold foF
  by_cases e : j = k
  · subst e; simp [h]
  · rw [if_neg e]
    congr 1
    simp only [decide_eq_decide]; omega
theorem foF_no {N m : Nat} {s : Nat → Bool} {D : Nat → Nat → Nat → Nat → UInt8} {k : Nat} (h : winB N m s D k = false) : foF N m s D (k + 1) = foF N m s D k := by
  funext j
  unfold foF
  by_cases e : j = k
  · subst e; simp [h]
  · congr 1
    simp only [decide_eq_decide]; omega
/-- The boxes of the walk. -/
abbrev DBox (w wr : World) (N m : Nat) (s : Nat → Bool) (D : Nat → Nat → Nat → Nat → UInt8) (k : Nat) : Prop :=
  Has w wr [(bls 10 s, 75), (bls 10 fun _ => false, 75), (bls 10 (foF N m s D k), 75)]
end Go.Proofs.Ytbdcbmennblcdab
namespace Go.Proofs.Ytbdcbmennblcdab
set_option linter.unusedVariables false
set_option linter.unusedSimpArgs false
open Go.RowKit
/-- The set S with the number u. -/
def insS (S : Nat → Bool) (u : Nat) : Nat → Bool := fun j => if j = u then true else S j
def flS (F : Nat → (Nat → Bool) → (Nat → Bool)) (S : Nat → Bool) : Nat → (Nat → Bool)
  | 0 => S
  | k + 1 => F k (flS F S k)
theorem insS_iff {S : Nat → Bool} {u j : Nat} : insS S u j = true ↔ S j = true ∨ u = j := by
  unfold insS
  by_cases e : j = u
  · simp [e]
  · simp [e, Ne.symm e]
theorem flS_iff {F : Nat → (Nat → Bool) → (Nat → Bool)} {S : Nat → Bool} {n j : Nat} {P : Nat → Prop} (h : ∀ k T, k < n → (F k T j = true ↔ T j = true ∨ P k)) : ∀ m, m ≤ n → (flS F S m j = true ↔ S j = true ∨ ∃ k, k < m ∧ P k)
  | 0, _ => ⟨fun e => .inl e, fun e => by rcases e with e | ⟨k, hk, _⟩; exact e; omega⟩
  | m + 1, hm => by
    show F m (flS F S m) j = true ↔ _
    rw [h m _ (by omega), flS_iff h m (by omega)]
    constructor
    · rintro ((e | ⟨k, hk, hp⟩) | hp)
      · exact .inl e
      · exact .inr ⟨k, by omega, hp⟩
      · exact .inr ⟨m, by omega, hp⟩
    · rintro (e | ⟨k, hk, hp⟩)
      · exact .inl (.inl e)
      · by_cases c : k = m
        · subst c; exact .inr hp
        · exact .inl (.inr ⟨k, by omega, hp⟩)
/-- The model's set: associators, and commutators too if both is set. -/
def mzS (g : Nat → UInt8) (N x y : Nat) (S : Nat → Bool) (k : Nat) : Nat → Bool := flS (fun z T => insS T (asc g N x y z).toNat) S k
def mcS (g : Nat → UInt8) (N : Nat) (both : Bool) (x y : Nat) (S : Nat → Bool) : Nat → Bool := if both then insS S (cmm g N x y).toNat else S
def myS (g : Nat → UInt8) (N : Nat) (both : Bool) (x : Nat) (S : Nat → Bool) (k : Nat) : Nat → Bool := flS (fun y T => mzS g N x y (mcS g N both x y T) N) S k
def mxS (g : Nat → UInt8) (N : Nat) (both : Bool) (k : Nat) : Nat → Bool := flS (fun x T => myS g N both x T N) (fun _ => false) k
/-- The program's set, for m differences D. -/
def pjS (D : Nat → Nat → Nat → Nat → UInt8) (a x y : Nat) (S : Nat → Bool) (k : Nat) : Nat → Bool := flS (fun j T => insS T (D j a x y).toNat) S k
def pyS (D : Nat → Nat → Nat → Nat → UInt8) (N m a x : Nat) (S : Nat → Bool) (k : Nat) : Nat → Bool := flS (fun y T => pjS D a x y T m) S k
def pxS (D : Nat → Nat → Nat → Nat → UInt8) (N m a : Nat) (S : Nat → Bool) (k : Nat) : Nat → Bool := flS (fun x T => pyS D N m a x T N) S k
def paS (D : Nat → Nat → Nat → Nat → UInt8) (N m : Nat) (k : Nat) : Nat → Bool := flS (fun a T => pxS D N m a T N) (fun _ => false) k
/-- What is in these sets. -/
def isDf (g : Nat → UInt8) (N : Nat) (both : Bool) (j : Nat) : Prop := ∃ x, x < N ∧ ∃ y, y < N ∧ ((both = true ∧ (cmm g N x y).toNat = j) ∨ ∃ z, z < N ∧ (asc g N x y z).toNat = j)
theorem mxS_iff {g : Nat → UInt8} {N : Nat} {both : Bool} {j : Nat} : mxS g N both N j = true ↔ isDf g N both j := by
  have hz : ∀ x y S, mzS g N x y S N j = true ↔ S j = true ∨ ∃ z, z < N ∧ (asc g N x y z).toNat = j := fun x y S => flS_iff (F := fun z T => insS T (asc g N x y z).toNat) (P := fun z => (asc g N x y z).toNat = j) (n := N) (fun k T _ => insS_iff) N (Nat.le_refl _)
  have hc : ∀ x y S, mcS g N both x y S j = true ↔ S j = true ∨ (both = true ∧ (cmm g N x y).toNat = j) := fun x y S => by
    unfold mcS
    cases both with
    | true => rw [if_pos rfl, insS_iff]; simp
    | false => simp
  have hy : ∀ x S, myS g N both x S N j = true ↔ S j = true ∨ ∃ y, y < N ∧ ((both = true ∧ (cmm g N x y).toNat = j) ∨ ∃ z, z < N ∧ (asc g N x y z).toNat = j) := fun x S =>
    flS_iff (n := N) (fun y T _ => by rw [hz, hc, or_assoc]) N (Nat.le_refl _)
  have hx := flS_iff (n := N) (S := fun _ => false) (F := fun x T => myS g N both x T N) (fun x T _ => hy x T) N (Nat.le_refl _)
  show flS (fun x T => myS g N both x T N) (fun _ => false) N j = true ↔ _
  rw [hx]
  simp [isDf]
/-- The program's differences: of associators, and of commutators. -/
def ddF (g : Nat → UInt8) (N j a x y : Nat) : UInt8 := if j = 0 then asc g N a x y else cmm g N a x
theorem paS_iff {g : Nat → UInt8} {N m : Nat} {both : Bool} {j : Nat} (hm : m = if both then 2 else 1) : paS (ddF g N) N m N j = true ↔ isDf g N both j := by
  have hj : ∀ a x y S, pjS (ddF g N) a x y S m j = true ↔ S j = true ∨ ∃ i, i < m ∧ (ddF g N i a x y).toNat = j := fun a x y S => flS_iff (F := fun i T => insS T (ddF g N i a x y).toNat) (P := fun i => (ddF g N i a x y).toNat = j) (n := m) (fun k T _ => insS_iff) m (Nat.le_refl _)
  have hy : ∀ a x S, pyS (ddF g N) N m a x S N j = true ↔ S j = true ∨ ∃ y, y < N ∧ ∃ i, i < m ∧ (ddF g N i a x y).toNat = j := fun a x S => flS_iff (n := N) (fun y T _ => hj a x y T) N (Nat.le_refl _)
  have hx : ∀ a S, pxS (ddF g N) N m a S N j = true ↔ S j = true ∨ ∃ x, x < N ∧ ∃ y, y < N ∧ ∃ i, i < m ∧ (ddF g N i a x y).toNat = j := fun a S => flS_iff (n := N) (fun x T _ => hy a x T) N (Nat.le_refl _)
  have ha := flS_iff (n := N) (S := fun _ => false) (F := fun a T => pxS (ddF g N) N m a T N) (fun a T _ => hx a T) N (Nat.le_refl _)
  show flS (fun a T => pxS (ddF g N) N m a T N) (fun _ => false) N j = true ↔ _
  rw [ha]
  unfold isDf
  constructor
  · rintro (h | ⟨a, h1, x, h2, y, h3, i, h4, h5⟩)
    · cases h
    · refine ⟨a, h1, x, h2, ?_⟩
      unfold ddF at h5
      by_cases e : i = 0
      · rw [if_pos e] at h5; exact .inr ⟨y, h3, h5⟩
      · rw [if_neg e] at h5
        cases both with
        | true => exact .inl ⟨rfl, h5⟩
        | false => simp at hm; omega
  · rintro ⟨x, h1, y, h2, (⟨hb, h3⟩ | ⟨z, h3, h4⟩)⟩
    · subst hb
      simp at hm
      exact .inr ⟨x, h1, y, h2, y, h2, 1, by omega, h3⟩
    · refine .inr ⟨x, h1, y, h2, z, h3, 0, ?_, h4⟩
      cases both <;> simp at hm <;> omega
theorem isDf_lt {g : Nat → UInt8} {N : Nat} {both : Bool} {j : Nat} (hq : IsSq N g) (h : isDf g N both j) : j < N := by
  obtain ⟨x, h1, y, h2, (⟨_, h3⟩ | ⟨z, h3, h4⟩)⟩ := h
  · rw [← h3]; exact cmm_lt hq h1 h2
  · rw [← h4]; exact asc_lt hq h1 h2 h3
theorem df_same {g : Nat → UInt8} {N m : Nat} {both : Bool} (hm : m = if both then 2 else 1) : paS (ddF g N) N m N = mxS g N both N := by
  funext j
  have h : paS (ddF g N) N m N j = true ↔ mxS g N both N j = true := (paS_iff hm).trans mxS_iff.symm
  cases h1 : paS (ddF g N) N m N j <;> cases h2 : mxS g N both N j <;> simp_all
/-- The list of a set is a rising one, and its set is the set. -/
theorem selL_ok (s : Nat → Bool) (N : Nat) : ∀ k, k ≤ N → ∀ i, i < (selL s k).length → OkAt (fun i => (selL s k).getD i 0) N i ∧ (selL s k).getD i 0 < (k : Int)
  | 0, _, i, hi => by simp [selL] at hi
  | k + 1, hk, i, hi => by
    cases hb : s k with
    | false =>
      rw [selL_no hb] at hi ⊢
      have := selL_ok s N k (by omega) i hi
      exact ⟨this.1, by have := this.2; omega⟩
    | true =>
      rw [selL_yes hb] at hi ⊢
      have hg : ∀ t, t < (selL s k).length → (selL s k ++ [(k : Int)]).getD t 0 = (selL s k).getD t 0 := fun t ht => by
        rw [List.getD_eq_getElem?_getD, List.getD_eq_getElem?_getD, List.getElem?_append_left ht]
      have hl : (selL s k ++ [(k : Int)]).getD (selL s k).length 0 = (k : Int) := by simp [List.getD_eq_getElem?_getD]
      by_cases c : i < (selL s k).length
      · have := selL_ok s N k (by omega) i c
        obtain ⟨⟨a1, a2, a3⟩, a4⟩ := this
        refine ⟨⟨?_, ?_, fun h0 => ?_⟩, ?_⟩
        · show 0 ≤ (selL s k ++ [(k : Int)]).getD i 0; rw [hg i c]; exact a1
        · show (selL s k ++ [(k : Int)]).getD i 0 < (N : Int); rw [hg i c]; exact a2
        · show (selL s k ++ [(k : Int)]).getD (i - 1) 0 < (selL s k ++ [(k : Int)]).getD i 0
          rw [hg i c, hg (i - 1) (by omega)]; exact a3 h0
        · rw [hg i c]; omega
      · have e : i = (selL s k).length := by simp at hi; omega
        subst e
        refine ⟨⟨?_, ?_, fun h0 => ?_⟩, ?_⟩
        · show 0 ≤ (selL s k ++ [(k : Int)]).getD _ 0; rw [hl]; omega
        · show (selL s k ++ [(k : Int)]).getD _ 0 < (N : Int); rw [hl]; omega
        · show (selL s k ++ [(k : Int)]).getD (_ - 1) 0 < (selL s k ++ [(k : Int)]).getD _ 0
          rw [hl, hg _ (by omega)]
          exact (selL_ok s N k (by omega) _ (by omega)).2
        · rw [hl]; omega
theorem selL_set {s : Nat → Bool} {N : Nat} (h : ∀ j, s j = true → j < N) : inL (fun i => (selL s N).getD i 0) (selL s N).length = s := by
  funext j
  have hh : inL (fun i => (selL s N).getD i 0) (selL s N).length j = true ↔ s j = true := by
    rw [inL_iff]
    constructor
    · rintro ⟨i, hi, e⟩
      obtain ⟨t, _, h2, h3⟩ := selL_in hi
      have : t = j := by
        have e1 : (selL s N).getD i 0 = (j : Int) := e
        omega
      subst this; exact h2
    · intro hj
      obtain ⟨i, hi, e⟩ := selL_at (h j hj) hj
      exact ⟨i, hi, e⟩
  cases h1 : inL (fun i => (selL s N).getD i 0) (selL s N).length j <;> cases h2 : s j <;> simp_all
end Go.Proofs.Ytbdcbmennblcdab
namespace Go.Proofs.Ytbdcbmennblcdab
set_option linter.unusedVariables false
set_option linter.unusedSimpArgs false
open Go.RowKit
section
variable {P : Program} {ops : Array Oper} {rest : List Oper} {o : Oper} {a : Act} {w : World} {Q : Exit → Act → World → Prop}
theorem wpL_cellD {T : Nat} {x y : Operand} {g off : Nat} {v : Value} {cs cs' : Array Value} {t : TypeId} (hgd : o.guard = none) (ho : o.op = .store T x y) (hx : a.eval x = .pointer (some ⟨g, off, none⟩)) (hy : a.eval y = v) (hs : (P.info? T).map (·.size) = some 1) (h1 : v.oneCell' = true)
    (hg : holds w g cs t) (hb : off < cs.size) (e : cs.setIfInBounds off v = cs')
    (h : wpList P ops Q rest (a.put o.dst undef) (w.setRow g cs')) : wpList P ops Q (o :: rest) a w :=
  wpList_plain hgd fun K hK => by
    have hc : v.cells = #[v] := by cases v <;> first | rfl | cases h1
    have hst := run_storeCells_at P g off t [v] 0 cs w hg (by simp; omega) (fun u hu => by simp at hu; subst hu; exact h1)
    have he : over cs off #[v] = cs' := by
      rw [← e]
      apply Array.ext_getElem?
      intro i
      rw [over_get cs off #[v] (by simp; omega) i, Array.getElem?_setIfInBounds]
      by_cases q : off = i
      · subst q; rw [if_pos (by simp), if_pos rfl, if_pos hb]; simp
      · rw [if_neg (by simp; omega), if_neg q]
    simp only [Nat.add_zero] at hst
    have hst' : (storeCells ⟨g, off, none⟩ [v]).run P w = .ok () (w.setRow g cs') := by rw [← he]; exact hst
    cases hq : P.info? T with
    | none => simp [hq] at hs
    | some i =>
      have hs' : i.size = 1 := by simpa [hq] using hs
      have hrun : (storeVar T ⟨g, off, none⟩ v).run P w = .ok () (w.setRow g cs') := by
        simp [storeVar, sizeOf, typeInfo, hq, hc, hs', hst']
      unfold Oper.wp execOp
      simp only [ho, hx, hy, Instr.storeAt, Instr.sureAddr, Sem.run_bind, Sem.run_pure, Result.andThen_ok, hrun]
      exact hK _ _ h
end
theorem left_mu (N x z : Nat) (g : Nat → UInt8) (w : World) (hq : IsSq N g) (hx : x < N) (hz : z < N) :
    Calls Try.prog 106 #[.agg (sqc N g), .int .u8 x, .int .u8 z] w fun e w' => e = .returned (.int .u8 (ld g N x z).toNat) ∧ Below w.heap.size w w' := l01Left_nat N x z g w hq hx hz
set_option maxRecDepth 100000 in
set_option maxHeartbeats 8000000 in
theorem l06Derived_true (N : Nat) (g : Nat → UInt8) (w : World) (hL : IsLp N g) :
    Calls Try.prog 66 #[.agg (sqc N g), .bool true] w (GotI (selL (ncF g N (mxS g N true N)) 10) w) := by
  have hq := hL.sq
  have h1 := hq.lo
  have h10 := hq.hi
  have HQ := hid hq
  have HMU := hid (fun x y (hx : x < N) (hy : y < N) => mu_lt hq hx hy)
  have HLTs := hid (fun j (h : mxS g N true N j = true) => isDf_lt hq (mxS_iff.1 h))
  have HZ : Hid (mxS g N true N 0 = true) := hid (mxS_iff.2 ⟨0, by omega, 0, by omega, .inr ⟨0, by omega, (asc_zero hL (by omega) (by omega) (by omega)).2 (by
    have e0 : mu g 0 0 = 0 := hL.row 0 (by omega)
    rw [e0])⟩⟩)
  have HAL := hid (fun x y z (hx : x < N) (hy : y < N) (hz : z < N) => asc_lt hq hx hy hz)
  have HCL := hid (fun x y (hx : x < N) (hy : y < N) => cmm_lt hq hx hy)
  clear hq hL
  have hN10 : (N : Int) ≤ 10 := by omega
  have hH := Has.start2 w (sqc N g) (bls 10 fun _ => false) 31 74
  go_enter Try.func66, Try.ntmps66
  go_wp2_with (first | fail | (refine wpL_alloc rfl rfl zeroBo ?_; intro g0 hg0; (try simp at hg0); subst hg0) | (refine wpL_build rfl rfl builtBo ?_) | (refine wpL_storeSame rfl rfl rfl rfl rowBo hH.h1 (bls_ok _ _) ?_))
  go_loopw [6] (fun i wr => ∃ x : Nat, x ≤ N ∧ i = .int .i64 x ∧ Has w wr [(sqc N g, 31), (bls 10 (mxS g N true x), 74)]) (fun i _ => 20 - (intOf i).toNat)
  case atStart => exact ⟨0, by omega, rfl, hH⟩
  case round =>
    clear hH
    obtain ⟨x, hx, rfl, hH⟩ := hrel
    have cz : wr.cell? ⟨w.heap.size, 0, none⟩ = some (.int .i64 N) := by rw [hH.c0, sqc_get0]
    by_cases hlt : x < N
    · have hx1 : (x : Int) < N := by omega
      have hx10 : (x : Int) < 10 := by omega
      obtain ⟨S0, hS0⟩ : ∃ S, mxS g N true x = S := ⟨_, rfl⟩
      have HS0 := hid hS0
      rw [hS0] at hH
      clear hS0
      go_wp2
      clear cz
      go_loopw [7] (fun i wr => ∃ y : Nat, y ≤ N ∧ i = .int .i64 y ∧ Has w wr [(sqc N g, 31), (bls 10 (myS g N true x S0 y), 74)]) (fun i _ => 20 - (intOf i).toNat)
      case atStart => exact ⟨0, by omega, rfl, hH⟩
      case round =>
        clear hH
        obtain ⟨y, hy, rfl, hH⟩ := hrel
        have cz : wr.cell? ⟨w.heap.size, 0, none⟩ = some (.int .i64 N) := by rw [hH.c0, sqc_get0]
        by_cases hlt2 : y < N
        · have hy1 : (y : Int) < N := by omega
          have hy10 : (y : Int) < 10 := by omega
          obtain ⟨S1, hS1⟩ : ∃ S, myS g N true x S0 y = S := ⟨_, rfl⟩
          have HS1 := hid hS1
          rw [hS1] at hH
          clear hS1
          obtain ⟨p, hp⟩ : ∃ p, mu g x y = p := ⟨_, rfl⟩
          obtain ⟨q, hqq⟩ : ∃ q, mu g y x = q := ⟨_, rfl⟩
          have hpl : p < N := by rw [← hp]; exact HMU.out x y hlt hlt2
          have hql : q < N := by rw [← hqq]; exact HMU.out y x hlt2 hlt
          have HP := hid hp
          have HQQ := hid hqq
          have cxy : wr.cell? ⟨w.heap.size, 1 + x * 10 + y, none⟩ = some (.int .u8 p) := by rw [hH.c0, Nat.add_assoc, sqc_get _ _ _ (by omega), ← hp]; rfl
          have cyx : wr.cell? ⟨w.heap.size, 1 + y * 10 + x, none⟩ = some (.int .u8 q) := by rw [hH.c0, Nat.add_assoc, sqc_get _ _ _ (by omega), ← hqq]; rfl
          clear hp hqq
          go_wp2
          go_quiet (fail)
          clear cxy cyx cz
          obtain ⟨wd, hwd⟩ : ∃ q, wr.drewN nq = q := ⟨_, rfl⟩
          replace hH : Has w wd [(sqc N g, 31), (bls 10 S1, 74)] := by rw [← hwd]; exact hH.drewN _
          rw [hwd]
          clear hwd
          have hcq := HCL.out x y hlt hlt2
          obtain ⟨cq, hcqe⟩ : ∃ c, (cmm g N x y).toNat = c := ⟨_, rfl⟩
          rw [hcqe] at hcq
          have HCQ := hid (show (ld g N q p).toNat = cq by rw [← HP.out, ← HQQ.out]; exact hcqe)
          have hcq10 : (cq : Int) < 10 := by omega
          obtain ⟨S2, hS2⟩ : ∃ S, mcS g N true x y S1 = S := ⟨_, rfl⟩
          have HS2 := hid hS2
          have HSQ := hid (fun (j : Nat) => show S2 j = if j = cq then true else S1 j from by rw [← hS2]; show insS S1 (cmm g N x y).toNat j = _; rw [hcqe]; rfl)
          clear hS2 hcqe
          go_wp2_with (first | fail | (refine wpL_loadFull rfl rfl rfl rowSq hH.h0 (sqc_size _ _) ?_) | (go_at_call 106; refine (left_mu N q p g _ HQ.out hql hpl).mono ?_; rintro e w3 ⟨rfl, hb⟩; rw [HCQ.out]; replace hH := hH.call' hb; clear hb) | (refine wpL_cellD (g := w.heap.size + 1) (v := .bool true) (cs' := bls 10 S2) (off := cq) rfl rfl rfl rfl (by kernel_rfl) (by rfl) hH.h1 (by rw [bls_size]; omega) (bls_step 10 _ _ cq true (fun j _ => HSQ.out j)) ?_; replace hH := hH.r1 (cs' := bls 10 S2)))
          go_loopw [10] (fun i wr => ∃ z : Nat, z ≤ N ∧ i = .int .i64 z ∧ Has w wr [(sqc N g, 31), (bls 10 (mzS g N x y S2 z), 74)]) (fun i _ => 20 - (intOf i).toNat)
          case atStart => exact ⟨0, by omega, rfl, hH⟩
          case round =>
            clear hH
            obtain ⟨z, hz, rfl, hH⟩ := hrel
            have cz : wr.cell? ⟨w.heap.size, 0, none⟩ = some (.int .i64 N) := by rw [hH.c0, sqc_get0]
            by_cases hlt3 : z < N
            · have hz1 : (z : Int) < N := by omega
              have hz10 : (z : Int) < 10 := by omega
              obtain ⟨r, hr⟩ : ∃ r, mu g y z = r := ⟨_, rfl⟩
              have hrl : r < N := by rw [← hr]; exact HMU.out y z hlt2 hlt3
              obtain ⟨s, hs⟩ : ∃ s, mu g x r = s := ⟨_, rfl⟩
              have hsl : s < N := by rw [← hs]; exact HMU.out x r hlt hrl
              obtain ⟨t, ht⟩ : ∃ t, mu g p z = t := ⟨_, rfl⟩
              have htl : t < N := by rw [← ht]; exact HMU.out p z hpl hlt3
              obtain ⟨c, hc⟩ : ∃ c, (ld g N s t).toNat = c := ⟨_, rfl⟩
              have hac : (asc g N x y z).toNat = c := by unfold asc; rw [hr, hs, HP.out, ht, hc]
              have hcl : c < N := by rw [← hac]; exact HAL.out x y z hlt hlt2 hlt3
              have HR := hid hr
              have HSS := hid hs
              have HTT := hid ht
              have HCC := hid hc
              have HST := hid (fun (j : Nat) => show mzS g N x y S2 (z + 1) j = if j = c then true else mzS g N x y S2 z j from by show insS (mzS g N x y S2 z) (asc g N x y z).toNat j = _; rw [hac]; rfl)
              clear hr hs ht hc hac
              have hr10 : (r : Int) < 10 := by omega
              have hp10 : (p : Int) < 10 := by omega
              have hc10 : (c : Int) < 10 := by omega
              obtain ⟨T0, hT0⟩ : ∃ T, mzS g N x y S2 z = T := ⟨_, rfl⟩
              obtain ⟨T1, hT1⟩ : ∃ T, mzS g N x y S2 (z + 1) = T := ⟨_, rfl⟩
              have HT1 := hid hT1
              rw [hT0] at hH
              rw [hT0, hT1] at HST
              clear hT0 hT1
              go_wp2
              clear cz
              refine wp_region_frame (X := Unit) (fun d _ => [(50, bif d 0 then .agg (sqc N g) else u50), (51, bif d 1 then .int .i64 x else u51), (52, bif d 2 then .int .i64 y else u52), (53, bif d 3 then .int .i64 z else u53), (54, bif d 4 then .pointer (some ⟨w.heap.size, 1, none⟩) else u54), (55, bif d 5 then .pointer (some ⟨w.heap.size, 1 + y * 10, none⟩) else u55), (56, bif d 6 then .pointer (some ⟨w.heap.size, 1 + y * 10 + z, none⟩) else u56), (57, bif d 7 then .int .u8 r else u57), (58, bif d 8 then .pointer (some ⟨w.heap.size, 1, none⟩) else u58), (59, bif d 9 then .pointer (some ⟨w.heap.size, 1 + x * 10, none⟩) else u59), (60, bif d 10 then .pointer (some ⟨w.heap.size, 1 + x * 10 + r, none⟩) else u60), (61, bif d 11 then .int .u8 s else u61), (62, bif d 12 then .int .u8 p else u62), (63, bif d 13 then .int .i64 z else u63), (64, bif d 14 then .pointer (some ⟨w.heap.size, 1, none⟩) else u64), (65, bif d 15 then .pointer (some ⟨w.heap.size, 1 + p * 10, none⟩) else u65), (66, bif d 16 then .pointer (some ⟨w.heap.size, 1 + p * 10 + z, none⟩) else u66), (67, bif d 17 then .int .u8 t else u67), (68, bif d 18 then .int .u8 c else u68), (69, bif d 19 then .pointer (some ⟨w.heap.size + 1, c, none⟩) else u69)])
                (fun d _ w' => Has w w' [(sqc N g, 31), (bls 10 (bif d 20 then T1 else T0), 74)]) (by kernel_rfl) (by kernel_rfl) ?h0_dd ?hs_dd ?hq_dd
              case h0_dd => exact ⟨(), (by simp [lput]), hH.drew⟩
              case hs_dd =>
                refine ⟨?_, ?_, ?_, ?_, ?_, ?_, ?_, ?_, ?_, ?_, ?_, ?_, ?_, ?_, ?_, ?_, ?_, ?_, ?_, ?_, ?_, trivial⟩
                all_goals
                  clear hH
                  intro d _ w1 hd hn hJ
                  simp only [needs, Region.binds, reduceCtorEq, Bool.false_eq_true, false_implies, true_and, and_true, true_implies, forall_const] at hn
                  simp only [lput, List.set, hn, cond_true]
                  try simp only [hd, cond_false] at hJ
                  have hH := hJ; clear hJ
                  have c1 : w1.cell? ⟨w.heap.size, 1 + y * 10 + z, none⟩ = some (.int .u8 r) := by rw [hH.c0, Nat.add_assoc, sqc_get _ _ _ (by omega)]; have := HR.out; unfold mu at this; rw [this]
                  have c2 : w1.cell? ⟨w.heap.size, 1 + x * 10 + r, none⟩ = some (.int .u8 s) := by rw [hH.c0, Nat.add_assoc, sqc_get _ _ _ (by omega)]; have := HSS.out; unfold mu at this; rw [this]
                  have c3 : w1.cell? ⟨w.heap.size, 1 + p * 10 + z, none⟩ = some (.int .u8 t) := by rw [hH.c0, Nat.add_assoc, sqc_get _ _ _ (by omega)]; have := HTT.out; unfold mu at this; rw [this]
                  go_wp2_with (first | fail | (refine wpL_loadFull rfl rfl rfl rowSq hH.h0 (sqc_size _ _) ?_) | (go_at_call 106; refine (left_mu N s t g _ HQ.out hsl htl).mono ?_; rintro e w3 ⟨rfl, hb⟩; rw [HCC.out]; replace hH := hH.call' hb; clear hb) | (refine wpL_cellD (g := w.heap.size + 1) (v := .bool true) (cs' := bls 10 T1) (off := c) rfl rfl rfl rfl (by kernel_rfl) (by rfl) hH.h1 (by rw [bls_size]; omega) (bls_step 10 _ _ c true (fun j _ => HST.out j)) ?_; replace hH := hH.r1 (cs' := bls 10 T1)))
                  first
                    | (refine ⟨(), ?_, hH⟩; (simp [lput, done, hn]; done))
                    | (refine ⟨?_, hH⟩; (simp [lput, done, hn]; done))
                    | (refine ⟨(), ?_, hH⟩; (simp [lput, done, hn]; rfl))
                    | (refine ⟨?_, hH⟩; (simp [lput, done, hn]; rfl))
                    | (refine ⟨(), ?_, hH⟩; (simp [lput, done]; done))
                    | (refine ⟨?_, hH⟩; (simp [lput, done]; done))
                    | (refine ⟨(), ?_, hH⟩; (simp [lput, done]; rfl))
                    | (refine ⟨?_, hH⟩; (simp [lput, done]; rfl))
              case hq_dd =>
                clear hH
                intro d _ w1 hd hJ
                simp only [allDone, List.length_cons, List.length_nil, Nat.reduceAdd, and_true] at hd
                have hH := hJ; clear hJ
                simp only [hd, cond_true] at hH
                simp only [lput, List.set, hd, cond_true]
                clear hd
                go_wp2
                go_roundw
                case rel => exact ⟨z + 1, by omega, by go_num, by rw [HT1.out]; exact hH⟩
                case measure => simp [intOf]; omega
            · obtain rfl : z = N := by omega
              have HY2 := hid (show myS g z true x S0 (y + 1) = mzS g z x y S2 z by show mzS g z x y (mcS g z true x y (myS g z true x S0 y)) z = _; rw [HS1.out, HS2.out])
              go_wp2
              go_roundw
              case rel => exact ⟨y + 1, by omega, by go_num, by rw [HY2.out]; exact hH⟩
              case measure => simp [intOf]; omega
        · obtain rfl : y = N := by omega
          go_wp2
          go_roundw
          case rel => exact ⟨x + 1, by omega, by go_num, by
            have e : mxS g y true (x + 1) = myS g y true x S0 y := by show myS g y true x (mxS g y true x) y = _; rw [HS0.out]
            rw [e]; exact hH⟩
          case measure => simp [intOf]; omega
    · obtain rfl : x = N := by omega
      obtain ⟨B, hB⟩ : ∃ B, wr.heap.size = B := ⟨_, rfl⟩
      go_wp2
      obtain ⟨S3, hS3⟩ : ∃ S, mxS g x true x = S := ⟨_, rfl⟩
      have HS3 := hid hS3
      rw [hS3] at hH HZ HLTs
      clear hS3 cz
      have hsz := hH.size
      simp only [List.length_cons, List.length_nil] at hsz
      go_loopw [11, 12] (fun v i wr => ∃ k : Nat, k ≤ x ∧ i = .int .i64 k ∧ Has w wr [(sqc x g, 31), (bls 10 S3, 74)] ∧ Hid (OL wr B v (selL S3 k)) ∧ B ≤ wr.heap.size) (fun _ i _ => 20 - (intOf i).toNat)
      case atStart => exact ⟨0, by omega, rfl, hH.alloc _, hid (by rw [show selL S3 0 = [] from rfl]; exact OL.fresh _ (by omega) (by omega)), by simp; omega⟩
      case round =>
        clear hH
        obtain ⟨k, hk, rfl, hH, hO, hBs⟩ := hrel
        have cz : wr.cell? ⟨w.heap.size, 0, none⟩ = some (.int .i64 x) := by rw [hH.c0, sqc_get0]
        by_cases hlk : k < x
        · have hk1 : (k : Int) < x := by omega
          have hk10 : (k : Int) < 10 := by omega
          have hlen := selL_len S3 k
          obtain ⟨sk, hsk⟩ : ∃ q, S3 k = q := ⟨_, rfl⟩
          have ck : wr.cell? ⟨w.heap.size + 1, k, none⟩ = some (.bool sk) := by rw [hH.c1, bls_get _ _ _ (by omega), hsk]
          have HE := hid hsk
          clear hsk
          cases sk with
          | true =>
            go_wp2_with (first | fail | (refine wpL_appI (v := u11) (n := (selL S3 k).length) (base := B) (z := (k : Int)) rfl (by rfl) (by rfl) (by rfl) (World.ownsRow.alloc hO.out _) (by simp) (by omega) (by simp; omega) ?_; intro r cap w2 how hg hor hlt3; have hO2 := hid (OL.add how); replace hH := (hH.alloc _).grown hg (fun x hx => by have := (World.ownsRow.lt hO.out x hx).1; simp; omega); have hgs := hg.size; simp at hgs; clear how hg hor hlt3))
            go_roundw
            case rel => exact ⟨k + 1, by omega, by go_num, hH, by rw [selL_yes HE.out]; exact hO2, by omega⟩
            case measure => simp [intOf]; omega
          | false =>
            go_wp2
            go_roundw
            case rel => exact ⟨k + 1, by omega, by go_num, hH, by rw [selL_no HE.out]; exact hO, hBs⟩
            case measure => simp [intOf]; omega
        · obtain rfl : k = x := by omega
          have hz0 := HZ.out
          obtain ⟨n, hn⟩ : ∃ n, (selL S3 k).length = n := ⟨_, rfl⟩
          have hn0 : 0 < n := by
            rw [← hn]
            obtain ⟨i, hi, _⟩ := selL_at (p := S3) (k := k) (j := 0) (by omega) hz0
            omega
          obtain ⟨gl, cl, ev, hRw⟩ : ∃ gl c, u11 = .slice (some ⟨gl, 0, none⟩) n c ∧ Row wr gl n (fun i => (selL S3 k).getD i 0) := by
            rcases IL.of_own hO.out with ⟨_, h0⟩ | ⟨g2, cap, hv, _, _, hr⟩
            · rw [h0] at hn; simp at hn; omega
            · exact ⟨g2, cap, by rw [hv, hn], by rw [← hn]; exact hr⟩
          subst ev
          have HRw := hid hRw
          have HOK := hid (fun i (hi : i < n) => (selL_ok S3 k k (Nat.le_refl _) i (by rw [hn]; exact hi)).1)
          have HSET := hid (show inL (fun i => (selL S3 k).getD i 0) n = S3 by rw [← hn]; exact selL_set HLTs.out)
          have hzz := hH.size
          simp only [List.length_cons, List.length_nil] at hzz
          clear hRw hn hz0
          go_wp2_with (first | fail | (refine wpL_loadFull rfl rfl rfl rowSq hH.h0 (sqc_size _ _) ?_) | (go_at_call 63; refine (l06Closure_any k gl n cl g (fun i => (selL S3 k).getD i 0) _ HQ.out HRw.out HOK.out).mono ?_; rintro e w3 ⟨v0, rfl, hb, hI0⟩; rw [HSET.out] at hI0; replace hH := hH.call' hb; clear hb))
          go_ret
          refine ⟨_, rfl, hH.below, ?_⟩
          rw [HS3.out]
          exact hI0.lower (by omega)
set_option maxRecDepth 100000 in
set_option maxHeartbeats 8000000 in
theorem l06Derived_false (N : Nat) (g : Nat → UInt8) (w : World) (hL : IsLp N g) :
    Calls Try.prog 66 #[.agg (sqc N g), .bool false] w (GotI (selL (ncF g N (mxS g N false N)) 10) w) := by
  have hq := hL.sq
  have h1 := hq.lo
  have h10 := hq.hi
  have HQ := hid hq
  have HMU := hid (fun x y (hx : x < N) (hy : y < N) => mu_lt hq hx hy)
  have HLTs := hid (fun j (h : mxS g N false N j = true) => isDf_lt hq (mxS_iff.1 h))
  have HZ : Hid (mxS g N false N 0 = true) := hid (mxS_iff.2 ⟨0, by omega, 0, by omega, .inr ⟨0, by omega, (asc_zero hL (by omega) (by omega) (by omega)).2 (by
    have e0 : mu g 0 0 = 0 := hL.row 0 (by omega)
    rw [e0])⟩⟩)
  have HAL := hid (fun x y z (hx : x < N) (hy : y < N) (hz : z < N) => asc_lt hq hx hy hz)
  have HCL := hid (fun x y (hx : x < N) (hy : y < N) => cmm_lt hq hx hy)
  clear hq hL
  have hN10 : (N : Int) ≤ 10 := by omega
  have hH := Has.start2 w (sqc N g) (bls 10 fun _ => false) 31 74
  go_enter Try.func66, Try.ntmps66
  go_wp2_with (first | fail | (refine wpL_alloc rfl rfl zeroBo ?_; intro g0 hg0; (try simp at hg0); subst hg0) | (refine wpL_build rfl rfl builtBo ?_) | (refine wpL_storeSame rfl rfl rfl rfl rowBo hH.h1 (bls_ok _ _) ?_))
  go_loopw [6] (fun i wr => ∃ x : Nat, x ≤ N ∧ i = .int .i64 x ∧ Has w wr [(sqc N g, 31), (bls 10 (mxS g N false x), 74)]) (fun i _ => 20 - (intOf i).toNat)
  case atStart => exact ⟨0, by omega, rfl, hH⟩
  case round =>
    clear hH
    obtain ⟨x, hx, rfl, hH⟩ := hrel
    have cz : wr.cell? ⟨w.heap.size, 0, none⟩ = some (.int .i64 N) := by rw [hH.c0, sqc_get0]
    by_cases hlt : x < N
    · have hx1 : (x : Int) < N := by omega
      have hx10 : (x : Int) < 10 := by omega
      obtain ⟨S0, hS0⟩ : ∃ S, mxS g N false x = S := ⟨_, rfl⟩
      have HS0 := hid hS0
      rw [hS0] at hH
      clear hS0
      go_wp2
      clear cz
      go_loopw [7] (fun i wr => ∃ y : Nat, y ≤ N ∧ i = .int .i64 y ∧ Has w wr [(sqc N g, 31), (bls 10 (myS g N false x S0 y), 74)]) (fun i _ => 20 - (intOf i).toNat)
      case atStart => exact ⟨0, by omega, rfl, hH⟩
      case round =>
        clear hH
        obtain ⟨y, hy, rfl, hH⟩ := hrel
        have cz : wr.cell? ⟨w.heap.size, 0, none⟩ = some (.int .i64 N) := by rw [hH.c0, sqc_get0]
        by_cases hlt2 : y < N
        · have hy1 : (y : Int) < N := by omega
          have hy10 : (y : Int) < 10 := by omega
          obtain ⟨S1, hS1⟩ : ∃ S, myS g N false x S0 y = S := ⟨_, rfl⟩
          have HS1 := hid hS1
          rw [hS1] at hH
          clear hS1
          obtain ⟨p, hp⟩ : ∃ p, mu g x y = p := ⟨_, rfl⟩
          obtain ⟨q, hqq⟩ : ∃ q, mu g y x = q := ⟨_, rfl⟩
          have hpl : p < N := by rw [← hp]; exact HMU.out x y hlt hlt2
          have hql : q < N := by rw [← hqq]; exact HMU.out y x hlt2 hlt
          have HP := hid hp
          have HQQ := hid hqq
          have cxy : wr.cell? ⟨w.heap.size, 1 + x * 10 + y, none⟩ = some (.int .u8 p) := by rw [hH.c0, Nat.add_assoc, sqc_get _ _ _ (by omega), ← hp]; rfl
          have cyx : wr.cell? ⟨w.heap.size, 1 + y * 10 + x, none⟩ = some (.int .u8 q) := by rw [hH.c0, Nat.add_assoc, sqc_get _ _ _ (by omega), ← hqq]; rfl
          clear hp hqq
          go_wp2
          go_quiet (fail)
          clear cxy cyx cz
          obtain ⟨wd, hwd⟩ : ∃ q, wr.drewN nq = q := ⟨_, rfl⟩
          replace hH : Has w wd [(sqc N g, 31), (bls 10 S1, 74)] := by rw [← hwd]; exact hH.drewN _
          rw [hwd]
          clear hwd
          obtain ⟨S2, hS2⟩ : ∃ S, mcS g N false x y S1 = S := ⟨_, rfl⟩
          have HS2 := hid hS2
          have e12 : S1 = S2 := hS2
          rw [e12] at hH
          clear hS2 e12
          go_wp2
          go_loopw [10] (fun i wr => ∃ z : Nat, z ≤ N ∧ i = .int .i64 z ∧ Has w wr [(sqc N g, 31), (bls 10 (mzS g N x y S2 z), 74)]) (fun i _ => 20 - (intOf i).toNat)
          case atStart => exact ⟨0, by omega, rfl, hH⟩
          case round =>
            clear hH
            obtain ⟨z, hz, rfl, hH⟩ := hrel
            have cz : wr.cell? ⟨w.heap.size, 0, none⟩ = some (.int .i64 N) := by rw [hH.c0, sqc_get0]
            by_cases hlt3 : z < N
            · have hz1 : (z : Int) < N := by omega
              have hz10 : (z : Int) < 10 := by omega
              obtain ⟨r, hr⟩ : ∃ r, mu g y z = r := ⟨_, rfl⟩
              have hrl : r < N := by rw [← hr]; exact HMU.out y z hlt2 hlt3
              obtain ⟨s, hs⟩ : ∃ s, mu g x r = s := ⟨_, rfl⟩
              have hsl : s < N := by rw [← hs]; exact HMU.out x r hlt hrl
              obtain ⟨t, ht⟩ : ∃ t, mu g p z = t := ⟨_, rfl⟩
              have htl : t < N := by rw [← ht]; exact HMU.out p z hpl hlt3
              obtain ⟨c, hc⟩ : ∃ c, (ld g N s t).toNat = c := ⟨_, rfl⟩
              have hac : (asc g N x y z).toNat = c := by unfold asc; rw [hr, hs, HP.out, ht, hc]
              have hcl : c < N := by rw [← hac]; exact HAL.out x y z hlt hlt2 hlt3
              have HR := hid hr
              have HSS := hid hs
              have HTT := hid ht
              have HCC := hid hc
              have HST := hid (fun (j : Nat) => show mzS g N x y S2 (z + 1) j = if j = c then true else mzS g N x y S2 z j from by show insS (mzS g N x y S2 z) (asc g N x y z).toNat j = _; rw [hac]; rfl)
              clear hr hs ht hc hac
              have hr10 : (r : Int) < 10 := by omega
              have hp10 : (p : Int) < 10 := by omega
              have hc10 : (c : Int) < 10 := by omega
              obtain ⟨T0, hT0⟩ : ∃ T, mzS g N x y S2 z = T := ⟨_, rfl⟩
              obtain ⟨T1, hT1⟩ : ∃ T, mzS g N x y S2 (z + 1) = T := ⟨_, rfl⟩
              have HT1 := hid hT1
              rw [hT0] at hH
              rw [hT0, hT1] at HST
              clear hT0 hT1
              go_wp2
              clear cz
              refine wp_region_frame (X := Unit) (fun d _ => [(50, bif d 0 then .agg (sqc N g) else u50), (51, bif d 1 then .int .i64 x else u51), (52, bif d 2 then .int .i64 y else u52), (53, bif d 3 then .int .i64 z else u53), (54, bif d 4 then .pointer (some ⟨w.heap.size, 1, none⟩) else u54), (55, bif d 5 then .pointer (some ⟨w.heap.size, 1 + y * 10, none⟩) else u55), (56, bif d 6 then .pointer (some ⟨w.heap.size, 1 + y * 10 + z, none⟩) else u56), (57, bif d 7 then .int .u8 r else u57), (58, bif d 8 then .pointer (some ⟨w.heap.size, 1, none⟩) else u58), (59, bif d 9 then .pointer (some ⟨w.heap.size, 1 + x * 10, none⟩) else u59), (60, bif d 10 then .pointer (some ⟨w.heap.size, 1 + x * 10 + r, none⟩) else u60), (61, bif d 11 then .int .u8 s else u61), (62, bif d 12 then .int .u8 p else u62), (63, bif d 13 then .int .i64 z else u63), (64, bif d 14 then .pointer (some ⟨w.heap.size, 1, none⟩) else u64), (65, bif d 15 then .pointer (some ⟨w.heap.size, 1 + p * 10, none⟩) else u65), (66, bif d 16 then .pointer (some ⟨w.heap.size, 1 + p * 10 + z, none⟩) else u66), (67, bif d 17 then .int .u8 t else u67), (68, bif d 18 then .int .u8 c else u68), (69, bif d 19 then .pointer (some ⟨w.heap.size + 1, c, none⟩) else u69)])
                (fun d _ w' => Has w w' [(sqc N g, 31), (bls 10 (bif d 20 then T1 else T0), 74)]) (by kernel_rfl) (by kernel_rfl) ?h0_dd ?hs_dd ?hq_dd
              case h0_dd => exact ⟨(), (by simp [lput]), hH.drew⟩
              case hs_dd =>
                refine ⟨?_, ?_, ?_, ?_, ?_, ?_, ?_, ?_, ?_, ?_, ?_, ?_, ?_, ?_, ?_, ?_, ?_, ?_, ?_, ?_, ?_, trivial⟩
                all_goals
                  clear hH
                  intro d _ w1 hd hn hJ
                  simp only [needs, Region.binds, reduceCtorEq, Bool.false_eq_true, false_implies, true_and, and_true, true_implies, forall_const] at hn
                  simp only [lput, List.set, hn, cond_true]
                  try simp only [hd, cond_false] at hJ
                  have hH := hJ; clear hJ
                  have c1 : w1.cell? ⟨w.heap.size, 1 + y * 10 + z, none⟩ = some (.int .u8 r) := by rw [hH.c0, Nat.add_assoc, sqc_get _ _ _ (by omega)]; have := HR.out; unfold mu at this; rw [this]
                  have c2 : w1.cell? ⟨w.heap.size, 1 + x * 10 + r, none⟩ = some (.int .u8 s) := by rw [hH.c0, Nat.add_assoc, sqc_get _ _ _ (by omega)]; have := HSS.out; unfold mu at this; rw [this]
                  have c3 : w1.cell? ⟨w.heap.size, 1 + p * 10 + z, none⟩ = some (.int .u8 t) := by rw [hH.c0, Nat.add_assoc, sqc_get _ _ _ (by omega)]; have := HTT.out; unfold mu at this; rw [this]
                  go_wp2_with (first | fail | (refine wpL_loadFull rfl rfl rfl rowSq hH.h0 (sqc_size _ _) ?_) | (go_at_call 106; refine (left_mu N s t g _ HQ.out hsl htl).mono ?_; rintro e w3 ⟨rfl, hb⟩; rw [HCC.out]; replace hH := hH.call' hb; clear hb) | (refine wpL_cellD (g := w.heap.size + 1) (v := .bool true) (cs' := bls 10 T1) (off := c) rfl rfl rfl rfl (by kernel_rfl) (by rfl) hH.h1 (by rw [bls_size]; omega) (bls_step 10 _ _ c true (fun j _ => HST.out j)) ?_; replace hH := hH.r1 (cs' := bls 10 T1)))
                  first
                    | (refine ⟨(), ?_, hH⟩; (simp [lput, done, hn]; done))
                    | (refine ⟨?_, hH⟩; (simp [lput, done, hn]; done))
                    | (refine ⟨(), ?_, hH⟩; (simp [lput, done, hn]; rfl))
                    | (refine ⟨?_, hH⟩; (simp [lput, done, hn]; rfl))
                    | (refine ⟨(), ?_, hH⟩; (simp [lput, done]; done))
                    | (refine ⟨?_, hH⟩; (simp [lput, done]; done))
                    | (refine ⟨(), ?_, hH⟩; (simp [lput, done]; rfl))
                    | (refine ⟨?_, hH⟩; (simp [lput, done]; rfl))
              case hq_dd =>
                clear hH
                intro d _ w1 hd hJ
                simp only [allDone, List.length_cons, List.length_nil, Nat.reduceAdd, and_true] at hd
                have hH := hJ; clear hJ
                simp only [hd, cond_true] at hH
                simp only [lput, List.set, hd, cond_true]
                clear hd
                go_wp2
                go_roundw
                case rel => exact ⟨z + 1, by omega, by go_num, by rw [HT1.out]; exact hH⟩
                case measure => simp [intOf]; omega
            · obtain rfl : z = N := by omega
              have HY2 := hid (show myS g z false x S0 (y + 1) = mzS g z x y S2 z by show mzS g z x y (mcS g z false x y (myS g z false x S0 y)) z = _; rw [HS1.out, HS2.out])
              go_wp2
              go_roundw
              case rel => exact ⟨y + 1, by omega, by go_num, by rw [HY2.out]; exact hH⟩
              case measure => simp [intOf]; omega
        · obtain rfl : y = N := by omega
          go_wp2
          go_roundw
          case rel => exact ⟨x + 1, by omega, by go_num, by
            have e : mxS g y false (x + 1) = myS g y false x S0 y := by show myS g y false x (mxS g y false x) y = _; rw [HS0.out]
            rw [e]; exact hH⟩
          case measure => simp [intOf]; omega
    · obtain rfl : x = N := by omega
      obtain ⟨B, hB⟩ : ∃ B, wr.heap.size = B := ⟨_, rfl⟩
      go_wp2
      obtain ⟨S3, hS3⟩ : ∃ S, mxS g x false x = S := ⟨_, rfl⟩
      have HS3 := hid hS3
      rw [hS3] at hH HZ HLTs
      clear hS3 cz
      have hsz := hH.size
      simp only [List.length_cons, List.length_nil] at hsz
      go_loopw [11, 12] (fun v i wr => ∃ k : Nat, k ≤ x ∧ i = .int .i64 k ∧ Has w wr [(sqc x g, 31), (bls 10 S3, 74)] ∧ Hid (OL wr B v (selL S3 k)) ∧ B ≤ wr.heap.size) (fun _ i _ => 20 - (intOf i).toNat)
      case atStart => exact ⟨0, by omega, rfl, hH.alloc _, hid (by rw [show selL S3 0 = [] from rfl]; exact OL.fresh _ (by omega) (by omega)), by simp; omega⟩
      case round =>
        clear hH
        obtain ⟨k, hk, rfl, hH, hO, hBs⟩ := hrel
        have cz : wr.cell? ⟨w.heap.size, 0, none⟩ = some (.int .i64 x) := by rw [hH.c0, sqc_get0]
        by_cases hlk : k < x
        · have hk1 : (k : Int) < x := by omega
          have hk10 : (k : Int) < 10 := by omega
          have hlen := selL_len S3 k
          obtain ⟨sk, hsk⟩ : ∃ q, S3 k = q := ⟨_, rfl⟩
          have ck : wr.cell? ⟨w.heap.size + 1, k, none⟩ = some (.bool sk) := by rw [hH.c1, bls_get _ _ _ (by omega), hsk]
          have HE := hid hsk
          clear hsk
          cases sk with
          | true =>
            go_wp2_with (first | fail | (refine wpL_appI (v := u11) (n := (selL S3 k).length) (base := B) (z := (k : Int)) rfl (by rfl) (by rfl) (by rfl) (World.ownsRow.alloc hO.out _) (by simp) (by omega) (by simp; omega) ?_; intro r cap w2 how hg hor hlt3; have hO2 := hid (OL.add how); replace hH := (hH.alloc _).grown hg (fun x hx => by have := (World.ownsRow.lt hO.out x hx).1; simp; omega); have hgs := hg.size; simp at hgs; clear how hg hor hlt3))
            go_roundw
            case rel => exact ⟨k + 1, by omega, by go_num, hH, by rw [selL_yes HE.out]; exact hO2, by omega⟩
            case measure => simp [intOf]; omega
          | false =>
            go_wp2
            go_roundw
            case rel => exact ⟨k + 1, by omega, by go_num, hH, by rw [selL_no HE.out]; exact hO, hBs⟩
            case measure => simp [intOf]; omega
        · obtain rfl : k = x := by omega
          have hz0 := HZ.out
          obtain ⟨n, hn⟩ : ∃ n, (selL S3 k).length = n := ⟨_, rfl⟩
          have hn0 : 0 < n := by
            rw [← hn]
            obtain ⟨i, hi, _⟩ := selL_at (p := S3) (k := k) (j := 0) (by omega) hz0
            omega
          obtain ⟨gl, cl, ev, hRw⟩ : ∃ gl c, u11 = .slice (some ⟨gl, 0, none⟩) n c ∧ Row wr gl n (fun i => (selL S3 k).getD i 0) := by
            rcases IL.of_own hO.out with ⟨_, h0⟩ | ⟨g2, cap, hv, _, _, hr⟩
            · rw [h0] at hn; simp at hn; omega
            · exact ⟨g2, cap, by rw [hv, hn], by rw [← hn]; exact hr⟩
          subst ev
          have HRw := hid hRw
          have HOK := hid (fun i (hi : i < n) => (selL_ok S3 k k (Nat.le_refl _) i (by rw [hn]; exact hi)).1)
          have HSET := hid (show inL (fun i => (selL S3 k).getD i 0) n = S3 by rw [← hn]; exact selL_set HLTs.out)
          have hzz := hH.size
          simp only [List.length_cons, List.length_nil] at hzz
          clear hRw hn hz0
          go_wp2_with (first | fail | (refine wpL_loadFull rfl rfl rfl rowSq hH.h0 (sqc_size _ _) ?_) | (go_at_call 63; refine (l06Closure_any k gl n cl g (fun i => (selL S3 k).getD i 0) _ HQ.out HRw.out HOK.out).mono ?_; rintro e w3 ⟨v0, rfl, hb, hI0⟩; rw [HSET.out] at hI0; replace hH := hH.call' hb; clear hb))
          go_ret
          refine ⟨_, rfl, hH.below, ?_⟩
          rw [HS3.out]
          exact hI0.lower (by omega)
end Go.Proofs.Ytbdcbmennblcdab
namespace Go.Proofs.Ytbdcbmennblcdab
set_option linter.unusedVariables false
set_option linter.unusedSimpArgs false
open Go.RowKit
theorem associator_natD (N gb x y z : Nat) (g : Nat → UInt8) (w : World) (hq : IsSq N g) (hx : x < N) (hy : y < N) (hz : z < N) (hg : Dv w gb N g) :
    Calls Try.prog 109 #[.pointer (some ⟨gb, 0, none⟩), .int .u8 x, .int .u8 y, .int .u8 z] w fun e w' => e = .returned (.int .u8 (asc g N x y z).toNat) ∧ Below w.heap.size w w' := by
  have h10 := hq.hi
  have := associator_any N gb g (UInt8.ofNat x) (UInt8.ofNat y) (UInt8.ofNat z) w hq (by rw [u8_of x (by omega)]; exact hx) (by rw [u8_of y (by omega)]; exact hy) (by rw [u8_of z (by omega)]; exact hz) hg
  rw [u8_of x (by omega), u8_of y (by omega), u8_of z (by omega)] at this
  exact this
theorem commutator_natD (N gb x y : Nat) (g : Nat → UInt8) (w : World) (hq : IsSq N g) (hx : x < N) (hy : y < N) (hg : Dv w gb N g) :
    Calls Try.prog 110 #[.pointer (some ⟨gb, 0, none⟩), .int .u8 x, .int .u8 y] w fun e w' => e = .returned (.int .u8 (cmm g N x y).toNat) ∧ Below w.heap.size w w' := by
  have h10 := hq.hi
  have := commutator_any N gb g (UInt8.ofNat x) (UInt8.ofNat y) w hq (by rw [u8_of x (by omega)]; exact hx) (by rw [u8_of y (by omega)]; exact hy) hg
  rw [u8_of x (by omega), u8_of y (by omega)] at this
  exact this
set_option maxHeartbeats 1000000 in
theorem leftDifference_natD (N gb a x y : Nat) (g : Nat → UInt8) (w : World) (hq : IsSq N g) (ha : a < N) (hx : x < N) (hy : y < N) (hg : Dv w gb N g) :
    Calls Try.prog 68 #[.pointer (some ⟨gb, 0, none⟩), .int .u8 a, .int .u8 x, .int .u8 y] w fun e w' => e = .returned (.int .u8 (asc g N a x y).toNat) ∧ Below w.heap.size w w' := by
  have HQ := hid hq
  clear hq
  go_enter Try.func68, Try.ntmps68
  go_wp2_with (go_at_call 109; refine (associator_natD N gb a x y g _ HQ.out ha hx hy hg).mono ?_; rintro e w2 ⟨rfl, hb⟩)
  go_ret
  exact ⟨rfl, hb⟩
set_option maxHeartbeats 1000000 in
theorem turnedDifference_natD (N gb a x y : Nat) (g : Nat → UInt8) (w : World) (hq : IsSq N g) (ha : a < N) (hx : x < N) (hg : Dv w gb N g) :
    Calls Try.prog 69 #[.pointer (some ⟨gb, 0, none⟩), .int .u8 a, .int .u8 x, .int .u8 y] w fun e w' => e = .returned (.int .u8 (cmm g N a x).toNat) ∧ Below w.heap.size w w' := by
  have HQ := hid hq
  clear hq
  go_enter Try.func69, Try.ntmps69
  go_wp2_with (go_at_call 110; refine (commutator_natD N gb a x g _ HQ.out ha hx hg).mono ?_; rintro e w2 ⟨rfl, hb⟩)
  go_ret
  exact ⟨rfl, hb⟩
def ddI (j : Nat) : FuncId := if j = 0 then 68 else 69
theorem builtDD1 (k : FuncId) : (Try.prog).builtSlice 153 1 [(0, Value.func (.func k) #[] #[])] = some #[Value.func (.func k) #[] #[]] := by kernel_rfl
theorem builtDD2 (k l : FuncId) : (Try.prog).builtSlice 153 2 [(0, Value.func (.func k) #[] #[]), (1, Value.func (.func l) #[] #[])] = some #[Value.func (.func k) #[] #[], Value.func (.func l) #[] #[]] := by kernel_rfl
section
variable {ops : Array Oper} {rest : List Oper} {o : Oper} {a : Act} {w : World} {Q : Exit → Act → World → Prop}
theorem wpL_sliceDD1 {p : Operand} {k : FuncId} (hgd : o.guard = none) (ho : o.op = .buildSlice 119 1 #[(0, p)]) (hx : a.eval p = .func (.func k) #[] #[])
    (h : wpList Try.prog ops Q rest (a.put o.dst (.slice (some ⟨w.heap.size, 0, none⟩) 1 1)) (w.alloc (.cells #[Value.func (.func k) #[] #[]] 153))) : wpList Try.prog ops Q (o :: rest) a w := by
  refine Great.wpList_buildSliceTo hgd 119 153 1 _ ho _ rfl o.dst rfl Try.underlying119 #[Value.func (.func k) #[] #[]] ?_ h
  have hp : ((#[(0, p)] : Array (Nat × Operand)).map fun (i, x) => (i, a.eval x)).toList = [(0, Value.func (.func k) #[] #[])] := by simp [hx]
  rw [hp]
  exact builtDD1 k
theorem wpL_sliceDD2 {p q : Operand} {k l : FuncId} (hgd : o.guard = none) (ho : o.op = .buildSlice 119 2 #[(0, p), (1, q)]) (hx : a.eval p = .func (.func k) #[] #[]) (hy : a.eval q = .func (.func l) #[] #[])
    (h : wpList Try.prog ops Q rest (a.put o.dst (.slice (some ⟨w.heap.size, 0, none⟩) 2 2)) (w.alloc (.cells #[Value.func (.func k) #[] #[], Value.func (.func l) #[] #[]] 153))) : wpList Try.prog ops Q (o :: rest) a w := by
  refine Great.wpList_buildSliceTo hgd 119 153 2 _ ho _ rfl o.dst rfl Try.underlying119 #[Value.func (.func k) #[] #[], Value.func (.func l) #[] #[]] ?_ h
  have hp : ((#[(0, p), (1, q)] : Array (Nat × Operand)).map fun (i, x) => (i, a.eval x)).toList = [(0, Value.func (.func k) #[] #[]), (1, Value.func (.func l) #[] #[])] := by simp [hx, hy]
  rw [hp]
  exact builtDD2 k l
end
set_option maxRecDepth 20000 in
set_option maxHeartbeats 4000000 in
theorem differences_any (N gb b m : Nat) (g : Nat → UInt8) (ids : Nat → FuncId) (D : Nat → Nat → Nat → Nat → UInt8) (w : World) (h1 : 1 ≤ N) (h10 : N ≤ 10) (hm : m ≤ 4) (hE : Hid (∀ j, j < m → Enters Try.prog (ids j))) (hg : Dv w gb N g) (hd : DRow w b m ids)
    (hD : Hid (∀ j, j < m → ∀ a x y w, a < N → x < N → y < N → Dv w gb N g → Calls Try.prog (ids j) #[.pointer (some ⟨gb, 0, none⟩), .int .u8 (a : Nat), .int .u8 (x : Nat), .int .u8 (y : Nat)] w fun e w' => e = .returned (.int .u8 (D j a x y).toNat) ∧ Below w.heap.size w w'))
    (hlt : Hid (∀ j a x y, j < m → a < N → x < N → y < N → (D j a x y).toNat < 10)) :
    Calls Try.prog 108 #[.pointer (some ⟨gb, 0, none⟩), .slice (some ⟨b, 0, none⟩) m m] w fun e w' => e = .returned (.agg (bls 10 (paS D N m N))) ∧ Below w.heap.size w w' := by
  have hgb := holds_lt hg
  have hbb := hd.lt
  have hH := Has.start2 w (bls 10 fun _ => false) (bls 10 fun _ => false) 75 75
  have hN10 : (N : Int) ≤ 10 := by omega
  have hm4 : (m : Int) ≤ 4 := by omega
  have cN : ((w.alloc (.cells (bls 10 fun _ => false) 75)).alloc (.cells (bls 10 fun _ => false) 75)).cell? ⟨gb, 0, none⟩ = some (.int .i64 N) := by
    rw [holds_cell ((Dv.alloc hg _).alloc _), dvc_get0 _ _ _ _ _ (by omega), sqc_get0]
  replace hg := hid ((Dv.alloc hg (.cells (bls 10 fun _ => false) 75)).alloc (.cells (bls 10 fun _ => false) 75))
  replace hd := hid ((hd.alloc (.cells (bls 10 fun _ => false) 75)).alloc (.cells (bls 10 fun _ => false) 75))
  go_enter Try.func108, Try.ntmps108
  go_wp2_with (first | fail | (refine wpL_alloc rfl rfl zeroMe ?_; intro g0 hg0; (try simp at hg0); subst hg0))
  clear cN
  go_loopw [19] (fun i wr => ∃ k : Nat, k ≤ N ∧ i = .int .u8 k ∧ Has w wr [(bls 10 fun _ => false, 75), (bls 10 (paS D N m k), 75)] ∧ Hid (Dv wr gb N g) ∧ Hid (DRow wr b m ids)) (fun i _ => 20 - (intOf i).toNat)
  case atStart => exact ⟨0, by omega, rfl, hH, hg, hd⟩
  case round =>
    clear hH hg hd
    obtain ⟨k, hk, rfl, hH, hg, hd⟩ := hrel
    by_cases hkl : k < N
    · have hk' : (k : Int) < N := by omega
      have hk10 : (k : Int) < 10 := by omega
      obtain ⟨S0, hS0⟩ : ∃ S, paS D N m k = S := ⟨_, rfl⟩
      have HS0 := hid hS0
      rw [hS0] at hH
      clear hS0
      go_wp2
      go_loopw [23] (fun i wr => ∃ x : Nat, x ≤ N ∧ i = .int .u8 x ∧ Has w wr [(bls 10 fun _ => false, 75), (bls 10 (pxS D N m k S0 x), 75)] ∧ Hid (Dv wr gb N g) ∧ Hid (DRow wr b m ids)) (fun i _ => 20 - (intOf i).toNat)
      case atStart => exact ⟨0, by omega, rfl, hH, hg, hd⟩
      case round =>
        clear hH hg hd
        obtain ⟨x, hx, rfl, hH, hg, hd⟩ := hrel
        by_cases hxl : x < N
        · have hx' : (x : Int) < N := by omega
          have hx10 : (x : Int) < 10 := by omega
          obtain ⟨S1, hS1⟩ : ∃ S, pxS D N m k S0 x = S := ⟨_, rfl⟩
          have HS1 := hid hS1
          rw [hS1] at hH
          clear hS1
          go_wp2
          go_loopw [27] (fun i wr => ∃ y : Nat, y ≤ N ∧ i = .int .u8 y ∧ Has w wr [(bls 10 fun _ => false, 75), (bls 10 (pyS D N m k x S1 y), 75)] ∧ Hid (Dv wr gb N g) ∧ Hid (DRow wr b m ids)) (fun i _ => 20 - (intOf i).toNat)
          case atStart => exact ⟨0, by omega, rfl, hH, hg, hd⟩
          case round =>
            clear hH hg hd
            obtain ⟨y, hy, rfl, hH, hg, hd⟩ := hrel
            by_cases hyl : y < N
            · have hy' : (y : Int) < N := by omega
              have hy10 : (y : Int) < 10 := by omega
              obtain ⟨S2, hS2⟩ : ∃ S, pyS D N m k x S1 y = S := ⟨_, rfl⟩
              have HS2 := hid hS2
              rw [hS2] at hH
              clear hS2
              go_wp2
              go_loopw [32] (fun i wr => ∃ j : Nat, j ≤ m ∧ i = .int .i64 j ∧ Has w wr [(bls 10 fun _ => false, 75), (bls 10 (pjS D k x y S2 j), 75)] ∧ Hid (Dv wr gb N g) ∧ Hid (DRow wr b m ids)) (fun i _ => 20 - (intOf i).toNat)
              case atStart => exact ⟨0, by omega, rfl, hH, hg, hd⟩
              case round =>
                clear hH hg hd
                obtain ⟨j, hj, rfl, hH, hg, hd⟩ := hrel
                by_cases hjl : j < m
                · have hj' : (j : Int) < m := by omega
                  have cj := hd.out.cell hjl
                  have he : ∀ (args : Array Value) (w : World), (callFunc (ids j) args).run Try.prog w = .ok (.enter (ids j) args) w := hE.out j hjl
                  have hdl := hlt.out j k x y hjl hkl hxl hyl
                  obtain ⟨dv, hdv⟩ : ∃ dv, (D j k x y).toNat = dv := ⟨_, rfl⟩
                  rw [hdv] at hdl
                  have HD := hid hdv
                  have HST := hid (fun (i : Nat) => show pjS D k x y S2 (j + 1) i = if i = dv then true else pjS D k x y S2 j i from by show insS (pjS D k x y S2 j) (D j k x y).toNat i = _; rw [hdv]; rfl)
                  clear hdv
                  have hdl' : (dv : Int) < 10 := by omega
                  go_wp2_with (first | fail | (go_at_fn (ids j); refine (hD.out j hjl k x y _ hkl hxl hyl hg.out).mono ?_; rintro e w3 ⟨rfl, hb⟩; rw [HD.out]; replace hH := hH.call' hb; replace hg := hid (hg.out.below hb); replace hd := hid (hd.out.below hb); clear hb cj; have cs : w3.cell? ⟨w.heap.size + 1, dv, none⟩ = some (.bool (pjS D k x y S2 j dv)) := (by rw [hH.c1, bls_get _ _ _ hdl]); have fs := hH.f1 dv))
                  go_roundw
                  case rel => exact ⟨j + 1, by omega, by go_num, hH.s1 _ _ (bls_step 10 _ _ dv true (fun i _ => HST.out i)), hid (holds_other hg.out _ _ (by simp; omega)), hid (hd.out.block (heap_setCell_other _ _ _ _ (by simp; omega)))⟩
                  case measure => simp [intOf]; omega
                · obtain rfl : j = m := by omega
                  have HN2 := hid (show pyS D N j k x S1 (y + 1) = pjS D k x y S2 j by show pjS D k x y (pyS D N j k x S1 y) j = _; rw [HS2.out])
                  go_wp2
                  go_roundw
                  case rel => exact ⟨y + 1, by omega, by go_num, by rw [HN2.out]; exact hH, hg, hd⟩
                  case measure => simp [intOf]; omega
            · obtain rfl : y = N := by omega
              have HN2 := hid (show pxS D y m k S0 (x + 1) = pyS D y m k x S1 y by show pyS D y m k x (pxS D y m k S0 x) y = _; rw [HS1.out])
              go_wp2
              go_roundw
              case rel => exact ⟨x + 1, by omega, by go_num, by rw [HN2.out]; exact hH, hg, hd⟩
              case measure => simp [intOf]; omega
        · obtain rfl : x = N := by omega
          have HN2 := hid (show paS D x m (k + 1) = pxS D x m k S0 x by show pxS D x m k (paS D x m k) x = _; rw [HS0.out])
          go_wp2
          go_roundw
          case rel => exact ⟨k + 1, by omega, by go_num, by rw [HN2.out]; exact hH, hg, hd⟩
          case measure => simp [intOf]; omega
    · obtain rfl : k = N := by omega
      go_wp2_with (first | fail | (refine wpL_loadFull rfl rfl rfl rowMe hH.h1 (bls_size _ _) ?_) | (refine wpL_storeFull rfl rfl rfl rfl rowMe hH.h0 (bls_size _ _) (bls_ok _ _) ?_))
      exact ret_c rfl rfl hH.r0.h0 rowMe (bls_size _ _) ⟨rfl, hH.r0.below⟩
end Go.Proofs.Ytbdcbmennblcdab
namespace Go.Proofs.Ytbdcbmennblcdab
set_option linter.unusedVariables false
set_option linter.unusedSimpArgs false
open Go.RowKit
theorem ddI_enters (j : Nat) : Enters Try.prog (ddI j) := by
  unfold ddI
  split
  · exact enters_of Try.func68 (by kernel_rfl) rfl
  · exact enters_of Try.func69 (by kernel_rfl) rfl
theorem ddF_calls (N gb j a x y : Nat) (g : Nat → UInt8) (w : World) (hq : IsSq N g) (hj : j < 2) (ha : a < N) (hx : x < N) (hy : y < N) (hg : Dv w gb N g) :
    Calls Try.prog (ddI j) #[.pointer (some ⟨gb, 0, none⟩), .int .u8 a, .int .u8 x, .int .u8 y] w fun e w' => e = .returned (.int .u8 (ddF g N j a x y).toNat) ∧ Below w.heap.size w w' := by
  have : j = 0 ∨ j = 1 := by omega
  rcases this with rfl | rfl
  · exact leftDifference_natD N gb a x y g w hq ha hx hy hg
  · exact turnedDifference_natD N gb a x y g w hq ha hx hg
theorem ddF_lt {N j a x y : Nat} {g : Nat → UInt8} (hq : IsSq N g) (ha : a < N) (hx : x < N) (hy : y < N) : (ddF g N j a x y).toNat < 10 := by
  have h10 := hq.hi
  unfold ddF
  split
  · have := asc_lt hq ha hx hy; omega
  · have := cmm_lt hq ha hx; omega
structure DV where
  a : Nat
  v : Value
set_option maxRecDepth 20000 in
set_option maxHeartbeats 1000000 in
theorem closureOfDifferences_no (o : Int) (g : Nat → UInt8) (v : Value) (w : World) (hs : loopB o g = false) :
    Calls Try.prog 67 #[.agg (sqc o g), v] w fun e w' => e = .returned (.tuple #[.slice none 0 0, .int .i64 1]) ∧ Below w.heap.size w w' := by
  have hH := Has.start1 w (sqc o g) 31
  go_enter Try.func67, Try.ntmps67
  go_wp2_with (first | fail | (refine wpL_loadFull rfl rfl rfl rowSq hH.h0 (sqc_size _ _) ?_) | (go_at_call 93; refine (IsLoop_any o g _).mono ?_; rintro e w2 ⟨rfl, hb⟩; replace hH := hH.call' hb; clear hb; rw [hs]))
  go_ret2
  exact ⟨rfl, hH.below⟩
set_option maxRecDepth 20000 in
set_option maxHeartbeats 4000000 in
theorem closureOfDifferences_in (N b m : Nat) (both : Bool) (g : Nat → UInt8) (w : World) (hq : IsSq N g) (hl : loopB (N : Int) g = true) (hm : m = if both then 2 else 1) (hd : DRow w b m ddI) :
    Calls Try.prog 67 #[.agg (sqc N g), .slice (some ⟨b, 0, none⟩) m m] w (GotL (selL (ncF g N (mxS g N both N)) 10) 0 w) := by
  have h1 := hq.lo
  have h10 := hq.hi
  have hm2 : m ≤ 2 := by cases both <;> simp at hm <;> omega
  have HQ := hid hq
  have HDF := hid (df_same (g := g) (N := N) hm)
  have HLS : Hid (∀ i, i < 10 → mxS g N both N i = true → i < N) := hid (fun i _ h => isDf_lt hq (mxS_iff.1 h))
  have HE : Hid (∀ j, j < m → Enters Try.prog (ddI j)) := hid (fun j _ => ddI_enters j)
  have HLT : Hid (∀ j a x y, j < m → a < N → x < N → y < N → (ddF g N j a x y).toNat < 10) := hid (fun j a x y _ ha hx hy => ddF_lt hq ha hx hy)
  have HC := hid (fun (gb : Nat) => (show ∀ j, j < m → ∀ a x y w, a < N → x < N → y < N → Dv w gb N g → Calls Try.prog (ddI j) #[.pointer (some ⟨gb, 0, none⟩), .int .u8 (a : Nat), .int .u8 (x : Nat), .int .u8 (y : Nat)] w fun e w' => e = .returned (.int .u8 (ddF g N j a x y).toNat) ∧ Below w.heap.size w w' from fun j hj a x y w ha hx hy hg => ddF_calls N gb j a x y g w hq (by omega) ha hx hy hg))
  obtain ⟨S, hS⟩ : ∃ S, mxS g N both N = S := ⟨_, rfl⟩
  rw [hS] at HDF HLS ⊢
  clear hS hq hm
  have hH := Has.start1 w (sqc N g) 31
  replace hd := hid (hd.alloc (.cells (sqc N g) 31))
  go_enter Try.func67, Try.ntmps67
  go_wp2_with (first | fail | (refine wpL_loadFull rfl rfl rfl rowSq hH.h0 (sqc_size _ _) ?_) | (go_at_call 93; refine (IsLoop_any N g _).mono ?_; rintro e w2 ⟨rfl, hb⟩; replace hH := hH.call' hb; replace hd := hid (hd.out.below hb); clear hb; rw [hl]))
  obtain ⟨hL, hLe⟩ : ∃ h : Hid (DRow _ b m ddI), h = hd := ⟨_, rfl⟩
  clear hLe hd
  refine wp_region_frame (X := DV) (fun d x => [(9, bif d 0 then .agg (sqc N g) else undef), (10, bif d 1 then .agg (sqc N g) else undef), (11, bif d 2 then .pointer (some ⟨x.a, 0, none⟩) else undef), (12, bif d 3 then .slice (some ⟨b, 0, none⟩) m m else undef), (13, bif d 4 then .agg (bls 10 S) else undef), (14, bif d 5 then .agg (bls 10 (ncF g N S)) else undef), (15, bif d 6 then x.v else undef), (4, bif d 7 then x.v else .slice none 0 0), (5, bif d 8 then .int .i64 0 else .int .i64 0)])
    (fun d x w' => Has w w' [(sqc N g, 31)] ∧ Hid (DRow w' b m ddI) ∧ (d 2 = true → Hid (Dv w' x.a N g)) ∧ (d 6 = true → Hid (OL w' (w.heap.size + 1) x.v (selL (ncF g N S) 10))) ∧ (d 4 = true → d 2 = true) ∧ (d 5 = true → d 4 = true) ∧ (d 6 = true → d 5 = true) ∧ (d 7 = true → d 6 = true)) (by kernel_rfl) (by kernel_rfl) ?h0_cd ?hs_cd ?hq_cd
  case h0_cd => exact ⟨⟨0, .bool false⟩, (by simp [lput]), hH.drew, hid (hL.out.block rfl), (fun h => by cases h), (fun h => by cases h), (fun h => by cases h), (fun h => by cases h), (fun h => by cases h), (fun h => by cases h)⟩
  case hs_cd =>
    refine ⟨?_, ?_, ?_, ?_, ?_, ?_, ?_, ?_, ?_, trivial⟩
    all_goals
      clear hH hL
      intro d x w1 hd hn hJ
      simp only [needs, Region.binds, reduceCtorEq, Bool.false_eq_true, false_implies, true_and, and_true, true_implies, forall_const] at hn
      simp only [lput, List.set, hn, cond_true]
      obtain ⟨hH, hL, hD, hV, I4_2, I5_4, I6_5, I7_6⟩ := hJ
      (try have hD_ := hD (by simp only [hn]))
      (try have hV_ := hV (by simp only [hn]))
      have zz := hH.size
      simp only [List.length_cons, List.length_nil] at zz
      (try have hD4 := hD (by simp only [hn]))
      (try have y4 : d 4 = true := (by first | (simp only [hn]; done) | exact I5_4 (by simp only [hn]) | exact I5_4 (I6_5 (by simp only [hn])) | exact I5_4 (I6_5 (I7_6 (by simp only [hn])))))
      (try have y2 := I4_2 y4)
      (try have y5 : d 5 = true := (by first | (simp only [hn]; done) | exact I6_5 (by simp only [hn]) | exact I6_5 (I7_6 (by simp only [hn]))))
      (try have y6 : d 6 = true := (by first | (simp only [hn]; done) | exact I7_6 (by simp only [hn])))
      go_wp2_with (first | fail | (refine wpL_loadFull rfl rfl rfl rowSq hH.h0 (sqc_size _ _) ?_) | (go_at_call 107; have z4 := imp_no I4_2 hd; refine (divide_any N g _ HQ.out).mono ?_; rintro e w3 ⟨gb, rfl, hb, hD0, hlo⟩; have HD0 := hid hD0; replace hH := hH.call' hb; replace hL := hid (hL.out.below hb); replace hV := fun e => hid ((hV e).out.below hb)) | (go_at_call 108; refine (differences_any N x.a b m g ddI (ddF g N) _ h1 h10 (by omega) HE hD4.out hL.out (hid (HC.out x.a)) HLT).mono ?_; rintro e w3 ⟨rfl, hb⟩; rw [HDF.out]; replace hH := hH.call' hb; replace hL := hid (hL.out.below hb); replace hD := fun e => hid (Dv.below (hD e).out hb); replace hV := fun e => hid ((hV e).out.below hb)) | (go_at_call 62; refine (normalClosureOf_any N g S _ HQ.out HLS.out).mono ?_; rintro e w3 ⟨rfl, hb⟩; replace hH := hH.call' hb; replace hL := hid (hL.out.below hb); replace hD := fun e => hid (Dv.below (hD e).out hb); replace hV := fun e => hid ((hV e).out.below hb)) | (go_at_call 64; have z7 := imp_no I7_6 hd; refine (membersList_any (ncF g N S) _).mono ?_; rintro e w3 ⟨v3, rfl, hb, hO⟩; have HO3 := hid (hO.lower (by omega : w.heap.size + 1 ≤ _)); replace hH := hH.call' hb; replace hL := hid (hL.out.below hb); replace hD := fun e => hid (Dv.below (hD e).out hb); clear hO))
      first
        | (have z5 := imp_no I5_4 z4; have z6 := imp_no I6_5 z5; have z7 := imp_no I7_6 z6; refine ⟨{ x with a := gb }, ?_, hH, hL, (fun _ => HD0), (fun e => hV (done_ne e (by decide))), (by intro e; simp [done]), (by intro e; simp [done, z5] at e), (by intro e; simp [done, z6] at e), (by intro e; simp [done, z7] at e)⟩; (simp [lput, done, hn, z4, z5, z6, z7]; done))
        | (refine ⟨{ x with v := v3 }, ?_, hH, hL, (fun e => hD (done_ne e (by decide))), (fun _ => HO3), (by intro e; first | (simp [done]; done) | (have e2 := I4_2 (done_ne e (by decide)); simp [done, e2]; done) | (simp [done, hn]; done)), (by intro e; first | (simp [done]; done) | (have e2 := I5_4 (done_ne e (by decide)); simp [done, e2]; done) | (simp [done, hn]; done)), (by intro e; simp [done, hn]), (by intro e; simp [done])⟩; (first | (simp [lput, done, hn, z7]; done) | (have y5 : d 5 = true := (by simp only [hn]); have y4 := I5_4 y5; have y2 := I4_2 y4; simp [lput, done, hn, z7, y2, y4, y5]; done)))
        | (refine ⟨x, ?_, hH, hL, (fun e => hD (done_ne e (by decide))), (fun e => hV (done_ne e (by decide))), (by intro e; first | (simp [done]; done) | (have e2 := I4_2 (done_ne e (by decide)); simp [done, e2]; done) | (simp [done, hn]; done)), (by intro e; first | (simp [done]; done) | (have e2 := I5_4 (done_ne e (by decide)); simp [done, e2]; done) | (simp [done, hn]; done)), (by intro e; first | (simp [done]; done) | (have e2 := I6_5 (done_ne e (by decide)); simp [done, e2]; done) | (simp [done, hn]; done)), (by intro e; first | (simp [done]; done) | (have e2 := I7_6 (done_ne e (by decide)); simp [done, e2]; done) | (simp [done, hn]; done))⟩; (first | (simp [lput, done, hn, y2, y4, y5, y6]; done) | (simp [lput, done, hn, y2, y4, y5]; done) | (simp [lput, done, hn, y2, y4]; done)))
        | (refine ⟨x, ?_, hH, hL, (fun e => hD (done_ne e (by decide))), (fun e => hV (done_ne e (by decide))), (by intro e; first | (simp [done]; done) | (have e2 := I4_2 (done_ne e (by decide)); simp [done, e2]; done) | (simp [done, hn]; done)), (by intro e; first | (simp [done]; done) | (have e2 := I5_4 (done_ne e (by decide)); simp [done, e2]; done) | (simp [done, hn]; done)), (by intro e; first | (simp [done]; done) | (have e2 := I6_5 (done_ne e (by decide)); simp [done, e2]; done) | (simp [done, hn]; done)), (by intro e; first | (simp [done]; done) | (have e2 := I7_6 (done_ne e (by decide)); simp [done, e2]; done) | (simp [done, hn]; done))⟩; (simp [lput, done, hn]; done))
        | (refine ⟨?_, hH, hL, (fun e => hD (done_ne e (by decide))), (fun e => hV (done_ne e (by decide))), (by intro e; first | (simp [done]; done) | (have e2 := I4_2 (done_ne e (by decide)); simp [done, e2]; done) | (simp [done, hn]; done)), (by intro e; first | (simp [done]; done) | (have e2 := I5_4 (done_ne e (by decide)); simp [done, e2]; done) | (simp [done, hn]; done)), (by intro e; first | (simp [done]; done) | (have e2 := I6_5 (done_ne e (by decide)); simp [done, e2]; done) | (simp [done, hn]; done)), (by intro e; first | (simp [done]; done) | (have e2 := I7_6 (done_ne e (by decide)); simp [done, e2]; done) | (simp [done, hn]; done))⟩; (simp [lput, done, hn]; done))
        | (refine ⟨x, ?_, hH, hL, (fun e => hD (done_ne e (by decide))), (fun e => hV (done_ne e (by decide))), (by intro e; first | (simp [done]; done) | (have e2 := I4_2 (done_ne e (by decide)); simp [done, e2]; done) | (simp [done, hn]; done)), (by intro e; first | (simp [done]; done) | (have e2 := I5_4 (done_ne e (by decide)); simp [done, e2]; done) | (simp [done, hn]; done)), (by intro e; first | (simp [done]; done) | (have e2 := I6_5 (done_ne e (by decide)); simp [done, e2]; done) | (simp [done, hn]; done)), (by intro e; first | (simp [done]; done) | (have e2 := I7_6 (done_ne e (by decide)); simp [done, e2]; done) | (simp [done, hn]; done))⟩; (simp [lput, done, hn]; rfl))
        | (refine ⟨?_, hH, hL, (fun e => hD (done_ne e (by decide))), (fun e => hV (done_ne e (by decide))), (by intro e; first | (simp [done]; done) | (have e2 := I4_2 (done_ne e (by decide)); simp [done, e2]; done) | (simp [done, hn]; done)), (by intro e; first | (simp [done]; done) | (have e2 := I5_4 (done_ne e (by decide)); simp [done, e2]; done) | (simp [done, hn]; done)), (by intro e; first | (simp [done]; done) | (have e2 := I6_5 (done_ne e (by decide)); simp [done, e2]; done) | (simp [done, hn]; done)), (by intro e; first | (simp [done]; done) | (have e2 := I7_6 (done_ne e (by decide)); simp [done, e2]; done) | (simp [done, hn]; done))⟩; (simp [lput, done, hn]; rfl))
        | (refine ⟨x, ?_, hH, hL, (fun e => hD (done_ne e (by decide))), (fun e => hV (done_ne e (by decide))), (by intro e; first | (simp [done]; done) | (have e2 := I4_2 (done_ne e (by decide)); simp [done, e2]; done) | (simp [done, hn]; done)), (by intro e; first | (simp [done]; done) | (have e2 := I5_4 (done_ne e (by decide)); simp [done, e2]; done) | (simp [done, hn]; done)), (by intro e; first | (simp [done]; done) | (have e2 := I6_5 (done_ne e (by decide)); simp [done, e2]; done) | (simp [done, hn]; done)), (by intro e; first | (simp [done]; done) | (have e2 := I7_6 (done_ne e (by decide)); simp [done, e2]; done) | (simp [done, hn]; done))⟩; (simp [lput, done]; done))
        | (refine ⟨?_, hH, hL, (fun e => hD (done_ne e (by decide))), (fun e => hV (done_ne e (by decide))), (by intro e; first | (simp [done]; done) | (have e2 := I4_2 (done_ne e (by decide)); simp [done, e2]; done) | (simp [done, hn]; done)), (by intro e; first | (simp [done]; done) | (have e2 := I5_4 (done_ne e (by decide)); simp [done, e2]; done) | (simp [done, hn]; done)), (by intro e; first | (simp [done]; done) | (have e2 := I6_5 (done_ne e (by decide)); simp [done, e2]; done) | (simp [done, hn]; done)), (by intro e; first | (simp [done]; done) | (have e2 := I7_6 (done_ne e (by decide)); simp [done, e2]; done) | (simp [done, hn]; done))⟩; (simp [lput, done]; done))
        | (refine ⟨x, ?_, hH, hL, (fun e => hD (done_ne e (by decide))), (fun e => hV (done_ne e (by decide))), (by intro e; first | (simp [done]; done) | (have e2 := I4_2 (done_ne e (by decide)); simp [done, e2]; done) | (simp [done, hn]; done)), (by intro e; first | (simp [done]; done) | (have e2 := I5_4 (done_ne e (by decide)); simp [done, e2]; done) | (simp [done, hn]; done)), (by intro e; first | (simp [done]; done) | (have e2 := I6_5 (done_ne e (by decide)); simp [done, e2]; done) | (simp [done, hn]; done)), (by intro e; first | (simp [done]; done) | (have e2 := I7_6 (done_ne e (by decide)); simp [done, e2]; done) | (simp [done, hn]; done))⟩; (simp [lput, done]; rfl))
        | (refine ⟨?_, hH, hL, (fun e => hD (done_ne e (by decide))), (fun e => hV (done_ne e (by decide))), (by intro e; first | (simp [done]; done) | (have e2 := I4_2 (done_ne e (by decide)); simp [done, e2]; done) | (simp [done, hn]; done)), (by intro e; first | (simp [done]; done) | (have e2 := I5_4 (done_ne e (by decide)); simp [done, e2]; done) | (simp [done, hn]; done)), (by intro e; first | (simp [done]; done) | (have e2 := I6_5 (done_ne e (by decide)); simp [done, e2]; done) | (simp [done, hn]; done)), (by intro e; first | (simp [done]; done) | (have e2 := I7_6 (done_ne e (by decide)); simp [done, e2]; done) | (simp [done, hn]; done))⟩; (simp [lput, done]; rfl))
  case hq_cd =>
    clear hH hL
    intro d x w1 hd hJ
    simp only [allDone, List.length_cons, List.length_nil, Nat.reduceAdd, and_true] at hd
    obtain ⟨hH, hL, hD, hV, I4_2, I5_4, I6_5, I7_6⟩ := hJ
    replace hD := hD (by simp only [hd])
    replace hV := hV (by simp only [hd])
    clear I4_2
    clear I5_4
    clear I6_5
    clear I7_6
    simp only [lput, List.set, hd, cond_true]
    clear hd
    go_wp2
    go_ret2
    exact hV.out.got hH.below (by omega)
set_option maxRecDepth 20000 in
set_option maxHeartbeats 1000000 in
theorem implDerivedSubloop_no (o : Int) (g : Nat → UInt8) (w : World) (hs : loopB o g = false) :
    Calls Try.prog 30 #[.agg (sqc o g)] w fun e w' => e = .returned (.tuple #[.slice none 0 0, .int .i64 1]) ∧ Below w.heap.size w w' := by
  have hH := Has.start1 w (sqc o g) 31
  go_enter Try.func30, Try.ntmps30
  go_wp2_with (first | fail | (refine wpL_loadFull rfl rfl rfl rowSq hH.h0 (sqc_size _ _) ?_) | (refine wpL_sliceDD2 (k := 68) (l := 69) rfl (by rfl) (by rfl) (by rfl) ?_) | (go_at_call 67; refine (closureOfDifferences_no o g _ _ hs).mono ?_; rintro e w2 ⟨rfl, hb⟩; replace hH := (hH.alloc (.cells #[Value.func (.func 68) #[] #[], Value.func (.func 69) #[] #[]] 153)).call' hb; clear hb))
  go_ret2
  exact ⟨rfl, hH.below⟩
theorem drowDerivedSubloop (w : World) : DRow (w.alloc (.cells #[Value.func (.func 68) #[] #[], Value.func (.func 69) #[] #[]] 153)) w.heap.size 2 ddI :=
  ⟨_, holds_new _ _ _, fun j hj => by
    have h : j = 0 ∨ j = 1 := by omega
    rcases h with rfl | rfl
    · rfl
    · first | rfl | omega⟩
set_option maxRecDepth 20000 in
set_option maxHeartbeats 1000000 in
theorem implDerivedSubloop_in (N : Nat) (g : Nat → UInt8) (w : World) (hq : IsSq N g) (hl : loopB (N : Int) g = true) :
    Calls Try.prog 30 #[.agg (sqc N g)] w (GotL (selL (ncF g N (mxS g N true N)) 10) 0 w) := by
  have HQ := hid hq
  clear hq
  have hH := Has.start1 w (sqc N g) 31
  have HDR := hid (drowDerivedSubloop (w.alloc (.cells (sqc N g) 31)))
  go_enter Try.func30, Try.ntmps30
  go_wp2_with (first | fail | (refine wpL_loadFull rfl rfl rfl rowSq hH.h0 (sqc_size _ _) ?_) | (refine wpL_sliceDD2 (k := 68) (l := 69) rfl (by rfl) (by rfl) (by rfl) ?_) | (go_at_call 67; refine (closureOfDifferences_in N _ 2 true g _ HQ.out hl rfl (by simpa using HDR.out)).mono ?_; rintro e w2 ⟨v0, rfl, hb, hI0⟩; replace hH := (hH.alloc (.cells #[Value.func (.func 68) #[] #[], Value.func (.func 69) #[] #[]] 153)).call' hb; clear hb))
  go_ret2
  exact ⟨_, rfl, hH.below, hI0.lower (by simp; omega)⟩
set_option maxRecDepth 20000 in
set_option maxHeartbeats 1000000 in
theorem specDerivedSubloop_no (o : Int) (g : Nat → UInt8) (w : World) (hs : loopB o g = false) :
    Calls Try.prog 29 #[.agg (sqc o g)] w fun e w' => e = .returned (.tuple #[.slice none 0 0, .int .i64 1]) ∧ Below w.heap.size w w' := by
  have hH := Has.start1 w (sqc o g) 31
  go_enter Try.func29, Try.ntmps29
  go_wp2_with (first | fail | (refine wpL_loadFull rfl rfl rfl rowSq hH.h0 (sqc_size _ _) ?_) | (go_at_call 65; refine (l01Loop_any o g _).mono ?_; rintro e w2 ⟨rfl, hb⟩; replace hH := hH.call' hb; clear hb; rw [hs]))
  go_ret2
  exact ⟨rfl, hH.below⟩
set_option maxRecDepth 20000 in
set_option maxHeartbeats 1000000 in
theorem specDerivedSubloop_in (N : Nat) (g : Nat → UInt8) (w : World) (hL : IsLp N g) (hl : loopB (N : Int) g = true) :
    Calls Try.prog 29 #[.agg (sqc N g)] w (GotL (selL (ncF g N (mxS g N true N)) 10) 0 w) := by
  have HL := hid hL
  clear hL
  have hH := Has.start1 w (sqc N g) 31
  go_enter Try.func29, Try.ntmps29
  go_wp2_with (first | fail | (refine wpL_loadFull rfl rfl rfl rowSq hH.h0 (sqc_size _ _) ?_) | (go_at_call 65; refine (l01Loop_any N g _).mono ?_; rintro e w2 ⟨rfl, hb⟩; replace hH := hH.call' hb; clear hb; rw [hl]) | (go_at_call 66; have zz := hH.size; simp only [List.length_cons, List.length_nil] at zz; refine (l06Derived_true N g _ HL.out).mono ?_; rintro e w3 ⟨v0, rfl, hb, hI0⟩; replace hH := hH.call' hb; clear hb))
  go_ret2
  exact ⟨_, rfl, hH.below, hI0.lower (by omega)⟩
set_option maxRecDepth 20000 in
set_option maxHeartbeats 1000000 in
theorem implAssociatorSubloop_no (o : Int) (g : Nat → UInt8) (w : World) (hs : loopB o g = false) :
    Calls Try.prog 32 #[.agg (sqc o g)] w fun e w' => e = .returned (.tuple #[.slice none 0 0, .int .i64 1]) ∧ Below w.heap.size w w' := by
  have hH := Has.start1 w (sqc o g) 31
  go_enter Try.func32, Try.ntmps32
  go_wp2_with (first | fail | (refine wpL_loadFull rfl rfl rfl rowSq hH.h0 (sqc_size _ _) ?_) | (refine wpL_sliceDD1 (k := 68) rfl (by rfl) (by rfl) ?_) | (go_at_call 67; refine (closureOfDifferences_no o g _ _ hs).mono ?_; rintro e w2 ⟨rfl, hb⟩; replace hH := (hH.alloc (.cells #[Value.func (.func 68) #[] #[]] 153)).call' hb; clear hb))
  go_ret2
  exact ⟨rfl, hH.below⟩
theorem drowAssociatorSubloop (w : World) : DRow (w.alloc (.cells #[Value.func (.func 68) #[] #[]] 153)) w.heap.size 1 ddI :=
  ⟨_, holds_new _ _ _, fun j hj => by
    have h : j = 0 ∨ j = 1 := by omega
    rcases h with rfl | rfl
    · rfl
    · first | rfl | omega⟩
set_option maxRecDepth 20000 in
set_option maxHeartbeats 1000000 in
theorem implAssociatorSubloop_in (N : Nat) (g : Nat → UInt8) (w : World) (hq : IsSq N g) (hl : loopB (N : Int) g = true) :
    Calls Try.prog 32 #[.agg (sqc N g)] w (GotL (selL (ncF g N (mxS g N false N)) 10) 0 w) := by
  have HQ := hid hq
  clear hq
  have hH := Has.start1 w (sqc N g) 31
  have HDR := hid (drowAssociatorSubloop (w.alloc (.cells (sqc N g) 31)))
  go_enter Try.func32, Try.ntmps32
  go_wp2_with (first | fail | (refine wpL_loadFull rfl rfl rfl rowSq hH.h0 (sqc_size _ _) ?_) | (refine wpL_sliceDD1 (k := 68) rfl (by rfl) (by rfl) ?_) | (go_at_call 67; refine (closureOfDifferences_in N _ 1 false g _ HQ.out hl rfl (by simpa using HDR.out)).mono ?_; rintro e w2 ⟨v0, rfl, hb, hI0⟩; replace hH := (hH.alloc (.cells #[Value.func (.func 68) #[] #[]] 153)).call' hb; clear hb))
  go_ret2
  exact ⟨_, rfl, hH.below, hI0.lower (by simp; omega)⟩
set_option maxRecDepth 20000 in
set_option maxHeartbeats 1000000 in
theorem specAssociatorSubloop_no (o : Int) (g : Nat → UInt8) (w : World) (hs : loopB o g = false) :
    Calls Try.prog 31 #[.agg (sqc o g)] w fun e w' => e = .returned (.tuple #[.slice none 0 0, .int .i64 1]) ∧ Below w.heap.size w w' := by
  have hH := Has.start1 w (sqc o g) 31
  go_enter Try.func31, Try.ntmps31
  go_wp2_with (first | fail | (refine wpL_loadFull rfl rfl rfl rowSq hH.h0 (sqc_size _ _) ?_) | (go_at_call 65; refine (l01Loop_any o g _).mono ?_; rintro e w2 ⟨rfl, hb⟩; replace hH := hH.call' hb; clear hb; rw [hs]))
  go_ret2
  exact ⟨rfl, hH.below⟩
set_option maxRecDepth 20000 in
set_option maxHeartbeats 1000000 in
theorem specAssociatorSubloop_in (N : Nat) (g : Nat → UInt8) (w : World) (hL : IsLp N g) (hl : loopB (N : Int) g = true) :
    Calls Try.prog 31 #[.agg (sqc N g)] w (GotL (selL (ncF g N (mxS g N false N)) 10) 0 w) := by
  have HL := hid hL
  clear hL
  have hH := Has.start1 w (sqc N g) 31
  go_enter Try.func31, Try.ntmps31
  go_wp2_with (first | fail | (refine wpL_loadFull rfl rfl rfl rowSq hH.h0 (sqc_size _ _) ?_) | (go_at_call 65; refine (l01Loop_any N g _).mono ?_; rintro e w2 ⟨rfl, hb⟩; replace hH := hH.call' hb; clear hb; rw [hl]) | (go_at_call 66; have zz := hH.size; simp only [List.length_cons, List.length_nil] at zz; refine (l06Derived_false N g _ HL.out).mono ?_; rintro e w3 ⟨v0, rfl, hb, hI0⟩; replace hH := hH.call' hb; clear hb))
  go_ret2
  exact ⟨_, rfl, hH.below, hI0.lower (by omega)⟩
end Go.Proofs.Ytbdcbmennblcdab
