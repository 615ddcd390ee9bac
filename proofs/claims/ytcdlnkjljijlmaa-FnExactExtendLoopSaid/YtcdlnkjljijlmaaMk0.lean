/- Proved: in a group quotients are products with inverses; what the tables of doubles and of prolongations are, however they are filled; when places are all different. Conditions: those that each lemma names. -/
import Derived.Test.YtcdlnkjljijlmaaLc
import Derived.Test.YtcdlnkjljijlmaaGr1
namespace Go.Proofs.Ytcdlnkjljijlmaa
set_option linter.unusedVariables false
set_option linter.unusedSimpArgs false
open Go.RowKit
/-- a group: a loop whose product is associative. -/
structure IsGp (N : Nat) (g : Nat → UInt8) : Prop where
  lp : IsLp N g
  assoc : ∀ x y z, x < N → y < N → z < N → mu g (mu g x y) z = mu g x (mu g y z)
theorem group_true {o : Int} {g : Nat → UInt8} (h : groupB o g = true) : ∃ N : Nat, o = N ∧ IsGp N g ∧ sqB (N : Int) g = true ∧ loopB (N : Int) g = true := by
  unfold groupB at h
  rw [Bool.and_eq_true] at h
  obtain ⟨hl, ha⟩ := h
  obtain ⟨N, rfl, hp, hs, hll⟩ := loop_true hl
  refine ⟨N, rfl, ⟨hp, fun x y z hx hy hz => ?_⟩, hs, hll⟩
  unfold ascB at ha
  have ht := @of_decide_eq_true _ (Classical.propDecidable _) ha
  have := ht x y z hx hy hz (Or.inl hx)
  unfold asg at this
  exact congrArg UInt8.toNat this
/-- The element that multiplies y to 0 from the left. -/
def iv (g : Nat → UInt8) (N y : Nat) : UInt8 := backF (colF g y) N 0
theorem iv_lt {g : Nat → UInt8} {N y : Nat} (h : IsSq N g) (hy : y < N) : (iv g N y).toNat < N := (bk_lt (h.cols y hy) (by omega)).1
theorem iv_mul {g : Nat → UInt8} {N y : Nat} (h : IsSq N g) (hy : y < N) : mu g (iv g N y).toNat y = 0 := (bk_lt (h.cols y hy) (by omega)).2
theorem mu_0 {g : Nat → UInt8} {N x : Nat} (h : IsLp N g) (hx : x < N) : mu g 0 x = x := by have := h.row x hx; simpa [mu] using this
theorem mu_r0 {g : Nat → UInt8} {N x : Nat} (h : IsLp N g) (hx : x < N) : mu g x 0 = x := by have := h.col x hx; simpa [mu] using this
theorem mul_iv {g : Nat → UInt8} {N y : Nat} (h : IsGp N g) (hy : y < N) : mu g y (iv g N y).toNat = 0 := by
  have hs := h.lp.sq
  obtain ⟨i, hi⟩ : ∃ i, (iv g N y).toNat = i := ⟨_, rfl⟩
  have il : i < N := hi ▸ iv_lt hs hy
  have iy : mu g i y = 0 := hi ▸ iv_mul hs hy
  obtain ⟨j, hj⟩ : ∃ j, (iv g N i).toNat = j := ⟨_, rfl⟩
  have jl : j < N := hj ▸ iv_lt hs il
  have ji : mu g j i = 0 := hj ▸ iv_mul hs il
  rw [hi]
  have yl := mu_lt hs hy il
  have e1 : mu g y i = mu g (mu g j i) (mu g y i) := by rw [ji, mu_0 h.lp yl]
  rw [e1, h.assoc j i _ jl il yl, ← h.assoc i y i il hy il, iy, mu_0 h.lp il, ji]
theorem ov_iv {g : Nat → UInt8} {N x y : Nat} (h : IsGp N g) (hx : x < N) (hy : y < N) : backF (colF g y) N x = g (x * 10 + (iv g N y).toNat) := by
  have hs := h.lp.sq
  have il := iv_lt hs hy
  have ml := mu_lt hs hx il
  have e : mu g (mu g x (iv g N y).toNat) y = x := by rw [h.assoc _ _ _ hx il hy, iv_mul hs hy, mu_r0 h.lp hx]
  have := bk_at (hs.cols y hy) ml
  rw [show (colF g y (mu g x (iv g N y).toNat)).toNat = x from e] at this
  exact UInt8.toNat_inj.1 this
theorem ld_iv {g : Nat → UInt8} {N x y : Nat} (h : IsGp N g) (hx : x < N) (hy : y < N) : ld g N y x = g ((iv g N y).toNat * 10 + x) := by
  have hs := h.lp.sq
  have il := iv_lt hs hy
  have ml := mu_lt hs il hx
  have e : mu g y (mu g (iv g N y).toNat x) = x := by rw [← h.assoc _ _ _ hy il hx, mul_iv h hy, mu_0 h.lp hx]
  have := bk_at (hs.rows y hy) ml
  rw [show (rowF g y (mu g (iv g N y).toNat x)).toNat = x from e] at this
  exact UInt8.toNat_inj.1 this
/-- A number put in at one place. -/
def up (f : Nat → UInt8) (i : Nat) (v : UInt8) : Nat → UInt8 := fun j => if j = i then v else f j
/-- The products of the double of a group. -/
def dubV (g : Nat → UInt8) (N x y : Nat) : UInt8 :=
  if x < N then (if y < N then g (x * 10 + y) else UInt8.ofNat N + g ((y - N) * 10 + x))
  else if y < N then UInt8.ofNat N + backF (colF g y) N (x - N) else ld g N (y - N) (x - N)
def dubF (g : Nat → UInt8) (N : Nat) : Nat → UInt8 := fillT (2 * N) (dubV g N) (2 * N) 0
/-- The table of the model's double, filled as far as row k and column j. -/
structure DubTo (g h : Nat → UInt8) (N k j : Nat) : Prop where
  a : ∀ x y, x < N → y < N → (x < k ∨ x = k ∧ y < j) → h (x * 10 + y) = g (x * 10 + y) ∧ h (x * 10 + (N + y)) = UInt8.ofNat N + g (y * 10 + x) ∧ h ((N + x) * 10 + y) = UInt8.ofNat N + g (x * 10 + (iv g N y).toNat) ∧ h ((N + x) * 10 + (N + y)) = g ((iv g N y).toNat * 10 + x)
  z : ∀ x y, x < 10 → y < 10 → 2 * N ≤ x ∨ 2 * N ≤ y → h (x * 10 + y) = 0
theorem DubTo.start (g : Nat → UInt8) (N : Nat) : DubTo g (fun _ => 0) N 0 0 := ⟨fun _ _ _ _ h => by omega, fun _ _ _ _ _ => rfl⟩
theorem DubTo.row {g h : Nat → UInt8} {N k : Nat} (d : DubTo g h N k N) : DubTo g h N (k + 1) 0 := ⟨fun x y hx hy hl => d.a x y hx hy (by omega), d.z⟩
theorem DubTo.step {g h : Nat → UInt8} {N k j : Nat} (d : DubTo g h N k j) (h5 : N ≤ 5) (hk : k < N) (hj : j < N) :
    DubTo g (up (up (up (up h (k * 10 + j) (g (k * 10 + j))) (k * 10 + (N + j)) (UInt8.ofNat N + g (j * 10 + k))) ((N + k) * 10 + j) (UInt8.ofNat N + g (k * 10 + (iv g N j).toNat))) ((N + k) * 10 + (N + j)) (g ((iv g N j).toNat * 10 + k))) N k (j + 1) := by
  refine ⟨fun x y hx hy hl => ?_, fun x y hx hy hl => ?_⟩
  · unfold up
    by_cases e : x = k ∧ y = j
    · obtain ⟨rfl, rfl⟩ := e
      refine ⟨?_, ?_, ?_, ?_⟩
      · rw [if_neg (by omega), if_neg (by omega), if_neg (by omega), if_pos rfl]
      · rw [if_neg (by omega), if_neg (by omega), if_pos rfl]
      · rw [if_neg (by omega), if_pos rfl]
      · rw [if_pos rfl]
    · have hh := d.a x y hx hy (by omega)
      refine ⟨?_, ?_, ?_, ?_⟩
      · rw [if_neg (by omega), if_neg (by omega), if_neg (by omega), if_neg (by omega)]; exact hh.1
      · rw [if_neg (by omega), if_neg (by omega), if_neg (by omega), if_neg (by omega)]; exact hh.2.1
      · rw [if_neg (by omega), if_neg (by omega), if_neg (by omega), if_neg (by omega)]; exact hh.2.2.1
      · rw [if_neg (by omega), if_neg (by omega), if_neg (by omega), if_neg (by omega)]; exact hh.2.2.2
  · unfold up
    rw [if_neg (by omega), if_neg (by omega), if_neg (by omega), if_neg (by omega)]; exact d.z x y hx hy hl
theorem DubTo.done {g h : Nat → UInt8} {N : Nat} (d : DubTo g h N N 0) (hg : IsGp N g) (h5 : N ≤ 5) (o : Int) : sqc o h = sqc o (dubF g N) := by
  refine sqc_congr o _ _ fun i hi => fillT_eq (by omega) (fun x y hx hy => ?_) (fun x y hx hy hl => d.z x y hx hy hl) i hi
  unfold dubV
  by_cases h1 : x < N
  · rw [if_pos h1]
    by_cases h2 : y < N
    · rw [if_pos h2]; exact (d.a x y h1 h2 (Or.inl h1)).1
    · rw [if_neg h2]
      have := (d.a x (y - N) h1 (by omega) (Or.inl h1)).2.1
      rwa [show N + (y - N) = y by omega] at this
  · rw [if_neg h1]
    by_cases h2 : y < N
    · rw [if_pos h2, ov_iv hg (by omega) h2]
      have := (d.a (x - N) y (by omega) h2 (Or.inl (by omega))).2.2.1
      rwa [show N + (x - N) = x by omega] at this
    · rw [if_neg h2, ld_iv hg (by omega) (by omega)]
      have := (d.a (x - N) (y - N) (by omega) (by omega) (Or.inl (by omega))).2.2.2
      rwa [show N + (x - N) = x by omega, show N + (y - N) = y by omega] at this
/-- The products of a prolongation. -/
def proV (g c : Nat → UInt8) (N x y : Nat) : UInt8 :=
  if x = N then (if y = N then UInt8.ofNat N else g ((backF c N y).toNat * 10 + y))
  else if y = N then g (x * 10 + (c x).toNat) else if (c x).toNat = y then UInt8.ofNat N else g (x * 10 + y)
def proF (g c : Nat → UInt8) (N : Nat) : Nat → UInt8 := fillT (N + 1) (proV g c N) (N + 1) 0
/-- The table of the model's prolongation, filled as far as row k. -/
structure ProTo (g c h : Nat → UInt8) (N k : Nat) : Prop where
  a : ∀ x y, x < N → y < N → h (x * 10 + y) = if x < k ∧ (c x).toNat = y then UInt8.ofNat N else g (x * 10 + y)
  r : ∀ x, x < k → h (x * 10 + N) = g (x * 10 + (c x).toNat) ∧ h (N * 10 + (c x).toNat) = g (x * 10 + (c x).toNat)
  z : ∀ x y, x < 10 → y < 10 → N < x ∨ N < y → h (x * 10 + y) = 0
theorem ProTo.start {g : Nat → UInt8} {N : Nat} (c : Nat → UInt8) (hg : IsSq N g) : ProTo g c g N 0 :=
  ⟨fun x y _ _ => by rw [if_neg (by omega)], fun _ h => by omega, fun x y hx hy hl => hg.zero x y hx hy (by omega)⟩
theorem ProTo.step {g c h : Nat → UInt8} {N k : Nat} (d : ProTo g c h N k) (hc : IsPerm c N) (h9 : N ≤ 9) (hk : k < N) :
    ProTo g c (up (up (up h (k * 10 + (c k).toNat) (UInt8.ofNat N)) (k * 10 + N) (g (k * 10 + (c k).toNat))) (N * 10 + (c k).toNat) (g (k * 10 + (c k).toNat))) N (k + 1) := by
  have hcl := hc.lt k hk
  refine ⟨fun x y hx hy => ?_, fun x hx => ?_, fun x y hx hy hl => ?_⟩
  · unfold up
    by_cases e : x = k ∧ y = (c k).toNat
    · obtain ⟨rfl, rfl⟩ := e
      rw [if_neg (by omega), if_neg (by omega), if_pos rfl, if_pos ⟨by omega, rfl⟩]
    · rw [if_neg (by omega), if_neg (by omega), if_neg (by omega), d.a x y hx hy]
      by_cases q : x < k ∧ (c x).toNat = y
      · rw [if_pos q, if_pos ⟨by omega, q.2⟩]
      · rw [if_neg q, if_neg (fun q2 => by
          by_cases hxk : x = k
          · subst hxk; exact e ⟨rfl, q2.2.symm⟩
          · exact q ⟨by omega, q2.2⟩)]
  · unfold up
    by_cases e : x = k
    · subst e
      exact ⟨by rw [if_neg (by omega), if_pos rfl], by rw [if_pos rfl]⟩
    · have hxk : x < k := by omega
      have hne : (c x).toNat ≠ (c k).toNat := hc.inj x k hxk hk
      have hxl := hc.lt x (by omega)
      have dr := d.r x hxk
      refine ⟨?_, ?_⟩
      · rw [if_neg (by omega), if_neg (by omega), if_neg (by omega)]; exact dr.1
      · rw [if_neg (by omega), if_neg (by omega), if_neg (by omega)]; exact dr.2
  · unfold up
    rw [if_neg (by omega), if_neg (by omega), if_neg (by omega)]; exact d.z x y hx hy hl
theorem ProTo.done {g c h : Nat → UInt8} {N : Nat} (d : ProTo g c h N N) (hc : IsPerm c N) (h9 : N ≤ 9) (o : Int) : sqc o (up h (N * 10 + N) (UInt8.ofNat N)) = sqc o (proF g c N) := by
  refine sqc_congr o _ _ fun i hi => fillT_eq (by omega) (fun x y hx hy => ?_) (fun x y hx hy hl => ?_) i hi
  · unfold proV up
    by_cases h1 : x = N
    · subst h1
      rw [if_pos rfl]
      by_cases h2 : y = x
      · subst h2; rw [if_pos rfl, if_pos rfl]
      · rw [if_neg h2, if_neg (by omega)]
        have hb := bk_lt hc (z := y) (by omega)
        have := (d.r _ hb.1).2
        rw [hb.2] at this
        exact this
    · rw [if_neg h1]
      by_cases h2 : y = N
      · subst h2; rw [if_pos rfl, if_neg (by omega)]; exact (d.r x (by omega)).1
      · rw [if_neg h2, if_neg (by omega), d.a x y (by omega) (by omega)]
        by_cases q : (c x).toNat = y
        · rw [if_pos q, if_pos ⟨by omega, q⟩]
        · rw [if_neg q, if_neg (fun e => q e.2)]
  · unfold up
    rw [if_neg (by omega)]; exact d.z x y hx hy (by omega)
/-- The first k of some places, and 0 behind them. -/
def mdF (d : Nat → UInt8) (k : Nat) : Nat → UInt8 := fun i => if i < k then d i else 0
theorem mdF_zero (d : Nat → UInt8) : mdF d 0 = fun _ => 0 := by funext i; simp [mdF]
theorem mdF_step (d : Nat → UInt8) (k j : Nat) : mdF d (k + 1) j = if j = k then d k else mdF d k j := by
  unfold mdF
  by_cases h : j = k
  · subst h; rw [if_pos (by omega), if_pos rfl]
  · rw [if_neg h]
    by_cases h2 : j < k
    · rw [if_pos (by omega), if_pos h2]
    · rw [if_neg (by omega), if_neg h2]
/-- The numbers ahead of N are all different. -/
noncomputable def difB (d : Nat → UInt8) (N : Nat) : Bool := permB (mdF d N) (N : Int)
theorem difB_yes {d : Nat → UInt8} {N : Nat} (h1 : 1 ≤ N) (h10 : N ≤ 10) (hl : ∀ i, i < N → (d i).toNat < N) (h : ∀ i j, i < j → j < N → (d i).toNat ≠ (d j).toNat) : difB d N = true := by
  refine permB_nat.2 ⟨h1, h10, fun i hi => ?_, fun i j hi hj => ?_, fun i hi _ => ?_⟩
  · unfold mdF; rw [if_pos hi]; exact hl i hi
  · unfold mdF; rw [if_pos (by omega), if_pos hj]; exact h i j hi hj
  · unfold mdF; rw [if_neg (by omega)]; rfl
theorem difB_no {d : Nat → UInt8} {N i j : Nat} (hi : i < j) (hj : j < N) (e : (d i).toNat = (d j).toNat) : difB d N = false := by
  cases hb : difB d N with
  | false => rfl
  | true =>
    have := (permB_nat.1 hb).inj i j hi hj
    unfold mdF at this
    rw [if_pos (by omega), if_pos hj] at this
    exact absurd e this
/-- So it is as far as the first k numbers tell. -/
def DifTo (d : Nat → UInt8) (k : Nat) : Prop := ∀ i j, i < j → j < k → (d i).toNat ≠ (d j).toNat
/-- Which numbers have been met among the first k. -/
def metD (d : Nat → UInt8) (k j : Nat) : Bool := metB d k k j
theorem metD_zero (d : Nat → UInt8) (j : Nat) : metD d 0 j = false := metB_zero d 0 j
theorem metD_iff {d : Nat → UInt8} {k j : Nat} : metD d k j = true ↔ ∃ i, i < k ∧ (d i).toNat = j := by
  unfold metD; rw [metB_iff]; exact ⟨fun ⟨i, a, _, b⟩ => ⟨i, a, b⟩, fun ⟨i, a, b⟩ => ⟨i, a, a, b⟩⟩
theorem metD_succ (d : Nat → UInt8) (k j : Nat) : metD d (k + 1) j = if j = (d k).toNat then true else metD d k j := by
  by_cases h : j = (d k).toNat
  · rw [if_pos h]; exact metD_iff.2 ⟨k, by omega, h.symm⟩
  · rw [if_neg h]
    rw [Bool.eq_iff_iff, metD_iff, metD_iff]
    constructor
    · rintro ⟨i, a, b⟩
      exact ⟨i, by
        by_cases e : i = k
        · subst e; exact absurd b.symm h
        · omega, b⟩
    · rintro ⟨i, a, b⟩; exact ⟨i, by omega, b⟩
theorem DifTo.step {d : Nat → UInt8} {k : Nat} (h : DifTo d k) (hm : metD d k (d k).toNat = false) : DifTo d (k + 1) := fun i j hi hj => by
  by_cases e : j = k
  · subst e
    intro q
    rw [metD_iff.2 ⟨i, hi, q⟩] at hm
    cases hm
  · exact h i j hi (by omega)
theorem difB_met {d : Nat → UInt8} {N k : Nat} (hk : k < N) (hm : metD d k (d k).toNat = true) : difB d N = false := by
  obtain ⟨i, hi, e⟩ := metD_iff.1 hm
  exact difB_no hi hk e
theorem difB_congr {d d' : Nat → UInt8} {N : Nat} (h : ∀ i, i < N → d i = d' i) : difB d N = difB d' N := by
  unfold difB
  congr 1
  funext i
  unfold mdF
  by_cases hi : i < N
  · rw [if_pos hi, if_pos hi, h i hi]
  · rw [if_neg hi, if_neg hi]
end Go.Proofs.Ytcdlnkjljijlmaa
