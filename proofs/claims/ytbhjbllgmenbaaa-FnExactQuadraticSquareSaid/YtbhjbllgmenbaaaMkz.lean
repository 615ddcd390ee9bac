/- Proved: lemmas on groups as functions, and what the functions that make squares of groups return, of program and model alike. Conditions: those that each theorem names. -/
import Derived.Test.YtbhjbllgmenbaaaLc
import Derived.Test.YtbhjbllgmenbaaaGr1
import Derived.Test.YtbhjbllgmenbaaaDv
import Derived.Test.YtbhjbllgmenbaaaPa1
import Derived.Deep.LoopGhost
import Derived.Shelf.Abstract
import Derived.Test.YtbhjbllgmenbaaaGr
import Derived.Test.YtbhjbllgmenbaaaPs
import Derived.Test.YtbhjbllgmenbaaaIv
import Derived.Test.YtbhjbllgmenbaaaLx
namespace Go.Proofs.Ytbhjbllgmenbaaa
set_option linter.unusedVariables false
set_option linter.unusedSimpArgs false
open Go.RowKit
/-- a group: a loop whose product is associative. -/
structure IsGp (N : Nat) (g : Nat → UInt8) : Prop where
  lp : IsLp N g
  assoc : ∀ x y z, x < N → y < N → z < N → mu g (mu g x y) z = mu g x (mu g y z)
theorem group_true {o : Int} {g : Nat → UInt8} (h : groupB o g = true) : ∃ N : Nat, o = N ∧ IsGp N g ∧ sqB (N : Int) g = true ∧ loopB (N : Int) g = true := by
  unfold groupB at h
  rw [Bool.and_eq_true] at h
  obtain ⟨hl, ha⟩ := h
  obtain ⟨N, rfl, hp, hs, hll⟩ := loop_true hl
  refine ⟨N, rfl, ⟨hp, fun x y z hx hy hz => ?_⟩, hs, hll⟩
  unfold ascB at ha
  have ht := @of_decide_eq_true _ (Classical.propDecidable _) ha
  have := ht x y z hx hy hz (Or.inl hx)
  unfold asg at this
  exact congrArg UInt8.toNat this
/-- The element that multiplies y to 0 from the left. -/
def iv (g : Nat → UInt8) (N y : Nat) : UInt8 := backF (colF g y) N 0
theorem iv_lt {g : Nat → UInt8} {N y : Nat} (h : IsSq N g) (hy : y < N) : (iv g N y).toNat < N := (bk_lt (h.cols y hy) (by omega)).1
theorem iv_mul {g : Nat → UInt8} {N y : Nat} (h : IsSq N g) (hy : y < N) : mu g (iv g N y).toNat y = 0 := (bk_lt (h.cols y hy) (by omega)).2
theorem mu_0 {g : Nat → UInt8} {N x : Nat} (h : IsLp N g) (hx : x < N) : mu g 0 x = x := by have := h.row x hx; simpa [mu] using this
theorem mu_r0 {g : Nat → UInt8} {N x : Nat} (h : IsLp N g) (hx : x < N) : mu g x 0 = x := by have := h.col x hx; simpa [mu] using this
theorem mul_iv {g : Nat → UInt8} {N y : Nat} (h : IsGp N g) (hy : y < N) : mu g y (iv g N y).toNat = 0 := by
  have hs := h.lp.sq
  obtain ⟨i, hi⟩ : ∃ i, (iv g N y).toNat = i := ⟨_, rfl⟩
  have il : i < N := hi ▸ iv_lt hs hy
  have iy : mu g i y = 0 := hi ▸ iv_mul hs hy
  obtain ⟨j, hj⟩ : ∃ j, (iv g N i).toNat = j := ⟨_, rfl⟩
  have jl : j < N := hj ▸ iv_lt hs il
  have ji : mu g j i = 0 := hj ▸ iv_mul hs il
  rw [hi]
  have yl := mu_lt hs hy il
  have e1 : mu g y i = mu g (mu g j i) (mu g y i) := by rw [ji, mu_0 h.lp yl]
  rw [e1, h.assoc j i _ jl il yl, ← h.assoc i y i il hy il, iy, mu_0 h.lp il, ji]
theorem ov_iv {g : Nat → UInt8} {N x y : Nat} (h : IsGp N g) (hx : x < N) (hy : y < N) : backF (colF g y) N x = g (x * 10 + (iv g N y).toNat) := by
  have hs := h.lp.sq
  have il := iv_lt hs hy
  have ml := mu_lt hs hx il
  have e : mu g (mu g x (iv g N y).toNat) y = x := by rw [h.assoc _ _ _ hx il hy, iv_mul hs hy, mu_r0 h.lp hx]
  have := bk_at (hs.cols y hy) ml
  rw [show (colF g y (mu g x (iv g N y).toNat)).toNat = x from e] at this
  exact UInt8.toNat_inj.1 this
theorem ld_iv {g : Nat → UInt8} {N x y : Nat} (h : IsGp N g) (hx : x < N) (hy : y < N) : ld g N y x = g ((iv g N y).toNat * 10 + x) := by
  have hs := h.lp.sq
  have il := iv_lt hs hy
  have ml := mu_lt hs il hx
  have e : mu g y (mu g (iv g N y).toNat x) = x := by rw [← h.assoc _ _ _ hy il hx, mul_iv h hy, mu_0 h.lp hx]
  have := bk_at (hs.rows y hy) ml
  rw [show (rowF g y (mu g (iv g N y).toNat x)).toNat = x from e] at this
  exact UInt8.toNat_inj.1 this
/-- A number put in at one place. -/
def up (f : Nat → UInt8) (i : Nat) (v : UInt8) : Nat → UInt8 := fun j => if j = i then v else f j
/-- The products of the double of a group. -/
def dubV (g : Nat → UInt8) (N x y : Nat) : UInt8 :=
  if x < N then (if y < N then g (x * 10 + y) else UInt8.ofNat N + g ((y - N) * 10 + x))
  else if y < N then UInt8.ofNat N + backF (colF g y) N (x - N) else ld g N (y - N) (x - N)
def dubF (g : Nat → UInt8) (N : Nat) : Nat → UInt8 := fillT (2 * N) (dubV g N) (2 * N) 0
/-- The table of the model's double, filled as far as row k and column j. -/
structure DubTo (g h : Nat → UInt8) (N k j : Nat) : Prop where
  a : ∀ x y, x < N → y < N → (x < k ∨ x = k ∧ y < j) → h (x * 10 + y) = g (x * 10 + y) ∧ h (x * 10 + (N + y)) = UInt8.ofNat N + g (y * 10 + x) ∧ h ((N + x) * 10 + y) = UInt8.ofNat N + g (x * 10 + (iv g N y).toNat) ∧ h ((N + x) * 10 + (N + y)) = g ((iv g N y).toNat * 10 + x)
  z : ∀ x y, x < 10 → y < 10 → 2 * N ≤ x ∨ 2 * N ≤ y → h (x * 10 + y) = 0
theorem DubTo.start (g : Nat → UInt8) (N : Nat) : DubTo g (fun _ => 0) N 0 0 := ⟨fun _ _ _ _ h => by omega, fun _ _ _ _ _ => rfl⟩
theorem DubTo.row {g h : Nat → UInt8} {N k : Nat} (d : DubTo g h N k N) : DubTo g h N (k + 1) 0 := ⟨fun x y hx hy hl => d.a x y hx hy (by omega), d.z⟩
theorem DubTo.step {g h : Nat → UInt8} {N k j : Nat} (d : DubTo g h N k j) (h5 : N ≤ 5) (hk : k < N) (hj : j < N) :
    DubTo g (up (up (up (up h (k * 10 + j) (g (k * 10 + j))) (k * 10 + (N + j)) (UInt8.ofNat N + g (j * 10 + k))) ((N + k) * 10 + j) (UInt8.ofNat N + g (k * 10 + (iv g N j).toNat))) ((N + k) * 10 + (N + j)) (g ((iv g N j).toNat * 10 + k))) N k (j + 1) := by
  refine ⟨fun x y hx hy hl => ?_, fun x y hx hy hl => ?_⟩
  · unfold up
    by_cases e : x = k ∧ y = j
    · obtain ⟨rfl, rfl⟩ := e
      refine ⟨?_, ?_, ?_, ?_⟩
      · rw [if_neg (by omega), if_neg (by omega), if_neg (by omega), if_pos rfl]
      · rw [if_neg (by omega), if_neg (by omega), if_pos rfl]
      · rw [if_neg (by omega), if_pos rfl]
      · rw [if_pos rfl]
    · have hh := d.a x y hx hy (by omega)
      refine ⟨?_, ?_, ?_, ?_⟩
      · rw [if_neg (by omega), if_neg (by omega), if_neg (by omega), if_neg (by omega)]; exact hh.1
      · rw [if_neg (by omega), if_neg (by omega), if_neg (by omega), if_neg (by omega)]; exact hh.2.1
      · rw [if_neg (by omega), if_neg (by omega), if_neg (by omega), if_neg (by omega)]; exact hh.2.2.1
      · rw [if_neg (by omega), if_neg (by omega), if_neg (by omega), if_neg (by omega)]; exact hh.2.2.2
  · unfold up
    rw [if_neg (by omega), if_neg (by omega), if_neg (by omega), if_neg (by omega)]; exact d.z x y hx hy hl
theorem DubTo.done {g h : Nat → UInt8} {N : Nat} (d : DubTo g h N N 0) (hg : IsGp N g) (h5 : N ≤ 5) (o : Int) : sqc o h = sqc o (dubF g N) := by
  refine sqc_congr o _ _ fun i hi => fillT_eq (by omega) (fun x y hx hy => ?_) (fun x y hx hy hl => d.z x y hx hy hl) i hi
  unfold dubV
  by_cases h1 : x < N
  · rw [if_pos h1]
    by_cases h2 : y < N
    · rw [if_pos h2]; exact (d.a x y h1 h2 (Or.inl h1)).1
    · rw [if_neg h2]
      have := (d.a x (y - N) h1 (by omega) (Or.inl h1)).2.1
      rwa [show N + (y - N) = y by omega] at this
  · rw [if_neg h1]
    by_cases h2 : y < N
    · rw [if_pos h2, ov_iv hg (by omega) h2]
      have := (d.a (x - N) y (by omega) h2 (Or.inl (by omega))).2.2.1
      rwa [show N + (x - N) = x by omega] at this
    · rw [if_neg h2, ld_iv hg (by omega) (by omega)]
      have := (d.a (x - N) (y - N) (by omega) (by omega) (Or.inl (by omega))).2.2.2
      rwa [show N + (x - N) = x by omega, show N + (y - N) = y by omega] at this
/-- The products of a prolongation. -/
def proV (g c : Nat → UInt8) (N x y : Nat) : UInt8 :=
  if x = N then (if y = N then UInt8.ofNat N else g ((backF c N y).toNat * 10 + y))
  else if y = N then g (x * 10 + (c x).toNat) else if (c x).toNat = y then UInt8.ofNat N else g (x * 10 + y)
def proF (g c : Nat → UInt8) (N : Nat) : Nat → UInt8 := fillT (N + 1) (proV g c N) (N + 1) 0
/-- The table of the model's prolongation, filled as far as row k. -/
structure ProTo (g c h : Nat → UInt8) (N k : Nat) : Prop where
  a : ∀ x y, x < N → y < N → h (x * 10 + y) = if x < k ∧ (c x).toNat = y then UInt8.ofNat N else g (x * 10 + y)
  r : ∀ x, x < k → h (x * 10 + N) = g (x * 10 + (c x).toNat) ∧ h (N * 10 + (c x).toNat) = g (x * 10 + (c x).toNat)
  z : ∀ x y, x < 10 → y < 10 → N < x ∨ N < y → h (x * 10 + y) = 0
theorem ProTo.start {g : Nat → UInt8} {N : Nat} (c : Nat → UInt8) (hg : IsSq N g) : ProTo g c g N 0 :=
  ⟨fun x y _ _ => by rw [if_neg (by omega)], fun _ h => by omega, fun x y hx hy hl => hg.zero x y hx hy (by omega)⟩
theorem ProTo.step {g c h : Nat → UInt8} {N k : Nat} (d : ProTo g c h N k) (hc : IsPerm c N) (h9 : N ≤ 9) (hk : k < N) :
    ProTo g c (up (up (up h (k * 10 + (c k).toNat) (UInt8.ofNat N)) (k * 10 + N) (g (k * 10 + (c k).toNat))) (N * 10 + (c k).toNat) (g (k * 10 + (c k).toNat))) N (k + 1) := by
  have hcl := hc.lt k hk
  refine ⟨fun x y hx hy => ?_, fun x hx => ?_, fun x y hx hy hl => ?_⟩
  · unfold up
    by_cases e : x = k ∧ y = (c k).toNat
    · obtain ⟨rfl, rfl⟩ := e
      rw [if_neg (by omega), if_neg (by omega), if_pos rfl, if_pos ⟨by omega, rfl⟩]
    · rw [if_neg (by omega), if_neg (by omega), if_neg (by omega), d.a x y hx hy]
      by_cases q : x < k ∧ (c x).toNat = y
      · rw [if_pos q, if_pos ⟨by omega, q.2⟩]
      · rw [if_neg q, if_neg (fun q2 => by
          by_cases hxk : x = k
          · subst hxk; exact e ⟨rfl, q2.2.symm⟩
          · exact q ⟨by omega, q2.2⟩)]
  · unfold up
    by_cases e : x = k
    · subst e
      exact ⟨by rw [if_neg (by omega), if_pos rfl], by rw [if_pos rfl]⟩
    · have hxk : x < k := by omega
      have hne : (c x).toNat ≠ (c k).toNat := hc.inj x k hxk hk
      have hxl := hc.lt x (by omega)
      have dr := d.r x hxk
      refine ⟨?_, ?_⟩
      · rw [if_neg (by omega), if_neg (by omega), if_neg (by omega)]; exact dr.1
      · rw [if_neg (by omega), if_neg (by omega), if_neg (by omega)]; exact dr.2
  · unfold up
    rw [if_neg (by omega), if_neg (by omega), if_neg (by omega)]; exact d.z x y hx hy hl
theorem ProTo.done {g c h : Nat → UInt8} {N : Nat} (d : ProTo g c h N N) (hc : IsPerm c N) (h9 : N ≤ 9) (o : Int) : sqc o (up h (N * 10 + N) (UInt8.ofNat N)) = sqc o (proF g c N) := by
  refine sqc_congr o _ _ fun i hi => fillT_eq (by omega) (fun x y hx hy => ?_) (fun x y hx hy hl => ?_) i hi
  · unfold proV up
    by_cases h1 : x = N
    · subst h1
      rw [if_pos rfl]
      by_cases h2 : y = x
      · subst h2; rw [if_pos rfl, if_pos rfl]
      · rw [if_neg h2, if_neg (by omega)]
        have hb := bk_lt hc (z := y) (by omega)
        have := (d.r _ hb.1).2
        rw [hb.2] at this
        exact this
    · rw [if_neg h1]
      by_cases h2 : y = N
      · subst h2; rw [if_pos rfl, if_neg (by omega)]; exact (d.r x (by omega)).1
      · rw [if_neg h2, if_neg (by omega), d.a x y (by omega) (by omega)]
        by_cases q : (c x).toNat = y
        · rw [if_pos q, if_pos ⟨by omega, q⟩]
        · rw [if_neg q, if_neg (fun e => q e.2)]
  · unfold up
    rw [if_neg (by omega)]; exact d.z x y hx hy (by omega)
/-- The first k of some places, and 0 behind them. -/
def mdF (d : Nat → UInt8) (k : Nat) : Nat → UInt8 := fun i => if i < k then d i else 0
theorem mdF_zero (d : Nat → UInt8) : mdF d 0 = fun _ => 0 := by funext i; simp [mdF]
theorem mdF_step (d : Nat → UInt8) (k j : Nat) : mdF d (k + 1) j = if j = k then d k else mdF d k j := by
  unfold mdF
  by_cases h : j = k
  · subst h; rw [if_pos (by omega), if_pos rfl]
  · rw [if_neg h]
    by_cases h2 : j < k
    · rw [if_pos (by omega), if_pos h2]
    · rw [if_neg (by omega), if_neg h2]
/-- The numbers ahead of N are all different. -/
noncomputable def difB (d : Nat → UInt8) (N : Nat) : Bool := permB (mdF d N) (N : Int)
theorem difB_yes {d : Nat → UInt8} {N : Nat} (h1 : 1 ≤ N) (h10 : N ≤ 10) (hl : ∀ i, i < N → (d i).toNat < N) (h : ∀ i j, i < j → j < N → (d i).toNat ≠ (d j).toNat) : difB d N = true := by
  refine permB_nat.2 ⟨h1, h10, fun i hi => ?_, fun i j hi hj => ?_, fun i hi _ => ?_⟩
  · unfold mdF; rw [if_pos hi]; exact hl i hi
  · unfold mdF; rw [if_pos (by omega), if_pos hj]; exact h i j hi hj
  · unfold mdF; rw [if_neg (by omega)]; rfl
theorem difB_no {d : Nat → UInt8} {N i j : Nat} (hi : i < j) (hj : j < N) (e : (d i).toNat = (d j).toNat) : difB d N = false := by
  cases hb : difB d N with
  | false => rfl
  | true =>
    have := (permB_nat.1 hb).inj i j hi hj
    unfold mdF at this
    rw [if_pos (by omega), if_pos hj] at this
    exact absurd e this
/-- So it is as far as the first k numbers tell. -/
def DifTo (d : Nat → UInt8) (k : Nat) : Prop := ∀ i j, i < j → j < k → (d i).toNat ≠ (d j).toNat
/-- Which numbers have been met among the first k. -/
def metD (d : Nat → UInt8) (k j : Nat) : Bool := metB d k k j
theorem metD_zero (d : Nat → UInt8) (j : Nat) : metD d 0 j = false := metB_zero d 0 j
theorem metD_iff {d : Nat → UInt8} {k j : Nat} : metD d k j = true ↔ ∃ i, i < k ∧ (d i).toNat = j := by
  unfold metD; rw [metB_iff]; exact ⟨fun ⟨i, a, _, b⟩ => ⟨i, a, b⟩, fun ⟨i, a, b⟩ => ⟨i, a, a, b⟩⟩
theorem metD_succ (d : Nat → UInt8) (k j : Nat) : metD d (k + 1) j = if j = (d k).toNat then true else metD d k j := by
  by_cases h : j = (d k).toNat
  · rw [if_pos h]; exact metD_iff.2 ⟨k, by omega, h.symm⟩
  · rw [if_neg h]
    rw [Bool.eq_iff_iff, metD_iff, metD_iff]
    constructor
    · rintro ⟨i, a, b⟩
      exact ⟨i, by
        by_cases e : i = k
        · subst e; exact absurd b.symm h
        · omega, b⟩
    · rintro ⟨i, a, b⟩; exact ⟨i, by omega, b⟩
theorem DifTo.step {d : Nat → UInt8} {k : Nat} (h : DifTo d k) (hm : metD d k (d k).toNat = false) : DifTo d (k + 1) := fun i j hi hj => by
  by_cases e : j = k
  · subst e
    intro q
    rw [metD_iff.2 ⟨i, hi, q⟩] at hm
    cases hm
  · exact h i j hi (by omega)
theorem difB_met {d : Nat → UInt8} {N k : Nat} (hk : k < N) (hm : metD d k (d k).toNat = true) : difB d N = false := by
  obtain ⟨i, hi, e⟩ := metD_iff.1 hm
  exact difB_no hi hk e
theorem difB_congr {d d' : Nat → UInt8} {N : Nat} (h : ∀ i, i < N → d i = d' i) : difB d N = difB d' N := by
  unfold difB
  congr 1
  funext i
  unfold mdF
  by_cases hi : i < N
  · rw [if_pos hi, if_pos hi, h i hi]
  · rw [if_neg hi, if_neg hi]
end Go.Proofs.Ytbhjbllgmenbaaa
namespace Go.Proofs.Ytbhjbllgmenbaaa
set_option linter.unusedVariables false
set_option linter.unusedSimpArgs false
open Go.RowKit
set_option maxRecDepth 20000 in
set_option maxHeartbeats 1000000 in
theorem rightQuotient_any (N gb : Nat) (g : Nat → UInt8) (x y : UInt8) (w : World) (h10 : N ≤ 10) (hx : x.toNat < N) (hy : y.toNat < N) (hg : Dv w gb N g) :
    Calls Try.prog 140 #[.pointer (some ⟨gb, 0, none⟩), .int .u8 x.toNat, .int .u8 y.toNat] w fun e w' => e = .returned (.int .u8 (backF (colF g y.toNat) N x.toNat).toNat) ∧ Below w.heap.size w w' := by
  have hx' : (x.toNat : Int) < 10 := by omega
  have hy' : (y.toNat : Int) < 10 := by omega
  have hv : ovF g N (x.toNat * 10 + y.toNat) = backF (colF g y.toNat) N x.toNat := ovF_get h10 hx hy
  have ca : w.cell? ⟨gb, 203 + x.toNat * 10 + y.toNat, none⟩ = some (.int .u8 (backF (colF g y.toNat) N x.toNat).toNat) := by rw [holds_cell hg, Nat.add_assoc, dvc_byte2 _ _ _ _ _ (by omega), hv]
  clear hv
  go_enter Try.func140, Try.ntmps140
  go_wp2
  go_ret
  exact ⟨rfl, Below.refl _ _⟩
/-- What a square is made of. -/
def matc (p ts : Value) (fa : UInt8) (co : Value) (pl : Nat → UInt8) : Array Value := (p :: ts :: .int .u8 fa.toNat :: co :: (u8s 10 pl).toList).toArray
theorem matc_size (p ts : Value) (fa : UInt8) (co : Value) (pl : Nat → UInt8) : (matc p ts fa co pl).size = 14 := by simp [matc]
theorem matc_0 (p ts : Value) (fa : UInt8) (co : Value) (pl : Nat → UInt8) : (matc p ts fa co pl)[0]? = some p := rfl
theorem matc_1 (p ts : Value) (fa : UInt8) (co : Value) (pl : Nat → UInt8) : (matc p ts fa co pl)[1]? = some ts := rfl
theorem matc_2 (p ts : Value) (fa : UInt8) (co : Value) (pl : Nat → UInt8) : (matc p ts fa co pl)[2]? = some (.int .u8 fa.toNat) := rfl
theorem matc_3 (p ts : Value) (fa : UInt8) (co : Value) (pl : Nat → UInt8) : (matc p ts fa co pl)[3]? = some co := rfl
theorem matc_pl (p ts : Value) (fa : UInt8) (co : Value) (pl : Nat → UInt8) (i : Nat) (h : i < 10) : (matc p ts fa co pl)[4 + i]? = some (.int .u8 (pl i).toNat) := by
  have := u8s_get 10 pl i h
  unfold matc
  rw [show 4 + i = (((i + 1) + 1) + 1) + 1 by omega]
  simpa using this
theorem matc_places (p ts : Value) (fa : UInt8) (co : Value) (pl : Nat → UInt8) : (matc p ts fa co pl).extract 4 (4 + 10) = u8s 10 pl := by
  apply Array.ext'
  have h : (u8s 10 pl).toList.length = 10 := by simp
  simp [matc, List.take_of_length_le, h]
theorem rowMat : IsRow Try.prog 98 14 := ⟨.inl ⟨_, Try.underlying98⟩, by kernel_rfl⟩
theorem zeroMat : ZeroIs Try.prog 98 (matc (.pointer none) (.slice none 0 0) 0 (.slice none 0 0) fun _ => 0) := by unfold ZeroIs; kernel_rfl
theorem builtMat1 (p : Option Addr) : Try.prog.built 98 [(0, .pointer p)] = some (matc (.pointer p) (.slice none 0 0) 0 (.slice none 0 0) fun _ => 0) := by kernel_rfl
theorem builtMat2 (p : Option Addr) (pl : Nat → UInt8) : Try.prog.built 98 [(0, .pointer p), (4, .agg (u8s 10 pl))] = some (matc (.pointer p) (.slice none 0 0) 0 (.slice none 0 0) pl) := by kernel_rfl
theorem matc_ok (p : Option Addr) (A B : Option Addr) (n m k l : Nat) (fa : UInt8) (pl : Nat → UInt8) : CellsOk (matc (.pointer p) (.slice A n m) fa (.slice B k l) pl) 14 := by
  refine ⟨matc_size _ _ _ _ _, ?_⟩
  have := u8s_one 10 pl
  rw [← Array.all_toList] at this ⊢
  simp only [matc, List.all_cons, this, Bool.and_true]
  rfl
/-- The makers, by their ways. -/
def mkId (k : Nat) : FuncId := if k = 0 then 129 else if k = 1 then 130 else if k = 2 then 131 else if k = 3 then 132 else if k = 4 then 133 else 134
def mkFns : Array Value := #[.func (.func (mkId 0)) #[] #[], .func (.func (mkId 1)) #[] #[], .func (.func (mkId 2)) #[] #[], .func (.func (mkId 3)) #[] #[], .func (.func (mkId 4)) #[] #[], .func (.func (mkId 5)) #[] #[]]
theorem mkId_enters (k : Nat) : Enters Try.prog (mkId k) := by
  unfold mkId
  split
  · exact enters_of Try.func129 (by kernel_rfl) rfl
  · split
    · exact enters_of Try.func130 (by kernel_rfl) rfl
    · split
      · exact enters_of Try.func131 (by kernel_rfl) rfl
      · split
        · exact enters_of Try.func132 (by kernel_rfl) rfl
        · split
          · exact enters_of Try.func133 (by kernel_rfl) rfl
          · exact enters_of Try.func134 (by kernel_rfl) rfl
theorem rowMk : IsRow Try.prog 137 6 := ⟨.inr ⟨_, _, Try.underlying137⟩, by kernel_rfl⟩
def mkNil : Array Value := #[.nilFunc, .nilFunc, .nilFunc, .nilFunc, .nilFunc, .nilFunc]
theorem zeroMk : ZeroIs Try.prog 137 mkNil := by unfold ZeroIs; kernel_rfl
theorem mkNil_size : mkNil.size = 6 := rfl
theorem mkFns_ok : CellsOk mkFns 6 := ⟨rfl, by kernel_rfl⟩
theorem builtMk : Try.prog.built 137 [(0, .func (.func (mkId 0)) #[] #[]), (1, .func (.func (mkId 1)) #[] #[]), (2, .func (.func (mkId 2)) #[] #[]), (3, .func (.func (mkId 3)) #[] #[]), (4, .func (.func (mkId 4)) #[] #[]), (5, .func (.func (mkId 5)) #[] #[])] = some mkFns := by kernel_rfl
theorem ixMk0 (w : World) : (Instr.index 137 (.agg mkFns) (.int .i64 ((0 : Nat) : Int))).run Try.prog w = .ok (.func (.func (mkId 0)) #[] #[]) w := by kernel_rfl
theorem ixMk1 (w : World) : (Instr.index 137 (.agg mkFns) (.int .i64 ((1 : Nat) : Int))).run Try.prog w = .ok (.func (.func (mkId 1)) #[] #[]) w := by kernel_rfl
theorem ixMk2 (w : World) : (Instr.index 137 (.agg mkFns) (.int .i64 ((2 : Nat) : Int))).run Try.prog w = .ok (.func (.func (mkId 2)) #[] #[]) w := by kernel_rfl
theorem ixMk3 (w : World) : (Instr.index 137 (.agg mkFns) (.int .i64 ((3 : Nat) : Int))).run Try.prog w = .ok (.func (.func (mkId 3)) #[] #[]) w := by kernel_rfl
theorem ixMk4 (w : World) : (Instr.index 137 (.agg mkFns) (.int .i64 ((4 : Nat) : Int))).run Try.prog w = .ok (.func (.func (mkId 4)) #[] #[]) w := by kernel_rfl
theorem ixMk5 (w : World) : (Instr.index 137 (.agg mkFns) (.int .i64 ((5 : Nat) : Int))).run Try.prog w = .ok (.func (.func (mkId 5)) #[] #[]) w := by kernel_rfl
theorem ixMk (k : Nat) (hk : k < 6) (w : World) : (Instr.index 137 (.agg mkFns) (.int .i64 k)).run Try.prog w = .ok (.func (.func (mkId k)) #[] #[]) w := by
  have : k = 0 ∨ k = 1 ∨ k = 2 ∨ k = 3 ∨ k = 4 ∨ k = 5 := by omega
  rcases this with rfl | rfl | rfl | rfl | rfl | rfl
  · exact ixMk0 w
  · exact ixMk1 w
  · exact ixMk2 w
  · exact ixMk3 w
  · exact ixMk4 w
  · exact ixMk5 w
set_option maxRecDepth 20000 in
set_option maxHeartbeats 1000000 in
theorem makers_any (w : World) : Calls Try.prog 117 #[] w fun e w' => e = .returned (.agg mkFns) ∧ Below w.heap.size w w' := by
  have hH := Has.start1 w mkNil 137
  go_enter Try.func117, Try.ntmps117
  go_wp2_with (first | (refine wpL_alloc rfl rfl zeroMk ?_; intro g hg; (try simp at hg); subst hg) | (refine wpL_bu6 rfl rfl (by rfl) (by rfl) (by rfl) (by rfl) (by rfl) (by rfl) builtMk ?_) | (refine wpL_storeFull rfl rfl rfl rfl rowMk hH.h0 mkNil_size mkFns_ok ?_))
  exact ret_c rfl rfl hH.r0.h0 rowMk rfl ⟨rfl, hH.r0.below⟩
section
variable {P : Program} {ops : Array Oper} {rest : List Oper} {o : Oper} {a : Act} {w : World} {Q : Exit → Act → World → Prop}
theorem wpL_cellN {T : Nat} {x y : Operand} {g off : Nat} {v : Value} {cs cs' : Array Value} {t : TypeId} (hgd : o.guard = none) (ho : o.op = .store T x y) (hx : a.eval x = .pointer (some ⟨g, off, none⟩)) (hy : a.eval y = v) (hs : (P.info? T).map (·.size) = some 1) (h1 : v.oneCell' = true)
    (hg : holds w g cs t) (hb : off < cs.size) (e : cs.setIfInBounds off v = cs')
    (h : ∀ w', holds w' g cs' t → (∀ b c u, b ≠ g → holds w b c u → holds w' b c u) → (∀ w0 L, Has w0 w L → w0.heap.size + L.length ≤ g → Has w0 w' L) → wpList P ops Q rest (a.put o.dst undef) w') : wpList P ops Q (o :: rest) a w :=
  wpList_plain hgd fun K hK => by
    have hc : v.cells = #[v] := by cases v <;> first | rfl | cases h1
    have hst := run_storeCells_at P g off t [v] 0 cs w hg (by simp; omega) (fun u hu => by simp at hu; subst hu; exact h1)
    have he : over cs off #[v] = cs' := by
      rw [← e]
      apply Array.ext_getElem?
      intro i
      rw [over_get cs off #[v] (by simp; omega) i, Array.getElem?_setIfInBounds]
      by_cases q : off = i
      · subst q; rw [if_pos (by simp), if_pos rfl, if_pos hb]; simp
      · rw [if_neg (by simp; omega), if_neg q]
    simp only [Nat.add_zero] at hst
    have hst' : (storeCells ⟨g, off, none⟩ [v]).run P w = .ok () (w.setRow g cs') := by rw [← he]; exact hst
    cases hq : P.info? T with
    | none => simp [hq] at hs
    | some i =>
      have hs' : i.size = 1 := by simpa [hq] using hs
      have hrun : (storeVar T ⟨g, off, none⟩ v).run P w = .ok () (w.setRow g cs') := by
        simp [storeVar, sizeOf, typeInfo, hq, hc, hs', hst']
      unfold Oper.wp execOp
      simp only [ho, hx, hy, Instr.storeAt, Instr.sureAddr, Sem.run_bind, Sem.run_pure, Result.andThen_ok, hrun]
      exact hK _ _ (h _ (holds_row hg) (fun _ _ _ hb hc => holds_row_other hc hb) (fun _ _ hH hlo => hH.setRowAbove hlo _))
end
set_option maxRecDepth 20000 in
set_option maxHeartbeats 4000000 in
theorem squareBy_any (way n : Nat) (M : Array Value) (F : Nat → Nat → UInt8) (w : World) (hway : way < 6) (h10 : n ≤ 10) (hMs : M.size = 14)
    (hF : Hid (∀ w' x y, Below w.heap.size w w' → x < n → y < n → Calls Try.prog (mkId way) #[.agg M, .int .u8 (x : Nat), .int .u8 (y : Nat)] w' fun e w'' => e = .returned (.int .u8 (F x y).toNat) ∧ Below w'.heap.size w' w'')) :
    Calls Try.prog 83 #[.agg M, .int .i64 way, .int .i64 n] w fun e w' => e = .returned (.agg (sqc n (fillT n F n 0))) ∧ Below w.heap.size w w' := by
  have hix := ixMk way hway
  have hEn : ∀ (args : Array Value) (w : World), (callFunc (mkId way) args).run Try.prog w = .ok (.enter (mkId way) args) w := mkId_enters way
  have hH := Has.start2 w M (sqc 0 fun _ => 0) 98 29
  go_enter Try.func83, Try.ntmps83
  go_wp2_with (first | fail | (refine wpL_alloc (o := ⟨some 6, _, _, _, _, _⟩) rfl rfl zeroSq ?_; intro g hg; (try simp at hg); subst hg) | (go_at_call 117; refine (makers_any _).mono ?_; rintro e w3 ⟨rfl, hb⟩; replace hH := hH.call' hb; clear hb) | (refine wpL_build1 rfl rfl rfl (builtSqO _) ?_) | (refine wpL_storeN (x := .tmp 8) rfl rfl rfl rfl rowSq hq (sqc_size _ _) (sqc_ok _ _) ?_; intro w5 hz hO hT; replace hq := hz; replace hH := hT _ _ hH hlo; clear hz hO hT) | (refine wpL_allocN (o := ⟨some 8, _, _, _, _, _⟩) rfl rfl zeroSq ?_; intro gq w4 hq hl hb; have hlo : w.heap.size + 2 ≤ gq := (by have := hH.size; simp only [List.length_cons, List.length_nil] at this; omega); replace hH := hH.call' hb; clear hb hl))
  clear hix
  have HQ := hid hlo
  clear hlo
  go_loopw [17] (fun i wr => ∃ k : Nat, k ≤ n ∧ i = .int .i64 k ∧ Has w wr [(M, 98), (sqc 0 (fun _ => 0), 29)] ∧ holds wr gq (sqc n (fillT n F k 0)) 29) (fun i _ => 10 - (intOf i).toNat)
  case atStart => exact ⟨0, by omega, rfl, hH, by rw [fillT_zero]; exact hq⟩
  case round =>
    clear hH hq
    obtain ⟨k, hk, rfl, hH, hq⟩ := hrel
    by_cases hlt : k < n
    · have hk10 : k < 10 := by omega
      have hk10' : (k : Int) < 10 := by omega
      go_wp2
      go_loopw [21] (fun i wx => ∃ j : Nat, j ≤ n ∧ i = .int .i64 j ∧ Has w wx [(M, 98), (sqc 0 (fun _ => 0), 29)] ∧ holds wx gq (sqc n (fillT n F k j)) 29) (fun i _ => 10 - (intOf i).toNat)
      case atStart => exact ⟨0, by omega, rfl, hH, hq⟩
      case round =>
        clear hH hq
        obtain ⟨j, hj, rfl, hH, hq⟩ := hrel
        by_cases hlt2 : j < n
        · have hj10 : j < 10 := by omega
          have hj10' : (j : Int) < 10 := by omega
          have hst := hid (fun i (hi : i < 100) => fillT_step n F k j hj10 i)
          go_wp2
          refine wp_region_frame (X := Unit) (fun d _ => [(24, bif d 0 then .int .i64 k else u24), (25, bif d 1 then .int .i64 j else u25), (26, bif d 2 then .func (.func (mkId way)) #[] #[] else u26), (27, bif d 3 then .agg M else u27), (28, bif d 4 then .int .i64 k else u28), (29, bif d 5 then .int .u8 k else u29), (30, bif d 6 then .int .i64 j else u30), (31, bif d 7 then .int .u8 j else u31), (32, bif d 8 then .int .u8 (F k j).toNat else u32), (33, bif d 9 then .pointer (some ⟨gq, 1, none⟩) else u33), (34, bif d 10 then .pointer (some ⟨gq, 1 + k * 10, none⟩) else u34), (35, bif d 11 then .pointer (some ⟨gq, 1 + k * 10 + j, none⟩) else u35)])
            (fun d _ w' => Has w w' [(M, 98), (sqc 0 (fun _ => 0), 29)] ∧ holds w' gq (sqc n (bif d 12 then fillT n F k (j + 1) else fillT n F k j)) 29) (by kernel_rfl) (by kernel_rfl) ?h0_sb ?hs_sb ?hq_sb
          case h0_sb => exact ⟨(), (by simp [lput]), hH.drew, (show _ from hq)⟩
          case hs_sb =>
            refine ⟨?_, ?_, ?_, ?_, ?_, ?_, ?_, ?_, ?_, ?_, ?_, ?_, ?_, trivial⟩
            all_goals
              clear hH hq
              intro d _ w1 hd hn hJ
              simp only [needs, Region.binds, reduceCtorEq, Bool.false_eq_true, false_implies, true_and, and_true, true_implies, forall_const] at hn
              simp only [lput, List.set, hn, cond_true]
              try simp only [hd, cond_false] at hJ
              obtain ⟨hH, hq⟩ := hJ
              go_wp2_with (first | fail | (refine wpL_loadFull rfl rfl rfl rowMat hH.h0 hMs ?_) | (go_at_fn (mkId way); refine (hF.out _ k j hH.below hlt hlt2).mono ?_; rintro e w3 ⟨rfl, hb⟩; replace hH := hH.call' hb; replace hq := holds_below hq hb (holds_lt hq); clear hb) | (refine wpL_cellN (v := .int .u8 (F k j).toNat) (cs' := sqc n (fillT n F k (j + 1))) (off := 1 + k * 10 + j) rfl rfl rfl rfl (by kernel_rfl) (by rfl) hq (by rw [sqc_size]; omega) (by rw [Nat.add_assoc]; exact sqc_set _ _ _ _ _ hst.out) ?_; intro w4 hz hO hT; replace hH := hT _ _ hH HQ.out; replace hq := hz; clear hz hO hT))
              first
                | (refine ⟨(), ?_, hH, hq⟩; (simp [lput, done, hn]; done))
                | (refine ⟨?_, hH, hq⟩; (simp [lput, done, hn]; done))
                | (refine ⟨(), ?_, hH, hq⟩; (simp [lput, done, hn]; rfl))
                | (refine ⟨?_, hH, hq⟩; (simp [lput, done, hn]; rfl))
                | (refine ⟨(), ?_, hH, hq⟩; (simp [lput, done]; done))
                | (refine ⟨?_, hH, hq⟩; (simp [lput, done]; done))
                | (refine ⟨(), ?_, hH, hq⟩; (simp [lput, done]; rfl))
                | (refine ⟨?_, hH, hq⟩; (simp [lput, done]; rfl))
          case hq_sb =>
            clear hH hq
            intro d _ w1 hd hJ
            simp only [allDone, List.length_cons, List.length_nil, Nat.reduceAdd, and_true] at hd
            obtain ⟨hH, hq⟩ := hJ
            simp only [hd, cond_true] at hH hq
            simp only [lput, List.set, hd, cond_true]
            clear hd
            go_wp2
            go_roundw
            case rel => exact ⟨j + 1, by omega, by go_num, hH, hq⟩
            case measure => simp [intOf]; omega
        · obtain rfl : j = n := by omega
          go_wp2
          go_roundw
          case rel => exact ⟨k + 1, by omega, by go_num, hH, by rw [fillT_row]; exact hq⟩
          case measure => simp [intOf]; omega
    · obtain rfl : k = n := by omega
      go_wp2_with (first | fail | (refine wpL_loadFull rfl rfl rfl rowSq hq (sqc_size _ _) ?_) | (refine wpL_storeFull rfl rfl rfl rfl rowSq hH.h1 (sqc_size _ _) (sqc_ok _ _) ?_))
      exact ret_c rfl rfl hH.r1.h1 rowSq (sqc_size _ _) ⟨rfl, hH.r1.below⟩
theorem squareBy_z (way n : Nat) (z : Int) (hz : z = (n : Int)) (M : Array Value) (F : Nat → Nat → UInt8) (w : World) (hway : way < 6) (h10 : n ≤ 10) (hMs : M.size = 14)
    (hF : Hid (∀ w' x y, Below w.heap.size w w' → x < n → y < n → Calls Try.prog (mkId way) #[.agg M, .int .u8 (x : Nat), .int .u8 (y : Nat)] w' fun e w'' => e = .returned (.int .u8 (F x y).toNat) ∧ Below w'.heap.size w' w'')) :
    Calls Try.prog 83 #[.agg M, .int .i64 way, .int .i64 z] w fun e w' => e = .returned (.agg (sqc n (fillT n F n 0))) ∧ Below w.heap.size w w' := by
  subst hz; exact squareBy_any way n M F w hway h10 hMs hF
end Go.Proofs.Ytbhjbllgmenbaaa
namespace Go.Proofs.Ytbhjbllgmenbaaa
set_option linter.unusedVariables false
set_option linter.unusedSimpArgs false
open Go.RowKit
set_option maxRecDepth 20000 in
set_option maxHeartbeats 1000000 in
theorem isNone_any (o : Int) (g p : Nat → UInt8) (qb : Nat) (w : World) (hq : holds w qb (sqc o g) 29) :
    Calls Try.prog 135 #[.agg (u8s 10 p), .pointer (some ⟨qb, 0, none⟩)] w fun e w' => e = .returned (.bool (!permB p o)) ∧ Below w.heap.size w w' := by
  have hlt := holds_lt hq
  have hH := Has.start1 w (u8s 10 p) 71
  have c0 : (w.alloc (.cells (u8s 10 p) 71)).cell? ⟨qb, 0, none⟩ = some (.int .i64 o) := by rw [holds_cell (holds_alloc hq _), sqc_get0]
  go_enter Try.func135, Try.ntmps135
  go_wp2_with (first | fail | (refine wpL_loadFull rfl rfl rfl rowPl hH.h0 (u8s_size _ _) ?_) | (go_at_call 95; refine (IsPermutation_any _ _ _).mono ?_; rintro e w3 ⟨rfl, hb⟩; replace hH := hH.call' hb; clear hb))
  go_ret
  exact ⟨rfl, hH.below⟩
theorem isNone_enters : Enters Try.prog 135 := enters_of Try.func135 (by kernel_rfl) rfl
set_option maxRecDepth 20000 in
set_option maxHeartbeats 1000000 in
theorem indexFunc_none (fv : Value) (w : World) :
    Calls Try.prog 144 #[.slice none 0 0, fv] w fun e w' => e = .returned (.int .i64 (-1)) ∧ Below w.heap.size w w' := by
  go_enter Try.func144, Try.ntmps144
  go_wp2
  go_loopw [8] (fun i wr => i = .int .i64 0 ∧ Has w wr []) (fun _ _ => 0)
  case atStart => exact ⟨rfl, Has.nil w⟩
  case round =>
    obtain ⟨rfl, hH⟩ := hrel
    go_wp2
    go_ret
    exact ⟨rfl, hH.below⟩
set_option maxRecDepth 20000 in
set_option maxHeartbeats 1000000 in
theorem indexFunc_yes (o : Int) (g p : Nat → UInt8) (qb b : Nat) (w : World) (hq : holds w qb (sqc o g) 29) (hp : holds w b (u8s 10 p) 71) (HP : Hid (permB p o = true)) :
    Calls Try.prog 144 #[.slice (some ⟨b, 0, none⟩) 1 1, .func (.func 135) #[] #[.pointer (some ⟨qb, 0, none⟩)]] w fun e w' => e = .returned (.int .i64 (-1)) ∧ Below w.heap.size w w' := by
  have hEn : ∀ (args : Array Value) (w : World), (callFunc 135 args).run Try.prog w = .ok (.enter 135 args) w := isNone_enters
  go_enter Try.func144, Try.ntmps144
  go_wp2
  go_loopw [8] (fun i wr => ∃ k : Nat, k ≤ 1 ∧ i = .int .i64 k ∧ Has w wr [] ∧ holds wr qb (sqc o g) 29 ∧ holds wr b (u8s 10 p) 71) (fun i _ => 1 - (intOf i).toNat)
  case atStart => exact ⟨0, by omega, rfl, Has.nil w, hq, hp⟩
  case round =>
    clear hq hp
    obtain ⟨k, hk, rfl, hH, hq, hp⟩ := hrel
    by_cases hlt : k < 1
    · obtain rfl : k = 0 := by omega
      go_wp2_with (first | fail | (refine wpL_loadFull rfl rfl rfl rowPl hp (u8s_size _ _) ?_) | (go_at_fn 135; refine (isNone_any o g p qb _ hq).mono ?_; rintro e w3 ⟨rfl, hb⟩; rw [HP.out]; replace hH := hH.call' hb; replace hq := holds_below hq hb (holds_lt hq); replace hp := holds_below hp hb (holds_lt hp); clear hb))
      go_roundw
      case rel => exact ⟨1, by omega, by go_num, hH, hq, hp⟩
      case measure => simp [intOf]
    · obtain rfl : k = 1 := by omega
      go_wp2
      go_ret
      exact ⟨rfl, hH.below⟩
set_option maxRecDepth 20000 in
set_option maxHeartbeats 1000000 in
theorem indexFunc_no (o : Int) (g p : Nat → UInt8) (qb b : Nat) (w : World) (hq : holds w qb (sqc o g) 29) (hp : holds w b (u8s 10 p) 71) (HP : Hid (permB p o = false)) :
    Calls Try.prog 144 #[.slice (some ⟨b, 0, none⟩) 1 1, .func (.func 135) #[] #[.pointer (some ⟨qb, 0, none⟩)]] w fun e w' => e = .returned (.int .i64 (0)) ∧ Below w.heap.size w w' := by
  have hEn : ∀ (args : Array Value) (w : World), (callFunc 135 args).run Try.prog w = .ok (.enter 135 args) w := isNone_enters
  go_enter Try.func144, Try.ntmps144
  go_wp2
  go_loopw [8] (fun i wr => ∃ k : Nat, k ≤ 0 ∧ i = .int .i64 k ∧ Has w wr [] ∧ holds wr qb (sqc o g) 29 ∧ holds wr b (u8s 10 p) 71) (fun i _ => 1 - (intOf i).toNat)
  case atStart => exact ⟨0, by omega, rfl, Has.nil w, hq, hp⟩
  case round =>
    clear hq hp
    obtain ⟨k, hk, rfl, hH, hq, hp⟩ := hrel
    obtain rfl : k = 0 := by omega
    go_wp2_with (first | fail | (refine wpL_loadFull rfl rfl rfl rowPl hp (u8s_size _ _) ?_) | (go_at_fn 135; refine (isNone_any o g p qb _ hq).mono ?_; rintro e w3 ⟨rfl, hb⟩; rw [HP.out]; replace hH := hH.call' hb; replace hq := holds_below hq hb (holds_lt hq); replace hp := holds_below hp hb (holds_lt hp); clear hb))
    go_ret
    exact ⟨rfl, hH.below⟩
set_option maxRecDepth 20000 in
set_option maxHeartbeats 1000000 in
theorem containsFunc_none (fv : Value) (w : World) :
    Calls Try.prog 136 #[.slice none 0 0, fv] w fun e w' => e = .returned (.bool false) ∧ Below w.heap.size w w' := by
  have hH := Has.nil w
  go_enter Try.func136, Try.ntmps136
  go_wp2_with (first | fail | (go_at_call 144; refine (indexFunc_none _ _).mono ?_; rintro e w3 ⟨rfl, hb⟩; replace hH := hH.call' hb; clear hb))
  go_ret
  exact ⟨rfl, hH.below⟩
set_option maxRecDepth 20000 in
set_option maxHeartbeats 1000000 in
theorem containsFunc_one (o : Int) (g p : Nat → UInt8) (qb b : Nat) (w : World) (hq : holds w qb (sqc o g) 29) (hp : holds w b (u8s 10 p) 71) :
    Calls Try.prog 136 #[.slice (some ⟨b, 0, none⟩) 1 1, .func (.func 135) #[] #[.pointer (some ⟨qb, 0, none⟩)]] w fun e w' => e = .returned (.bool (!permB p o)) ∧ Below w.heap.size w w' := by
  have hH := Has.nil w
  cases hpb : permB p o with
  | true =>
    have HP := hid hpb
    clear hpb
    go_enter Try.func136, Try.ntmps136
    go_wp2_with (first | fail | (go_at_call 144; refine (indexFunc_yes o g p qb b _ hq hp HP).mono ?_; rintro e w3 ⟨rfl, hb⟩; replace hH := hH.call' hb; clear hb))
    go_ret
    exact ⟨rfl, hH.below⟩
  | false =>
    have HP := hid hpb
    clear hpb
    go_enter Try.func136, Try.ntmps136
    go_wp2_with (first | fail | (go_at_call 144; refine (indexFunc_no o g p qb b _ hq hp HP).mono ?_; rintro e w3 ⟨rfl, hb⟩; replace hH := hH.call' hb; clear hb))
    go_ret
    exact ⟨rfl, hH.below⟩
set_option maxRecDepth 20000 in
set_option maxHeartbeats 1000000 in
theorem placesCode_no (o : Int) (g : Nat → UInt8) (A : Option Addr) (n c : Nat) (w : World) (hs : sqB o g = false) :
    Calls Try.prog 122 #[.agg (sqc o g), .slice A n c] w fun e w' => e = .returned (.int .i64 1) ∧ Below w.heap.size w w' := by
  have hH := Has.start1 w (sqc o g) 29
  go_enter Try.func122, Try.ntmps122
  go_wp2_with (first | fail | (refine wpL_guard rfl rfl ?_) | (refine wpL_loadFull rfl rfl rfl rowSq hH.h0 (sqc_size _ _) ?_) | (go_at_call 56; refine (IsSquare_any _ _ _).mono ?_; rintro e w3 ⟨rfl, hb⟩; rw [hs]; replace hH := hH.call' hb; clear hb))
  go_ret
  exact ⟨rfl, hH.below⟩
set_option maxRecDepth 20000 in
set_option maxHeartbeats 1000000 in
theorem placesCode_0 (o : Int) (g : Nat → UInt8) (w : World) (hs : sqB o g = true) :
    Calls Try.prog 122 #[.agg (sqc o g), .slice none 0 0] w fun e w' => e = .returned (.int .i64 0) ∧ Below w.heap.size w w' := by
  have hH := Has.start1 w (sqc o g) 29
  go_enter Try.func122, Try.ntmps122
  go_wp2_with (first | fail | (refine wpL_guard rfl rfl ?_) | (refine wpL_loadFull rfl rfl rfl rowSq hH.h0 (sqc_size _ _) ?_) | (go_at_call 56; refine (IsSquare_any _ _ _).mono ?_; rintro e w3 ⟨rfl, hb⟩; rw [hs]; replace hH := hH.call' hb; clear hb) | (go_at_call 136; refine (containsFunc_none _ _).mono ?_; rintro e w4 ⟨rfl, hb⟩; replace hH := hH.call' hb; clear hb))
  go_ret
  exact ⟨rfl, hH.below⟩
set_option maxRecDepth 20000 in
set_option maxHeartbeats 1000000 in
theorem placesCode_1 (o : Int) (g p : Nat → UInt8) (b : Nat) (w : World) (hs : sqB o g = true) (hp : holds w b (u8s 10 p) 71) :
    Calls Try.prog 122 #[.agg (sqc o g), .slice (some ⟨b, 0, none⟩) 1 1] w fun e w' => e = .returned (.int .i64 (if permB p o = true then 0 else 1)) ∧ Below w.heap.size w w' := by
  have hlt := holds_lt hp
  have hH := Has.start1 w (sqc o g) 29
  replace hp := holds_alloc hp (.cells (sqc o g) 29)
  cases hpb : permB p o with
  | true =>
    have HP := hid hpb
    clear hpb
    go_enter Try.func122, Try.ntmps122
    go_wp2_with (first | fail | (refine wpL_guard rfl rfl ?_) | (refine wpL_loadFull rfl rfl rfl rowSq hH.h0 (sqc_size _ _) ?_) | (go_at_call 56; refine (IsSquare_any _ _ _).mono ?_; rintro e w3 ⟨rfl, hb⟩; rw [hs]; replace hH := hH.call' hb; replace hp := holds_below hp hb (holds_lt hp); clear hb) | (go_at_call 136; refine (containsFunc_one o g p _ b _ hH.h0 hp).mono ?_; rintro e w4 ⟨rfl, hb⟩; rw [HP.out]; replace hH := hH.call' hb; clear hb))
    go_ret
    exact ⟨by simp, hH.below⟩
  | false =>
    have HP := hid hpb
    clear hpb
    go_enter Try.func122, Try.ntmps122
    go_wp2_with (first | fail | (refine wpL_guard rfl rfl ?_) | (refine wpL_loadFull rfl rfl rfl rowSq hH.h0 (sqc_size _ _) ?_) | (go_at_call 56; refine (IsSquare_any _ _ _).mono ?_; rintro e w3 ⟨rfl, hb⟩; rw [hs]; replace hH := hH.call' hb; replace hp := holds_below hp hb (holds_lt hp); clear hb) | (go_at_call 136; refine (containsFunc_one o g p _ b _ hH.h0 hp).mono ?_; rintro e w4 ⟨rfl, hb⟩; rw [HP.out]; replace hH := hH.call' hb; clear hb))
    go_ret
    exact ⟨by simp, hH.below⟩
/-- The code of a group: ok tells whether the permutations are. -/
noncomputable def gcode (o : Int) (g : Nat → UInt8) (ok : Bool) : Int := if (sqB o g && ok) = true then (if groupB o g = true then 0 else 5) else 1
set_option maxRecDepth 20000 in
set_option maxHeartbeats 1000000 in
theorem onGroupCode_by (o : Int) (g : Nat → UInt8) (A : Option Addr) (n c : Nat) (ok : Bool) (w : World)
    (hC : Hid (∀ w', Below w.heap.size w w' → Calls Try.prog 122 #[.agg (sqc o g), .slice A n c] w' fun e w'' => e = .returned (.int .i64 (if (sqB o g && ok) = true then 0 else 1)) ∧ Below w'.heap.size w' w'')) :
    Calls Try.prog 98 #[.agg (sqc o g), .slice A n c] w fun e w' => e = .returned (.int .i64 (gcode o g ok)) ∧ Below w.heap.size w w' := by
  have hH := Has.start1 w (sqc o g) 29
  cases hk : (sqB o g && ok) with
  | false =>
    have hv : gcode o g ok = 1 := by unfold gcode; rw [hk]; rfl
    have HK := hid hk
    rw [hv]
    clear hv hk
    go_enter Try.func98, Try.ntmps98
    go_wp2_with (first | fail | (refine wpL_loadFull rfl rfl rfl rowSq hH.h0 (sqc_size _ _) ?_) | (go_at_call 122; refine (hC.out _ hH.below).mono ?_; rintro e w3 ⟨rfl, hb⟩; rw [HK.out, if_neg (by decide)]; replace hH := hH.call' hb; clear hb))
    go_ret
    exact ⟨rfl, hH.below⟩
  | true =>
    cases hg : groupB o g with
    | false =>
      have hv : gcode o g ok = 5 := by unfold gcode; rw [hk, hg]; rfl
      have HK := hid hk
      have HG := hid hg
      rw [hv]
      clear hv hk hg
      go_enter Try.func98, Try.ntmps98
      go_wp2_with (first | fail | (refine wpL_loadFull rfl rfl rfl rowSq hH.h0 (sqc_size _ _) ?_) | (go_at_call 122; refine (hC.out _ hH.below).mono ?_; rintro e w3 ⟨rfl, hb⟩; rw [HK.out, if_pos rfl]; replace hH := hH.call' hb; clear hb) | (go_at_call 123; refine (IsGroup_any _ _ _).mono ?_; rintro e w3 ⟨rfl, hb⟩; rw [HG.out]; replace hH := hH.call' hb; clear hb))
      go_ret
      exact ⟨rfl, hH.below⟩
    | true =>
      have hv : gcode o g ok = 0 := by unfold gcode; rw [hk, hg]; rfl
      have HK := hid hk
      have HG := hid hg
      rw [hv]
      clear hv hk hg
      go_enter Try.func98, Try.ntmps98
      go_wp2_with (first | fail | (refine wpL_loadFull rfl rfl rfl rowSq hH.h0 (sqc_size _ _) ?_) | (go_at_call 122; refine (hC.out _ hH.below).mono ?_; rintro e w3 ⟨rfl, hb⟩; rw [HK.out, if_pos rfl]; replace hH := hH.call' hb; clear hb) | (go_at_call 123; refine (IsGroup_any _ _ _).mono ?_; rintro e w3 ⟨rfl, hb⟩; rw [HG.out]; replace hH := hH.call' hb; clear hb))
      go_ret
      exact ⟨rfl, hH.below⟩
theorem placesCode_v0 (o : Int) (g : Nat → UInt8) (w : World) :
    Calls Try.prog 122 #[.agg (sqc o g), .slice none 0 0] w fun e w' => e = .returned (.int .i64 (if (sqB o g && true) = true then 0 else 1)) ∧ Below w.heap.size w w' := by
  cases hs : sqB o g with
  | false => exact placesCode_no o g none 0 0 w hs
  | true => exact placesCode_0 o g w hs
theorem placesCode_v1 (o : Int) (g p : Nat → UInt8) (b : Nat) (w : World) (hp : holds w b (u8s 10 p) 71) :
    Calls Try.prog 122 #[.agg (sqc o g), .slice (some ⟨b, 0, none⟩) 1 1] w fun e w' => e = .returned (.int .i64 (if (sqB o g && permB p o) = true then 0 else 1)) ∧ Below w.heap.size w w' := by
  cases hs : sqB o g with
  | false => exact placesCode_no o g _ 1 1 w hs
  | true => exact placesCode_1 o g p b w hs hp
theorem onGroupCode_0 (o : Int) (g : Nat → UInt8) (w : World) :
    Calls Try.prog 98 #[.agg (sqc o g), .slice none 0 0] w fun e w' => e = .returned (.int .i64 (gcode o g true)) ∧ Below w.heap.size w w' :=
  onGroupCode_by o g none 0 0 true w (hid fun w' _ => placesCode_v0 o g w')
theorem onGroupCode_1 (o : Int) (g p : Nat → UInt8) (b : Nat) (w : World) (hp : holds w b (u8s 10 p) 71) :
    Calls Try.prog 98 #[.agg (sqc o g), .slice (some ⟨b, 0, none⟩) 1 1] w fun e w' => e = .returned (.int .i64 (gcode o g (permB p o))) ∧ Below w.heap.size w w' :=
  onGroupCode_by o g _ 1 1 (permB p o) w (hid fun w' hb => placesCode_v1 o g p b w' (holds_below hp hb (holds_lt hp)))
end Go.Proofs.Ytbhjbllgmenbaaa
namespace Go.Proofs.Ytbhjbllgmenbaaa
set_option linter.unusedVariables false
set_option linter.unusedSimpArgs false
open Go.RowKit
/-- A byte for a number. -/
theorem byte_of (n : Nat) (h : n < 256) : ∃ b : UInt8, b.toNat = n := ⟨UInt8.ofNat n, u8_of n h⟩
set_option maxRecDepth 20000 in
set_option maxHeartbeats 2000000 in
theorem doubled_any (N gb x y : Nat) (g pl : Nat → UInt8) (ts co : Value) (fa : UInt8) (w : World) (hq : IsSq N g) (h5 : N ≤ 5) (hx : x < 2 * N) (hy : y < 2 * N) (hg : Dv w gb N g) :
    Calls Try.prog 129 #[.agg (matc (.pointer (some ⟨gb, 0, none⟩)) ts fa co pl), .int .u8 (x : Nat), .int .u8 (y : Nat)] w fun e w' => e = .returned (.int .u8 (dubV g N x y).toNat) ∧ Below w.heap.size w w' := by
  have hlt := holds_lt hg
  have h10 : N ≤ 10 := by omega
  obtain ⟨X, hX⟩ := byte_of x (by omega)
  obtain ⟨Y, hY⟩ := byte_of y (by omega)
  have hH := Has.start1 w (matc (.pointer (some ⟨gb, 0, none⟩)) ts fa co pl) 98
  have c0 := hH.c0 0
  rw [matc_0] at c0
  have hD : Dv (w.alloc (.cells (matc (.pointer (some ⟨gb, 0, none⟩)) ts fa co pl) 98)) gb N g := holds_alloc hg _
  clear hg
  have cN : (w.alloc (.cells (matc (.pointer (some ⟨gb, 0, none⟩)) ts fa co pl) 98)).cell? ⟨gb, 0, none⟩ = some (.int .i64 N) := by rw [holds_cell hD, dvc_get0 _ _ _ _ _ (by omega), sqc_get0]
  have hN : (N : Int) ≤ 5 := by omega
  have hxI : (x : Int) < 10 := by omega
  have hyI : (y : Int) < 10 := by omega
  by_cases h1 : x < N
  · have h1' : (x : Int) < N := by omega
    by_cases h2 : y < N
    · have h2' : (y : Int) < N := by omega
      obtain ⟨v, hv⟩ : ∃ v, dubV g N x y = v := ⟨_, rfl⟩
      have hv2 : g (X.toNat * 10 + Y.toNat) = v := by rw [← hv, hX, hY]; unfold dubV; rw [if_pos h1, if_pos h2]
      rw [hv, ← hX, ← hY]
      have hXl : X.toNat < N := by omega
      have hYl : Y.toNat < N := by omega
      have HV := hid hv2
      have e1 : (X.toNat : Int) < N := by omega
      have e2 : (Y.toNat : Int) < N := by omega
      clear hv hv2 hX hY
      go_enter Try.func129, Try.ntmps129
      go_wp2_with (first | fail | (refine wpL_guard rfl rfl ?_) | (go_at_call 139; refine (product_any N gb g X Y _ h10 hXl hYl hD).mono ?_; rintro e w3 ⟨rfl, hb⟩; rw [HV.out]; replace hH := hH.call' hb; clear hb))
      go_ret
      exact ⟨rfl, hH.below⟩
    · obtain ⟨Z, hZ⟩ := byte_of (y - N) (by omega)
      obtain ⟨p, hp⟩ : ∃ p, g (Z.toNat * 10 + X.toNat) = p := ⟨_, rfl⟩
      have hXl : X.toNat < N := by omega
      have hZl : Z.toNat < N := by omega
      have hpl : p.toNat < N := by rw [← hp]; exact (hq.rows _ hZl).lt _ hXl
      have hv : ((dubV g N x y).toNat : Int) = (N : Int) + (p.toNat : Int) := by
        unfold dubV
        rw [if_pos h1, if_neg h2, ← hZ, ← hX, hp, UInt8.toNat_add, u8_of N (by omega)]
        omega
      rw [hv, ← hX, ← hY]
      have HV := hid hp
      have HZ := hid (show (Y.toNat : Int) - (N : Int) = (Z.toNat : Int) by omega)
      have e1 : (X.toNat : Int) < N := by omega
      have e2 : ¬ (Y.toNat : Int) < N := by omega
      have e3 : (Y.toNat : Int) < 10 := by omega
      have e4 : (p.toNat : Int) < 5 := by omega
      clear hv hp hX hY hZ
      go_enter Try.func129, Try.ntmps129
      go_wp2_with (first | fail | (refine wpL_guard rfl rfl ?_) | (go_at_call 139; rw [HZ.out]; refine (product_any N gb g Z X _ h10 hZl hXl hD).mono ?_; rintro e w3 ⟨rfl, hb⟩; rw [HV.out]; replace hH := hH.call' hb; clear hb))
      go_ret
      exact ⟨rfl, hH.below⟩
  · by_cases h2 : y < N
    · obtain ⟨Z, hZ⟩ := byte_of (x - N) (by omega)
      have hYl : Y.toNat < N := by omega
      have hZl : Z.toNat < N := by omega
      obtain ⟨p, hp⟩ : ∃ p, backF (colF g Y.toNat) N Z.toNat = p := ⟨_, rfl⟩
      have hpl : p.toNat < N := by rw [← hp]; exact (bk_lt (hq.cols _ hYl) hZl).1
      have hv : ((dubV g N x y).toNat : Int) = (N : Int) + (p.toNat : Int) := by
        unfold dubV
        rw [if_neg h1, if_pos h2, ← hZ, ← hY, hp, UInt8.toNat_add, u8_of N (by omega)]
        omega
      rw [hv, ← hX, ← hY]
      have HV := hid hp
      have HZ := hid (show (X.toNat : Int) - (N : Int) = (Z.toNat : Int) by omega)
      have e1 : ¬ (X.toNat : Int) < N := by omega
      have e2 : (Y.toNat : Int) < N := by omega
      have e3 : (X.toNat : Int) < 10 := by omega
      have e4 : (p.toNat : Int) < 5 := by omega
      clear hv hp hX hY hZ
      go_enter Try.func129, Try.ntmps129
      go_wp2_with (first | fail | (refine wpL_guard rfl rfl ?_) | (go_at_call 140; rw [HZ.out]; refine (rightQuotient_any N gb g Z Y _ h10 hZl hYl hD).mono ?_; rintro e w3 ⟨rfl, hb⟩; rw [HV.out]; replace hH := hH.call' hb; clear hb))
      go_ret
      exact ⟨rfl, hH.below⟩
    · obtain ⟨Z, hZ⟩ := byte_of (x - N) (by omega)
      obtain ⟨U, hU⟩ := byte_of (y - N) (by omega)
      have hUl : U.toNat < N := by omega
      have hZl : Z.toNat < N := by omega
      have hv : dubV g N x y = ld g N U.toNat Z.toNat := by
        unfold dubV
        rw [if_neg h1, if_neg h2, hU, hZ]
      rw [hv, ← hX, ← hY]
      have HZ := hid (show (X.toNat : Int) - (N : Int) = (Z.toNat : Int) by omega)
      have HU := hid (show (Y.toNat : Int) - (N : Int) = (U.toNat : Int) by omega)
      have e1 : ¬ (X.toNat : Int) < N := by omega
      have e2 : ¬ (Y.toNat : Int) < N := by omega
      have e3 : (X.toNat : Int) < 10 := by omega
      have e4 : (Y.toNat : Int) < 10 := by omega
      clear hv hX hY hZ hU
      go_enter Try.func129, Try.ntmps129
      go_wp2_with (first | fail | (refine wpL_guard rfl rfl ?_) | (go_at_call 125; rw [HZ.out, HU.out]; refine (leftQuotient_any N gb g U Z _ h10 hUl hZl hD).mono ?_; rintro e w3 ⟨rfl, hb⟩; replace hH := hH.call' hb; clear hb))
      go_ret
      exact ⟨rfl, hH.below⟩
theorem group_out {o : Int} {g : Nat → UInt8} {N : Nat} (h : sqB (N : Int) g = true) (hg : groupB (N : Int) g = false) (hl : loopB (N : Int) g = true) : ascB (N : Int) g = false := by
  unfold groupB at hg
  rw [hl] at hg
  simpa using hg
theorem gcode_no {o : Int} {g : Nat → UInt8} {ok : Bool} (h : (sqB o g && ok) = false) : gcode o g ok = 1 := by unfold gcode; rw [h]; rfl
theorem gcode_5 {o : Int} {g : Nat → UInt8} {ok : Bool} (h : (sqB o g && ok) = true) (hg : groupB o g = false) : gcode o g ok = 5 := by unfold gcode; rw [h, hg]; rfl
theorem gcode_0 {o : Int} {g : Nat → UInt8} {ok : Bool} (h : (sqB o g && ok) = true) (hg : groupB o g = true) : gcode o g ok = 0 := by unfold gcode; rw [h, hg]; rfl
theorem Dv.row1 {w : World} {x B N : Nat} {g : Nat → UInt8} (cs' : Array Value) (h : Dv w x N g) (hx : B + 2 ≤ x) : Dv (w.setRow (B + 1) cs') x N g := holds_row_other h (by omega)
theorem doubled_id (N gb x y : Nat) (g pl : Nat → UInt8) (ts co : Value) (fa : UInt8) (w : World) (hq : IsSq N g) (h5 : N ≤ 5) (hx : x < 2 * N) (hy : y < 2 * N) (hg : Dv w gb N g) :
    Calls Try.prog (mkId 0) #[.agg (matc (.pointer (some ⟨gb, 0, none⟩)) ts fa co pl), .int .u8 (x : Nat), .int .u8 (y : Nat)] w fun e w' => e = .returned (.int .u8 (dubV g N x y).toNat) ∧ Below w.heap.size w w' := doubled_any N gb x y g pl ts co fa w hq h5 hx hy hg
end Go.Proofs.Ytbhjbllgmenbaaa
namespace Go.Proofs.Ytbhjbllgmenbaaa
set_option linter.unusedVariables false
set_option linter.unusedSimpArgs false
open Go.RowKit
set_option maxRecDepth 20000 in
set_option maxHeartbeats 4000000 in
theorem makesAll_any (N gb : Nat) (id : FuncId) (g p D : Nat → UInt8) (w : World) (h10 : N ≤ 10) (hg : Dv w gb N g) (hE : Enters Try.prog id)
    (hF : Hid (∀ w' x, Dv w' gb N g → x < N → Calls Try.prog id #[.pointer (some ⟨gb, 0, none⟩), .int .u8 (x : Nat), .int .u8 (p x).toNat] w' fun e w'' => e = .returned (.int .u8 (D x).toNat) ∧ Below w'.heap.size w' w'')) :
    Calls Try.prog 124 #[.pointer (some ⟨gb, 0, none⟩), .func (.func id) #[] #[], .agg (u8s 10 p)] w fun e w' => e = .returned (.bool (difB D N)) ∧ Below w.heap.size w w' := by
  have hEn : ∀ (args : Array Value) (w : World), (callFunc id args).run Try.prog w = .ok (.enter id args) w := hE
  have hlt := holds_lt hg
  have hH := Has.start2 w (u8s 10 p) (u8s 10 fun _ => 0) 71 71
  have hD := hid (holds_alloc (holds_alloc hg (.cells (u8s 10 p) 71)) (.cells (u8s 10 fun _ => 0) 71))
  clear hg
  have hN : (N : Int) ≤ 10 := by omega
  have cN : ((w.alloc (.cells (u8s 10 p) 71)).alloc (.cells (u8s 10 fun _ => 0) 71)).cell? ⟨gb, 0, none⟩ = some (.int .i64 N) := by rw [holds_cell hD.out, dvc_get0 _ _ _ _ _ (by omega), sqc_get0]
  go_enter Try.func124, Try.ntmps124
  go_wp2_with (first | fail | (refine wpL_alloc rfl rfl zeroPl ?_; intro g hg; (try simp at hg); subst hg))
  clear cN
  go_loopw [15] (fun i wr => ∃ k : Nat, k ≤ N ∧ i = .int .u8 k ∧ Has w wr [(u8s 10 p, 71), (u8s 10 (mdF D k), 71)] ∧ Hid (Dv wr gb N g)) (fun i _ => 10 - (intOf i).toNat)
  case atStart => exact ⟨0, by omega, rfl, by rw [mdF_zero]; exact hH, hD⟩
  case round =>
    clear hH hD
    obtain ⟨k, hk, rfl, hH, hD⟩ := hrel
    by_cases hlt : k < N
    · have hk10 : (k : Int) < 10 := by omega
      have hlt' : (k : Int) < N := by omega
      have c0 : wr.cell? ⟨w.heap.size, k, none⟩ = some (.int .u8 (p k).toNat) := by rw [hH.c0, u8s_get _ _ _ (by omega)]
      go_wp2_with (first | fail | (go_at_fn id; refine (hF.out _ k hD.out hlt).mono ?_; rintro e w3 ⟨rfl, hb⟩; replace hH := hH.call' hb; replace hD := hid (Dv.below hD.out hb); clear hb c0; have c1 : w3.cell? ⟨w.heap.size + 1, k, none⟩ = some (.int .u8 (mdF D k k).toNat) := (by rw [hH.c1, u8s_get _ _ _ (by omega)]); have f1 := hH.f1 k))
      go_roundw
      case rel => exact ⟨k + 1, by omega, by go_num, hH.s1 _ _ (u8s_step 10 _ _ k (D k) (fun j _ => mdF_step D k j)), hid (holds_other hD.out _ _ (by simp; omega))⟩
      case measure => simp [intOf]; omega
    · obtain rfl : k = N := by omega
      go_wp2
      refine wp_region_frame (X := Unit) (fun d _ => [(28, bif d 0 then .agg (u8s 10 (mdF D k)) else undef), (29, bif d 1 then .pointer (some ⟨gb, 0, none⟩) else undef), (30, bif d 2 then .pointer (some ⟨gb, 0, none⟩) else undef), (31, bif d 3 then .pointer (some ⟨gb, 0, none⟩) else undef), (32, bif d 4 then .pointer (some ⟨gb, 0, none⟩) else undef), (33, bif d 5 then .int .i64 k else undef), (34, bif d 6 then .bool (permB (mdF D k) (k : Int)) else undef), (6, bif d 7 then .bool (permB (mdF D k) (k : Int)) else .bool false)])
        (fun d _ w' => Has w w' [(u8s 10 p, 71), (u8s 10 (mdF D k), 71)] ∧ Hid (Dv w' gb k g)) (by kernel_rfl) (by kernel_rfl) ?h0_mk ?hs_mk ?hq_mk
      case h0_mk => exact ⟨(), (by simp [lput]), hH.drew, hid (holds_drew hD.out)⟩
      case hs_mk =>
        refine ⟨?_, ?_, ?_, ?_, ?_, ?_, ?_, ?_, trivial⟩
        all_goals
          clear hH hD
          intro d _ w1 hd hn hJ
          simp only [needs, Region.binds, reduceCtorEq, Bool.false_eq_true, false_implies, true_and, and_true, true_implies, forall_const] at hn
          simp only [lput, List.set, hn, cond_true]
          obtain ⟨hH, hD⟩ := hJ
          have cN : w1.cell? ⟨gb, 0, none⟩ = some (.int .i64 k) := by rw [holds_cell hD.out, dvc_get0 _ _ _ _ _ (by omega), sqc_get0]
          go_wp2_with (first | fail | (refine wpL_loadFull rfl rfl rfl rowPl hH.h1 (u8s_size _ _) ?_) | (go_at_call 95; refine (IsPermutation_any _ _ _).mono ?_; rintro e w3 ⟨rfl, hb⟩; replace hH := hH.call' hb; replace hD := hid (Dv.below hD.out hb); clear hb))
          first
            | (refine ⟨(), ?_, hH, hD⟩; (simp [lput, done, hn]; done))
            | (refine ⟨?_, hH, hD⟩; (simp [lput, done, hn]; done))
            | (refine ⟨(), ?_, hH, hD⟩; (simp [lput, done, hn]; rfl))
            | (refine ⟨?_, hH, hD⟩; (simp [lput, done, hn]; rfl))
            | (refine ⟨(), ?_, hH, hD⟩; (simp [lput, done]; done))
            | (refine ⟨?_, hH, hD⟩; (simp [lput, done]; done))
            | (refine ⟨(), ?_, hH, hD⟩; (simp [lput, done]; rfl))
            | (refine ⟨?_, hH, hD⟩; (simp [lput, done]; rfl))
      case hq_mk =>
        clear hH hD
        intro d _ w1 hd hJ
        simp only [allDone, List.length_cons, List.length_nil, Nat.reduceAdd, and_true] at hd
        obtain ⟨hH, hD⟩ := hJ
        simp only [lput, List.set, hd, cond_true]
        clear hd
        go_wp2
        go_ret
        exact ⟨rfl, hH.below⟩
theorem leftQ_enters : Enters Try.prog 125 := enters_of Try.func125 (by kernel_rfl) rfl
theorem prod_enters : Enters Try.prog 139 := enters_of Try.func139 (by kernel_rfl) rfl
/-- What an orthomorphism has to make different. -/
def orD (g p : Nat → UInt8) (N x : Nat) : UInt8 := ld g N x (p x).toNat
theorem leftQ_at (N gb x : Nat) (g p : Nat → UInt8) (w : World) (h10 : N ≤ 10) (hp : IsPerm p N) (hx : x < N) (hg : Dv w gb N g) :
    Calls Try.prog 125 #[.pointer (some ⟨gb, 0, none⟩), .int .u8 (x : Nat), .int .u8 (p x).toNat] w fun e w' => e = .returned (.int .u8 (orD g p N x).toNat) ∧ Below w.heap.size w w' := by
  obtain ⟨X, hX⟩ := byte_of x (by omega)
  subst hX
  exact leftQuotient_any N gb g X (p X.toNat) w h10 hx (hp.lt _ hx) hg
set_option maxRecDepth 20000 in
set_option maxHeartbeats 1000000 in
theorem isOrthomorphism_any (N gb : Nat) (g p : Nat → UInt8) (w : World) (h10 : N ≤ 10) (hg : Dv w gb N g) (hp : IsPerm p N) :
    Calls Try.prog 99 #[.pointer (some ⟨gb, 0, none⟩), .agg (u8s 10 p)] w fun e w' => e = .returned (.bool (difB (orD g p N) N)) ∧ Below w.heap.size w w' := by
  have hH := Has.start1 w (u8s 10 p) 71
  have hD := hid (holds_alloc hg (.cells (u8s 10 p) 71))
  have HP := hid hp
  clear hg hp
  go_enter Try.func99, Try.ntmps99
  go_wp2_with (first | fail | (refine wpL_loadFull rfl rfl rfl rowPl hH.h0 (u8s_size _ _) ?_) | (go_at_call 124; refine (makesAll_any N gb _ g p (orD g p N) _ h10 hD.out leftQ_enters (hid (fun w' x h hx => leftQ_at N gb x g p w' h10 HP.out hx h))).mono ?_; rintro e w3 ⟨rfl, hb⟩; replace hH := hH.call' hb; clear hb))
  go_ret
  exact ⟨rfl, hH.below⟩
/-- The same as the model tells it. -/
def orE (g p : Nat → UInt8) (N x : Nat) : UInt8 := g ((iv g N x).toNat * 10 + (p x).toNat)
theorem orE_eq {g p : Nat → UInt8} {N : Nat} (hG : IsGp N g) (hp : IsPerm p N) : difB (orE g p N) N = difB (orD g p N) N :=
  difB_congr fun i hi => (ld_iv hG (hp.lt i hi) hi).symm
theorem gcode_good {o : Int} {g p : Nat → UInt8} (h : gcode o g (permB p o) = 0) : ∃ N : Nat, o = N ∧ IsGp N g ∧ IsPerm p N := by
  unfold gcode at h
  by_cases hk : (sqB o g && permB p o) = true
  · rw [if_pos hk] at h
    by_cases hg : groupB o g = true
    · obtain ⟨N, rfl, hG, _, _⟩ := group_true hg
      rw [Bool.and_eq_true] at hk
      exact ⟨N, rfl, hG, permB_nat.1 hk.2⟩
    · rw [if_neg hg] at h; omega
  · rw [if_neg hk] at h; omega
end Go.Proofs.Ytbhjbllgmenbaaa
namespace Go.Proofs.Ytbhjbllgmenbaaa
set_option linter.unusedVariables false
set_option linter.unusedSimpArgs false
open Go.RowKit
structure Duo where
  a : Nat
  b : Nat
theorem holds_ne {w : World} {b b' : Nat} {cs cs' : Array Value} {t t' : TypeId} (h : holds w b cs t) (h' : holds w b' cs' t') (ht : t ≠ t') : b ≠ b' := fun e => by
  subst e
  have h2 : some (Obj.cells cs t (0, 0)) = some (Obj.cells cs' t' (0, 0)) := h.symm.trans h'
  injection h2 with h3
  injection h3 with _ h4
  exact ht h4
section
variable {P : Program} {ops : Array Oper} {rest : List Oper} {o : Oper} {a : Act} {w : World} {Q : Exit → Act → World → Prop}
theorem wpL_cellR {T : Nat} {x y : Operand} {g off : Nat} {v : Value} {cs cs' : Array Value} {t : TypeId} (hgd : o.guard = none) (ho : o.op = .store T x y) (hx : a.eval x = .pointer (some ⟨g, off, none⟩)) (hy : a.eval y = v) (hs : (P.info? T).map (·.size) = some 1) (h1 : v.oneCell' = true)
    (hg : holds w g cs t) (hb : off < cs.size) (e : cs.setIfInBounds off v = cs')
    (h : wpList P ops Q rest (a.put o.dst undef) (w.setRow g cs')) : wpList P ops Q (o :: rest) a w :=
  wpList_plain hgd fun K hK => by
    have hc : v.cells = #[v] := by cases v <;> first | rfl | cases h1
    have hst := run_storeCells_at P g off t [v] 0 cs w hg (by simp; omega) (fun u hu => by simp at hu; subst hu; exact h1)
    have he : over cs off #[v] = cs' := by
      rw [← e]
      apply Array.ext_getElem?
      intro i
      rw [over_get cs off #[v] (by simp; omega) i, Array.getElem?_setIfInBounds]
      by_cases q : off = i
      · subst q; rw [if_pos (by simp), if_pos rfl, if_pos hb]; simp
      · rw [if_neg (by simp; omega), if_neg q]
    simp only [Nat.add_zero] at hst
    have hst' : (storeCells ⟨g, off, none⟩ [v]).run P w = .ok () (w.setRow g cs') := by rw [← he]; exact hst
    cases hq : P.info? T with
    | none => simp [hq] at hs
    | some i =>
      have hs' : i.size = 1 := by simpa [hq] using hs
      have hrun : (storeVar T ⟨g, off, none⟩ v).run P w = .ok () (w.setRow g cs') := by
        simp [storeVar, sizeOf, typeInfo, hq, hc, hs', hst']
      unfold Oper.wp execOp
      simp only [ho, hx, hy, Instr.storeAt, Instr.sureAddr, Sem.run_bind, Sem.run_pure, Result.andThen_ok, hrun]
      exact hK _ _ h
theorem wpL_bu04 {T : Nat} {x y : Operand} {v u : Value} {Z : Array Value} (hgd : o.guard = none) (ho : o.op = .build T #[(0, x), (4, y)]) (hx : a.eval x = v) (hy : a.eval y = u) (hz : P.built T [(0, v), (4, u)] = some Z)
    (h : wpList P ops Q rest (a.put o.dst (.agg Z)) w) : wpList P ops Q (o :: rest) a w := by
  refine wpList_build hgd T #[(0, x), (4, y)] ho ?_ ?_
  · simp [hx, hy, hz]
  · simpa [hx, hy, hz] using h
end
theorem leftQ_nat (N gb x y : Nat) (g : Nat → UInt8) (w : World) (h10 : N ≤ 10) (hx : x < N) (hy : y < N) (hg : Dv w gb N g) :
    Calls Try.prog 125 #[.pointer (some ⟨gb, 0, none⟩), .int .u8 (x : Nat), .int .u8 (y : Nat)] w fun e w' => e = .returned (.int .u8 (ld g N x y).toNat) ∧ Below w.heap.size w w' := by
  obtain ⟨X, hX⟩ := byte_of x (by omega)
  obtain ⟨Y, hY⟩ := byte_of y (by omega)
  subst hX hY
  exact leftQuotient_any N gb g X Y w h10 hx hy hg
theorem product_nat (N gb x y : Nat) (g : Nat → UInt8) (w : World) (h10 : N ≤ 10) (hx : x < N) (hy : y < N) (hg : Dv w gb N g) :
    Calls Try.prog 139 #[.pointer (some ⟨gb, 0, none⟩), .int .u8 (x : Nat), .int .u8 (y : Nat)] w fun e w' => e = .returned (.int .u8 (g (x * 10 + y)).toNat) ∧ Below w.heap.size w w' := by
  obtain ⟨X, hX⟩ := byte_of x (by omega)
  obtain ⟨Y, hY⟩ := byte_of y (by omega)
  subst hX hY
  exact product_any N gb g X Y w h10 hx hy hg
/-- The products of the square of an orthomorphism. -/
def orV (g p : Nat → UInt8) (N x y : Nat) : UInt8 := g (x * 10 + (p (ld g N x y).toNat).toNat)
set_option maxRecDepth 20000 in
set_option maxHeartbeats 4000000 in
theorem differing_any (N gb x y : Nat) (g p : Nat → UInt8) (ts co : Value) (fa : UInt8) (w : World) (hq : IsSq N g) (hp : IsPerm p N) (hx : x < N) (hy : y < N) (hg : Dv w gb N g) :
    Calls Try.prog (mkId 4) #[.agg (matc (.pointer (some ⟨gb, 0, none⟩)) ts fa co p), .int .u8 (x : Nat), .int .u8 (y : Nat)] w fun e w' => e = .returned (.int .u8 (orV g p N x y).toNat) ∧ Below w.heap.size w w' := by
  show Calls Try.prog 133 _ _ _
  have h10 := hq.hi
  have hH := Has.start1 w (matc (.pointer (some ⟨gb, 0, none⟩)) ts fa co p) 98
  have hD := hid (holds_alloc hg (.cells (matc (.pointer (some ⟨gb, 0, none⟩)) ts fa co p) 98))
  obtain ⟨l, hl⟩ : ∃ l, ld g N x y = l := ⟨_, rfl⟩
  have hll : l.toNat < N := by rw [← hl]; exact ld_lt hq hx hy
  obtain ⟨q, hq2⟩ : ∃ q, p l.toNat = q := ⟨_, rfl⟩
  have hql : q.toNat < N := by rw [← hq2]; exact hp.lt _ hll
  obtain ⟨r, hr⟩ : ∃ r, g (x * 10 + q.toNat) = r := ⟨_, rfl⟩
  have HV := hid (show orV g p N x y = r by unfold orV; rw [hl, hq2, hr])
  rw [HV.out]
  have HL := hid hl
  have HQ2 := hid hq2
  have HR := hid hr
  clear hg hq hp hl hq2 hr
  have l1 : (l.toNat : Int) < 10 := by omega
  have l2 : (q.toNat : Int) < 10 := by omega
  go_enter Try.func133, Try.ntmps133
  go_wp2
  refine wp_region_frame (X := Unit) (fun d _ => [(7, bif d 0 then .pointer (some ⟨w.heap.size, 0, none⟩) else undef), (8, bif d 1 then .pointer (some ⟨gb, 0, none⟩) else undef), (9, bif d 2 then .int .u8 x else undef), (10, bif d 3 then .pointer (some ⟨w.heap.size, 0, none⟩) else undef), (11, bif d 4 then .pointer (some ⟨gb, 0, none⟩) else undef), (12, bif d 5 then .int .u8 x else undef), (13, bif d 6 then .int .u8 y else undef), (14, bif d 7 then .int .u8 l.toNat else undef), (15, bif d 8 then .pointer (some ⟨w.heap.size, 4, none⟩) else undef), (16, bif d 9 then .pointer (some ⟨w.heap.size, 4 + l.toNat, none⟩) else undef), (17, bif d 10 then .int .u8 q.toNat else undef), (18, bif d 11 then .int .u8 r.toNat else undef), (6, bif d 12 then .int .u8 r.toNat else .int .u8 0)])
    (fun d _ w' => Has w w' [(matc (.pointer (some ⟨gb, 0, none⟩)) ts fa co p, 98)] ∧ Hid (Dv w' gb N g)) (by kernel_rfl) (by kernel_rfl) ?h0_df ?hs_df ?hq_df
  case h0_df => exact ⟨(), (by simp [lput]), hH.drew, hid (holds_drew hD.out)⟩
  case hs_df =>
    refine ⟨?_, ?_, ?_, ?_, ?_, ?_, ?_, ?_, ?_, ?_, ?_, ?_, ?_, trivial⟩
    all_goals
      clear hH hD
      intro d _ w1 hd hn hJ
      simp only [needs, Region.binds, reduceCtorEq, Bool.false_eq_true, false_implies, true_and, and_true, true_implies, forall_const] at hn
      simp only [lput, List.set, hn, cond_true]
      obtain ⟨hH, hD⟩ := hJ
      have c0 : w1.cell? ⟨w.heap.size, 0, none⟩ = some (.pointer (some ⟨gb, 0, none⟩)) := by rw [hH.c0, matc_0]
      have c1 : w1.cell? ⟨w.heap.size, 4 + l.toNat, none⟩ = some (.int .u8 q.toNat) := by rw [hH.c0, matc_pl _ _ _ _ _ _ (by omega), HQ2.out]
      go_wp2_with (first | fail | (go_at_call 125; refine (leftQ_nat N gb x y g _ h10 hx hy hD.out).mono ?_; rintro e w3 ⟨rfl, hb⟩; rw [HL.out]; replace hH := hH.call' hb; replace hD := hid (Dv.below hD.out hb)) | (go_at_call 139; refine (product_nat N gb x q.toNat g _ h10 hx hql hD.out).mono ?_; rintro e w3 ⟨rfl, hb⟩; rw [HR.out]; replace hH := hH.call' hb; replace hD := hid (Dv.below hD.out hb)))
      first
        | (refine ⟨(), ?_, hH, hD⟩; (simp [lput, done, hn]; done))
        | (refine ⟨?_, hH, hD⟩; (simp [lput, done, hn]; done))
        | (refine ⟨(), ?_, hH, hD⟩; (simp [lput, done, hn]; rfl))
        | (refine ⟨?_, hH, hD⟩; (simp [lput, done, hn]; rfl))
        | (refine ⟨(), ?_, hH, hD⟩; (simp [lput, done]; done))
        | (refine ⟨?_, hH, hD⟩; (simp [lput, done]; done))
        | (refine ⟨(), ?_, hH, hD⟩; (simp [lput, done]; rfl))
        | (refine ⟨?_, hH, hD⟩; (simp [lput, done]; rfl))
  case hq_df =>
    clear hH hD
    intro d _ w1 hd hJ
    simp only [allDone, List.length_cons, List.length_nil, Nat.reduceAdd, and_true] at hd
    obtain ⟨hH, hD⟩ := hJ
    simp only [lput, List.set, hd, cond_true]
    clear hd
    go_wp2
    go_ret
    exact ⟨rfl, hH.below⟩
set_option maxRecDepth 20000 in
set_option maxHeartbeats 2000000 in
theorem implOrthoSq_bad (o : Int) (g p : Nat → UInt8) (z : Int) (w : World) (hz : gcode o g (permB p o) = z) (hzz : (z == 0) = false) :
    Calls Try.prog 65 #[.agg (sqc o g), .agg (u8s 10 p)] w fun e w' => e = .returned (.tuple #[.agg (sqc 0 fun _ => 0), .int .i64 z]) ∧ Below w.heap.size w w' := by
  have HZ := hid hz
  clear hz
  have hz2 : ¬ (z = 0) := by simpa using hzz
  have h0 := Has.start3 w (sqc o g) (u8s 10 p) (sqc 0 fun _ => 0) 29 71 29
  have hH := Has.start4 w (sqc o g) (u8s 10 p) (sqc 0 fun _ => 0) (u8s 10 p) 29 71 29 71
  go_enter Try.func65, Try.ntmps65
  go_wp2_with (first | fail | (refine wpL_alloc rfl rfl zeroSq ?_; intro g hg; (try simp at hg); subst hg) | (refine wpL_loadFull rfl rfl rfl rowSq h0.h0 (sqc_size _ _) ?_) | (refine wpL_loadFull rfl rfl rfl rowPl h0.h1 (u8s_size _ _) ?_) | (refine wpL_sliceP (f := p) rfl (by rfl) (by rfl) ?_) | (go_at_call 98; refine (onGroupCode_1 o g p _ _ hH.h3).mono ?_; rintro e w3 ⟨rfl, hb⟩; rw [HZ.out]; replace hH := hH.call' hb; clear hb h0) | (refine wpL_build rfl rfl builtSq ?_) | (refine wpL_storeSame rfl rfl rfl rfl rowSq hH.h2 (sqc_ok _ _) ?_))
  exact ret_ct rfl rfl rfl hH.h2 rowSq (sqc_size _ _) ⟨rfl, hH.below⟩
set_option maxRecDepth 20000 in
set_option maxHeartbeats 1600000 in
theorem implOrthoSq_in (N : Nat) (g p : Nat → UInt8) (r : Bool) (w : World) (hz : gcode (N : Int) g (permB p (N : Int)) = 0) (hq : IsSq N g) (hp : IsPerm p N) (hr : difB (orD g p N) N = r) :
    Calls Try.prog 65 #[.agg (sqc N g), .agg (u8s 10 p)] w fun e w' => e = .returned (if r = true then .tuple #[.agg (sqc N (fillT N (orV g p N) N 0)), .int .i64 0] else .tuple #[.agg (sqc 0 fun _ => 0), .int .i64 5]) ∧ Below w.heap.size w w' := by
  have HZ := hid hz
  have HQ := hid hq
  have HP := hid hp
  have HR := hid hr
  have h10 := hq.hi
  have hDif := hid (fun (gb : Nat) (w0 : World) (hD : Dv w0 gb N g) (w' : World) (x y : Nat) (hb : Below w0.heap.size w0 w') (hx : x < N) (hy : y < N) => differing_any N gb x y g p (.slice none 0 0) (.slice none 0 0) 0 w' hq hp hx hy (Dv.below hD hb))
  clear hz hq hp hr
  have h0 := Has.start3 w (sqc N g) (u8s 10 p) (sqc 0 fun _ => 0) 29 71 29
  have hH := Has.start4 w (sqc N g) (u8s 10 p) (sqc 0 fun _ => 0) (u8s 10 p) 29 71 29 71
  go_enter Try.func65, Try.ntmps65
  go_wp2_with (first | fail | (refine wpL_alloc rfl rfl zeroSq ?_; intro g hg; (try simp at hg); subst hg) | (refine wpL_loadFull rfl rfl rfl rowSq h0.h0 (sqc_size _ _) ?_) | (refine wpL_loadFull rfl rfl rfl rowPl h0.h1 (u8s_size _ _) ?_) | (refine wpL_sliceP (f := p) rfl (by rfl) (by rfl) ?_) | (go_at_call 98; refine (onGroupCode_1 N g p _ _ hH.h3).mono ?_; rintro e w3 ⟨rfl, hb⟩; rw [HZ.out]; replace hH := hH.call' hb; clear hb h0))
  refine wp_region_frame (X := Duo) (fun d x => [(16, bif d 0 then .agg (sqc N g) else undef), (17, bif d 1 then .pointer (some ⟨x.a, 0, none⟩) else undef), (18, bif d 2 then .agg (u8s 10 p) else undef), (19, bif d 3 then .agg (matc (.pointer (some ⟨x.a, 0, none⟩)) (.slice none 0 0) 0 (.slice none 0 0) p) else undef), (7, bif d 4 then .pointer (some ⟨x.b, 0, none⟩) else undef)])
    (fun d x w' => Has w w' [(sqc N g, 29), (u8s 10 p, 71), (sqc 0 (fun _ => 0), 29), (u8s 10 p, 71)] ∧ (d 1 = true → Hid (Dv w' x.a N g)) ∧ (d 4 = true → w.heap.size + 4 ≤ x.b ∧ holds w' x.b (bif d 5 then matc (.pointer (some ⟨x.a, 0, none⟩)) (.slice none 0 0) 0 (.slice none 0 0) p else matc (.pointer none) (.slice none 0 0) 0 (.slice none 0 0) fun _ => 0) 98) ∧ (d 3 = true → d 1 = true) ∧ (d 5 = true → d 3 = true) ∧ (d 5 = true → d 4 = true)) (by kernel_rfl) (by kernel_rfl) ?h0_os ?hs_os ?hq_os
  case h0_os => exact ⟨⟨0, 0⟩, (by simp [lput]), hH.drew, (fun h => by cases h), (fun h => by cases h), (fun h => by cases h), (fun h => by cases h), (fun h => by cases h)⟩
  case hs_os =>
    refine ⟨?_, ?_, ?_, ?_, ?_, ?_, trivial⟩
    all_goals
      clear hH
      intro d x w1 hd hn hJ
      simp only [needs, Region.binds, reduceCtorEq, Bool.false_eq_true, false_implies, true_and, and_true, true_implies, forall_const] at hn
      simp only [lput, List.set, hn, cond_true]
      try simp only [hd, cond_false] at hJ
      obtain ⟨hH, hD, hM, I3_1, I5_3, I5_4⟩ := hJ
      (try have hD_ := hD (by simp only [hn]))
      (try have hM_ := hM (by simp only [hn]))
      have zz := hH.size
      simp only [List.length_cons, List.length_nil] at zz
      go_wp2_with (first | fail | (refine wpL_loadFull rfl rfl rfl rowSq hH.h0 (sqc_size _ _) ?_) | (refine wpL_loadFull rfl rfl rfl rowPl hH.h1 (u8s_size _ _) ?_) | (go_at_call 84; refine (divide_any N g _ HQ.out).mono ?_; rintro e w3 ⟨gb, rfl, hb, hD0, hlo⟩; replace hH := hH.call' hb; replace hM := fun e => And.intro (hM e).1 (holds_below (hM e).2 hb (holds_lt (hM e).2))) | (refine wpL_bu04 rfl rfl rfl rfl (builtMat2 _ p) ?_) | (refine wpL_storeN (x := .tmp 7) rfl rfl rfl rfl rowMat hM_.2 (matc_size _ _ _ _ _) (matc_ok _ _ _ _ _ _ _ _ _) ?_; intro w5 hz5 hO hT; replace hH := hT _ _ hH hM_.1; replace hD := fun e => hid (hO _ _ _ (holds_ne (hD e).out hM_.2 (by decide)) (hD e).out)) | (refine wpL_allocN (o := ⟨some 7, _, _, _, _, _⟩) rfl rfl zeroMat ?_; intro mb w4 hz4 hl hb; replace hH := hH.call' hb; replace hD := fun e => hid (Dv.below (hD e).out hb)))
      first
        | (have z3 : d 3 = false := (by first | exact imp_no I3_1 hd | exact imp_no I3_1 rfl); have z5 : d 5 = false := imp_no I5_3 z3; refine ⟨⟨gb, x.b⟩, ?_, hH, (fun _ => hid hD0), (fun e => ⟨(hM (done_ne e (by decide))).1, by have := (hM (done_ne e (by decide))).2; simpa [done, z5] using this⟩), (by intro e; simp [done]), (by intro e; simp [done, z5] at e), (by intro e; simp [done, z5] at e)⟩; (simp [lput, done, hn, z3, z5]; done))
        | (have z5 : d 5 = false := (by first | exact imp_no I5_4 hd | exact imp_no I5_4 rfl); have hmb : w.heap.size + 4 ≤ mb := (by omega); refine ⟨⟨x.a, mb⟩, ?_, hH, (fun e => hD (done_ne e (by decide))), (fun _ => ⟨hmb, by simpa [done, z5] using hz4⟩), (by intro e; have := I3_1 (done_ne e (by decide)); simp [done, this]), (by intro e; simp [done, z5] at e), (by intro e; simp [done])⟩; (simp [lput, done, hn, z5]; done))
        | (refine ⟨x, ?_, hH, (fun e => hD (done_ne e (by decide))), (fun _ => ⟨hM_.1, by simpa [done] using hz5⟩), (by intro e; have := I3_1 (done_ne e (by decide)); simp [done, this]), (by intro e; simp [done, hn]), (by intro e; simp [done, hn])⟩; (simp [lput, done, hn]; done))
        | (refine ⟨x, ?_, hH, (fun e => hD (done_ne e (by decide))), (fun e => hM (done_ne e (by decide))), (by intro e; first | (simp [done]; done) | (have e2 := I3_1 (done_ne e (by decide)); simp [done, e2]; done) | (simp [done, hn]; done)), (by intro e; first | (simp [done]; done) | (have e2 := I5_3 (done_ne e (by decide)); simp [done, e2]; done) | (simp [done, hn]; done)), (by intro e; first | (simp [done]; done) | (have e2 := I5_4 (done_ne e (by decide)); simp [done, e2]; done) | (simp [done, hn]; done))⟩; (simp [lput, done, hn]; done))
        | (refine ⟨?_, hH, (fun e => hD (done_ne e (by decide))), (fun e => hM (done_ne e (by decide))), (by intro e; first | (simp [done]; done) | (have e2 := I3_1 (done_ne e (by decide)); simp [done, e2]; done) | (simp [done, hn]; done)), (by intro e; first | (simp [done]; done) | (have e2 := I5_3 (done_ne e (by decide)); simp [done, e2]; done) | (simp [done, hn]; done)), (by intro e; first | (simp [done]; done) | (have e2 := I5_4 (done_ne e (by decide)); simp [done, e2]; done) | (simp [done, hn]; done))⟩; (simp [lput, done, hn]; done))
        | (refine ⟨x, ?_, hH, (fun e => hD (done_ne e (by decide))), (fun e => hM (done_ne e (by decide))), (by intro e; first | (simp [done]; done) | (have e2 := I3_1 (done_ne e (by decide)); simp [done, e2]; done) | (simp [done, hn]; done)), (by intro e; first | (simp [done]; done) | (have e2 := I5_3 (done_ne e (by decide)); simp [done, e2]; done) | (simp [done, hn]; done)), (by intro e; first | (simp [done]; done) | (have e2 := I5_4 (done_ne e (by decide)); simp [done, e2]; done) | (simp [done, hn]; done))⟩; (simp [lput, done, hn]; rfl))
        | (refine ⟨?_, hH, (fun e => hD (done_ne e (by decide))), (fun e => hM (done_ne e (by decide))), (by intro e; first | (simp [done]; done) | (have e2 := I3_1 (done_ne e (by decide)); simp [done, e2]; done) | (simp [done, hn]; done)), (by intro e; first | (simp [done]; done) | (have e2 := I5_3 (done_ne e (by decide)); simp [done, e2]; done) | (simp [done, hn]; done)), (by intro e; first | (simp [done]; done) | (have e2 := I5_4 (done_ne e (by decide)); simp [done, e2]; done) | (simp [done, hn]; done))⟩; (simp [lput, done, hn]; rfl))
        | (refine ⟨x, ?_, hH, (fun e => hD (done_ne e (by decide))), (fun e => hM (done_ne e (by decide))), (by intro e; first | (simp [done]; done) | (have e2 := I3_1 (done_ne e (by decide)); simp [done, e2]; done) | (simp [done, hn]; done)), (by intro e; first | (simp [done]; done) | (have e2 := I5_3 (done_ne e (by decide)); simp [done, e2]; done) | (simp [done, hn]; done)), (by intro e; first | (simp [done]; done) | (have e2 := I5_4 (done_ne e (by decide)); simp [done, e2]; done) | (simp [done, hn]; done))⟩; (simp [lput, done]; done))
        | (refine ⟨?_, hH, (fun e => hD (done_ne e (by decide))), (fun e => hM (done_ne e (by decide))), (by intro e; first | (simp [done]; done) | (have e2 := I3_1 (done_ne e (by decide)); simp [done, e2]; done) | (simp [done, hn]; done)), (by intro e; first | (simp [done]; done) | (have e2 := I5_3 (done_ne e (by decide)); simp [done, e2]; done) | (simp [done, hn]; done)), (by intro e; first | (simp [done]; done) | (have e2 := I5_4 (done_ne e (by decide)); simp [done, e2]; done) | (simp [done, hn]; done))⟩; (simp [lput, done]; done))
        | (refine ⟨x, ?_, hH, (fun e => hD (done_ne e (by decide))), (fun e => hM (done_ne e (by decide))), (by intro e; first | (simp [done]; done) | (have e2 := I3_1 (done_ne e (by decide)); simp [done, e2]; done) | (simp [done, hn]; done)), (by intro e; first | (simp [done]; done) | (have e2 := I5_3 (done_ne e (by decide)); simp [done, e2]; done) | (simp [done, hn]; done)), (by intro e; first | (simp [done]; done) | (have e2 := I5_4 (done_ne e (by decide)); simp [done, e2]; done) | (simp [done, hn]; done))⟩; (simp [lput, done]; rfl))
        | (refine ⟨?_, hH, (fun e => hD (done_ne e (by decide))), (fun e => hM (done_ne e (by decide))), (by intro e; first | (simp [done]; done) | (have e2 := I3_1 (done_ne e (by decide)); simp [done, e2]; done) | (simp [done, hn]; done)), (by intro e; first | (simp [done]; done) | (have e2 := I5_3 (done_ne e (by decide)); simp [done, e2]; done) | (simp [done, hn]; done)), (by intro e; first | (simp [done]; done) | (have e2 := I5_4 (done_ne e (by decide)); simp [done, e2]; done) | (simp [done, hn]; done))⟩; (simp [lput, done]; rfl))
  case hq_os =>
    clear hH
    intro d x w1 hd hJ
    simp only [allDone, List.length_cons, List.length_nil, Nat.reduceAdd, and_true] at hd
    obtain ⟨hH, hD, hM, I3_1, I5_3, I5_4⟩ := hJ
    replace hD := hD (by simp only [hd])
    replace hM := hM (by simp only [hd])
    clear I3_1
    clear I5_3
    clear I5_4
    simp only [hd, cond_true] at hH hM
    simp only [lput, List.set, hd, cond_true]
    clear hd
    rcases x with ⟨gb, mb⟩
    replace hD : Dv w1 gb N g := hD.out
    obtain ⟨hmb, hM⟩ := hM
    replace hM : holds w1 mb (matc (.pointer (some ⟨gb, 0, none⟩)) (.slice none 0 0) 0 (.slice none 0 0) p) 98 := hM
    have cM : w1.cell? ⟨mb, 0, none⟩ = some (.pointer (some ⟨gb, 0, none⟩)) := by rw [holds_cell hM, matc_0]
    cases r with
    | true =>
      go_wp2_with (first | fail | (refine wpL_loadFull rfl rfl rfl rowPl hH.h1 (u8s_size _ _) ?_) | (go_at_call 99; refine (isOrthomorphism_any N gb g p _ h10 hD HP.out).mono ?_; rintro e w4 ⟨rfl, hb⟩; rw [HR.out]; replace hH := hH.call' hb; replace hD := Dv.below hD hb; replace hM := holds_below hM hb (holds_lt hM); clear hb cM; have c0 := hH.c0 0; rw [sqc_get0] at c0) | (refine wpL_loadFull rfl rfl rfl rowMat hM (matc_size _ _ _ _ _) ?_) | (go_at_call 83; refine (squareBy_any 4 N _ (orV g p N) _ (by decide) h10 (matc_size _ _ _ _ _) (hid (hDif.out _ _ hD))).mono ?_; rintro e w4 ⟨rfl, hb⟩; replace hH := hH.call' hb; clear hb) | (refine wpL_storeFull rfl rfl rfl rfl rowSq hH.h2 (sqc_size _ _) (sqc_ok _ _) ?_))
      exact ret_ct rfl rfl rfl hH.r2.h2 rowSq (sqc_size _ _) ⟨rfl, hH.r2.below⟩
    | false =>
      go_wp2_with (first | fail | (refine wpL_loadFull rfl rfl rfl rowPl hH.h1 (u8s_size _ _) ?_) | (go_at_call 99; refine (isOrthomorphism_any N gb g p _ h10 hD HP.out).mono ?_; rintro e w4 ⟨rfl, hb⟩; rw [HR.out]; replace hH := hH.call' hb; replace hD := Dv.below hD hb; replace hM := holds_below hM hb (holds_lt hM); clear hb cM) | (refine wpL_build rfl rfl builtSq ?_) | (refine wpL_storeSame rfl rfl rfl rfl rowSq hH.h2 (sqc_ok _ _) ?_))
      exact ret_ct rfl rfl rfl hH.h2 rowSq (sqc_size _ _) ⟨rfl, hH.below⟩
/-- The products as the model makes them. -/
def orW (g p : Nat → UInt8) (N x y : Nat) : UInt8 := g (x * 10 + (p (g ((iv g N x).toNat * 10 + y)).toNat).toNat)
theorem fillT_same {N : Nat} {v v' : Nat → Nat → UInt8} (h : ∀ x y, x < N → y < N → v x y = v' x y) : fillT N v N 0 = fillT N v' N 0 := by
  funext i
  unfold fillT
  by_cases c : (i / 10 < N ∧ i % 10 < N) ∨ (i / 10 = N ∧ i % 10 < 0)
  · rw [if_pos c, if_pos c]
    exact h _ _ (by omega) (by omega)
  · rw [if_neg c, if_neg c]
theorem orW_eq {g p : Nat → UInt8} {N : Nat} (hG : IsGp N g) : fillT N (orW g p N) N 0 = fillT N (orV g p N) N 0 :=
  fillT_same fun x y hx hy => by unfold orW orV; rw [ld_iv hG hy hx]
end Go.Proofs.Ytbhjbllgmenbaaa
