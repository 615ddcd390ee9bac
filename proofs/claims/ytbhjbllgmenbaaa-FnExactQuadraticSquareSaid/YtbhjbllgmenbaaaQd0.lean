/- Proved: what squares by a prime are for program and model; that the quadratic squares of 3, 5 and 7 are squares of orthomorphisms of cyclic squares exactly as told. Conditions: those that each theorem names. -/
import Derived.Test.YtbhjbllgmenbaaaMkz
import Derived.Test.YtbhjbllgmenbaaaSq2
namespace Go.Proofs.Ytbhjbllgmenbaaa
set_option linter.unusedVariables false
set_option linter.unusedSimpArgs false
open Go.RowKit
/-- t is the remainder of a square by p. -/
def qsB (p t : Nat) : Bool := (List.range p).any fun r => r * r % p == t
theorem qsB_yes {p t r : Nat} (hr : r < p) (h : r * r % p = t) : qsB p t = true := by
  unfold qsB; rw [List.any_eq_true]; exact ⟨r, List.mem_range.2 hr, by simpa using h⟩
theorem qsB_no {p t : Nat} (h : ∀ r, r < p → r * r % p ≠ t) : qsB p t = false := by
  unfold qsB
  rw [List.any_eq_false]
  intro r hr
  simpa using h r (List.mem_range.1 hr)
/-- the primes asked for. -/
def P357 (p : Nat) : Prop := p = 3 ∨ p = 5 ∨ p = 7
set_option maxRecDepth 20000 in
set_option maxHeartbeats 1000000 in
theorem isSquareBy_any (p t : Nat) (w : World) (hp : P357 p) :
    Calls Try.prog 63 #[.int .i64 p, .int .i64 t] w fun e w' => e = .returned (.bool (qsB p t)) ∧ Below w.heap.size w w' := by
  have h7 : p ≤ 7 := by rcases hp with h | h | h <;> omega
  have h3 : 3 ≤ p := by rcases hp with h | h | h <;> omega
  have hm0 : ¬ ((p : Int) = 0) := by omega
  have hmm : ¬ ((p : Int) = -1) := by omega
  go_enter Try.func63, Try.ntmps63
  go_wp2
  go_loopw [7] (fun i wr => ∃ k : Nat, k ≤ p ∧ i = .int .i64 k ∧ Has w wr [] ∧ Hid (∀ r, r < k → r * r % p ≠ t)) (fun i _ => 10 - (intOf i).toNat)
  case atStart => exact ⟨0, by omega, rfl, Has.nil w, hid (fun r h => absurd h (Nat.not_lt_zero r))⟩
  case round =>
    obtain ⟨k, hk, rfl, hH, hN⟩ := hrel
    by_cases hlt : k < p
    · obtain ⟨Q, hQ⟩ : ∃ Q, k * k = Q := ⟨_, rfl⟩
      have hQl : Q ≤ 49 := by rw [← hQ]; exact Nat.mul_le_mul (show k ≤ 7 by omega) (show k ≤ 7 by omega)
      have hQi : (k : Int) * (k : Int) = (Q : Int) := by rw [← hQ]; simp
      obtain ⟨r, hr⟩ : ∃ r, Q % p = r := ⟨_, rfl⟩
      have hri : (Q : Int) % (p : Int) = (r : Int) := by rw [← hr]; simp
      have hrt : Int.tmod (Q : Int) (p : Int) = (r : Int) := by rw [← hr]; exact (Int.ofNat_tmod Q p).symm
      have hlt' : (k : Int) < p := by omega
      have hQ49 : (Q : Int) ≤ 49 := by omega
      by_cases e : r = t
      · have HV := hid (qsB_yes hlt (show k * k % p = t by rw [hQ, hr, e]))
        have ei : (r : Int) = (t : Int) := by omega
        clear hr hQ
        go_wp2
        go_ret
        exact ⟨by rw [HV.out]; rfl, hH.below⟩
      · have ei : ¬ (r : Int) = (t : Int) := by omega
        have hN2 : Hid (∀ r', r' < k + 1 → r' * r' % p ≠ t) := hid (fun r' h' => by
          by_cases q : r' = k
          · subst q; rw [hQ, hr]; exact e
          · exact hN.out r' (by omega))
        clear hr hQ
        go_wp2
        go_roundw
        case rel => exact ⟨k + 1, by omega, by go_num, hH, hN2⟩
        case measure => simp [intOf]; omega
    · obtain rfl : k = p := by omega
      have HV := hid (qsB_no hN.out)
      go_wp2
      go_ret
      exact ⟨by rw [HV.out]; rfl, hH.below⟩
theorem tmod_iff {p Q t r : Nat} (hp : P357 p) (ht : t < p) (hr : Q % p = r) : Int.tmod ((Q : Int) - (t : Int)) (p : Int) = 0 ↔ r = t := by
  constructor
  · intro h
    have hd := Int.dvd_of_tmod_eq_zero h
    rcases hp with rfl | rfl | rfl <;> omega
  · intro h
    apply Int.tmod_eq_zero_of_dvd
    rcases hp with rfl | rfl | rfl <;> omega
set_option maxRecDepth 20000 in
set_option maxHeartbeats 1000000 in
theorem l08Residue_any (p t : Nat) (w : World) (hp : P357 p) (ht : t < p) :
    Calls Try.prog 62 #[.int .i64 p, .int .i64 t] w fun e w' => e = .returned (.bool (qsB p t)) ∧ Below w.heap.size w w' := by
  have h7 : p ≤ 7 := by rcases hp with h | h | h <;> omega
  have h3 : 3 ≤ p := by rcases hp with h | h | h <;> omega
  have hm0 : ¬ ((p : Int) = 0) := by omega
  have hmm : ¬ ((p : Int) = -1) := by omega
  have HP := hid hp
  go_enter Try.func62, Try.ntmps62
  go_wp2
  go_loopw [5] (fun i wr => ∃ k : Nat, k ≤ p ∧ i = .int .i64 k ∧ Has w wr [] ∧ Hid (∀ r, r < k → r * r % p ≠ t)) (fun i _ => 10 - (intOf i).toNat)
  case atStart => exact ⟨0, by omega, rfl, Has.nil w, hid (fun r h => absurd h (Nat.not_lt_zero r))⟩
  case round =>
    obtain ⟨k, hk, rfl, hH, hN⟩ := hrel
    by_cases hlt : k < p
    · obtain ⟨Q, hQ⟩ : ∃ Q, k * k = Q := ⟨_, rfl⟩
      have hQl : Q ≤ 49 := by rw [← hQ]; exact Nat.mul_le_mul (show k ≤ 7 by omega) (show k ≤ 7 by omega)
      have hQi : (k : Int) * (k : Int) = (Q : Int) := by rw [← hQ]; simp
      obtain ⟨r, hr⟩ : ∃ r, Q % p = r := ⟨_, rfl⟩
      have hlt' : (k : Int) < p := by omega
      have hQ49 : (Q : Int) ≤ 49 := by omega
      have ht7 : (t : Int) < 7 := by omega
      have hif := tmod_iff HP.out ht hr
      obtain ⟨D, hD⟩ : ∃ D, (Q : Int) - (t : Int) = D := ⟨_, rfl⟩
      rw [hD] at hif
      have hDl : D ≤ 49 := by omega
      have hDg : -7 ≤ D := by omega
      obtain ⟨s, hs⟩ : ∃ s, Int.tmod D (p : Int) = s := ⟨_, rfl⟩
      rw [hs] at hif
      by_cases e : r = t
      · have HV := hid (qsB_yes hlt (show k * k % p = t by rw [hQ, hr, e]))
        have ei : s = 0 := hif.2 e
        clear hif hr hQ
        rw [ei] at hs
        have hse : 0 ≤ D → D % (p : Int) = 0 := fun h0 => by rw [← Int.tmod_eq_emod_of_nonneg h0]; exact hs
        by_cases h0 : 0 ≤ D
        · have hse := hse h0
          go_wp2
          go_ret
          exact ⟨by rw [HV.out]; rfl, hH.below⟩
        · clear hse
          go_wp2
          go_ret
          exact ⟨by rw [HV.out]; rfl, hH.below⟩
      · have ei : ¬ s = 0 := fun h => e (hif.1 h)
        have hN2 : Hid (∀ r', r' < k + 1 → r' * r' % p ≠ t) := hid (fun r' h' => by
          by_cases q : r' = k
          · subst q; rw [hQ, hr]; exact e
          · exact hN.out r' (by omega))
        clear hif hr hQ
        by_cases h0 : 0 ≤ D
        · have hse : D % (p : Int) = s := by rw [← Int.tmod_eq_emod_of_nonneg h0]; exact hs
          go_wp2
          go_roundw
          case rel => exact ⟨k + 1, by omega, by go_num, hH, hN2⟩
          case measure => simp [intOf]; omega
        · go_wp2
          go_roundw
          case rel => exact ⟨k + 1, by omega, by go_num, hH, hN2⟩
          case measure => simp [intOf]; omega
    · obtain rfl : k = p := by omega
      have HV := hid (qsB_no hN.out)
      go_wp2
      go_ret
      exact ⟨by rw [HV.out]; rfl, hH.below⟩
/-- a b and (a - 1) (b - 1) have remainders of squares that are not 0. -/
def quB (p a b : Nat) : Bool := !(a * b % p == 0) && (!((a - 1) * (b - 1) % p == 0) && (qsB p (a * b % p) && qsB p ((a - 1) * (b - 1) % p)))
/-- The factor for a difference. -/
def quA (p a b s : Nat) : Nat := if qsB p s = true then a else b
/-- The products of the quadratic square. -/
def quV (p a b x y : Nat) : UInt8 := UInt8.ofNat ((x + quA p a b ((y + p - x) % p) * ((y + p - x) % p)) % p)
/-- The places of its orthomorphism. -/
def quD (p a b t : Nat) : UInt8 := UInt8.ofNat (quA p a b t * t % p)
def plD (p a b : Nat) : Nat → UInt8 := mdF (quD p a b) p
def cyF (p : Nat) : Nat → UInt8 := fillT p (cyV p) p 0
/-- A permutation, by trial. -/
def permD (q : Nat → UInt8) (N : Nat) : Bool := decide (1 ≤ N) && (decide (N ≤ 10) && ((List.range N).all (fun i => decide ((q i).toNat < N)) && ((List.range N).all (fun j => (List.range j).all fun i => !((q i).toNat == (q j).toNat)) && (List.range 10).all fun i => decide (i < N) || (q i).toNat == 0)))
theorem permD_iff {q : Nat → UInt8} {N : Nat} : permD q N = true ↔ IsPerm q N := by
  unfold permD
  simp only [Bool.and_eq_true, decide_eq_true_iff, List.all_eq_true, List.mem_range, Bool.not_eq_true', beq_eq_false_iff_ne, Bool.or_eq_true, beq_iff_eq]
  exact ⟨fun ⟨a, b, c, d, e⟩ => ⟨a, b, c, fun i j hi hj => d j hj i hi, fun i h1 h2 => (e i h2).resolve_left (by omega)⟩, fun h => ⟨h.lo, h.hi, h.lt, fun j hj i hi => h.inj i j hi hj, fun i h1 => by
    by_cases q2 : i < N
    · exact .inl q2
    · exact .inr (h.zero i (by omega) h1)⟩⟩
theorem permD_eq {q : Nat → UInt8} {N : Nat} : permB q (N : Int) = permD q N := by
  rw [Bool.eq_iff_iff, permB_nat, permD_iff]
/-- The cyclic squares of the primes are groups. -/
def cyChk (p : Nat) : Bool := (List.range p).all (fun x => permD (rowF (cyF p) x) p) && ((List.range p).all (fun y => permD (colF (cyF p) y) p) && ((List.range p).all (fun x => (cyF p x).toNat == x && (cyF p (x * 10)).toNat == x) && (List.range p).all fun x => (List.range p).all fun y => (List.range p).all fun z => mu (cyF p) (mu (cyF p) x y) z == mu (cyF p) x (mu (cyF p) y z)))
theorem cyChk3 : cyChk 3 = true := by decide +kernel
theorem cyChk5 : cyChk 5 = true := by decide +kernel
theorem cyChk7 : cyChk 7 = true := by decide +kernel
theorem cy_gp {p : Nat} (hp : P357 p) : IsGp p (cyF p) := by
  have hc : cyChk p = true := by
    rcases hp with rfl | rfl | rfl
    · exact cyChk3
    · exact cyChk5
    · exact cyChk7
  have h10 : 1 ≤ p ∧ p ≤ 10 := by rcases hp with h | h | h <;> omega
  unfold cyChk at hc
  simp only [Bool.and_eq_true, List.all_eq_true, List.mem_range, beq_iff_eq] at hc
  obtain ⟨h1, h2, h3, h4⟩ := hc
  exact ⟨⟨⟨h10.1, h10.2, fun x hx => permD_iff.1 (h1 x hx), fun y hy => permD_iff.1 (h2 y hy), fun x y hx hy hl => fillT_out hx hy hl⟩, fun x hx => (h3 x hx).1, fun x hx => (h3 x hx).2⟩, fun x y z hx hy hz => h4 x hx y hy z hz⟩
theorem gp_group {N : Nat} {g : Nat → UInt8} (h : IsGp N g) : groupB (N : Int) g = true := by
  have hs := sqB_nat.2 h.lp.sq
  have hl := loopB_yes hs (fun x hx => ⟨h.lp.row x hx, h.lp.col x hx⟩)
  unfold groupB
  rw [hl, ascB_yes (fun a b c ha hb hc _ => UInt8.toNat_inj.1 (h.assoc a b c ha hb hc))]
  rfl
/-- For each pair of numbers: the condition tells when the places are an orthomorphism, and then the products are as told. -/
def quChk (p : Nat) : Bool := (List.range p).all fun a => (List.range p).all fun b =>
  (quB p a b == (permD (plD p a b) p && permD (mdF (orD (cyF p) (plD p a b) p) p) p)) &&
    (!quB p a b || (List.range p).all fun x => (List.range p).all fun y => orV (cyF p) (plD p a b) p x y == quV p a b x y)
theorem quChk3 : quChk 3 = true := by decide +kernel
theorem quChk5 : quChk 5 = true := by decide +kernel
theorem quChk7 : quChk 7 = true := by decide +kernel
theorem qu_chk {p a b : Nat} (hp : P357 p) (ha : a < p) (hb : b < p) :
    quB p a b = (permD (plD p a b) p && permD (mdF (orD (cyF p) (plD p a b) p) p) p) ∧ (quB p a b = true → ∀ x y, x < p → y < p → orV (cyF p) (plD p a b) p x y = quV p a b x y) := by
  have hc : quChk p = true := by
    rcases hp with rfl | rfl | rfl
    · exact quChk3
    · exact quChk5
    · exact quChk7
  unfold quChk at hc
  rw [List.all_eq_true] at hc
  have h1 := hc a (List.mem_range.2 ha)
  rw [List.all_eq_true] at h1
  have h2 := h1 b (List.mem_range.2 hb)
  rw [Bool.and_eq_true] at h2
  refine ⟨by simpa using h2.1, fun hq x y hx hy => ?_⟩
  have h3 := h2.2
  rw [hq] at h3
  simp only [Bool.not_true, Bool.false_or] at h3
  rw [List.all_eq_true] at h3
  have h4 := h3 x (List.mem_range.2 hx)
  rw [List.all_eq_true] at h4
  simpa using h4 y (List.mem_range.2 hy)
end Go.Proofs.Ytbhjbllgmenbaaa
