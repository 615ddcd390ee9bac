/- Proved: lemmas on orders of elements, greatest common divisors and least common multiples, without any program. Conditions: those that each lemma names. -/
import Derived.Test.YtpfhjbcmlebejaaPw
namespace Go.Proofs.Ytpfhjbcmlebejaa
set_option linter.unusedVariables false
set_option linter.unusedSimpArgs false
open Go.RowKit
/-- The order of x. -/
noncomputable def od (g : Nat → UInt8) (N x : Nat) : Nat := @dite Nat (∃ m, IsOrd g N x m) (Classical.propDecidable _) (fun h => Classical.choose h) (fun _ => 1)
theorem od_is {g : Nat → UInt8} {N x : Nat} (h : IsSq N g) (hx : x < N) : IsOrd g N x (od g N x) := by
  have e := ord_ex h hx
  unfold od
  rw [dif_pos e]
  exact Classical.choose_spec e
theorem od_pos {g : Nat → UInt8} {N x : Nat} (h : IsSq N g) (hx : x < N) : 1 ≤ od g N x := (od_is h hx).pos
theorem od_le {g : Nat → UInt8} {N x : Nat} (h : IsSq N g) (hx : x < N) : od g N x ≤ 10 := by have := (od_is h hx).le; have := h.hi; omega
/-- The least common multiple of the orders of the first k elements. -/
noncomputable def lcmTo (g : Nat → UInt8) (N : Nat) : Nat → Nat
  | 0 => 1
  | k + 1 => Nat.lcm (lcmTo g N k) (od g N k)
theorem lcm_bd {m n : Nat} (hn : 1 ≤ n) (hm : 1 ≤ m) (h10 : n ≤ 10) : 1 ≤ Nat.lcm m n ∧ Nat.lcm m n ≤ m * 10 := by
  have h1 : 0 < Nat.lcm m n := Nat.lcm_pos (by omega) (by omega)
  have h2 : Nat.lcm m n ∣ m * n := Nat.lcm_dvd (Nat.dvd_mul_right m n) (Nat.dvd_mul_left n m)
  have h3 := Nat.le_of_dvd (Nat.mul_pos (by omega) (by omega)) h2
  have h4 : m * n ≤ m * 10 := Nat.mul_le_mul_left m h10
  omega
theorem lcmTo_bd {g : Nat → UInt8} {N : Nat} (h : IsSq N g) : ∀ k, k ≤ N → 1 ≤ lcmTo g N k ∧ lcmTo g N k ≤ 10 ^ k
  | 0, _ => by simp [lcmTo]
  | k + 1, hk => by
    obtain ⟨a, b⟩ := lcmTo_bd h k (by omega)
    obtain ⟨c, d⟩ := lcm_bd (od_pos h (show k < N by omega)) a (od_le h (show k < N by omega))
    refine ⟨c, ?_⟩
    show Nat.lcm (lcmTo g N k) (od g N k) ≤ 10 ^ k * 10
    have := Nat.mul_le_mul_right 10 b
    omega
theorem pow_bd {k : Nat} (h : k ≤ 10) : 10 ^ k ≤ 10000000000 := by
  have := Nat.pow_le_pow_right (show 10 > 0 by omega) h
  omega
theorem lcmTo_le {g : Nat → UInt8} {N k : Nat} (h : IsSq N g) (hk : k ≤ N) : lcmTo g N k ≤ 10000000000 := by
  have a := (lcmTo_bd h k hk).2
  have b := pow_bd (k := k) (by have := h.hi; omega)
  omega
/-- How often m goes into the least common multiple with n. -/
def lcmQ (m n : Nat) : Nat := n / Nat.gcd m n
theorem lcmQ_mul {m n : Nat} : m * lcmQ m n = Nat.lcm m n := by
  unfold lcmQ Nat.lcm
  exact (Nat.mul_div_assoc m (Nat.gcd_dvd_right m n)).symm
theorem lcmQ_div {m n : Nat} : m / Nat.gcd m n * n = Nat.lcm m n := by
  unfold Nat.lcm
  rw [Nat.div_mul_right_comm (Nat.gcd_dvd_left m n)]
theorem lcmQ_pos {m n : Nat} (hn : 1 ≤ n) : 1 ≤ lcmQ m n := by
  unfold lcmQ
  exact Nat.div_pos (Nat.le_of_dvd hn (Nat.gcd_dvd_right m n)) (Nat.gcd_pos_of_pos_right m hn)
theorem lcmQ_le {m n : Nat} : lcmQ m n ≤ n := Nat.div_le_self _ _
/-- The first multiple of m that n divides is the least common multiple. -/
theorem lcm_hit {m n j : Nat} (hm : 1 ≤ m) (hj : 1 ≤ j) (hle : j ≤ lcmQ m n) (h : (m * j) % n = 0) : m * j = Nat.lcm m n := by
  have h1 : Nat.lcm m n ∣ m * j := Nat.lcm_dvd (Nat.dvd_mul_right m j) (Nat.dvd_of_mod_eq_zero h)
  have h2 := Nat.le_of_dvd (Nat.mul_pos hm hj) h1
  rw [← lcmQ_mul] at h2 ⊢
  have h3 := Nat.le_of_mul_le_mul_left h2 hm
  rw [Nat.le_antisymm hle h3]
theorem lcm_miss {m n j : Nat} (hle : j ≤ lcmQ m n) (h : ¬ (m * j) % n = 0) : j < lcmQ m n := by
  rcases Nat.lt_or_ge j (lcmQ m n) with h1 | h1
  · exact h1
  · exfalso
    apply h
    rw [Nat.le_antisymm hle h1, lcmQ_mul]
    exact Nat.mod_eq_zero_of_dvd (Nat.dvd_lcm_right m n)
/-- One step of Euclid's way. -/
theorem gcd_turn {a b : Nat} : Nat.gcd b (a % b) = Nat.gcd a b := by
  rw [Nat.gcd_comm b, ← Nat.gcd_rec, Nat.gcd_comm]
end Go.Proofs.Ytpfhjbcmlebejaa
