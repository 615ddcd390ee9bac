/- Proved: what products, left quotients, commutators and associators are, of program and model alike. Conditions: those that each theorem names. -/
import Derived.Test.YtpfhjbcmlebejabNu
import Derived.Test.YtpfhjbcmlebejabPa
import Derived.Test.YtpfhjbcmlebejabLc
import Derived.Test.YtpfhjbcmlebejabAs0
namespace Go.Proofs.Ytpfhjbcmlebejab
set_option linter.unusedVariables false
set_option linter.unusedSimpArgs false
open Go.RowKit
/-- The divided square of a square stands in block gb. -/
abbrev Dv (w : World) (gb N : Nat) (g : Nat → UInt8) : Prop := holds w gb (dvc N g (unF g N) (ovF g N)) 155
theorem Dv.below {w w' : World} {gb N : Nat} {g : Nat → UInt8} (h : Dv w gb N g) (hb : Below w.heap.size w w') : Dv w' gb N g := holds_below h hb (holds_lt h)
set_option maxRecDepth 20000 in
set_option maxHeartbeats 1000000 in
theorem product_any (N gb : Nat) (g : Nat → UInt8) (x y : UInt8) (w : World) (h10 : N ≤ 10) (hx : x.toNat < N) (hy : y.toNat < N) (hg : Dv w gb N g) :
    Calls Try.prog 155 #[.pointer (some ⟨gb, 0, none⟩), .int .u8 x.toNat, .int .u8 y.toNat] w fun e w' => e = .returned (.int .u8 (g (x.toNat * 10 + y.toNat)).toNat) ∧ Below w.heap.size w w' := by
  have hx' : (x.toNat : Int) < 10 := by omega
  have hy' : (y.toNat : Int) < 10 := by omega
  have ca : w.cell? ⟨gb, 1 + x.toNat * 10 + y.toNat, none⟩ = some (.int .u8 (g (x.toNat * 10 + y.toNat)).toNat) := by rw [holds_cell hg, dvc_get0 _ _ _ _ _ (by omega), Nat.add_assoc, sqc_get _ _ _ (by omega)]
  go_enter Try.func155, Try.ntmps155
  go_wp2
  go_ret
  exact ⟨rfl, Below.refl _ _⟩
set_option maxRecDepth 20000 in
set_option maxHeartbeats 1000000 in
theorem leftQuotient_any (N gb : Nat) (g : Nat → UInt8) (x y : UInt8) (w : World) (h10 : N ≤ 10) (hx : x.toNat < N) (hy : y.toNat < N) (hg : Dv w gb N g) :
    Calls Try.prog 154 #[.pointer (some ⟨gb, 0, none⟩), .int .u8 x.toNat, .int .u8 y.toNat] w fun e w' => e = .returned (.int .u8 (ld g N x.toNat y.toNat).toNat) ∧ Below w.heap.size w w' := by
  have hx' : (x.toNat : Int) < 10 := by omega
  have hy' : (y.toNat : Int) < 10 := by omega
  have hv : unF g N (x.toNat * 10 + y.toNat) = ld g N x.toNat y.toNat := unF_get h10 hx hy
  have ca : w.cell? ⟨gb, 102 + x.toNat * 10 + y.toNat, none⟩ = some (.int .u8 (ld g N x.toNat y.toNat).toNat) := by rw [holds_cell hg, Nat.add_assoc, dvc_byte1 _ _ _ _ _ (by omega), hv]
  clear hv
  go_enter Try.func154, Try.ntmps154
  go_wp2
  go_ret
  exact ⟨rfl, Below.refl _ _⟩
set_option maxRecDepth 20000 in
set_option maxHeartbeats 1000000 in
theorem commutator_any (N gb : Nat) (g : Nat → UInt8) (x y : UInt8) (w : World) (hq : IsSq N g) (hx : x.toNat < N) (hy : y.toNat < N) (hg : Dv w gb N g) :
    Calls Try.prog 131 #[.pointer (some ⟨gb, 0, none⟩), .int .u8 x.toNat, .int .u8 y.toNat] w fun e w' => e = .returned (.int .u8 (cmm g N x.toNat y.toNat).toNat) ∧ Below w.heap.size w w' := by
  have h10 := hq.hi
  obtain ⟨p, hp⟩ : ∃ p : UInt8, g (y.toNat * 10 + x.toNat) = p := ⟨_, rfl⟩
  obtain ⟨q, hqq⟩ : ∃ q : UInt8, g (x.toNat * 10 + y.toNat) = q := ⟨_, rfl⟩
  have hpl : p.toNat < N := by rw [← hp]; exact mu_lt hq hy hx
  have hql : q.toNat < N := by rw [← hqq]; exact mu_lt hq hx hy
  have hv : cmm g N x.toNat y.toNat = ld g N p.toNat q.toNat := by unfold cmm mu; rw [hp, hqq]
  rw [hv]
  have HP := hid hp
  have HQ := hid hqq
  clear hp hqq hv hq
  have hB : Below w.heap.size w w := Below.refl _ _
  go_enter Try.func131, Try.ntmps131
  go_wp2_with (first | (go_at_call 155; with_reducible refine (product_any N gb g y x _ h10 hy hx hg).mono ?_; rintro e w2 ⟨rfl, hb⟩; rw [HP.out]; replace hg := Dv.below hg hb; replace hB := hB.trans (hb.mono hB.size); clear hb) | (go_at_call 155; with_reducible refine (product_any N gb g x y _ h10 hx hy hg).mono ?_; rintro e w3 ⟨rfl, hb⟩; rw [HQ.out]; replace hg := Dv.below hg hb; replace hB := hB.trans (hb.mono hB.size); clear hb) | (go_at_call 154; with_reducible refine (leftQuotient_any N gb g p q _ h10 hpl hql hg).mono ?_; rintro e w4 ⟨rfl, hb⟩; replace hB := hB.trans (hb.mono hB.size); clear hb))
  go_ret
  exact ⟨rfl, hB⟩
set_option maxRecDepth 20000 in
set_option maxHeartbeats 1000000 in
theorem associator_any (N gb : Nat) (g : Nat → UInt8) (x y z : UInt8) (w : World) (hq : IsSq N g) (hx : x.toNat < N) (hy : y.toNat < N) (hz : z.toNat < N) (hg : Dv w gb N g) :
    Calls Try.prog 130 #[.pointer (some ⟨gb, 0, none⟩), .int .u8 x.toNat, .int .u8 y.toNat, .int .u8 z.toNat] w fun e w' => e = .returned (.int .u8 (asc g N x.toNat y.toNat z.toNat).toNat) ∧ Below w.heap.size w w' := by
  have h10 := hq.hi
  obtain ⟨p, hp⟩ : ∃ p : UInt8, g (y.toNat * 10 + z.toNat) = p := ⟨_, rfl⟩
  obtain ⟨q, hqq⟩ : ∃ q : UInt8, g (x.toNat * 10 + y.toNat) = q := ⟨_, rfl⟩
  have hpl : p.toNat < N := by rw [← hp]; exact mu_lt hq hy hz
  have hql : q.toNat < N := by rw [← hqq]; exact mu_lt hq hx hy
  obtain ⟨r, hr⟩ : ∃ r : UInt8, g (x.toNat * 10 + p.toNat) = r := ⟨_, rfl⟩
  obtain ⟨s, hs⟩ : ∃ s : UInt8, g (q.toNat * 10 + z.toNat) = s := ⟨_, rfl⟩
  have hrl : r.toNat < N := by rw [← hr]; exact mu_lt hq hx hpl
  have hsl : s.toNat < N := by rw [← hs]; exact mu_lt hq hql hz
  have hv : asc g N x.toNat y.toNat z.toNat = ld g N r.toNat s.toNat := by unfold asc mu; rw [hp, hqq, hr, hs]
  rw [hv]
  have HP := hid hp
  have HQ := hid hqq
  have HR := hid hr
  have HS := hid hs
  clear hp hqq hr hs hv hq
  have hB : Below w.heap.size w w := Below.refl _ _
  go_enter Try.func130, Try.ntmps130
  go_wp2_with (first | (go_at_call 155; with_reducible refine (product_any N gb g y z _ h10 hy hz hg).mono ?_; rintro e w2 ⟨rfl, hb⟩; rw [HP.out]; replace hg := Dv.below hg hb; replace hB := hB.trans (hb.mono hB.size); clear hb) | (go_at_call 155; with_reducible refine (product_any N gb g x y _ h10 hx hy hg).mono ?_; rintro e w3 ⟨rfl, hb⟩; rw [HQ.out]; replace hg := Dv.below hg hb; replace hB := hB.trans (hb.mono hB.size); clear hb) | (go_at_call 155; with_reducible refine (product_any N gb g x p _ h10 hx hpl hg).mono ?_; rintro e w4 ⟨rfl, hb⟩; rw [HR.out]; replace hg := Dv.below hg hb; replace hB := hB.trans (hb.mono hB.size); clear hb) | (go_at_call 155; with_reducible refine (product_any N gb g q z _ h10 hql hz hg).mono ?_; rintro e w5 ⟨rfl, hb⟩; rw [HS.out]; replace hg := Dv.below hg hb; replace hB := hB.trans (hb.mono hB.size); clear hb) | (go_at_call 154; with_reducible refine (leftQuotient_any N gb g r s _ h10 hrl hsl hg).mono ?_; rintro e w6 ⟨rfl, hb⟩; replace hB := hB.trans (hb.mono hB.size); clear hb))
  go_ret
  exact ⟨rfl, hB⟩
end Go.Proofs.Ytpfhjbcmlebejab
