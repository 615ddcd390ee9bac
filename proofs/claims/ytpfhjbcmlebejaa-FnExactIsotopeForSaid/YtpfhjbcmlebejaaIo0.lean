/- Proved: the isotope for two elements, made by quotients and then led by the exchange of 0 and its unit, is the loop at these elements. Conditions: those that each lemma names. -/
import Derived.Test.YtpfhjbcmlebejaaLa0
import Derived.Test.YtpfhjbcmlebejaaNu
namespace Go.Proofs.Ytpfhjbcmlebejaa
set_option linter.unusedVariables false
set_option linter.unusedSimpArgs false
open Go.RowKit
/-- The product of x and y in the isotope for a and b. -/
def isV (g : Nat → UInt8) (N a b : Nat) (x y : Nat) : UInt8 := g ((backF (colF g b) N x).toNat * 10 + (backF (rowF g a) N y).toNat)
def isF (g : Nat → UInt8) (N a b : Nat) : Nat → UInt8 := fillT N (isV g N a b) N 0
theorem isV_lt {g : Nat → UInt8} {N a b x y : Nat} (h : IsSq N g) (ha : a < N) (hb : b < N) (hx : x < N) (hy : y < N) : (isV g N a b x y).toNat < N :=
  h.lt' (bk_lt (h.cols b hb) hx).1 (bk_lt (h.rows a ha) hy).1
theorem isF_get {g : Nat → UInt8} {N a b x y : Nat} (h : IsSq N g) (hx : x < N) (hy : y < N) : isF g N a b (x * 10 + y) = isV g N a b x y := fillT_get N _ x y hx hy h.hi
theorem isF_lt {g : Nat → UInt8} {N a b x y : Nat} (h : IsSq N g) (ha : a < N) (hb : b < N) (hx : x < N) (hy : y < N) : (isF g N a b (x * 10 + y)).toNat < N := by
  rw [isF_get h hx hy]; exact isV_lt h ha hb hx hy
theorem bk_then {p s : Nat → UInt8} {N r : Nat} (hp : IsPerm p N) (hs : IsPerm s N) (hr : r < N) : (backF (thenF p s N) N r).toNat = (backF p N (backF s N r).toNat).toNat := by
  obtain ⟨h1, h2⟩ := bk_lt hs hr
  obtain ⟨h3, h4⟩ := bk_lt hp h1
  have h5 : (thenF p s N (backF p N (backF s N r).toNat).toNat).toNat = r := by
    unfold thenF
    rw [if_pos h3, h4, h2]
  have h6 := bk_at (thenF_perm hp hs) h3
  rw [h5] at h6
  exact h6
theorem backF_congr {p q : Nat → UInt8} {z : Nat} : ∀ {k : Nat}, (∀ i, i < k → p i = q i) → backF p k z = backF q k z
  | 0, _ => rfl
  | k + 1, h => by
    show (if z = (p k).toNat then UInt8.ofNat k else backF p k z) = (if z = (q k).toNat then UInt8.ofNat k else backF q k z)
    rw [h k (by omega), backF_congr (fun i hi => h i (by omega))]
theorem bk_mk0 {a b c : Nat → UInt8} {N z : Nat} (h : N ≤ 10) : bkA (mkTri a b c) N z = (backF a N z).toNat := by
  unfold bkA
  rw [backF_congr (fun i hi => tri_mk0 a b c i (by omega))]
theorem bk_mk1 {a b c : Nat → UInt8} {N z : Nat} (h : N ≤ 10) : bkB (mkTri a b c) N z = (backF b N z).toNat := by
  unfold bkB
  rw [backF_congr (fun i hi => tri_mk1 a b c i (by omega))]
theorem isoP_full {g t : Nat → UInt8} {N i : Nat} (ht : IsTri t N) (h1 : i / 10 < N) (h2 : i % 10 < N) : isoP g t N N 0 i = tri t 20 (g (bkA t N (i / 10) * 10 + bkB t N (i % 10))).toNat := by
  unfold isoP
  rw [if_pos ⟨h1, h2, .inl (back_lt ht.a h1).1⟩]
theorem isoP_none {g t : Nat → UInt8} {N i : Nat} (h : ¬ (i / 10 < N ∧ i % 10 < N)) : isoP g t N N 0 i = 0 := by
  unfold isoP
  rw [if_neg (fun q => h ⟨q.1, q.2.1⟩)]
theorem mk3_is {s : Nat → UInt8} {N : Nat} (hs : IsPerm s N) : IsTri (mkTri s s s) N := mkTri_is hs hs hs
theorem iso_same {g : Nat → UInt8} {N a b : Nat} (h : IsSq N g) (ha : a < N) (hb : b < N) (i : Nat) (hi : i < 100) :
    isoP (isF g N a b) (mkTri (exF N (g (a * 10 + b))) (exF N (g (a * 10 + b))) (exF N (g (a * 10 + b)))) N N 0 i = isoP g (toT g N a b) N N 0 i := by
  have h10 := h.hi
  have hE := exF_perm h.lo h.hi (h.lt' ha hb)
  by_cases hr : i / 10 < N ∧ i % 10 < N
  · obtain ⟨h1, h2⟩ := hr
    have e1 := (bk_lt hE h1).1
    have e2 := (bk_lt hE h2).1
    have c1 := (bk_lt (h.cols b hb) e1).1
    have c2 := (bk_lt (h.rows a ha) e2).1
    have hv : (isV g N a b (backF (exF N (g (a * 10 + b))) N (i / 10)).toNat (backF (exF N (g (a * 10 + b))) N (i % 10)).toNat).toNat < N := isV_lt h ha hb e1 e2
    rw [isoP_full (mk3_is hE) h1 h2, isoP_full (toT_is h ha hb) h1 h2, bk_mk0 h10, bk_mk1 h10]
    unfold toT
    rw [bk_mk0 h10, bk_mk1 h10, bk_then (h.cols b hb) hE h1, bk_then (h.rows a ha) hE h2, isF_get h e1 e2, tri_mk2 _ _ _ _ (by omega), tri_mk2 _ _ _ _ (by have := h.lt' c1 c2; omega)]
    rfl
  · rw [isoP_none hr, isoP_none hr]
theorem iso_same_cells {g : Nat → UInt8} {N a b : Nat} (h : IsSq N g) (ha : a < N) (hb : b < N) :
    sqc N (isoP (isF g N a b) (mkTri (exF N (g (a * 10 + b))) (exF N (g (a * 10 + b))) (exF N (g (a * 10 + b)))) N N 0) = sqc N (isoP g (toT g N a b) N N 0) :=
  sqc_congr N _ _ (fun i hi => iso_same h ha hb i hi)
/-- One exchange, cell by cell, in the other order. -/
theorem ex2 (N : Nat) (e : UInt8) (he : e.toNat < 10) : (((u8s 10 (sameF N)).setIfInBounds e.toNat (.int .u8 0)).setIfInBounds 0 (.int .u8 e.toNat)) = u8s 10 (exF N e) := by
  have h1 : (u8s 10 (sameF N)).setIfInBounds e.toNat (.int .u8 0) = u8s 10 (fun i => if i = e.toNat then 0 else sameF N i) := u8s_stepv 10 _ _ e.toNat _ 0 rfl (fun j _ => rfl)
  rw [h1]
  refine u8s_step 10 _ _ 0 e (fun j _ => ?_)
  unfold exF
  by_cases h0 : j = 0
  · subst h0
    by_cases h1 : 0 = e.toNat
    · rw [if_pos h1, if_pos rfl]; exact UInt8.toNat_inj.1 h1
    · rw [if_neg h1, if_pos rfl, if_pos rfl]
  · by_cases h1 : j = e.toNat
    · rw [if_pos h1, if_neg h0, if_pos h1]
    · rw [if_neg h1, if_neg h0, if_neg h0, if_neg h1]
end Go.Proofs.Ytpfhjbcmlebejaa
