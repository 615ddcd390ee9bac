/- Proved: what the laws, the model and the program do with identities: their copies, their comparison, their texts. Conditions: those that each theorem names. -/
import Derived.Test.YtphninlinegbbacIdn
import Derived.Test.YtphninlinegbbacLawTermText
namespace Go.Proofs.Ytphninlinegbbac
set_option linter.unusedVariables false
set_option linter.unusedSimpArgs false
open Go.RowKit
def GotId (n m : Nat) (f g : Nat → UInt8) (w : World) (e : Ending) (w' : World) : Prop := ∃ b1 b2, e = .returned (idV b1 b2 n m) ∧ Below w.heap.size w w' ∧ Hid (IdR w' b1 b2 n m f g) ∧ w.heap.size ≤ b1 ∧ b1 < b2
theorem BRow.setCell {w : World} {b n : Nat} {f : Nat → UInt8} (h : BRow w b n f) (a : Addr) (v : Value) (hb : b ≠ a.block) : BRow (w.setCell a v) b n f := by
  obtain ⟨cs, h1, h2⟩ := h; exact ⟨cs, holds_other h1 a v hb, h2⟩
theorem BRow.setRow {w : World} {b n : Nat} {f : Nat → UInt8} (h : BRow w b n f) (g : Nat) (c : Array Value) (hb : b ≠ g) : BRow (w.setRow g c) b n f := by
  obtain ⟨cs, h1, h2⟩ := h; exact ⟨cs, holds_row_other h1 hb, h2⟩
set_option maxRecDepth 20000 in
set_option maxHeartbeats 1000000 in
theorem toIdentity_any (v u : Value) (n m : Nat) (f g : Nat → UInt8) (w : World) (hn : n ≤ 1048576) (hm : m ≤ 1048576) (h1 : BIn w v n f) (h2 : BIn w u m g) :
    Calls Try.prog 24 #[.agg #[v, u]] w (GotId n m f g w) := by
  have H1 := hid h1
  have H2 := hid h2
  clear h1 h2
  have hH := Has.start3 w #[v, u] #[.slice none 0 0, .slice none 0 0] #[.slice none 0 0, .slice none 0 0] 42 45 45
  have c0 := show _ = some v from hH.c0 0
  go_enter Try.func24, Try.ntmps24
  go_wp2_with (first | (refine wpL_alloc rfl rfl zeroId ?_; intro g hg; (try simp at hg); subst hg) | (go_at_call 19; (with_reducible refine (toByteS_any v n f _ (H1.out.below hH.below) hn).mono ?_); intro e w2 hg; obtain ⟨b1, rfl, hb, R1, hlo⟩ := hg; have hz := hH.size; simp only [List.length_cons, List.length_nil] at hz; have hlt := R1.lt; replace R1 := hid R1; replace hH := hH.call' hb; have c2 := show _ = some (Value.slice none 0 0) from hH.c2 0; have f2 := hH.f2 0; have c1 := show _ = some u from hH.c0 1; clear hb c0) | (go_at_call 19; replace R1 := hid (R1.out.setCell ⟨w.heap.size + 1 + 1, 0, none⟩ (.slice (some ⟨b1, 0, none⟩) n n) (by simp; omega)); replace hH := hH.s2 0 (.slice (some ⟨b1, 0, none⟩) n n) rfl; have hz2 : b1 < (w2.setCell ⟨w.heap.size + 1 + 1, 0, none⟩ (.slice (some ⟨b1, 0, none⟩) n n)).heap.size := R1.out.lt; clear c2 f2; (with_reducible refine (toByteS_any u m g _ (H2.out.below hH.below) hm).mono ?_); intro e w3 hg; obtain ⟨b2, rfl, hb, R2, hlo2⟩ := hg; have hlt2 := R2.lt; replace R2 := hid R2; replace R1 := hid (R1.out.below hb); replace hH := hH.call' hb; have c2 := show _ = some (Value.slice none 0 0) from hH.c2 1; have f2 := hH.f2 1; clear hb c1) | (refine wpL_loadFull rfl rfl rfl rowId (hH.s2 1 (.slice (some ⟨b2, 0, none⟩) m m) (cs' := #[slV b1 n, slV b2 m]) rfl).h2 rfl ?_; replace hH := hH.s2 1 (.slice (some ⟨b2, 0, none⟩) m m) (cs' := #[slV b1 n, slV b2 m]) rfl; replace R1 := hid (R1.out.setCell ⟨w.heap.size + 1 + 1, 1, none⟩ (.slice (some ⟨b2, 0, none⟩) m m) (by simp; omega)); replace R2 := hid (R2.out.setCell ⟨w.heap.size + 1 + 1, 1, none⟩ (.slice (some ⟨b2, 0, none⟩) m m) (by simp; omega))) | (refine wpL_storeFull rfl rfl rfl rfl rowId hH.h1 rfl (two_ok _ _ rfl rfl) ?_))
  have hR : IdR _ b1 b2 n m f g := ⟨R1.out.setRow (w.heap.size + 1) #[slV b1 n, slV b2 m] (by omega), R2.out.setRow (w.heap.size + 1) #[slV b1 n, slV b2 m] (by omega)⟩
  exact ret_c rfl rfl (hH.r1 (cs' := #[slV b1 n, slV b2 m])).h1 rowId rfl ⟨b1, b2, rfl, hH.r1.below, hid hR, by omega, by omega⟩
end Go.Proofs.Ytphninlinegbbac
