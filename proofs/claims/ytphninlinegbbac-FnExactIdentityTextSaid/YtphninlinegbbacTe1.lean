/- Proved: what the laws' helpers on lists of bytes return. Conditions: those that each theorem names. -/
import Derived.Test.YtphninlinegbbacTe0
import Derived.Test.YtphninlinegbbacReg
import Derived.OwnWalk
namespace Go.Proofs.Ytphninlinegbbac
set_option linter.unusedVariables false
set_option linter.unusedSimpArgs false
open Go.RowKit
theorem infoB : (Try.prog.info? 5).map (fun i => (i.zero, i.size, i.bytes)) = some (some (.int .u8 0), 1, 1) := by kernel_rfl
/-- Block b holds n cells, the first k of them the bytes f 0 .. f (k - 1). -/
def BPart (w : World) (b n k : Nat) (f : Nat → UInt8) : Prop := ∃ cs, holds w b cs 5 ∧ cs.size = n ∧ ∀ i, i < k → cs[i]? = some (.int .u8 (f i).toNat)
theorem BPart.done {w : World} {b n : Nat} {f : Nat → UInt8} (h : BPart w b n n f) : BRow w b n f := by
  obtain ⟨cs, h1, h2, h3⟩ := h
  exact ⟨cs, h1, by omega, h3⟩
theorem BPart.cell {w : World} {b n k : Nat} {f : Nat → UInt8} (h : BPart w b n k f) {i : Nat} (hi : i < n) : ∃ v, w.cell? ⟨b, i, none⟩ = some v := by
  obtain ⟨cs, h1, h2, _⟩ := h
  exact ⟨cs[i]'(by omega), by rw [holds_cell h1, Array.getElem?_eq_getElem]⟩
theorem BPart.frozen {w : World} {b n k : Nat} {f : Nat → UInt8} (h : BPart w b n k f) (i : Nat) : w.frozen? ⟨b, i, none⟩ = false := by
  obtain ⟨cs, h1, _⟩ := h; exact holds_frozen h1 i
theorem BPart.step {w : World} {b n k : Nat} {f : Nat → UInt8} (h : BPart w b n k f) (hk : k < n) : BPart (w.setCell ⟨b, k, none⟩ (.int .u8 (f k).toNat)) b n (k + 1) f := by
  obtain ⟨cs, h1, h2, h3⟩ := h
  refine ⟨cs.setIfInBounds k (.int .u8 (f k).toNat), holds_set h1 k _, by simpa using h2, fun i hi => ?_⟩
  rw [Array.getElem?_setIfInBounds]
  by_cases e : k = i
  · subst e; rw [if_pos rfl, if_pos (by omega)]
  · rw [if_neg e]; exact h3 i (by omega)
theorem BPart.made {w w' : World} {n : Nat} {base : Nat} {xs : List Value} {f : Nat → UInt8} (h : w'.ownsRow base 5 1 (.slice (some ⟨w.heap.size, 0, none⟩) n n) n xs) : BPart w' w.heap.size n 0 f := by
  rcases h.2 with ⟨h1, _⟩ | ⟨g, cap, cur, e, _, hg, _, _, hs, _⟩
  · cases h1
  · obtain ⟨rfl, rfl⟩ : w.heap.size = g ∧ n = cap := by simpa using e
    exact ⟨cur, hg, by omega, fun i hi => absurd hi (Nat.not_lt_zero i)⟩
section
variable {ops : Array Oper} {rest : List Oper} {o : Oper} {a : Act} {w : World} {Q : Exit → Act → World → Prop}
theorem wpL_makeB {l c : Operand} (f : Nat → UInt8) (hgd : o.guard = none) (ho : o.op = .makeSlice 35 l c) {n : Nat} (hl : a.eval l = .int .i64 n) (hc : a.eval c = .int .i64 n) (hn : n ≤ 1048576)
    (h : ∀ w', BPart w' w.heap.size n 0 f → Below w.heap.size w w' → wpList Try.prog ops Q rest (a.put o.dst (.slice (some ⟨w.heap.size, 0, none⟩) n n)) w') : wpList Try.prog ops Q (o :: rest) a w := by
  obtain ⟨i, hi, hz, h1, h2⟩ := info_parts infoB
  refine wpList_make_full w hgd l c 35 ho w.heap.size 5 i (.int .u8 0) 1 Try.underlying35 hi hz h1 .i64 .i64 n n n hl hc rfl rfl (by rw [h2]; omega) (by unfold maxLen; omega) (Nat.le_refl _) fun w' ho hg => ?_
  exact h w' (BPart.made ho) ⟨hg.os, hg.tape, hg.output, hg.size, fun k hk => hg.block k hk (by simp)⟩
end
/-- What a conversion gives: the same bytes, in a block of their own. -/
def GotB (n : Nat) (f : Nat → UInt8) (w : World) (e : Ending) (w' : World) : Prop := ∃ b, e = .returned (.slice (some ⟨b, 0, none⟩) n n) ∧ Below w.heap.size w w' ∧ BRow w' b n f ∧ w.heap.size ≤ b
set_option maxHeartbeats 2000000 in
theorem toByteS_any (v : Value) (n : Nat) (f : Nat → UInt8) (w : World) (h : BIn w v n f) (hn : n ≤ 1048576) :
    Calls Try.prog 19 #[v] w (GotB n f w) := by
  rcases h with ⟨rfl, rfl⟩ | ⟨ad, cap, rfl, hc⟩
  · go_enter Try.func19, Try.ntmps19
    go_wp2_with (refine wpL_makeB f (n := 0) rfl (by rfl) (by rfl) (by rfl) (by omega) ?_; intro w2 hp hb)
    go_loopw [4] (fun i wr => i = .int .i64 0 ∧ Below w.heap.size w wr ∧ Hid (BPart wr w.heap.size 0 0 f)) (fun _ _ => 0)
    case atStart => exact ⟨rfl, hb, hp⟩
    case round =>
      obtain ⟨rfl, hB, hP⟩ := hrel
      go_wp2
      go_ret
      exact ⟨_, rfl, hB, hP.out.done, Nat.le_refl _⟩
  · have HC := hid (show BIn w (.slice (some ad) n cap) n f from .inr ⟨ad, cap, rfl, hc⟩)
    clear hc
    go_enter Try.func19, Try.ntmps19
    go_wp2_with (refine wpL_makeB f (n := n) rfl (by rfl) (by rfl) (by rfl) hn ?_; intro w2 hp hb)
    go_loopw [4] (fun i wr => ∃ k : Nat, k ≤ n ∧ i = .int .i64 k ∧ Below w.heap.size w wr ∧ Hid (BPart wr w.heap.size n k f)) (fun i _ => n - (intOf i).toNat)
    case atStart => exact ⟨0, by omega, rfl, hb, hp⟩
    case round =>
      clear hb hp
      obtain ⟨k, hk, rfl, hB, hP⟩ := hrel
      by_cases hlt : k < n
      · have hlt' : (k : Int) < (n : Int) := by omega
        have ca : wr.cell? (ad.add k) = some (.int .u8 (f k).toNat) := by
          rcases HC.out.below hB with ⟨h1, _⟩ | ⟨a1, c1, h1, h2⟩
          · cases h1
          · obtain ⟨rfl, rfl⟩ : ad = a1 ∧ cap = c1 := by simpa using h1
            exact h2 k hlt
        obtain ⟨vb, cb⟩ := hP.out.cell hlt
        have fb := hP.out.frozen k
        have hP2 := hid (hP.out.step hlt)
        go_wp2
        go_roundw
        case rel => exact ⟨k + 1, by omega, by go_num, hB.setCell (by simp) _, hP2⟩
        case measure => simp [intOf]; omega
      · obtain rfl : k = n := by omega
        go_wp2
        go_ret
        exact ⟨_, rfl, hB, hP.out.done, Nat.le_refl _⟩
set_option maxHeartbeats 2000000 in
theorem eqByteS_same (b1 b2 n c1 c2 : Nat) (f : Nat → UInt8) (w : World) (hn : n ≤ 1048576) (h1 : BRow w b1 n f) (h2 : BRow w b2 n f) :
    Calls Try.prog 21 #[.slice (some ⟨b1, 0, none⟩) n c1, .slice (some ⟨b2, 0, none⟩) n c2] w fun e w' => e = .returned (.bool true) ∧ Below w.heap.size w w' := by
  go_enter Try.func21, Try.ntmps21
  go_wp2
  go_loopw [5] (fun i wr => ∃ k : Nat, k ≤ n ∧ i = .int .i64 k ∧ Below w.heap.size w wr ∧ Hid (BRow wr b1 n f ∧ BRow wr b2 n f)) (fun i _ => n - (intOf i).toNat)
  case atStart => exact ⟨0, by omega, rfl, Below.refl _ _, h1, h2⟩
  case round =>
    obtain ⟨k, hk, rfl, hB, hR⟩ := hrel
    by_cases hlt : k < n
    · have c1 := hR.out.1.cell hlt
      have c2 := hR.out.2.cell hlt
      have hlt' : (k : Int) < (n : Int) := by omega
      go_wp2
      go_quiet (fail)
      go_wp2
      go_roundw
      case rel => exact ⟨k + 1, by omega, by go_num, ⟨hB.os, hB.tape, hB.output, hB.size, hB.block⟩, hid ⟨hR.out.1.block rfl, hR.out.2.block rfl⟩⟩
      case measure => simp [intOf]; omega
    · go_wp2
      go_ret
      exact ⟨rfl, hB⟩
end Go.Proofs.Ytphninlinegbbac
