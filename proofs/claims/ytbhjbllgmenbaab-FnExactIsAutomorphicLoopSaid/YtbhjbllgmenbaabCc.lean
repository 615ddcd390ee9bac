/- Proved: what the library's Concat of the row and column maps of a square gives. Conditions: those that each theorem names. -/
import Derived.Test.YtbhjbllgmenbaabPt
import Derived.Lib.AppendZeros
namespace Go.Proofs.Ytbhjbllgmenbaab
set_option linter.unusedVariables false
set_option linter.unusedSimpArgs false
open Go.RowKit
theorem PRow.grown {w w' : World} {g n : Nat} {r : Option Nat} {F : Nat → UInt8} (h : PRow w g n F) (hg : w.grownBy w' r) (hne : r ≠ some g) : PRow w' g n F := h.block (hg.block g h.lt (fun e => hne e.symm))
theorem PRow.alloc {w : World} {g n : Nat} {F : Nat → UInt8} (h : PRow w g n F) (o : Obj) : PRow (w.alloc o) g n F := h.block (heap_alloc_old w o h.lt)
section
variable {ops : Array Oper} {rest : List Oper} {o : Oper} {a : Act} {w : World} {Q : Exit → Act → World → Prop}
theorem wpL_appPs {s x : Operand} (hgd : o.guard = none) (ho : o.op = .call { callee := .builtin .append, args := #[s, x], argTypes := #[48, 48] }) {v : Value} {n m base c g : Nat} {F f : Nat → UInt8} (F' : Nat → UInt8)
    (hs : a.eval s = v) (hx : a.eval x = .slice (some ⟨g, 0, none⟩) m c) (hown : OP w base v n F) (hg : PRow w g m f) (hm : 0 < m) (hn : n ≤ 1000) (hm2 : m ≤ 1000) (hbase : base ≤ w.heap.size) (hF : ∀ i, i < n * 10 → F' i = F i) (hf : ∀ j, j < m * 10 → F' (n * 10 + j) = f j)
    (h : ∀ g cap w', OP w' base (.slice (some ⟨g, 0, none⟩) (n + m) cap) (n + m) F' → w.grownBy w' v.ownBlock → (v.ownBlock = some g ∨ g = w.heap.size) → g < w'.heap.size → wpList Try.prog ops Q rest (a.put o.dst (.slice (some ⟨g, 0, none⟩) (n + m) cap)) w') : wpList Try.prog ops Q (o :: rest) a w := by
  obtain ⟨i, hi, hz, h1, h2⟩ := info_parts infoP
  refine wpList_append_lies w hgd s x 48 ho base 97 i (.agg (u8s 10 fun _ => 0)) 10 10 Try.underlying48 hi hz h1 h2 (by simp [Value.cells]) (by omega) v n _ hs hown ⟨g, 0, none⟩ m c (u8s (m * 10) f).toList hx (by simp) (fun j u hj => ?_) (fun u hu => ?_) hm (by unfold maxLen; omega) (by omega) hbase _ rfl (fun g cap w' ho2 hg2 hor hlt => h g cap w' ?_ hg2 hor hlt)
  · have hadd : (⟨g, 0, none⟩ : Addr).add j = ⟨g, j, none⟩ := by unfold Addr.add; split <;> simp_all
    have hjl : j < m * 10 := by
      have := (List.getElem?_eq_some_iff.1 hj).1
      simpa using this
    rw [hadd, hg.cell hjl]
    rw [Array.getElem?_toList, u8s_get _ _ _ hjl] at hj
    exact hj
  · exact (Array.all_eq_true_iff_forall_mem.1 (u8s_one (m * 10) f)) u (by simpa using hu)
  · unfold OP
    rw [show (n + m) * 10 = n * 10 + m * 10 by omega, ← u8s_app (n * 10) (m * 10) F F' f hF hf]
    exact ho2
end
theorem zeroCells_size (z : Array Value) (n : Nat) : (Builtin.zeroCells z n).size = n * z.size := size_zeroCells z n
set_option maxRecDepth 20000 in
set_option maxHeartbeats 2000000 in
theorem growPlaces_any (n : Nat) (F : Nat → UInt8) (w : World) (h1 : 1 ≤ n) (h2 : n ≤ 100) :
    Calls Try.prog 165 #[.slice none 0 0, .int .i64 n] w (GotP 0 F w) := by
  obtain ⟨i, hi, hz, hs1, hs2⟩ := info_parts infoP
  have hn0 : ¬ (n : Int) < 0 := by omega
  have hn1 : 0 < (n : Int) := by omega
  have hn2 : (n : Int) ≤ 100 := by omega
  obtain ⟨C, hC⟩ : ∃ C, C = grownCap w n 0 97 := ⟨_, rfl⟩
  obtain ⟨Z, hZ⟩ : ∃ Z, Z = Builtin.zeroCells (Value.agg (u8s 10 fun _ => 0)).cells n ++ Builtin.zeroCells (Value.agg (u8s 10 fun _ => 0)).cells (C - n) := ⟨_, rfl⟩
  have hCn : n ≤ C := by rw [hC]; exact grownCap_ge w n 0 _
  have hCm : C ≤ maxLen := by rw [hC]; exact grownCap_le_maxLen w n 0 _ (by unfold maxLen; omega)
  have hZs : Z.size = C * 10 := by
    rw [hZ, Array.size_append, zeroCells_size, zeroCells_size]
    have : (Value.agg (u8s 10 fun _ => 0)).cells.size = 10 := by simp [Value.cells]
    rw [this]; omega
  have HR : Hid (∀ ty, (Builtin.append_ #[48, 3] ty #[.slice none 0 0, .int .i64 n]).run Try.prog w = .ok (.slice (some ⟨w.heap.size, 0, none⟩) n C) (w.drew.alloc (.cells Z 97))) := hid (fun ty => by
    rw [hZ, hC]
    exact Lib.run_append_nil_zeros w 48 3 ty 97 i (.agg (u8s 10 fun _ => 0)) .i64 .i64 Try.underlying48 Try.underlying3 hi hz n (by omega) (by rw [hs1]; omega) (by omega) (by rw [hs2]; omega))
  have hsl : (Instr.slice 48 (.slice (some ⟨w.heap.size, 0, none⟩) n C) none (some (.int .i64 0)) none).run Try.prog (w.drew.alloc (.cells Z 97)) = .ok (.slice (some ⟨w.heap.size, 0, none⟩) 0 C) (w.drew.alloc (.cells Z 97)) := by
    have hq : (sizeOf 97).run Try.prog (w.drew.alloc (.cells Z 97)) = .ok i.size (w.drew.alloc (.cells Z 97)) := by simp [sizeOf, typeInfo, hi]
    by_cases hC0 : C = 0
    · simp [Instr.slice, Instr.sliceBounds, Instr.sliceBound, asIntOf, Sem.run_bind, run_underlying Try.underlying48, hq, hC0, Addr.add]
    · simp [Instr.slice, Instr.sliceBounds, Instr.sliceBound, asIntOf, Sem.run_bind, run_underlying Try.underlying48, hq, hC0, Addr.add]
  have HO : Hid (OP (w.drew.alloc (.cells Z 97)) w.heap.size (.slice (some ⟨w.heap.size, 0, none⟩) 0 C) 0 F) := hid ⟨rfl, .inr ⟨w.heap.size, C, Z, rfl, Nat.le_refl _, heap_alloc_new w.drew _, Nat.zero_le _, hCm, hZs, rfl⟩⟩
  clear hC hZ hi hz hs1 hs2 hZs
  go_enter Try.func165, Try.ntmps165
  go_wp2_with (at_builtin; refine Lib.wpList_append_run _ rfl _ _ _ _ rfl _ _ rfl rfl _ _ (HR.out _) ?_)
  go_ret
  exact ⟨_, rfl, ((Below.refl _ _).drew).alloc (Nat.le_refl _) _, HO.out⟩
/-- The bytes of n permutations, then those of others. -/
def catF (F1 F2 : Nat → UInt8) (n : Nat) : Nat → UInt8 := fun i => if i < n * 10 then F1 i else F2 (i - n * 10)
theorem catF_lo {F1 F2 : Nat → UInt8} {n i : Nat} (h : i < n * 10) : catF F1 F2 n i = F1 i := by unfold catF; rw [if_pos h]
theorem catF_hi {F1 F2 : Nat → UInt8} {n j : Nat} : catF F1 F2 n (n * 10 + j) = F2 j := by unfold catF; rw [if_neg (by omega), Nat.add_sub_cancel_left]
/-- The two slices that Concat gets. -/
def Two2 (w : World) (b : Nat) (v1 v2 : Value) : Prop := w.cell? ⟨b, 0, none⟩ = some v1 ∧ w.cell? ⟨b, 1, none⟩ = some v2 ∧ b < w.heap.size
theorem Two2.below {w w' : World} {b : Nat} {v1 v2 : Value} (h : Two2 w b v1 v2) (hb : Below w.heap.size w w') : Two2 w' b v1 v2 :=
  ⟨(World.cell?_of_block (a := ⟨b, 0, none⟩) (hb.block b h.2.2)).trans h.1, (World.cell?_of_block (a := ⟨b, 1, none⟩) (hb.block b h.2.2)).trans h.2.1, by have := hb.size; have := h.2.2; omega⟩
theorem Two2.grown {w w' : World} {b : Nat} {v1 v2 : Value} {r : Option Nat} (h : Two2 w b v1 v2) (hg : w.grownBy w' r) (hne : r ≠ some b) : Two2 w' b v1 v2 :=
  ⟨(World.cell?_of_block (a := ⟨b, 0, none⟩) (hg.block b h.2.2 (fun e => hne e.symm))).trans h.1, (World.cell?_of_block (a := ⟨b, 1, none⟩) (hg.block b h.2.2 (fun e => hne e.symm))).trans h.2.1, by have := hg.size; have := h.2.2; omega⟩
set_option maxRecDepth 20000 in
set_option maxHeartbeats 4000000 in
theorem concatPlaces_any (b g1 g2 c1 c2 n : Nat) (F1 F2 : Nat → UInt8) (w : World) (h1 : 1 ≤ n) (h2 : n ≤ 10) (hT : Two2 w b (.slice (some ⟨g1, 0, none⟩) n c1) (.slice (some ⟨g2, 0, none⟩) n c2)) (hp1 : PRow w g1 n F1) (hp2 : PRow w g2 n F2) :
    Calls Try.prog 137 #[.slice (some ⟨b, 0, none⟩) 2 2] w (GotP (n + n) (catF F1 F2 n) w) := by
  have hT0 := hid hT
  have hn1 : 1 ≤ (n : Int) := by omega
  have hn2 : (n : Int) ≤ 10 := by omega
  have k1 := hT.1
  have k2 := hT.2.1
  have hb := hT.2.2
  have hg1 := hp1.lt
  have hg2 := hp2.lt
  clear hT
  go_enter Try.func137, Try.ntmps137
  go_wp2
  go_loop [3, 11] (fun s i => (s = .int .i64 0 ∧ i = .int .i64 0) ∨ (s = .int .i64 n ∧ i = .int .i64 1) ∨ (s = .int .i64 ((n + n : Nat) : Int) ∧ i = .int .i64 2)) (fun _ i => 3 - (intOf i).toNat)
  case atStart => exact .inl ⟨rfl, rfl⟩
  case round =>
    rcases hrel with ⟨rfl, rfl⟩ | ⟨rfl, rfl⟩ | ⟨rfl, rfl⟩
    · go_wp2
      go_round
      case rel => exact .inr (.inl ⟨by go_num, rfl⟩)
      case measure => simp [intOf]
    · go_wp2
      go_round
      case rel => exact .inr (.inr ⟨by go_num, rfl⟩)
      case measure => simp [intOf]
    · clear k1 k2
      go_wp2_with (first | fail | (go_at_call 165; refine (growPlaces_any (n + n) (catF F1 F2 n) _ (by omega) (by omega)).mono ?_; rintro e w2 ⟨v0, rfl, hB, hO⟩; replace hT0 := hid (hT0.out.below hB); replace hp1 := hp1.below hB; replace hp2 := hp2.below hB))
      obtain ⟨S, hS⟩ : ∃ S, w.heap.size = S := ⟨_, rfl⟩
      rw [hS] at hO hB hg1 hg2 hb
      have hSB : S ≤ w2.heap.size := by have := hB.size; omega
      have HB := hid hB
      have HO := hid hO
      have HP1 := hid hp1
      have HP2 := hid hp2
      have HS := hid hS
      clear hB hO hp1 hp2 hS
      go_loopw [6, 27] (fun v i wr => S ≤ wr.heap.size ∧ Hid (Below S w wr) ∧ Hid (Two2 wr b (.slice (some ⟨g1, 0, none⟩) n c1) (.slice (some ⟨g2, 0, none⟩) n c2)) ∧ Hid (PRow wr g1 n F1) ∧ Hid (PRow wr g2 n F2) ∧ ∃ k m : Nat, i = .int .i64 k ∧ ((k = 0 ∧ m = 0) ∨ (k = 1 ∧ m = n) ∨ (k = 2 ∧ m = n + n)) ∧ Hid (OP wr S v m (catF F1 F2 n))) (fun _ i _ => 3 - (intOf i).toNat)
      case atStart => exact ⟨hSB, HB, hT0, HP1, HP2, 0, 0, rfl, .inl ⟨rfl, rfl⟩, HO⟩
      case round =>
        clear hSB HB hT0 HP1 HP2 HO
        obtain ⟨hSB, HB, HT, HP1, HP2, k, m, rfl, hkm, HO⟩ := hrel
        have k1 := HT.out.1
        have k2 := HT.out.2.1
        rcases hkm with ⟨rfl, rfl⟩ | ⟨rfl, rfl⟩ | ⟨rfl, rfl⟩
        · go_wp2_with (first | fail | (refine wpL_appPs (v := u6) (n := 0) (m := n) (base := S) (F := catF F1 F2 n) (f := F1) rfl (by rfl) (catF F1 F2 n) (by rfl) (by rfl) HO.out HP1.out (by omega) (by omega) (by omega) hSB (fun i _ => rfl) (fun j hj => by rw [Nat.zero_mul, Nat.zero_add]; exact catF_lo hj) ?_; intro r cap w3 how hg hor hlt))
          have hne : ∀ x, u6.ownBlock = some x → S ≤ x := fun x hx => (World.ownsRow.lt HO.out x hx).1
          have HB2 := hid (_root_.Go.Proofs.Ytbhjbllgmenbaab.Below.grown HB.out hg hne (by rw [HS.out]; exact Nat.le_refl _))
          have HT2 := hid (HT.out.grown hg (fun e => by have := hne _ e; omega))
          have HP12 := hid (HP1.out.grown hg (fun e => by have := hne _ e; omega))
          have HP22 := hid (HP2.out.grown hg (fun e => by have := hne _ e; omega))
          have hs3 := hg.size
          rw [Nat.zero_add] at how
          have HO2 := hid how
          clear hg hne how HO
          go_wp2
          go_roundw
          case rel => exact ⟨by omega, HB2, HT2, HP12, HP22, 1, n, rfl, .inr (.inl ⟨rfl, rfl⟩), by first | exact HO2 | simpa using HO2⟩
          case measure => simp [intOf]
        · go_wp2_with (first | fail | (refine wpL_appPs (v := u6) (n := m) (m := m) (base := S) (F := catF F1 F2 m) (f := F2) rfl (by rfl) (catF F1 F2 m) (by rfl) (by rfl) HO.out HP2.out (by omega) (by omega) (by omega) hSB (fun i _ => rfl) (fun j hj => catF_hi) ?_; intro r cap w3 how hg hor hlt))
          have hne : ∀ x, u6.ownBlock = some x → S ≤ x := fun x hx => (World.ownsRow.lt HO.out x hx).1
          have HB2 := hid (_root_.Go.Proofs.Ytbhjbllgmenbaab.Below.grown HB.out hg hne (by rw [HS.out]; exact Nat.le_refl _))
          have HT2 := hid (HT.out.grown hg (fun e => by have := hne _ e; omega))
          have HP12 := hid (HP1.out.grown hg (fun e => by have := hne _ e; omega))
          have HP22 := hid (HP2.out.grown hg (fun e => by have := hne _ e; omega))
          have hs3 := hg.size
          have HO2 := hid how
          clear hg hne how HO
          go_wp2
          go_roundw
          case rel => exact ⟨by omega, HB2, HT2, HP12, HP22, 2, m + m, rfl, .inr (.inr ⟨rfl, rfl⟩), HO2⟩
          case measure => simp [intOf]
        · go_wp2
          go_ret
          exact ⟨_, rfl, by rw [HS.out]; exact HB.out, by rw [HS.out]; exact HO.out⟩
end Go.Proofs.Ytbhjbllgmenbaab
