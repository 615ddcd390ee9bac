/- Proved: what the program's helpers that take columns and corners of squares return. Conditions: those that each theorem names. -/
import Derived.Test.YtbhjbllgmenbaaaSq3
namespace Go.Proofs.Ytbhjbllgmenbaaa
set_option linter.unusedVariables false
set_option linter.unusedSimpArgs false
open Go.RowKit
section
variable {P : Program} {ops : Array Oper} {rest : List Oper} {o : Oper} {a : Act} {w : World} {Q : Exit → Act → World → Prop}
theorem over_one (n k : Nat) (f f' : Nat → UInt8) (v : UInt8) (hn : k < n) (hf : ∀ j, j < n → f' j = if j = k then v else f j) : over (u8s n f) k #[.int .u8 v.toNat] = u8s n f' := by
  apply u8s_ext
  · rw [over_size _ _ _ (by simp; omega)]; simp
  · intro i hi
    rw [over_get _ _ _ (by simp; omega), hf i hi]
    by_cases e : i = k
    · subst e; rw [if_pos (by simp), if_pos rfl]; simp
    · rw [if_neg (by simp; omega), if_neg e, u8s_get n f i hi]
theorem wpL_appendU8 {T E cap c k g n : Nat} {s x : Operand} {ad : Addr} {f f' : Nat → UInt8} {v : UInt8} (hgd : o.guard = none) (ho : o.op = .call { callee := .builtin .append, args := #[s, x], argTypes := #[T, T] })
    (hT : P.underlying T = some (.slice E)) (hs1 : (P.info? E).map (·.size) = some 1) (hs : a.eval s = .slice (some ⟨g, 0, none⟩) k cap) (hx : a.eval x = .slice (some ad) 1 c)
    (hg : holds w g (u8s n f) E) (hc : w.cell? ad = some (.int .u8 v.toNat)) (hk : k < cap) (hn : k < n) (hf : ∀ j, j < n → f' j = if j = k then v else f j)
    (h : wpList P ops Q rest (a.put o.dst (.slice (some ⟨g, 0, none⟩) (k + 1) cap)) (w.setRow g (u8s n f'))) : wpList P ops Q (o :: rest) a w := by
  refine wpList_plain hgd fun K hK => ?_
  cases hq : P.info? E with
  | none => simp [hq] at hs1
  | some i =>
    have hi1 : i.size = 1 := by simpa [hq] using hs1
    have hrun := run_append_room (P := P) w T o.type E i hT hq g k cap (u8s n f) hg ad 1 c [Value.int .u8 v.toNat] (by simp [hi1]) (fun j u hj => by
      cases j with
      | zero => simp at hj; subst hj; simpa [Addr.add] using hc
      | succ j => simp at hj) (by simp; rfl) (by omega) (by simp [hi1]; omega)
    have e : ((u8s n f).toList.take (k * i.size) ++ [Value.int .u8 v.toNat] ++ (u8s n f).toList.drop (k * i.size + [Value.int .u8 v.toNat].length)).toArray = u8s n f' := by
      rw [hi1, Nat.mul_one]
      exact over_one n k f f' v hn hf
    rw [e] at hrun
    unfold Oper.wp
    simp [execOp, ho, resolve, invoke, builtin, hs, hx, hrun, Result.andThen]
    exact hK _ _ h
theorem over_sqrow (z : Int) (f f' g : Nat → UInt8) (k N : Nat) (hk : k < 10) (hN : N ≤ 10) (he : ∀ i, i < 100 → f' i = if i / 10 = k ∧ i % 10 < N then g i else f i) :
    over (sqc z f) (1 + k * 10) (u8s N fun j => g (k * 10 + j)) = sqc z f' := by
  apply sqc_ext
  · rw [over_size _ _ _ (by simp; omega)]; simp
  · rw [over_get _ _ _ (by simp; omega), if_neg (by omega)]; exact sqc_get0 z f
  · intro i hi
    rw [over_get _ _ _ (by simp; omega), he i hi]
    simp only [u8s_size]
    by_cases h : i / 10 = k ∧ i % 10 < N
    · rw [if_pos (by omega), if_pos h, show 1 + i - (1 + k * 10) = i % 10 by omega, u8s_get N _ _ h.2, show k * 10 + i % 10 = i by omega]
    · rw [if_neg (by omega), if_neg h, sqc_get z f i hi]
theorem wpL_copySq {T E dc sc k N gd gs : Nat} {s d : Operand} {z y : Int} {f f' g : Nat → UInt8} {t u : TypeId} (hgd : o.guard = none) (ho : o.op = .call { callee := .builtin .copy, args := #[d, s], argTypes := #[T, T] })
    (hT : P.underlying T = some (.slice E)) (hs1 : (P.info? E).map (·.size) = some 1) (hd : a.eval d = .slice (some ⟨gd, 1 + k * 10, none⟩) N dc) (hs : a.eval s = .slice (some ⟨gs, 1 + k * 10, none⟩) 10 sc)
    (hg : holds w gd (sqc z f) t) (hs' : holds w gs (sqc y g) u) (hk : k < 10) (hN : N ≤ 10) (he : ∀ i, i < 100 → f' i = if i / 10 = k ∧ i % 10 < N then g i else f i)
    (h : wpList P ops Q rest (a.put o.dst (goInt N)) (w.setRow gd (sqc z f'))) : wpList P ops Q (o :: rest) a w := by
  have hl : (u8s N fun j => g (k * 10 + j)).toList.length = N := by simp
  refine wpList_copy_own hgd d s T T ho E hT hs1 gd (1 + k * 10) N dc ⟨gs, 1 + k * 10, none⟩ 10 sc hd hs (sqc z f) t hg (u8s N fun j => g (k * 10 + j)).toList (by rw [hl]; exact (Nat.min_eq_right hN).symm) (fun j v hj => ?_) (by rw [hl]; simp; omega) (fun v hv => ?_) ?_
  · have hjN : j < N := by have := (List.getElem?_eq_some_iff.1 hj).1; omega
    rw [Array.getElem?_toList, u8s_get N _ j hjN] at hj
    have hadd : (⟨gs, 1 + k * 10, none⟩ : Addr).add j = ⟨gs, 1 + (k * 10 + j), none⟩ := by unfold Addr.add; split <;> simp_all [Nat.add_assoc]
    rw [hadd, holds_cell hs', sqc_get y g _ (by omega)]
    exact hj
  · exact (Array.all_eq_true_iff_forall_mem.1 (u8s_one N _)) v (by simpa using hv)
  · rw [hl]
    have e := over_sqrow z f f' g k N hk hN he
    unfold over at e
    rw [u8s_size] at e
    rw [← e, List.append_assoc] at h
    exact h
end
def colT (g : Nat → UInt8) (y k : Nat) : Nat → UInt8 := fun i => if i < k then g (i * 10 + y) else 0
theorem colT_zero (g : Nat → UInt8) (y : Nat) : colT g y 0 = fun _ => 0 := by funext i; simp [colT]
theorem colT_step (g : Nat → UInt8) (y k j : Nat) : colT g y (k + 1) j = if j = k then g (k * 10 + y) else colT g y k j := by
  unfold colT
  by_cases e : j = k
  · subst e; simp
  · simp [e, show j < k + 1 ↔ j < k by omega]
theorem colT_done (g : Nat → UInt8) (y : Nat) : u8s 10 (colT g y 10) = u8s 10 (colF g y) := u8s_congr 10 _ _ fun i hi => by simp [colT, colF, hi]
theorem mk10 (w : World) : (Instr.makeSlice 111 (.int .i64 0) (.int .i64 10)).run Try.prog w = .ok (.slice (some ⟨w.heap.size, 0, none⟩) 0 10) (w.alloc (.cells (u8s 10 fun _ => 0) 5)) := by kernel_rfl
theorem arr10 (a : Option Addr) (w : World) : (Instr.arrayAt 71 (.slice a 10 10)).run Try.prog w = .ok (.pointer a) w := by
  simp [Instr.arrayAt, run_underlying Try.underlying71]
theorem ixRow (g : Nat → UInt8) (k : Nat) (hk : k < 10) (w : World) : (Instr.index 27 (.agg (u8s 100 g)) (.int .i64 k)).run Try.prog w = .ok (.agg (u8s 10 (rowF g k))) w := by
  have hp := run_part_agg (P := Try.prog) w 22 (k * 10) 10 _ _ rowB10 (u8s_sub 100 10 (k * 10) g (by omega))
  have hsz : (sizeOf 22).run Try.prog w = .ok 10 w := by
    obtain ⟨_, hs⟩ := rowB10
    cases hq : (Try.prog.info? 22) with
    | none => simp [hq] at hs
    | some i => have : i.size = 10 := by simpa [hq] using hs
                simp [sizeOf, typeInfo, hq, this]
  have h1 : (0 : Int) ≤ (k : Int) ∧ (k : Int) < (10 : Nat) := by omega
  simp only [Instr.index, asIntOf, Sem.run_bind, Sem.run_pure, Result.andThen_ok, run_underlying Try.underlying27, Sem.run_ite, if_pos h1, hsz, Int.toNat_natCast]
  exact hp
set_option maxRecDepth 10000 in
set_option maxHeartbeats 2000000 in
theorem columnOf_any (g : Nat → UInt8) (y : Nat) (w : World) (hy : y < 10) :
    Calls Try.prog 94 #[.agg (u8s 100 g), .int .i64 y] w fun e w' => e = .returned (.agg (u8s 10 (colF g y))) ∧ Below w.heap.size w w' := by
  have hmk := mk10
  have hy1 : (y : Int) < 10 := by omega
  have hH := Has.start3 w (u8s 100 g) (u8s 10 fun _ => 0) (u8s 10 fun _ => 0) 27 71 5
  go_enter Try.func94, Try.ntmps94
  go_wp2_with (first | (refine wpL_alloc rfl rfl zeroPl ?_; intro g hg; (try simp at hg); subst hg) | (refine wpL_loadFull rfl rfl rfl rowTa hH.h0 (u8s_size _ _) ?_))
  clear hmk hH
  go_loopw [5, 10] (fun s i wr => ∃ k : Nat, k ≤ 10 ∧ i = .int .i64 k ∧ s = .slice (some ⟨w.heap.size + 1 + 1, 0, none⟩) k 10 ∧ Has w wr [(u8s 100 g, 27), (u8s 10 (fun _ => 0), 71), (u8s 10 (colT g y k), 5)]) (fun _ i _ => 10 - (intOf i).toNat)
  case atStart => exact ⟨0, by omega, rfl, rfl, by rw [colT_zero]; exact Has.start3 _ _ _ _ _ _ _⟩
  case round =>
    obtain ⟨k, hk, rfl, rfl, hH⟩ := hrel
    by_cases hlt : k < 10
    · have hix := ixRow g k hlt
      go_wp2_with (first
        | (refine wpL_allocN (o := ⟨some 7, _, _, _, _, _⟩) rfl rfl zeroB10 ?_; intro g7 w2 hg7 hl hb; have hb7 : w.heap.size + 3 ≤ g7 := (by have := hH.size; simp only [List.length_cons, List.length_nil] at this; omega); replace hH := hH.call' hb; clear hb hl)
        | (refine wpL_storeN (x := .tmp 7) rfl rfl rfl rfl rowB10 hg7 (u8s_size _ _) (u8s_ok _ _) ?_; intro w2 hz hO hT; replace hg7 := hz; replace hH := hT _ _ hH hb7; clear hz hO hT; have c7 := holds_cell hg7)
        | (refine wpL_appendU8 (v := g (k * 10 + y)) rfl rfl Try.underlying111 sz5 rfl rfl (hH.alloc _).h2 ?_ hlt hlt (fun j _ => colT_step g y k j) ?_))
      · simp [rowF]
      · go_wp2
        go_roundw
        case rel => exact ⟨k + 1, by omega, by go_num, rfl, (hH.alloc _).r2⟩
        case measure => simp [intOf]; omega
    · obtain rfl : k = 10 := by omega
      rw [colT_done] at hH
      have har := arr10
      go_wp2_with (first | (refine wpL_loadFull rfl rfl rfl rowPl hH.h2 (u8s_size _ _) ?_) | (refine wpL_storeFull rfl rfl rfl rfl rowPl hH.h1 (u8s_size _ _) (u8s_ok _ _) ?_))
      exact ret_c rfl rfl hH.r1.h1 rowPl (u8s_size _ _) ⟨rfl, hH.r1.below⟩
end Go.Proofs.Ytbhjbllgmenbaaa
