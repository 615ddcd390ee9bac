/- Proved: what '==' and '!=' say of arrays of bytes, of tables and of squares. Conditions: those that each theorem names. -/
import Derived.Test.YtbhjbllgmenbaaaLib
namespace Go.Proofs.Ytbhjbllgmenbaaa
set_option linter.unusedVariables false
set_option linter.unusedSimpArgs false
open Go.RowKit
section
variable {P : Program}
theorem run_eq_arr (w : World) (d T E len n : Nat) (xs ys : Array Value) (g : Nat → Bool) (hT : P.underlying T = some (.array len E)) (hn : (sizeOf E).run P w = .ok n w)
    (h : ∀ i, i < len → ∃ a b, (part E xs (i * n)).run P w = .ok a w ∧ (part E ys (i * n)).run P w = .ok b w ∧ (Op.equalIn d E a b).run P w = .ok (g i) w) :
    (Op.equalIn (d + 1) T (.agg xs) (.agg ys)).run P w = .ok ((List.range len).all g) w := by
  simp only [Op.equalIn, Sem.run_bind, run_underlying hT, Result.andThen_ok, hn, Std.Legacy.Range.forIn_eq_forIn_range', Std.Legacy.Range.size]
  have key : ∀ (m k : Nat), k + m = len →
      ((forIn (List.range' k m 1) ((none, ()) : Option Bool × Unit) (fun i _ => do
          let a ← part E xs (i * n)
          let b ← part E ys (i * n)
          let r ← Op.equalIn d E a b
          if (!r) = true then pure (ForInStep.done ((some false, ()) : Option Bool × Unit)) else pure (ForInStep.yield (none, ()))) : Sem (Option Bool × Unit)).run P w =
        .ok (if (List.range' k m 1).all g then (none, ()) else (some false, ())) w) := by
    intro m
    induction m with
    | zero => intro k _; simp
    | succ m ih =>
      intro k hk
      obtain ⟨a, b, ha, hb, he⟩ := h k (by omega)
      simp only [List.range'_succ, List.forIn_cons, Sem.run_bind, ha, hb, he, Result.andThen_ok, List.all_cons]
      cases hg : g k with
      | false => simp
      | true =>
        simp only [Bool.not_true, Bool.false_eq_true, if_false, Sem.run_pure, Result.andThen_ok, Bool.true_and]
        exact ih (k + 1) (by omega)
  have e : (len - 0 + 1 - 1) / 1 = len := by simp
  rw [e, key len 0 (by omega), List.range_eq_range']
  cases hg : (List.range' 0 len).all g <;> simp
/-- Are the first n bytes equal? -/
def eqU (n : Nat) (a b : Nat → UInt8) : Bool := (List.range n).all fun i => ((a i).toNat : Int) == (b i).toNat
theorem eqU_iff {n : Nat} {a b : Nat → UInt8} : eqU n a b = true ↔ ∀ i, i < n → a i = b i := by
  simp only [eqU, List.all_eq_true, List.mem_range, beq_iff_eq]
  exact forall_congr' fun i => forall_congr' fun _ => u8_eq
theorem run_part_scalar (w : World) (E i : Nat) (cs : Array Value) (v : Value) (hE : P.underlying E = some (.int .u8)) (hv : cs[i]? = some v) : (part E cs i).run P w = .ok v w := by
  unfold part isAgg
  simp [Sem.run_bind, run_underlying hE, hv]
theorem run_eq_bytes (w : World) (d T E n : Nat) (xs ys : Array Value) (a b : Nat → UInt8) (hT : P.underlying T = some (.array n E)) (hE : P.underlying E = some (.int .u8)) (hs : (P.info? E).map (·.size) = some 1)
    (hx : xs = u8s n a) (hy : ys = u8s n b) : (Op.equalIn (d + 2) T (.agg xs) (.agg ys)).run P w = .ok (eqU n a b) w := by
  subst hx; subst hy
  have hsz : (sizeOf E).run P w = .ok 1 w := by
    cases hq : P.info? E with
    | none => simp [hq] at hs
    | some i => have : i.size = 1 := by simpa [hq] using hs
                simp [sizeOf, typeInfo, hq, this]
  refine run_eq_arr w (d + 1) T E n 1 _ _ _ hT hsz fun i hi => ?_
  refine ⟨.int .u8 (a i).toNat, .int .u8 (b i).toNat, ?_, ?_, ?_⟩
  · rw [Nat.mul_one]; exact run_part_scalar w E i _ _ hE (u8s_get n a i hi)
  · rw [Nat.mul_one]; exact run_part_scalar w E i _ _ hE (u8s_get n b i hi)
  · exact run_equalIn_int w d E .u8 .u8 _ _ hE
theorem run_part_agg (w : World) (R i n : Nat) (cs new : Array Value) (hR : IsRow P R n) (hnew : cs.extract i (i + n) = new) : (part R cs i).run P w = .ok (.agg new) w := by
  obtain ⟨hd, hs⟩ := hR
  cases hq : P.info? R with
  | none => simp [hq] at hs
  | some x =>
    have hx : x.size = n := by simpa [hq] using hs
    have hagg : (isAgg R).run P w = .ok true w := by
      unfold isAgg
      rcases hd with ⟨fs, hu⟩ | ⟨k, e, hu⟩
      · rw [Sem.run_bind, run_underlying hu w]; rfl
      · rw [Sem.run_bind, run_underlying hu w]; rfl
    simp [part, Sem.run_bind, hagg, sizeOf, typeInfo, hq, hx, hnew]
theorem run_eq_table (w : World) (d T R E : Nat) (a b : Nat → UInt8) (hT : P.underlying T = some (.array 10 R)) (hR : P.underlying R = some (.array 10 E)) (hRR : IsRow P R 10) (hE : P.underlying E = some (.int .u8)) (hs : (P.info? E).map (·.size) = some 1) :
    (Op.equalIn (d + 3) T (.agg (u8s 100 a)) (.agg (u8s 100 b))).run P w = .ok ((List.range 10).all fun i => eqU 10 (fun j => a (i * 10 + j)) (fun j => b (i * 10 + j))) w := by
  have hsz : (sizeOf R).run P w = .ok 10 w := by
    obtain ⟨_, hs⟩ := hRR
    cases hq : P.info? R with
    | none => simp [hq] at hs
    | some i => have : i.size = 10 := by simpa [hq] using hs
                simp [sizeOf, typeInfo, hq, this]
  refine run_eq_arr w (d + 2) T R 10 10 _ _ _ hT hsz fun i hi => ?_
  refine ⟨.agg (u8s 10 fun j => a (i * 10 + j)), .agg (u8s 10 fun j => b (i * 10 + j)), ?_, ?_, ?_⟩
  · exact run_part_agg w R (i * 10) 10 _ _ hRR (u8s_sub 100 10 (i * 10) a (by omega))
  · exact run_part_agg w R (i * 10) 10 _ _ hRR (u8s_sub 100 10 (i * 10) b (by omega))
  · exact run_eq_bytes w d R E 10 _ _ _ _ hR hE hs rfl rfl
/-- Are two squares equal? -/
def eqS (z y : Int) (a b : Nat → UInt8) : Bool := (z == y) && (List.range 10).all fun i => eqU 10 (fun j => a (i * 10 + j)) (fun j => b (i * 10 + j))
theorem eqS_iff {z y : Int} {a b : Nat → UInt8} : eqS z y a b = true ↔ z = y ∧ ∀ i, i < 100 → a i = b i := by
  simp only [eqS, Bool.and_eq_true, beq_iff_eq, List.all_eq_true, List.mem_range, eqU_iff]
  refine and_congr_right fun _ => ⟨fun h i hi => ?_, fun h i hi j hj => h _ (by omega)⟩
  have := h (i / 10) (by omega) (i % 10) (by omega)
  rwa [show i / 10 * 10 + i % 10 = i by omega] at this
theorem run_eq_square (w : World) (d S TI T R E : Nat) (f0 f1 : Field) (z y : Int) (a b : Nat → UInt8) (hS : P.underlying S = some (.struct #[f0, f1])) (hp : P.stoodInHeld S = false) (h0 : f0.type = TI ∧ f0.offset = 0 ∧ f0.name ≠ "_") (h1 : f1.type = T ∧ f1.offset = 1 ∧ f1.name ≠ "_")
    (hI : P.underlying TI = some (.int .i64)) (hT : P.underlying T = some (.array 10 R)) (hTT : IsRow P T 100) (hR : P.underlying R = some (.array 10 E)) (hRR : IsRow P R 10) (hE : P.underlying E = some (.int .u8)) (hs : (P.info? E).map (·.size) = some 1) :
    (Op.equalIn (d + 4) S (.agg (sqc z a)) (.agg (sqc y b))).run P w = .ok (eqS z y a b) w := by
  have hF : P.fieldsOf S = #[f0, f1] := by simp [Program.fieldsOf, hS]
  rw [run_equalIn_struct w (d + 3) S _ _ (by rw [hF]; exact hS) hp, hF]
  have p0 : ∀ (z : Int) (a : Nat → UInt8), (part TI (sqc z a) 0).run P w = .ok (.int .i64 z) w := fun z a => by
    unfold part isAgg
    simp [Sem.run_bind, run_underlying hI, sqc_get0]
  have p1 : ∀ (z : Int) (a : Nat → UInt8), (part T (sqc z a) 1).run P w = .ok (.agg (u8s 100 a)) w := fun z a =>
    run_part_agg w T 1 100 _ _ hTT ((sqc_sub z a 0 100 (by omega)).trans (u8s_congr 100 _ _ (fun i _ => by rw [Nat.zero_add])))
  obtain ⟨e1, e2, e3⟩ := h0
  obtain ⟨g1, g2, g3⟩ := h1
  simp only [Op.eqFields, e1, e2, e3, g1, g2, g3, ne_eq, not_false_eq_true, if_true, Sem.run_bind, p0, p1, Result.andThen_ok, run_equalIn_int w (d + 2) TI .i64 .i64 z y hI]
  cases hz : (z == y) with
  | false => simp [eqS, hz]
  | true =>
    simp only [Bool.not_true, Bool.false_eq_true, if_false, Sem.run_bind, p1, Result.andThen_ok, run_eq_table w d T R E a b hT hR hRR hE hs]
    cases ht : ((List.range 10).all fun i => eqU 10 (fun j => a (i * 10 + j)) (fun j => b (i * 10 + j))) <;> simp [eqS, hz, ht]
variable {ops : Array Oper} {rest : List Oper} {o : Oper} {a : Act} {w : World} {Q : Exit → Act → World → Prop}
theorem wpL_neqAgg {T T' : Nat} {x y : Operand} {xs ys : Array Value} {b : Bool} (hgd : o.guard = none) (ho : o.op = .binOp .neq T x y T') (hx : a.eval x = .agg xs) (hy : a.eval y = .agg ys) (hG : P.eqGuardType P.depth T = false)
    (he : (Op.equalIn Op.maxDepth T (.agg xs) (.agg ys)).run P w = .ok b w) (h : wpList P ops Q rest (a.put o.dst (.bool (!b))) w) : wpList P ops Q (o :: rest) a w :=
  wpList_plain hgd fun K hK => by
    have hrun : (do eqGuard .neq T x y (.agg xs) (.agg ys); binOp .neq T (.agg xs) (.agg ys) : Sem Value).run P w = .ok (.bool (!b)) w := by
      simp [eqGuard, binOp, Op.equal, Sem.run_bind, hG, he]
    unfold Oper.wp execOp
    simp only [ho, hx, hy]
    rw [Sem.run_bind, hrun]
    exact hK _ _ h
end
end Go.Proofs.Ytbhjbllgmenbaaa
