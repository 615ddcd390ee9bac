/- Proved: what the program's elementCode returns for one byte and for two, and what its ProductIn, RowMap and ColumnMap return. Conditions: those that each theorem names. -/
import Derived.Test.YtbhjbllgmenbaabPi2
import Derived.Test.YtbhjbllgmenbaabPm
namespace Go.Proofs.Ytbhjbllgmenbaab
set_option linter.unusedVariables false
set_option linter.unusedSimpArgs false
open Go.RowKit
def oneF (x : UInt8) : Nat → UInt8 := fun _ => x
section
variable {ops : Array Oper} {rest : List Oper} {o : Oper} {a : Act} {w : World} {Q : Exit → Act → World → Prop}
theorem wpL_slice1 {p : Operand} {x : UInt8} (hgd : o.guard = none) (ho : o.op = .buildSlice 59 1 #[(0, p)]) (hx : a.eval p = .int .u8 x.toNat)
    (h : wpList Try.prog ops Q rest (a.put o.dst (.slice (some ⟨w.heap.size, 0, none⟩) 1 1)) (w.alloc (.cells (u8s 1 (oneF x)) 5))) : wpList Try.prog ops Q (o :: rest) a w := by
  have hsz := sz5
  have hz := zero5
  cases hie : (Try.prog.info? 5) with
  | none => simp [hie] at hsz
  | some ie =>
    simp only [hie, Option.map_some, Option.some.injEq, Option.bind_some] at hsz hz
    obtain ⟨z, hzz⟩ := Option.isSome_iff_exists.1 hz
    refine wpList_buildSlice hgd 59 5 1 _ ho _ ie z Try.underlying59 hie hzz (by rw [hsz]; omega) (by rw [hsz]; omega) ?_ h
    rw [hsz]
    have hp : ((#[(0, p)] : Array (Nat × Operand)).map fun (i, x) => (i, a.eval x)).toList = (([Value.int .u8 x.toNat] : List Value).zipIdx 0).map fun x => (x.2, x.1) := by simp [hx]
    rw [hp]
    refine (Great.fill_flat _ _ (fun v hv => ?_) (by simp)).trans ?_
    · simp only [List.mem_cons, List.not_mem_nil, or_false] at hv
      subst hv; rfl
    · congr 1
end
theorem pairF_lt {x y : UInt8} {N : Nat} (hx : x.toNat < N) (hy : y.toNat < N) : ∀ i, i < 2 → (pairF x y i).toNat < N := by
  intro i hi
  unfold pairF
  by_cases e : i = 0
  · rw [if_pos e]; exact hx
  · rw [if_neg e]; exact hy
/-- The first of the n bytes that is no element. -/
structure FarAt (f : Nat → UInt8) (N n k0 : Nat) : Prop where
  lt : k0 < n
  lo : ∀ i, i < k0 → (f i).toNat < N
  far : N ≤ (f k0).toNat
theorem pairF_far {x y : UInt8} {N : Nat} (h : N ≤ x.toNat ∨ N ≤ y.toNat) : ∃ k0, FarAt (pairF x y) N 2 k0 := by
  by_cases hx : N ≤ x.toNat
  · exact ⟨0, by omega, fun i hi => by omega, hx⟩
  · exact ⟨1, by omega, fun i hi => by
      have : i = 0 := by omega
      subst this; show x.toNat < N; omega, by show N ≤ y.toNat; omega⟩
theorem oneF_far {x : UInt8} {N : Nat} (h : N ≤ x.toNat) : FarAt (oneF x) N 1 0 := ⟨by omega, fun i hi => by omega, h⟩
set_option maxRecDepth 20000 in
set_option maxHeartbeats 1000000 in
theorem elementCode_no (o : Int) (g : Nat → UInt8) (n b : Nat) (w : World) (hs : sqB o g = false) :
    Calls Try.prog 95 #[.agg (sqc o g), .slice (some ⟨b, 0, none⟩) n n] w fun e w' => e = .returned (.int .i64 1) ∧ Below w.heap.size w w' := by
  have hH := Has.start1 w (sqc o g) 32
  go_enter Try.func95, Try.ntmps95
  go_wp2_with (first | (refine wpL_loadFull rfl rfl rfl rowSq hH.h0 (sqc_size _ _) ?_) | (go_at_call 147; refine (IsSquare_any o g _).mono ?_; rintro e w2 ⟨rfl, hb⟩; replace hH := hH.call' hb; rw [hs]))
  go_ret
  exact ⟨rfl, hH.below⟩
set_option maxRecDepth 20000 in
set_option maxHeartbeats 2000000 in
theorem elementCode_in (N : Nat) (g f : Nat → UInt8) (n b : Nat) (w : World) (hn : n ≤ 8) (hs : sqB (N : Int) g = true) (hg : holds w b (u8s n f) 5) (hf : ∀ i, i < n → (f i).toNat < N) :
    Calls Try.prog 95 #[.agg (sqc N g), .slice (some ⟨b, 0, none⟩) n n] w fun e w' => e = .returned (.int .i64 0) ∧ Below w.heap.size w w' := by
  have HF := hid hf; clear hf
  have hH := Has.start1 w (sqc N g) 32
  replace hg := holds_alloc hg (.cells (sqc N g) 32)
  go_enter Try.func95, Try.ntmps95
  go_wp2_with (first | (refine wpL_loadFull rfl rfl rfl rowSq hH.h0 (sqc_size _ _) ?_) | (go_at_call 147; refine (IsSquare_any N g _).mono ?_; rintro e w2 ⟨rfl, hb⟩; replace hH := hH.call' hb; replace hg := holds_below hg hb (holds_lt hg); clear hb; rw [hs]))
  go_loopw [12] (fun i wr => ∃ k : Nat, k ≤ n ∧ i = .int .i64 k ∧ Has w wr [(sqc N g, 32)] ∧ holds wr b (u8s n f) 5) (fun i _ => 10 - (intOf i).toNat)
  case atStart => exact ⟨0, by omega, rfl, hH, hg⟩
  case round =>
    clear hH hg
    obtain ⟨k, hk, rfl, hH, hg⟩ := hrel
    by_cases hlt : k < n
    · have cx : wr.cell? ⟨b, k, none⟩ = some (.int .u8 (f k).toNat) := by rw [holds_cell hg, u8s_get n f k hlt]
      have cz : wr.cell? ⟨w.heap.size, 0, none⟩ = some (.int .i64 N) := by rw [hH.c0, sqc_get0]
      have hb := u8_bd (f k)
      have hx : ((f k).toNat : Int) < (N : Int) := by have := HF.out k hlt; omega
      go_wp2
      go_roundw
      case rel => exact ⟨k + 1, by omega, by go_num, hH, hg⟩
      case measure => simp [intOf]; omega
    · go_wp2
      go_ret
      exact ⟨rfl, hH.below⟩
set_option maxRecDepth 20000 in
set_option maxHeartbeats 2000000 in
theorem elementCode_far (N : Nat) (g f : Nat → UInt8) (n b k0 : Nat) (w : World) (hn : n ≤ 8) (hs : sqB (N : Int) g = true) (hg : holds w b (u8s n f) 5) (hf : FarAt f N n k0) :
    Calls Try.prog 95 #[.agg (sqc N g), .slice (some ⟨b, 0, none⟩) n n] w fun e w' => e = .returned (.int .i64 2) ∧ Below w.heap.size w w' := by
  have HF := hid hf; clear hf
  have hH := Has.start1 w (sqc N g) 32
  replace hg := holds_alloc hg (.cells (sqc N g) 32)
  go_enter Try.func95, Try.ntmps95
  go_wp2_with (first | (refine wpL_loadFull rfl rfl rfl rowSq hH.h0 (sqc_size _ _) ?_) | (go_at_call 147; refine (IsSquare_any N g _).mono ?_; rintro e w2 ⟨rfl, hb⟩; replace hH := hH.call' hb; replace hg := holds_below hg hb (holds_lt hg); clear hb; rw [hs]))
  go_loopw [12] (fun i wr => ∃ k : Nat, k ≤ k0 ∧ i = .int .i64 k ∧ Has w wr [(sqc N g, 32)] ∧ holds wr b (u8s n f) 5) (fun i _ => 10 - (intOf i).toNat)
  case atStart => exact ⟨0, by omega, rfl, hH, hg⟩
  case round =>
    clear hH hg
    obtain ⟨k, hk, rfl, hH, hg⟩ := hrel
    have hk0 := HF.out.lt
    have hlt : k < n := by omega
    have cx : wr.cell? ⟨b, k, none⟩ = some (.int .u8 (f k).toNat) := by rw [holds_cell hg, u8s_get n f k hlt]
    have cz : wr.cell? ⟨w.heap.size, 0, none⟩ = some (.int .i64 N) := by rw [hH.c0, sqc_get0]
    have hb := u8_bd (f k)
    by_cases h2 : k < k0
    · have hx : ((f k).toNat : Int) < (N : Int) := by have := HF.out.lo k h2; omega
      go_wp2
      go_roundw
      case rel => exact ⟨k + 1, by omega, by go_num, hH, hg⟩
      case measure => simp [intOf]; omega
    · obtain rfl : k = k0 := by omega
      have hx : (N : Int) ≤ ((f k).toNat : Int) := by have := HF.out.far; omega
      go_wp2
      go_ret
      exact ⟨rfl, hH.below⟩
end Go.Proofs.Ytbhjbllgmenbaab
