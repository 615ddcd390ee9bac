/- Proved: what the codes of a loop and elements of it are, of program and model. Conditions: those that each theorem names. -/
import Derived.Test.YtbhjbllgmenbaabEc
import Derived.Test.YtbhjbllgmenbaabLo
import Derived.Test.YtbhjbllgmenbaabNu
namespace Go.Proofs.Ytbhjbllgmenbaab
set_option linter.unusedVariables false
set_option linter.unusedSimpArgs false
open Go.RowKit
theorem loop_true {o : Int} {g : Nat → UInt8} (h : loopB o g = true) : ∃ N : Nat, o = N ∧ IsLp N g ∧ sqB (N : Int) g = true ∧ loopB (N : Int) g = true := by
  have h0 := h
  unfold loopB at h
  simp only [Bool.and_eq_true, decide_eq_true_eq] at h
  obtain ⟨N, rfl, hq⟩ := sqB_true.1 h.1
  refine ⟨N, rfl, ⟨hq, fun x hx => (h.2 x (by simpa using hx)).1, fun x hx => (h.2 x (by simpa using hx)).2⟩, h.1, h0⟩
/-- The three bytes that an argument list of three lays. -/
def triF (x y z : UInt8) : Nat → UInt8 := fun i => if i = 0 then x else if i = 1 then y else z
theorem triF_lt {x y z : UInt8} {N : Nat} (hx : x.toNat < N) (hy : y.toNat < N) (hz : z.toNat < N) : ∀ i, i < 3 → (triF x y z i).toNat < N := by
  intro i hi
  unfold triF
  by_cases e : i = 0
  · rw [if_pos e]; exact hx
  · rw [if_neg e]
    by_cases e1 : i = 1
    · rw [if_pos e1]; exact hy
    · rw [if_neg e1]; exact hz
theorem triF_far {x y z : UInt8} {N : Nat} (h : ¬ (x.toNat < N ∧ y.toNat < N ∧ z.toNat < N)) : ∃ k0, FarAt (triF x y z) N 3 k0 := by
  by_cases hx : x.toNat < N
  · by_cases hy : y.toNat < N
    · exact ⟨2, by omega, fun i hi => by
        unfold triF
        by_cases e : i = 0
        · rw [if_pos e]; exact hx
        · rw [if_neg e, if_pos (by omega)]; exact hy, by show N ≤ z.toNat; omega⟩
    · exact ⟨1, by omega, fun i hi => by
        unfold triF; rw [if_pos (by omega)]; exact hx, by show N ≤ y.toNat; omega⟩
  · exact ⟨0, by omega, fun i hi => by omega, by show N ≤ x.toNat; omega⟩
section
variable {ops : Array Oper} {rest : List Oper} {o : Oper} {a : Act} {w : World} {Q : Exit → Act → World → Prop}
theorem wpL_slice3 {p q r : Operand} {x y z : UInt8} (hgd : o.guard = none) (ho : o.op = .buildSlice 59 3 #[(0, p), (1, q), (2, r)]) (hx : a.eval p = .int .u8 x.toNat) (hy : a.eval q = .int .u8 y.toNat) (hzv : a.eval r = .int .u8 z.toNat)
    (h : wpList Try.prog ops Q rest (a.put o.dst (.slice (some ⟨w.heap.size, 0, none⟩) 3 3)) (w.alloc (.cells (u8s 3 (triF x y z)) 5))) : wpList Try.prog ops Q (o :: rest) a w := by
  have hsz := sz5
  have hz := zero5
  cases hie : (Try.prog.info? 5) with
  | none => simp [hie] at hsz
  | some ie =>
    simp only [hie, Option.map_some, Option.some.injEq, Option.bind_some] at hsz hz
    obtain ⟨z0, hzz⟩ := Option.isSome_iff_exists.1 hz
    refine wpList_buildSlice hgd 59 5 3 _ ho _ ie z0 Try.underlying59 hie hzz (by rw [hsz]; omega) (by rw [hsz]; omega) ?_ h
    rw [hsz]
    have hp : ((#[(0, p), (1, q), (2, r)] : Array (Nat × Operand)).map fun (i, x) => (i, a.eval x)).toList = (([Value.int .u8 x.toNat, Value.int .u8 y.toNat, Value.int .u8 z.toNat] : List Value).zipIdx 0).map fun x => (x.2, x.1) := by simp [hx, hy, hzv]
    rw [hp]
    refine (Great.fill_flat _ _ (fun v hv => ?_) (by simp)).trans ?_
    · simp only [List.mem_cons, List.not_mem_nil, or_false] at hv
      rcases hv with rfl | rfl | rfl <;> rfl
    · congr 1
end
set_option maxRecDepth 20000 in
set_option maxHeartbeats 1000000 in
theorem loopCode_no (o : Int) (g : Nat → UInt8) (n b : Nat) (w : World) (hs : sqB o g = false) :
    Calls Try.prog 70 #[.agg (sqc o g), .slice (some ⟨b, 0, none⟩) n n] w fun e w' => e = .returned (.int .i64 1) ∧ Below w.heap.size w w' := by
  have hH := Has.start1 w (sqc o g) 32
  go_enter Try.func70, Try.ntmps70
  go_wp2_with (first | (refine wpL_loadFull rfl rfl rfl rowSq hH.h0 (sqc_size _ _) ?_) | (go_at_call 95; refine (elementCode_no o g n b _ hs).mono ?_; rintro e w2 ⟨rfl, hb⟩; replace hH := hH.call' hb; clear hb))
  go_ret
  exact ⟨rfl, hH.below⟩
set_option maxRecDepth 20000 in
set_option maxHeartbeats 1000000 in
theorem loopCode_far (N : Nat) (g f : Nat → UInt8) (n b k0 : Nat) (w : World) (hn : n ≤ 8) (hs : sqB (N : Int) g = true) (hg : holds w b (u8s n f) 5) (hf : FarAt f N n k0) :
    Calls Try.prog 70 #[.agg (sqc N g), .slice (some ⟨b, 0, none⟩) n n] w fun e w' => e = .returned (.int .i64 2) ∧ Below w.heap.size w w' := by
  have HF := hid hf; clear hf
  have hH := Has.start1 w (sqc N g) 32
  replace hg := holds_alloc hg (.cells (sqc N g) 32)
  go_enter Try.func70, Try.ntmps70
  go_wp2_with (first | (refine wpL_loadFull rfl rfl rfl rowSq hH.h0 (sqc_size _ _) ?_) | (go_at_call 95; refine (elementCode_far N g f n b k0 _ hn hs hg HF.out).mono ?_; rintro e w2 ⟨rfl, hb⟩; replace hH := hH.call' hb; clear hb))
  go_ret
  exact ⟨rfl, hH.below⟩
set_option maxRecDepth 20000 in
set_option maxHeartbeats 1000000 in
theorem loopCode_in (N : Nat) (g f : Nat → UInt8) (n b : Nat) (w : World) (r : Bool) (hr : loopB (N : Int) g = r) (hn : n ≤ 8) (hs : sqB (N : Int) g = true) (hg : holds w b (u8s n f) 5) (hf : ∀ i, i < n → (f i).toNat < N) :
    Calls Try.prog 70 #[.agg (sqc N g), .slice (some ⟨b, 0, none⟩) n n] w fun e w' => e = .returned (.int .i64 (bif r then 0 else 5)) ∧ Below w.heap.size w w' := by
  have HF := hid hf; clear hf
  have hH := Has.start1 w (sqc N g) 32
  replace hg := holds_alloc hg (.cells (sqc N g) 32)
  cases r with
  | true =>
    go_enter Try.func70, Try.ntmps70
    go_wp2_with (first | (refine wpL_loadFull rfl rfl rfl rowSq hH.h0 (sqc_size _ _) ?_) | (go_at_call 95; refine (elementCode_in N g f n b _ hn hs hg HF.out).mono ?_; rintro e w2 ⟨rfl, hb⟩; replace hH := hH.call' hb; clear hb) | (go_at_call 115; refine (IsLoop_any N g _).mono ?_; rintro e w3 ⟨rfl, hb⟩; replace hH := hH.call' hb; clear hb; rw [hr]))
    go_ret
    exact ⟨rfl, hH.below⟩
  | false =>
    go_enter Try.func70, Try.ntmps70
    go_wp2_with (first | (refine wpL_loadFull rfl rfl rfl rowSq hH.h0 (sqc_size _ _) ?_) | (go_at_call 95; refine (elementCode_in N g f n b _ hn hs hg HF.out).mono ?_; rintro e w2 ⟨rfl, hb⟩; replace hH := hH.call' hb; clear hb) | (go_at_call 115; refine (IsLoop_any N g _).mono ?_; rintro e w3 ⟨rfl, hb⟩; replace hH := hH.call' hb; clear hb; rw [hr]))
    go_ret
    exact ⟨rfl, hH.below⟩
set_option maxRecDepth 20000 in
set_option maxHeartbeats 1000000 in
theorem l04Loop_no (o : Int) (g : Nat → UInt8) (n b : Nat) (w : World) (hs : sqB o g = false) :
    Calls Try.prog 68 #[.agg (sqc o g), .slice (some ⟨b, 0, none⟩) n n] w fun e w' => e = .returned (.int .i64 1) ∧ Below w.heap.size w w' := by
  have hH := Has.start1 w (sqc o g) 32
  go_enter Try.func68, Try.ntmps68
  go_wp2_with (first | (refine wpL_loadFull rfl rfl rfl rowSq hH.h0 (sqc_size _ _) ?_) | (go_at_call 91; refine (l01Is_any o g _).mono ?_; rintro e w2 ⟨rfl, hb⟩; replace hH := hH.call' hb; clear hb; rw [hs]))
  go_ret
  exact ⟨rfl, hH.below⟩
set_option maxRecDepth 20000 in
set_option maxHeartbeats 2000000 in
theorem l04Loop_in (N : Nat) (g f : Nat → UInt8) (n b : Nat) (w : World) (r : Bool) (hr : loopB (N : Int) g = r) (hn : n ≤ 8) (hs : sqB (N : Int) g = true) (hg : holds w b (u8s n f) 5) (hf : ∀ i, i < n → (f i).toNat < N) :
    Calls Try.prog 68 #[.agg (sqc N g), .slice (some ⟨b, 0, none⟩) n n] w fun e w' => e = .returned (.int .i64 (bif r then 0 else 5)) ∧ Below w.heap.size w w' := by
  have HF := hid hf; clear hf
  have hH := Has.start1 w (sqc N g) 32
  replace hg := holds_alloc hg (.cells (sqc N g) 32)
  go_enter Try.func68, Try.ntmps68
  go_wp2_with (first | (refine wpL_loadFull rfl rfl rfl rowSq hH.h0 (sqc_size _ _) ?_) | (go_at_call 91; refine (l01Is_any N g _).mono ?_; rintro e w2 ⟨rfl, hb⟩; replace hH := hH.call' hb; replace hg := holds_below hg hb (holds_lt hg); clear hb; rw [hs]))
  go_loopw [5] (fun i wr => ∃ k : Nat, k ≤ n ∧ i = .int .i64 k ∧ Has w wr [(sqc N g, 32)] ∧ holds wr b (u8s n f) 5) (fun i _ => 10 - (intOf i).toNat)
  case atStart => exact ⟨0, by omega, rfl, hH, hg⟩
  case round =>
    clear hH hg
    obtain ⟨k, hk, rfl, hH, hg⟩ := hrel
    by_cases hlt : k < n
    · have cx : wr.cell? ⟨b, k, none⟩ = some (.int .u8 (f k).toNat) := by rw [holds_cell hg, u8s_get n f k hlt]
      have cz : wr.cell? ⟨w.heap.size, 0, none⟩ = some (.int .i64 N) := by rw [hH.c0, sqc_get0]
      have hb := u8_bd (f k)
      have hx : ((f k).toNat : Int) < (N : Int) := by have := HF.out k hlt; omega
      go_wp2
      have hD : decide (N ≤ (f k).toNat) = false := by have := HF.out k hlt; simp; omega
      refine wp_region_frame (X := Unit) (fun d _ => [(15, bif d 0 then .slice (some ⟨b, 0, none⟩) n n else u15), (16, bif d 1 then .int .i64 k else u16), (17, bif d 2 then .pointer (some ⟨b, k, none⟩) else u17), (18, bif d 3 then .int .u8 (f k).toNat else u18), (19, bif d 4 then .int .i64 (f k).toNat else u19), (20, bif d 5 then .pointer (some ⟨w.heap.size, 0, none⟩) else u20), (21, bif d 6 then .int .i64 N else u21), (22, bif d 7 then .bool false else u22)])
        (fun d _ w' => Has w w' [(sqc N g, 32)] ∧ holds w' b (u8s n f) 5) (by kernel_rfl) (by kernel_rfl) ?h0_ll ?hs_ll ?hq_ll
      case h0_ll => exact ⟨(), (by simp [lput]), hH.drew, (show _ from hg)⟩
      case hs_ll =>
        refine ⟨?_, ?_, ?_, ?_, ?_, ?_, ?_, ?_, trivial⟩
        all_goals
          clear hH hg
          intro d _ w1 hd hn hJ
          simp only [needs, Region.binds, reduceCtorEq, Bool.false_eq_true, false_implies, true_and, and_true, true_implies, forall_const] at hn
          simp only [lput, List.set, hn, cond_true]
          obtain ⟨hH, hg⟩ := hJ
          have cx : w1.cell? ⟨b, k, none⟩ = some (.int .u8 (f k).toNat) := by rw [holds_cell hg, u8s_get n f k hlt]
          have cz : w1.cell? ⟨w.heap.size, 0, none⟩ = some (.int .i64 N) := by rw [hH.c0, sqc_get0]
          go_wp2_with (first | fail)
          first
            | (refine ⟨(), ?_, hH, hg⟩; (simp [lput, done, hn, hD]; done))
            | (refine ⟨?_, hH, hg⟩; (simp [lput, done, hn, hD]; done))
            | (refine ⟨(), ?_, hH, hg⟩; (simp [lput, done, hn, hD]; rfl))
            | (refine ⟨?_, hH, hg⟩; (simp [lput, done, hn, hD]; rfl))
            | (refine ⟨(), ?_, hH, hg⟩; (simp [lput, done, hD]; done))
            | (refine ⟨?_, hH, hg⟩; (simp [lput, done, hD]; done))
            | (refine ⟨(), ?_, hH, hg⟩; (simp [lput, done, hD]; rfl))
            | (refine ⟨?_, hH, hg⟩; (simp [lput, done, hD]; rfl))
      case hq_ll =>
        clear hH hg
        intro d _ w1 hd hJ
        simp only [allDone, List.length_cons, List.length_nil, Nat.reduceAdd, and_true] at hd
        obtain ⟨hH, hg⟩ := hJ
        simp only [lput, List.set, hd, cond_true]
        clear hd
        go_wp2
        go_roundw
        case rel => exact ⟨k + 1, by omega, by go_num, hH, hg⟩
        case measure => simp [intOf]; omega
    · cases r with
      | true =>
        go_wp2_with (first | (refine wpL_loadFull rfl rfl rfl rowSq hH.h0 (sqc_size _ _) ?_) | (go_at_call 108; refine (l01Loop_any N g _).mono ?_; rintro e w2 ⟨rfl, hb⟩; replace hH := hH.call' hb; clear hb; rw [hr]))
        go_ret
        exact ⟨rfl, hH.below⟩
      | false =>
        go_wp2_with (first | (refine wpL_loadFull rfl rfl rfl rowSq hH.h0 (sqc_size _ _) ?_) | (go_at_call 108; refine (l01Loop_any N g _).mono ?_; rintro e w2 ⟨rfl, hb⟩; replace hH := hH.call' hb; clear hb; rw [hr]))
        go_ret
        exact ⟨rfl, hH.below⟩
set_option maxRecDepth 20000 in
set_option maxHeartbeats 2000000 in
theorem l04Loop_far (N : Nat) (g f : Nat → UInt8) (n b k0 : Nat) (w : World) (hn : n ≤ 8) (hs : sqB (N : Int) g = true) (hg : holds w b (u8s n f) 5) (hf : FarAt f N n k0) :
    Calls Try.prog 68 #[.agg (sqc N g), .slice (some ⟨b, 0, none⟩) n n] w fun e w' => e = .returned (.int .i64 2) ∧ Below w.heap.size w w' := by
  have HF := hid hf; clear hf
  have hH := Has.start1 w (sqc N g) 32
  replace hg := holds_alloc hg (.cells (sqc N g) 32)
  go_enter Try.func68, Try.ntmps68
  go_wp2_with (first | (refine wpL_loadFull rfl rfl rfl rowSq hH.h0 (sqc_size _ _) ?_) | (go_at_call 91; refine (l01Is_any N g _).mono ?_; rintro e w2 ⟨rfl, hb⟩; replace hH := hH.call' hb; replace hg := holds_below hg hb (holds_lt hg); clear hb; rw [hs]))
  go_loopw [5] (fun i wr => ∃ k : Nat, k ≤ k0 ∧ i = .int .i64 k ∧ Has w wr [(sqc N g, 32)] ∧ holds wr b (u8s n f) 5) (fun i _ => 10 - (intOf i).toNat)
  case atStart => exact ⟨0, by omega, rfl, hH, hg⟩
  case round =>
    clear hH hg
    obtain ⟨k, hk, rfl, hH, hg⟩ := hrel
    have hk0 := HF.out.lt
    have hlt : k < n := by omega
    have cx : wr.cell? ⟨b, k, none⟩ = some (.int .u8 (f k).toNat) := by rw [holds_cell hg, u8s_get n f k hlt]
    have cz : wr.cell? ⟨w.heap.size, 0, none⟩ = some (.int .i64 N) := by rw [hH.c0, sqc_get0]
    have hb := u8_bd (f k)
    by_cases h2 : k < k0
    · have hx : ((f k).toNat : Int) < (N : Int) := by have := HF.out.lo k h2; omega
      go_wp2
      have hD : decide (N ≤ (f k).toNat) = false := by have := HF.out.lo k h2; simp; omega
      refine wp_region_frame (X := Unit) (fun d _ => [(15, bif d 0 then .slice (some ⟨b, 0, none⟩) n n else u15), (16, bif d 1 then .int .i64 k else u16), (17, bif d 2 then .pointer (some ⟨b, k, none⟩) else u17), (18, bif d 3 then .int .u8 (f k).toNat else u18), (19, bif d 4 then .int .i64 (f k).toNat else u19), (20, bif d 5 then .pointer (some ⟨w.heap.size, 0, none⟩) else u20), (21, bif d 6 then .int .i64 N else u21), (22, bif d 7 then .bool false else u22)])
        (fun d _ w' => Has w w' [(sqc N g, 32)] ∧ holds w' b (u8s n f) 5) (by kernel_rfl) (by kernel_rfl) ?h0_l2 ?hs_l2 ?hq_l2
      case h0_l2 => exact ⟨(), (by simp [lput]), hH.drew, (show _ from hg)⟩
      case hs_l2 =>
        refine ⟨?_, ?_, ?_, ?_, ?_, ?_, ?_, ?_, trivial⟩
        all_goals
          clear hH hg
          intro d _ w1 hd hn hJ
          simp only [needs, Region.binds, reduceCtorEq, Bool.false_eq_true, false_implies, true_and, and_true, true_implies, forall_const] at hn
          simp only [lput, List.set, hn, cond_true]
          obtain ⟨hH, hg⟩ := hJ
          have cx : w1.cell? ⟨b, k, none⟩ = some (.int .u8 (f k).toNat) := by rw [holds_cell hg, u8s_get n f k hlt]
          have cz : w1.cell? ⟨w.heap.size, 0, none⟩ = some (.int .i64 N) := by rw [hH.c0, sqc_get0]
          go_wp2_with (first | fail)
          first
            | (refine ⟨(), ?_, hH, hg⟩; (simp [lput, done, hn, hD]; done))
            | (refine ⟨?_, hH, hg⟩; (simp [lput, done, hn, hD]; done))
            | (refine ⟨(), ?_, hH, hg⟩; (simp [lput, done, hn, hD]; rfl))
            | (refine ⟨?_, hH, hg⟩; (simp [lput, done, hn, hD]; rfl))
            | (refine ⟨(), ?_, hH, hg⟩; (simp [lput, done, hD]; done))
            | (refine ⟨?_, hH, hg⟩; (simp [lput, done, hD]; done))
            | (refine ⟨(), ?_, hH, hg⟩; (simp [lput, done, hD]; rfl))
            | (refine ⟨?_, hH, hg⟩; (simp [lput, done, hD]; rfl))
      case hq_l2 =>
        clear hH hg
        intro d _ w1 hd hJ
        simp only [allDone, List.length_cons, List.length_nil, Nat.reduceAdd, and_true] at hd
        obtain ⟨hH, hg⟩ := hJ
        simp only [lput, List.set, hd, cond_true]
        clear hd
        go_wp2
        go_roundw
        case rel => exact ⟨k + 1, by omega, by go_num, hH, hg⟩
        case measure => simp [intOf]; omega
    · obtain rfl : k = k0 := by omega
      have hx : (N : Int) ≤ ((f k).toNat : Int) := by have := HF.out.far; omega
      go_wp2
      have hD : decide (N ≤ (f k).toNat) = true := by have := HF.out.far; simp; omega
      refine wp_region_frame (X := Unit) (fun d _ => [(15, bif d 0 then .slice (some ⟨b, 0, none⟩) n n else u15), (16, bif d 1 then .int .i64 k else u16), (17, bif d 2 then .pointer (some ⟨b, k, none⟩) else u17), (18, bif d 3 then .int .u8 (f k).toNat else u18), (19, bif d 4 then .int .i64 (f k).toNat else u19), (20, bif d 5 then .pointer (some ⟨w.heap.size, 0, none⟩) else u20), (21, bif d 6 then .int .i64 N else u21), (22, bif d 7 then .bool true else u22)])
        (fun d _ w' => Has w w' [(sqc N g, 32)] ∧ holds w' b (u8s n f) 5) (by kernel_rfl) (by kernel_rfl) ?h0_l3 ?hs_l3 ?hq_l3
      case h0_l3 => exact ⟨(), (by simp [lput]), hH.drew, (show _ from hg)⟩
      case hs_l3 =>
        refine ⟨?_, ?_, ?_, ?_, ?_, ?_, ?_, ?_, trivial⟩
        all_goals
          clear hH hg
          intro d _ w1 hd hn hJ
          simp only [needs, Region.binds, reduceCtorEq, Bool.false_eq_true, false_implies, true_and, and_true, true_implies, forall_const] at hn
          simp only [lput, List.set, hn, cond_true]
          obtain ⟨hH, hg⟩ := hJ
          have cx : w1.cell? ⟨b, k, none⟩ = some (.int .u8 (f k).toNat) := by rw [holds_cell hg, u8s_get n f k hlt]
          have cz : w1.cell? ⟨w.heap.size, 0, none⟩ = some (.int .i64 N) := by rw [hH.c0, sqc_get0]
          go_wp2_with (first | fail)
          first
            | (refine ⟨(), ?_, hH, hg⟩; (simp [lput, done, hn, hD]; done))
            | (refine ⟨?_, hH, hg⟩; (simp [lput, done, hn, hD]; done))
            | (refine ⟨(), ?_, hH, hg⟩; (simp [lput, done, hn, hD]; rfl))
            | (refine ⟨?_, hH, hg⟩; (simp [lput, done, hn, hD]; rfl))
            | (refine ⟨(), ?_, hH, hg⟩; (simp [lput, done, hD]; done))
            | (refine ⟨?_, hH, hg⟩; (simp [lput, done, hD]; done))
            | (refine ⟨(), ?_, hH, hg⟩; (simp [lput, done, hD]; rfl))
            | (refine ⟨?_, hH, hg⟩; (simp [lput, done, hD]; rfl))
      case hq_l3 =>
        clear hH hg
        intro d _ w1 hd hJ
        simp only [allDone, List.length_cons, List.length_nil, Nat.reduceAdd, and_true] at hd
        obtain ⟨hH, hg⟩ := hJ
        simp only [lput, List.set, hd, cond_true]
        clear hd
        go_wp2
        go_ret
        exact ⟨rfl, hH.below⟩
end Go.Proofs.Ytbhjbllgmenbaab
