/- Proved: what the functions that compose triples and lead them back return, of program and model alike. Conditions: those that each theorem names. -/
import Derived.Test.YtcmedefgpiegbabTr
import Derived.Test.YtcmedefgpiegbabPl3
import Derived.Test.YtcmedefgpiegbabReg
namespace Go.Proofs.Ytcmedefgpiegbab
set_option linter.unusedVariables false
set_option linter.unusedSimpArgs false
open Go.RowKit
/-- A triple of three lists. -/
def mkTri (a b c : Nat → UInt8) : Nat → UInt8 := fun i => if i < 10 then a i else if i < 20 then b (i - 10) else c (i - 20)
theorem builtTr3 (a b c : Nat → UInt8) : Try.prog.built 28 [(0, .agg (u8s 10 a)), (1, .agg (u8s 10 b)), (2, .agg (u8s 10 c))] = some (u8s 30 (mkTri a b c)) := by kernel_rfl
section
variable {P : Program} {ops : Array Oper} {rest : List Oper} {o : Oper} {a : Act} {w : World} {Q : Exit → Act → World → Prop}
theorem wpL_build3 {T : Nat} {x y z : Operand} {v u t : Value} {Z : Array Value} (hgd : o.guard = none) (ho : o.op = .build T #[(0, x), (1, y), (2, z)]) (hx : a.eval x = v) (hy : a.eval y = u) (hz : a.eval z = t) (hZ : P.built T [(0, v), (1, u), (2, t)] = some Z)
    (h : wpList P ops Q rest (a.put o.dst (.agg Z)) w) : wpList P ops Q (o :: rest) a w := by
  refine wpList_build hgd T #[(0, x), (1, y), (2, z)] ho ?_ ?_
  · simp [hx, hy, hz, hZ]
  · simpa [hx, hy, hz, hZ] using h
end
structure IsTri (t : Nat → UInt8) (N : Nat) : Prop where
  a : IsPerm (tri t 0) N
  b : IsPerm (tri t 10) N
  c : IsPerm (tri t 20) N
theorem triB_true {t : Nat → UInt8} {n : Int} : triB t n = true ↔ ∃ N : Nat, n = N ∧ IsTri t N := by
  simp only [triB, Bool.and_eq_true, permB_true]
  constructor
  · rintro ⟨⟨h, a⟩, ⟨_, b⟩, _, c⟩
    exact ⟨n.toNat, by omega, a, b, c⟩
  · rintro ⟨N, rfl, a, b, c⟩
    exact ⟨⟨by omega, by simpa using a⟩, ⟨by omega, by simpa using b⟩, by omega, by simpa using c⟩
theorem IsPerm.lt10 {p : Nat → UInt8} {N : Nat} (h : IsPerm p N) : ∀ i, i < N → (p i).toNat < 10 := fun i hi => by have := h.lt i hi; have := h.hi; omega
def thenT (s t : Nat → UInt8) (N : Nat) : Nat → UInt8 := mkTri (thenF (tri s 0) (tri t 0) N) (thenF (tri s 10) (tri t 10) N) (thenF (tri s 20) (tri t 20) N)
def backT (t : Nat → UInt8) (N : Nat) : Nat → UInt8 := mkTri (backF (tri t 0) N) (backF (tri t 10) N) (backF (tri t 20) N)
set_option maxRecDepth 20000 in
set_option maxHeartbeats 2000000 in
theorem l02Then_any (s t : Nat → UInt8) (N : Nat) (w : World) (hs : IsTri s N) :
    Calls Try.prog 56 #[.agg (u8s 30 s), .agg (u8s 30 t), .int .i64 N] w fun e w' => e = .returned (.agg (u8s 30 (thenT s t N))) ∧ Below w.heap.size w w' := by
  have HA := hid hs.a.lt10
  have HB := hid hs.b.lt10
  have HC := hid hs.c.lt10
  have h10 := hs.a.hi
  clear hs
  have hH := Has.start3 w (u8s 30 s) (u8s 30 t) (u8s 30 fun _ => 0) 28 28 28
  go_enter Try.func56, Try.ntmps56
  go_wp2_with (first | (refine wpL_alloc rfl rfl zeroTr ?_; intro g hg; (try simp at hg); subst hg))
  refine wp_region_frame (X := Unit) (fun d _ => [(7, bif d 0 then .pointer (some ⟨w.heap.size, 0, none⟩) else undef), (8, bif d 1 then .agg (u8s 10 (tri s 0)) else undef), (9, bif d 2 then .pointer (some ⟨w.heap.size + 1, 0, none⟩) else undef), (10, bif d 3 then .agg (u8s 10 (tri t 0)) else undef), (11, bif d 4 then .int .i64 N else undef), (12, bif d 5 then .agg (u8s 10 (thenF (tri s 0) (tri t 0) N)) else undef), (13, bif d 6 then .pointer (some ⟨w.heap.size, 10, none⟩) else undef), (14, bif d 7 then .agg (u8s 10 (tri s 10)) else undef), (15, bif d 8 then .pointer (some ⟨w.heap.size + 1, 10, none⟩) else undef), (16, bif d 9 then .agg (u8s 10 (tri t 10)) else undef), (17, bif d 10 then .int .i64 N else undef), (18, bif d 11 then .agg (u8s 10 (thenF (tri s 10) (tri t 10) N)) else undef), (19, bif d 12 then .pointer (some ⟨w.heap.size, 20, none⟩) else undef), (20, bif d 13 then .agg (u8s 10 (tri s 20)) else undef), (21, bif d 14 then .pointer (some ⟨w.heap.size + 1, 20, none⟩) else undef), (22, bif d 15 then .agg (u8s 10 (tri t 20)) else undef), (23, bif d 16 then .int .i64 N else undef), (24, bif d 17 then .agg (u8s 10 (thenF (tri s 20) (tri t 20) N)) else undef), (25, bif d 18 then .agg (u8s 30 (thenT s t N)) else undef)])
    (fun d _ w' => Has w w' [(u8s 30 s, 28), (u8s 30 t, 28), (bif d 19 then u8s 30 (thenT s t N) else u8s 30 (fun _ => 0), 28)]) (by kernel_rfl) (by kernel_rfl) ?h0_tt ?hs_tt ?hq_tt
  case h0_tt => exact ⟨(), (by simp [lput]), hH.drew⟩
  case hs_tt =>
    refine ⟨?_, ?_, ?_, ?_, ?_, ?_, ?_, ?_, ?_, ?_, ?_, ?_, ?_, ?_, ?_, ?_, ?_, ?_, ?_, ?_, trivial⟩
    all_goals
      clear hH
      intro d _ w1 hd hn hJ
      simp only [needs, Region.binds, reduceCtorEq, Bool.false_eq_true, false_implies, true_and, and_true, true_implies, forall_const] at hn
      simp only [lput, List.set, hn, cond_true]
      try simp only [hd, cond_false] at hJ
      have hH := hJ; clear hJ
      go_wp2_with (first | fail | (refine wpL_loadTri rfl rfl rfl rowPl hH.h0 (by omega) ?_) | (refine wpL_loadTri rfl rfl rfl rowPl hH.h1 (by omega) ?_) | (go_at_call 87; (with_reducible refine (l01Then_any _ _ N _ h10 (by first | with_reducible exact HA.out | with_reducible exact HB.out | with_reducible exact HC.out)).mono ?_); rintro e w3 ⟨rfl, hb⟩; replace hH := hH.call' hb; clear hb) | (refine wpL_build3 (T := 28) rfl (by rfl) (by rfl) (by rfl) (by rfl) (builtTr3 _ _ _) ?_) | (refine wpL_storeFull rfl rfl rfl rfl rowTr hH.h2 (u8s_size _ _) (u8s_ok _ _) ?_; replace hH := hH.r2 (cs' := u8s 30 (thenT s t N))))
      first
        | (refine ⟨(), ?_, hH⟩; (simp [lput, done, hn]; done))
        | (refine ⟨?_, hH⟩; (simp [lput, done, hn]; done))
        | (refine ⟨(), ?_, hH⟩; (simp [lput, done, hn]; rfl))
        | (refine ⟨?_, hH⟩; (simp [lput, done, hn]; rfl))
        | (refine ⟨(), ?_, hH⟩; (simp [lput, done]; done))
        | (refine ⟨?_, hH⟩; (simp [lput, done]; done))
        | (refine ⟨(), ?_, hH⟩; (simp [lput, done]; rfl))
        | (refine ⟨?_, hH⟩; (simp [lput, done]; rfl))
  case hq_tt =>
    clear hH
    intro d _ w1 hd hJ
    simp only [allDone, List.length_cons, List.length_nil, Nat.reduceAdd, and_true] at hd
    have hH := hJ; clear hJ
    simp only [hd, cond_true] at hH
    simp only [lput, List.set, hd, cond_true]
    clear hd
    go_wp2
    exact ret_c rfl rfl hH.h2 rowTr (u8s_size _ _) ⟨rfl, hH.below⟩
set_option maxRecDepth 20000 in
set_option maxHeartbeats 2000000 in
theorem joinTriples_any (s t : Nat → UInt8) (N : Nat) (w : World) (hs : IsTri s N) :
    Calls Try.prog 57 #[.agg (u8s 30 s), .agg (u8s 30 t), .int .i64 N] w fun e w' => e = .returned (.agg (u8s 30 (thenT s t N))) ∧ Below w.heap.size w w' := by
  have HA := hid hs.a.lt10
  have HB := hid hs.b.lt10
  have HC := hid hs.c.lt10
  have h10 := hs.a.hi
  clear hs
  have hH := Has.start3 w (u8s 30 s) (u8s 30 t) (u8s 30 fun _ => 0) 28 28 28
  go_enter Try.func57, Try.ntmps57
  go_wp2_with (first | (refine wpL_alloc rfl rfl zeroTr ?_; intro g hg; (try simp at hg); subst hg))
  refine wp_region_frame (X := Unit) (fun d _ => [(7, bif d 0 then .pointer (some ⟨w.heap.size, 0, none⟩) else undef), (8, bif d 1 then .agg (u8s 10 (tri s 0)) else undef), (9, bif d 2 then .pointer (some ⟨w.heap.size + 1, 0, none⟩) else undef), (10, bif d 3 then .agg (u8s 10 (tri t 0)) else undef), (11, bif d 4 then .int .i64 N else undef), (12, bif d 5 then .agg (u8s 10 (thenF (tri s 0) (tri t 0) N)) else undef), (13, bif d 6 then .pointer (some ⟨w.heap.size, 10, none⟩) else undef), (14, bif d 7 then .agg (u8s 10 (tri s 10)) else undef), (15, bif d 8 then .pointer (some ⟨w.heap.size + 1, 10, none⟩) else undef), (16, bif d 9 then .agg (u8s 10 (tri t 10)) else undef), (17, bif d 10 then .int .i64 N else undef), (18, bif d 11 then .agg (u8s 10 (thenF (tri s 10) (tri t 10) N)) else undef), (19, bif d 12 then .pointer (some ⟨w.heap.size, 20, none⟩) else undef), (20, bif d 13 then .agg (u8s 10 (tri s 20)) else undef), (21, bif d 14 then .pointer (some ⟨w.heap.size + 1, 20, none⟩) else undef), (22, bif d 15 then .agg (u8s 10 (tri t 20)) else undef), (23, bif d 16 then .int .i64 N else undef), (24, bif d 17 then .agg (u8s 10 (thenF (tri s 20) (tri t 20) N)) else undef), (25, bif d 18 then .agg (u8s 30 (thenT s t N)) else undef)])
    (fun d _ w' => Has w w' [(u8s 30 s, 28), (u8s 30 t, 28), (bif d 19 then u8s 30 (thenT s t N) else u8s 30 (fun _ => 0), 28)]) (by kernel_rfl) (by kernel_rfl) ?h0_tt ?hs_tt ?hq_tt
  case h0_tt => exact ⟨(), (by simp [lput]), hH.drew⟩
  case hs_tt =>
    refine ⟨?_, ?_, ?_, ?_, ?_, ?_, ?_, ?_, ?_, ?_, ?_, ?_, ?_, ?_, ?_, ?_, ?_, ?_, ?_, ?_, trivial⟩
    all_goals
      clear hH
      intro d _ w1 hd hn hJ
      simp only [needs, Region.binds, reduceCtorEq, Bool.false_eq_true, false_implies, true_and, and_true, true_implies, forall_const] at hn
      simp only [lput, List.set, hn, cond_true]
      try simp only [hd, cond_false] at hJ
      have hH := hJ; clear hJ
      go_wp2_with (first | fail | (refine wpL_loadTri rfl rfl rfl rowPl hH.h0 (by omega) ?_) | (refine wpL_loadTri rfl rfl rfl rowPl hH.h1 (by omega) ?_) | (go_at_call 88; (with_reducible refine (thenOf_any _ _ N _ h10 (by first | with_reducible exact HA.out | with_reducible exact HB.out | with_reducible exact HC.out)).mono ?_); rintro e w3 ⟨rfl, hb⟩; replace hH := hH.call' hb; clear hb) | (refine wpL_build3 (T := 28) rfl (by rfl) (by rfl) (by rfl) (by rfl) (builtTr3 _ _ _) ?_) | (refine wpL_storeFull rfl rfl rfl rfl rowTr hH.h2 (u8s_size _ _) (u8s_ok _ _) ?_; replace hH := hH.r2 (cs' := u8s 30 (thenT s t N))))
      first
        | (refine ⟨(), ?_, hH⟩; (simp [lput, done, hn]; done))
        | (refine ⟨?_, hH⟩; (simp [lput, done, hn]; done))
        | (refine ⟨(), ?_, hH⟩; (simp [lput, done, hn]; rfl))
        | (refine ⟨?_, hH⟩; (simp [lput, done, hn]; rfl))
        | (refine ⟨(), ?_, hH⟩; (simp [lput, done]; done))
        | (refine ⟨?_, hH⟩; (simp [lput, done]; done))
        | (refine ⟨(), ?_, hH⟩; (simp [lput, done]; rfl))
        | (refine ⟨?_, hH⟩; (simp [lput, done]; rfl))
  case hq_tt =>
    clear hH
    intro d _ w1 hd hJ
    simp only [allDone, List.length_cons, List.length_nil, Nat.reduceAdd, and_true] at hd
    have hH := hJ; clear hJ
    simp only [hd, cond_true] at hH
    simp only [lput, List.set, hd, cond_true]
    clear hd
    go_wp2
    exact ret_c rfl rfl hH.h2 rowTr (u8s_size _ _) ⟨rfl, hH.below⟩
set_option maxRecDepth 20000 in
set_option maxHeartbeats 2000000 in
theorem l02Back_any (t : Nat → UInt8) (N : Nat) (w : World) (hs : IsTri t N) :
    Calls Try.prog 58 #[.agg (u8s 30 t), .int .i64 N] w fun e w' => e = .returned (.agg (u8s 30 (backT t N))) ∧ Below w.heap.size w w' := by
  have HA := hid hs.a.lt10
  have HB := hid hs.b.lt10
  have HC := hid hs.c.lt10
  have h10 := hs.a.hi
  clear hs
  have hH := Has.start2 w (u8s 30 t) (u8s 30 fun _ => 0) 28 28
  go_enter Try.func58, Try.ntmps58
  go_wp2_with (first | (refine wpL_alloc rfl rfl zeroTr ?_; intro g hg; (try simp at hg); subst hg))
  refine wp_region_frame (X := Unit) (fun d _ => [(5, bif d 0 then .pointer (some ⟨w.heap.size, 0, none⟩) else undef), (6, bif d 1 then .agg (u8s 10 (tri t 0)) else undef), (7, bif d 2 then .int .i64 N else undef), (8, bif d 3 then .agg (u8s 10 (backF (tri t 0) N)) else undef), (9, bif d 4 then .pointer (some ⟨w.heap.size, 10, none⟩) else undef), (10, bif d 5 then .agg (u8s 10 (tri t 10)) else undef), (11, bif d 6 then .int .i64 N else undef), (12, bif d 7 then .agg (u8s 10 (backF (tri t 10) N)) else undef), (13, bif d 8 then .pointer (some ⟨w.heap.size, 20, none⟩) else undef), (14, bif d 9 then .agg (u8s 10 (tri t 20)) else undef), (15, bif d 10 then .int .i64 N else undef), (16, bif d 11 then .agg (u8s 10 (backF (tri t 20) N)) else undef), (17, bif d 12 then .agg (u8s 30 (backT t N)) else undef)])
    (fun d _ w' => Has w w' [(u8s 30 t, 28), (bif d 13 then u8s 30 (backT t N) else u8s 30 (fun _ => 0), 28)]) (by kernel_rfl) (by kernel_rfl) ?h0_bt ?hs_bt ?hq_bt
  case h0_bt => exact ⟨(), (by simp [lput]), hH.drew⟩
  case hs_bt =>
    refine ⟨?_, ?_, ?_, ?_, ?_, ?_, ?_, ?_, ?_, ?_, ?_, ?_, ?_, ?_, trivial⟩
    all_goals
      clear hH
      intro d _ w1 hd hn hJ
      simp only [needs, Region.binds, reduceCtorEq, Bool.false_eq_true, false_implies, true_and, and_true, true_implies, forall_const] at hn
      simp only [lput, List.set, hn, cond_true]
      try simp only [hd, cond_false] at hJ
      have hH := hJ; clear hJ
      go_wp2_with (first | fail | (refine wpL_loadTri rfl rfl rfl rowPl hH.h0 (by omega) ?_) | (go_at_call 89; (with_reducible refine (l01Back_any _ N _ h10 (by first | with_reducible exact HA.out | with_reducible exact HB.out | with_reducible exact HC.out)).mono ?_); rintro e w3 ⟨rfl, hb⟩; replace hH := hH.call' hb; clear hb) | (refine wpL_build3 (T := 28) rfl (by rfl) (by rfl) (by rfl) (by rfl) (builtTr3 _ _ _) ?_) | (refine wpL_storeFull rfl rfl rfl rfl rowTr hH.h1 (u8s_size _ _) (u8s_ok _ _) ?_; replace hH := hH.r1 (cs' := u8s 30 (backT t N))))
      first
        | (refine ⟨(), ?_, hH⟩; (simp [lput, done, hn]; done))
        | (refine ⟨?_, hH⟩; (simp [lput, done, hn]; done))
        | (refine ⟨(), ?_, hH⟩; (simp [lput, done, hn]; rfl))
        | (refine ⟨?_, hH⟩; (simp [lput, done, hn]; rfl))
        | (refine ⟨(), ?_, hH⟩; (simp [lput, done]; done))
        | (refine ⟨?_, hH⟩; (simp [lput, done]; done))
        | (refine ⟨(), ?_, hH⟩; (simp [lput, done]; rfl))
        | (refine ⟨?_, hH⟩; (simp [lput, done]; rfl))
  case hq_bt =>
    clear hH
    intro d _ w1 hd hJ
    simp only [allDone, List.length_cons, List.length_nil, Nat.reduceAdd, and_true] at hd
    have hH := hJ; clear hJ
    simp only [hd, cond_true] at hH
    simp only [lput, List.set, hd, cond_true]
    clear hd
    go_wp2
    exact ret_c rfl rfl hH.h1 rowTr (u8s_size _ _) ⟨rfl, hH.below⟩
set_option maxRecDepth 20000 in
set_option maxHeartbeats 2000000 in
theorem turnTriple_any (t : Nat → UInt8) (N : Nat) (w : World) (hs : IsTri t N) :
    Calls Try.prog 59 #[.agg (u8s 30 t), .int .i64 N] w fun e w' => e = .returned (.agg (u8s 30 (backT t N))) ∧ Below w.heap.size w w' := by
  have HA := hid hs.a.lt10
  have HB := hid hs.b.lt10
  have HC := hid hs.c.lt10
  have h10 := hs.a.hi
  clear hs
  have hH := Has.start2 w (u8s 30 t) (u8s 30 fun _ => 0) 28 28
  go_enter Try.func59, Try.ntmps59
  go_wp2_with (first | (refine wpL_alloc rfl rfl zeroTr ?_; intro g hg; (try simp at hg); subst hg))
  refine wp_region_frame (X := Unit) (fun d _ => [(5, bif d 0 then .pointer (some ⟨w.heap.size, 0, none⟩) else undef), (6, bif d 1 then .agg (u8s 10 (tri t 0)) else undef), (7, bif d 2 then .int .i64 N else undef), (8, bif d 3 then .agg (u8s 10 (backF (tri t 0) N)) else undef), (9, bif d 4 then .pointer (some ⟨w.heap.size, 10, none⟩) else undef), (10, bif d 5 then .agg (u8s 10 (tri t 10)) else undef), (11, bif d 6 then .int .i64 N else undef), (12, bif d 7 then .agg (u8s 10 (backF (tri t 10) N)) else undef), (13, bif d 8 then .pointer (some ⟨w.heap.size, 20, none⟩) else undef), (14, bif d 9 then .agg (u8s 10 (tri t 20)) else undef), (15, bif d 10 then .int .i64 N else undef), (16, bif d 11 then .agg (u8s 10 (backF (tri t 20) N)) else undef), (17, bif d 12 then .agg (u8s 30 (backT t N)) else undef)])
    (fun d _ w' => Has w w' [(u8s 30 t, 28), (bif d 13 then u8s 30 (backT t N) else u8s 30 (fun _ => 0), 28)]) (by kernel_rfl) (by kernel_rfl) ?h0_bt ?hs_bt ?hq_bt
  case h0_bt => exact ⟨(), (by simp [lput]), hH.drew⟩
  case hs_bt =>
    refine ⟨?_, ?_, ?_, ?_, ?_, ?_, ?_, ?_, ?_, ?_, ?_, ?_, ?_, ?_, trivial⟩
    all_goals
      clear hH
      intro d _ w1 hd hn hJ
      simp only [needs, Region.binds, reduceCtorEq, Bool.false_eq_true, false_implies, true_and, and_true, true_implies, forall_const] at hn
      simp only [lput, List.set, hn, cond_true]
      try simp only [hd, cond_false] at hJ
      have hH := hJ; clear hJ
      go_wp2_with (first | fail | (refine wpL_loadTri rfl rfl rfl rowPl hH.h0 (by omega) ?_) | (go_at_call 90; (with_reducible refine (backOf_any _ N _ h10 (by first | with_reducible exact HA.out | with_reducible exact HB.out | with_reducible exact HC.out)).mono ?_); rintro e w3 ⟨rfl, hb⟩; replace hH := hH.call' hb; clear hb) | (refine wpL_build3 (T := 28) rfl (by rfl) (by rfl) (by rfl) (by rfl) (builtTr3 _ _ _) ?_) | (refine wpL_storeFull rfl rfl rfl rfl rowTr hH.h1 (u8s_size _ _) (u8s_ok _ _) ?_; replace hH := hH.r1 (cs' := u8s 30 (backT t N))))
      first
        | (refine ⟨(), ?_, hH⟩; (simp [lput, done, hn]; done))
        | (refine ⟨?_, hH⟩; (simp [lput, done, hn]; done))
        | (refine ⟨(), ?_, hH⟩; (simp [lput, done, hn]; rfl))
        | (refine ⟨?_, hH⟩; (simp [lput, done, hn]; rfl))
        | (refine ⟨(), ?_, hH⟩; (simp [lput, done]; done))
        | (refine ⟨?_, hH⟩; (simp [lput, done]; done))
        | (refine ⟨(), ?_, hH⟩; (simp [lput, done]; rfl))
        | (refine ⟨?_, hH⟩; (simp [lput, done]; rfl))
  case hq_bt =>
    clear hH
    intro d _ w1 hd hJ
    simp only [allDone, List.length_cons, List.length_nil, Nat.reduceAdd, and_true] at hd
    have hH := hJ; clear hJ
    simp only [hd, cond_true] at hH
    simp only [lput, List.set, hd, cond_true]
    clear hd
    go_wp2
    exact ret_c rfl rfl hH.h1 rowTr (u8s_size _ _) ⟨rfl, hH.below⟩
end Go.Proofs.Ytcmedefgpiegbab
