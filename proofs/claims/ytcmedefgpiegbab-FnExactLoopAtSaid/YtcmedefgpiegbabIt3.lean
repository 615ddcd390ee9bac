/- Proved: what IsotopeOf and IsAutotopism return, of program and model alike. Conditions: those that each theorem names. -/
import Derived.Test.YtcmedefgpiegbabIt2
namespace Go.Proofs.Ytcmedefgpiegbab
set_option linter.unusedVariables false
set_option linter.unusedSimpArgs false
open Go.RowKit
section
variable {P : Program} {ops : Array Oper} {rest : List Oper} {o : Oper} {a : Act} {w : World} {Q : Exit → Act → World → Prop}
theorem wpL_eqlAgg {T T' : Nat} {x y : Operand} {xs ys : Array Value} {b : Bool} (hgd : o.guard = none) (ho : o.op = .binOp .eql T x y T') (hx : a.eval x = .agg xs) (hy : a.eval y = .agg ys) (hG : P.eqGuardType P.depth T = false)
    (he : (Op.equalIn Op.maxDepth T (.agg xs) (.agg ys)).run P w = .ok b w) (h : wpList P ops Q rest (a.put o.dst (.bool b)) w) : wpList P ops Q (o :: rest) a w :=
  wpList_plain hgd fun K hK => by
    have hrun : (do eqGuard .eql T x y (.agg xs) (.agg ys); binOp .eql T (.agg xs) (.agg ys) : Sem Value).run P w = .ok (.bool b) w := by
      simp [eqGuard, binOp, Op.equal, Sem.run_bind, hG, he]
    unfold Oper.wp execOp
    simp only [ho, hx, hy]
    rw [Sem.run_bind, hrun]
    exact hK _ _ h
end
set_option maxRecDepth 20000 in
set_option maxHeartbeats 2000000 in
theorem l02Code_bad (o : Int) (g t : Nat → UInt8) (w : World) (hbad : (sqB o g && triB t o) = false) :
    Calls Try.prog 60 #[.agg (sqc o g), .agg (u8s 30 t)] w fun e w' => e = .returned (.int .i64 1) ∧ Below w.heap.size w w' := by
  have hH := Has.start2 w (sqc o g) (u8s 30 t) 41 28
  cases hs : sqB o g with
  | false =>
    go_enter Try.func60, Try.ntmps60
    go_wp2_with (first | (refine wpL_guard rfl rfl ?_) | (refine wpL_loadFull rfl rfl rfl rowSq hH.h0 (sqc_size _ _) ?_) | (refine wpL_loadFull rfl rfl rfl rowTr hH.h1 (u8s_size _ _) ?_) | (go_at_call 65; refine (l01Is_any _ _ _).mono ?_; rintro e w2 ⟨rfl, hb⟩; replace hH := hH.call' hb; clear hb; rw [hs]; have c0 := hH.c0 0; rw [sqc_get0] at c0))
    go_ret
    exact ⟨rfl, hH.below⟩
  | true =>
    have ht : triB t o = false := by simpa [hs] using hbad
    clear hbad
    go_enter Try.func60, Try.ntmps60
    go_wp2_with (first | (refine wpL_guard rfl rfl ?_) | (refine wpL_loadFull rfl rfl rfl rowSq hH.h0 (sqc_size _ _) ?_) | (refine wpL_loadFull rfl rfl rfl rowTr hH.h1 (u8s_size _ _) ?_) | (go_at_call 65; refine (l01Is_any _ _ _).mono ?_; rintro e w2 ⟨rfl, hb⟩; replace hH := hH.call' hb; clear hb; rw [hs]; have c0 := hH.c0 0; rw [sqc_get0] at c0) | (go_at_call 53; refine (l02Is_any _ _ _).mono ?_; rintro e w2 ⟨rfl, hb⟩; replace hH := hH.call' hb; clear hb; rw [ht]))
    go_ret
    exact ⟨rfl, hH.below⟩
set_option maxRecDepth 20000 in
set_option maxHeartbeats 2000000 in
theorem l02Code_good (o : Int) (g t : Nat → UInt8) (w : World) (hs : sqB o g = true) (ht : triB t o = true) :
    Calls Try.prog 60 #[.agg (sqc o g), .agg (u8s 30 t)] w fun e w' => e = .returned (.int .i64 0) ∧ Below w.heap.size w w' := by
  have hH := Has.start2 w (sqc o g) (u8s 30 t) 41 28
  go_enter Try.func60, Try.ntmps60
  go_wp2_with (first | (refine wpL_guard rfl rfl ?_) | (refine wpL_loadFull rfl rfl rfl rowSq hH.h0 (sqc_size _ _) ?_) | (refine wpL_loadFull rfl rfl rfl rowTr hH.h1 (u8s_size _ _) ?_) | (go_at_call 65; refine (l01Is_any _ _ _).mono ?_; rintro e w2 ⟨rfl, hb⟩; replace hH := hH.call' hb; clear hb; rw [hs]; have c0 := hH.c0 0; rw [sqc_get0] at c0) | (go_at_call 53; refine (l02Is_any _ _ _).mono ?_; rintro e w2 ⟨rfl, hb⟩; replace hH := hH.call' hb; clear hb; rw [ht]))
  go_ret
  exact ⟨rfl, hH.below⟩
set_option maxRecDepth 20000 in
set_option maxHeartbeats 2000000 in
theorem specIsotopeOf_bad (o : Int) (g t : Nat → UInt8) (w : World) (hbad : (sqB o g && triB t o) = false) :
    Calls Try.prog 23 #[.agg (sqc o g), .agg (u8s 30 t)] w fun e w' => e = .returned (.tuple #[.agg (sqc 0 fun _ => 0), .int .i64 1]) ∧ Below w.heap.size w w' := by
  have hH := Has.start3 w (sqc o g) (u8s 30 t) (sqc 0 fun _ => 0) 41 28 41
  go_enter Try.func23, Try.ntmps23
  go_wp2_with (first | (refine wpL_guard rfl rfl ?_) | (refine wpL_loadFull rfl rfl rfl rowSq hH.h0 (sqc_size _ _) ?_) | (refine wpL_loadFull rfl rfl rfl rowTr hH.h1 (u8s_size _ _) ?_) | (refine wpL_alloc rfl rfl zeroSq ?_; intro g hg; (try simp at hg); subst hg) | (go_at_call 60; refine (l02Code_bad o g t _ hbad).mono ?_; rintro e w2 ⟨rfl, hb⟩; replace hH := hH.call' hb; clear hb) | (refine wpL_build rfl rfl builtSq ?_) | (refine wpL_storeSame rfl rfl rfl rfl rowSq hH.h2 (sqc_ok _ _) ?_))
  exact ret_ct rfl rfl rfl hH.h2 rowSq (sqc_size _ _) ⟨rfl, hH.below⟩
set_option maxRecDepth 20000 in
set_option maxHeartbeats 2000000 in
theorem specIsotopeOf_good (N : Nat) (g t : Nat → UInt8) (w : World) (hs : sqB (N : Int) g = true) (ht : triB t (N : Int) = true) (hG : IsSq N g) (hT : IsTri t N) :
    Calls Try.prog 23 #[.agg (sqc N g), .agg (u8s 30 t)] w fun e w' => e = .returned (.tuple #[.agg (sqc N (isoP g t N N 0)), .int .i64 0]) ∧ Below w.heap.size w w' := by
  have HG := hid hG
  have HT := hid hT
  clear hG hT
  have hH := Has.start3 w (sqc N g) (u8s 30 t) (sqc 0 fun _ => 0) 41 28 41
  go_enter Try.func23, Try.ntmps23
  go_wp2_with (first | (refine wpL_guard rfl rfl ?_) | (refine wpL_loadFull rfl rfl rfl rowSq hH.h0 (sqc_size _ _) ?_) | (refine wpL_loadFull rfl rfl rfl rowTr hH.h1 (u8s_size _ _) ?_) | (refine wpL_alloc rfl rfl zeroSq ?_; intro g hg; (try simp at hg); subst hg) | (go_at_call 60; refine (l02Code_good N g t _ hs ht).mono ?_; rintro e w2 ⟨rfl, hb⟩; replace hH := hH.call' hb; clear hb) | (go_at_call 61; refine (l02Isotope_any N g t _ HG.out HT.out).mono ?_; rintro e w2 ⟨rfl, hb⟩; replace hH := hH.call' hb; clear hb) | (refine wpL_storeFull rfl rfl rfl rfl rowSq hH.h2 (sqc_size _ _) (sqc_ok _ _) ?_))
  exact ret_ct rfl rfl rfl hH.r2.h2 rowSq (sqc_size _ _) ⟨rfl, hH.r2.below⟩
set_option maxRecDepth 20000 in
set_option maxHeartbeats 2000000 in
theorem implIsotopeOf_bad (o : Int) (g t : Nat → UInt8) (w : World) (hbad : (sqB o g && triB t o) = false) :
    Calls Try.prog 25 #[.agg (sqc o g), .agg (u8s 30 t)] w fun e w' => e = .returned (.tuple #[.agg (sqc 0 fun _ => 0), .int .i64 1]) ∧ Below w.heap.size w w' := by
  have hH := Has.start3 w (sqc o g) (u8s 30 t) (sqc 0 fun _ => 0) 41 28 41
  cases hs : sqB o g with
  | false =>
    go_enter Try.func25, Try.ntmps25
    go_wp2_with (first | (refine wpL_guard rfl rfl ?_) | (refine wpL_loadFull rfl rfl rfl rowSq hH.h0 (sqc_size _ _) ?_) | (refine wpL_loadFull rfl rfl rfl rowTr hH.h1 (u8s_size _ _) ?_) | (refine wpL_alloc rfl rfl zeroSq ?_; intro g hg; (try simp at hg); subst hg) | (go_at_call 38; refine (IsSquare_any _ _ _).mono ?_; rintro e w2 ⟨rfl, hb⟩; replace hH := hH.call' hb; clear hb; rw [hs]; have c0 := hH.c0 0; rw [sqc_get0] at c0) | (refine wpL_build rfl rfl builtSq ?_) | (refine wpL_storeSame rfl rfl rfl rfl rowSq hH.h2 (sqc_ok _ _) ?_))
    exact ret_ct rfl rfl rfl hH.h2 rowSq (sqc_size _ _) ⟨rfl, hH.below⟩
  | true =>
    have ht : triB t o = false := by simpa [hs] using hbad
    clear hbad
    go_enter Try.func25, Try.ntmps25
    go_wp2_with (first | (refine wpL_guard rfl rfl ?_) | (refine wpL_loadFull rfl rfl rfl rowSq hH.h0 (sqc_size _ _) ?_) | (refine wpL_loadFull rfl rfl rfl rowTr hH.h1 (u8s_size _ _) ?_) | (refine wpL_alloc rfl rfl zeroSq ?_; intro g hg; (try simp at hg); subst hg) | (go_at_call 38; refine (IsSquare_any _ _ _).mono ?_; rintro e w2 ⟨rfl, hb⟩; replace hH := hH.call' hb; clear hb; rw [hs]; have c0 := hH.c0 0; rw [sqc_get0] at c0) | (go_at_call 17; refine (IsTriple_any _ _ _).mono ?_; rintro e w2 ⟨rfl, hb⟩; replace hH := hH.call' hb; clear hb; rw [ht]) | (refine wpL_build rfl rfl builtSq ?_) | (refine wpL_storeSame rfl rfl rfl rfl rowSq hH.h2 (sqc_ok _ _) ?_))
    exact ret_ct rfl rfl rfl hH.h2 rowSq (sqc_size _ _) ⟨rfl, hH.below⟩
set_option maxRecDepth 20000 in
set_option maxHeartbeats 2000000 in
theorem implIsotopeOf_good (N : Nat) (g t : Nat → UInt8) (w : World) (hs : sqB (N : Int) g = true) (ht : triB t (N : Int) = true) (hG : IsSq N g) (hT : IsTri t N) :
    Calls Try.prog 25 #[.agg (sqc N g), .agg (u8s 30 t)] w fun e w' => e = .returned (.tuple #[.agg (sqc N (isoP g t N N 0)), .int .i64 0]) ∧ Below w.heap.size w w' := by
  have HG := hid hG
  have HT := hid hT
  clear hG hT
  have hH := Has.start3 w (sqc N g) (u8s 30 t) (sqc 0 fun _ => 0) 41 28 41
  go_enter Try.func25, Try.ntmps25
  go_wp2_with (first | (refine wpL_guard rfl rfl ?_) | (refine wpL_loadFull rfl rfl rfl rowSq hH.h0 (sqc_size _ _) ?_) | (refine wpL_loadFull rfl rfl rfl rowTr hH.h1 (u8s_size _ _) ?_) | (refine wpL_alloc rfl rfl zeroSq ?_; intro g hg; (try simp at hg); subst hg) | (go_at_call 38; refine (IsSquare_any _ _ _).mono ?_; rintro e w2 ⟨rfl, hb⟩; replace hH := hH.call' hb; clear hb; rw [hs]; have c0 := hH.c0 0; rw [sqc_get0] at c0) | (go_at_call 17; refine (IsTriple_any _ _ _).mono ?_; rintro e w2 ⟨rfl, hb⟩; replace hH := hH.call' hb; clear hb; rw [ht]) | (go_at_call 63; refine (isotopeBy_any N g t _ HG.out HT.out).mono ?_; rintro e w2 ⟨rfl, hb⟩; replace hH := hH.call' hb; clear hb) | (refine wpL_storeFull rfl rfl rfl rfl rowSq hH.h2 (sqc_size _ _) (sqc_ok _ _) ?_))
  exact ret_ct rfl rfl rfl hH.r2.h2 rowSq (sqc_size _ _) ⟨rfl, hH.r2.below⟩
end Go.Proofs.Ytcmedefgpiegbab
