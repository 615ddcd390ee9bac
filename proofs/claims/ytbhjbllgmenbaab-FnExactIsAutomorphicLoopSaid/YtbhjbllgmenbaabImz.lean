/- Proved: what the lists of inner maps of a loop are, and what IsAutomorphicLoop returns, of program and model alike. Conditions: those that each theorem names. -/
import Derived.Test.YtbhjbllgmenbaabTn3
import Derived.Test.YtbhjbllgmenbaabCc
import Derived.Test.YtbhjbllgmenbaabPt
import Derived.Test.YtbhjbllgmenbaabIt2
import Derived.Test.YtbhjbllgmenbaabLx
namespace Go.Proofs.Ytbhjbllgmenbaab
set_option linter.unusedVariables false
set_option linter.unusedSimpArgs false
open Go.RowKit
/-- The i-th of the maps: for each x its turn, then L(x, y) and R(x, y) for each y. -/
def imM (g : Nat → UInt8) (N i : Nat) : Nat → UInt8 :=
  if i % (2 * N + 1) = 0 then tuF g N (i / (2 * N + 1))
  else if i % (2 * N + 1) % 2 = 1 then liF g N (i / (2 * N + 1)) (i % (2 * N + 1) / 2)
  else riF g N (i / (2 * N + 1)) (i % (2 * N + 1) / 2 - 1)
/-- The cells of all of them. -/
def inF (g : Nat → UInt8) (N : Nat) : Nat → UInt8 := fun p => imM g N (p / 10) (p % 10)
theorem inF_at (g : Nat → UInt8) (N i : Nat) {j : Nat} (hj : j < 10) : inF g N (i * 10 + j) = imM g N i j := by
  unfold inF
  rw [show (i * 10 + j) / 10 = i by omega, show (i * 10 + j) % 10 = j by omega]
section
variable {g : Nat → UInt8} {N x y : Nat}
theorem row_mod (r : Nat) (hr : r < 2 * N + 1) : (x * (2 * N + 1) + r) % (2 * N + 1) = r := by
  rw [Nat.add_comm, Nat.add_mul_mod_self_right, Nat.mod_eq_of_lt hr]
theorem row_div (r : Nat) (hr : r < 2 * N + 1) : (x * (2 * N + 1) + r) / (2 * N + 1) = x := by
  rw [Nat.add_comm, Nat.add_mul_div_right _ _ (by omega), Nat.div_eq_of_lt hr, Nat.zero_add]
theorem imM_tu : imM g N (x * (2 * N + 1)) = tuF g N x := by
  have h1 := row_mod (N := N) (x := x) 0 (by omega)
  have h2 := row_div (N := N) (x := x) 0 (by omega)
  rw [Nat.add_zero] at h1 h2
  unfold imM
  rw [h1, h2, if_pos rfl]
theorem imM_li (hy : y < N) : imM g N (x * (2 * N + 1) + (1 + 2 * y)) = liF g N x y := by
  unfold imM
  rw [row_mod _ (by omega), row_div _ (by omega), if_neg (by omega), if_pos (by omega), show (1 + 2 * y) / 2 = y by omega]
theorem imM_ri (hy : y < N) : imM g N (x * (2 * N + 1) + (2 + 2 * y)) = riF g N x y := by
  unfold imM
  rw [row_mod _ (by omega), row_div _ (by omega), if_neg (by omega), if_neg (by omega), show (2 + 2 * y) / 2 - 1 = y by omega]
theorem backF_zero {p : Nat → UInt8} {z : Nat} (h : IsPerm p N) (hz : N ≤ z) : ∀ k, k ≤ N → backF p k z = 0
  | 0, _ => rfl
  | k + 1, hk => by
    show (if z = (p k).toNat then UInt8.ofNat k else backF p k z) = 0
    rw [if_neg (by have := h.lt k (by omega); omega), backF_zero h hz k (by omega)]
theorem backF_perm {p : Nat → UInt8} (h : IsPerm p N) : IsPerm (backF p N) N :=
  ⟨h.lo, h.hi, fun i hi => by
    obtain ⟨y, hy, _, e⟩ := backF_of h i hi
    omega, fun i j hij hj e => by
    obtain ⟨y, hy, e1, e2⟩ := backF_of h i (by omega)
    obtain ⟨z, hz, e3, e4⟩ := backF_of h j hj
    have : y = z := by omega
    subst this
    omega, fun i hi h10 => (by rw [backF_zero h hi N (Nat.le_refl _)]; rfl)⟩
theorem imM_perm (h : IsSq N g) (i : Nat) (hi : i < N * (2 * N + 1)) : IsPerm (imM g N i) N := by
  have hx : i / (2 * N + 1) < N := (Nat.div_lt_iff_lt_mul (by omega)).2 hi
  have hr := Nat.mod_lt i (show 0 < 2 * N + 1 by omega)
  generalize i / (2 * N + 1) = x at hx
  unfold imM
  split
  · exact thenF_perm (h.rows _ (by rename_i e; exact (Nat.div_lt_iff_lt_mul (by omega)).2 hi)) (backF_perm (h.cols _ ((Nat.div_lt_iff_lt_mul (by omega)).2 hi)))
  · have hx := (Nat.div_lt_iff_lt_mul (show 0 < 2 * N + 1 by omega)).2 hi
    split
    · have hy : i % (2 * N + 1) / 2 < N := by omega
      exact thenF_perm (thenF_perm (h.rows _ hx) (h.rows _ hy)) (backF_perm (h.rows _ (h.lt' hy hx)))
    · have hy : i % (2 * N + 1) / 2 - 1 < N := by omega
      exact thenF_perm (thenF_perm (h.cols _ hx) (h.cols _ hy)) (backF_perm (h.cols _ (h.lt' hx hy)))
end
/-- Two maps, one behind the other. -/
def twoF (p q : Nat → UInt8) : Nat → UInt8 := fun i => if i < 10 then p i else q (i - 10)
theorem builtP2 (p q : Nat → UInt8) : (Try.prog).builtSlice 97 2 [(0, Value.agg (u8s 10 p)), (1, Value.agg (u8s 10 q))] = some (u8s 20 (twoF p q)) := by kernel_rfl
section
variable {ops : Array Oper} {rest : List Oper} {o : Oper} {a : Act} {w : World} {Q : Exit → Act → World → Prop}
theorem wpL_sliceP2 {x y : Operand} {p q : Nat → UInt8} (hgd : o.guard = none) (ho : o.op = .buildSlice 48 2 #[(0, x), (1, y)]) (hx : a.eval x = .agg (u8s 10 p)) (hy : a.eval y = .agg (u8s 10 q))
    (h : ∀ g w', PRow w' g 2 (twoF p q) → w.heap.size = g → Below w.heap.size w w' → wpList Try.prog ops Q rest (a.put o.dst (.slice (some ⟨g, 0, none⟩) 2 2)) w') : wpList Try.prog ops Q (o :: rest) a w := by
  refine Great.wpList_buildSliceTo hgd 48 97 2 _ ho _ rfl o.dst rfl Try.underlying48 (u8s 20 (twoF p q)) ?_ (h _ _ ⟨_, holds_new _ _ _, by simp, fun i hi => u8s_get 20 _ i (by omega)⟩ rfl ((Below.refl _ _).alloc (Nat.le_refl _) _))
  have hp : ((#[(0, x), (1, y)] : Array (Nat × Operand)).map fun (i, x) => (i, a.eval x)).toList = [(0, Value.agg (u8s 10 p)), (1, Value.agg (u8s 10 q))] := by simp [hx, hy]
  rw [hp]
  exact builtP2 p q
end
theorem imp_nq {p q : Bool} (h : p = true → q = true) (hq : q = false) : p = false := by
  cases p with
  | false => rfl
  | true => rw [h rfl] at hq; cases hq
/-- What is not known ahead of the appending of two maps: the block of both, and the list's. -/
structure IQ where
  b : Nat
  r : Nat
  cap : Nat
end Go.Proofs.Ytbhjbllgmenbaab
namespace Go.Proofs.Ytbhjbllgmenbaab
set_option linter.unusedVariables false
set_option linter.unusedSimpArgs false
open Go.RowKit
set_option maxRecDepth 20000 in
set_option maxHeartbeats 4000000 in
theorem innerMaps_any (N : Nat) (g : Nat → UInt8) (w : World) (hq : IsSq N g) :
    Calls Try.prog 71 #[.agg (sqc N g)] w (GotP (N * (2 * N + 1)) (inF g N) w) := by
  have h10 := hq.hi
  have HQ := hid hq
  clear hq
  have hN10 : (N : Int) ≤ 10 := by omega
  obtain ⟨M, hM⟩ : ∃ M, 2 * N + 1 = M := ⟨_, rfl⟩
  have hM21 : M ≤ 21 := by omega
  have HTU := hid (fun x j (hj : j < 10) => (show inF g N (x * M * 10 + j) = tuF g N x j by rw [inF_at _ _ _ hj, ← hM, imM_tu]))
  have HTW := hid (fun x y (hy : y < N) j (hj : j < 2 * 10) => (show inF g N ((x * M + (1 + 2 * y)) * 10 + j) = twoF (liF g N x y) (riF g N x y) j by
    unfold twoF
    by_cases h : j < 10
    · rw [if_pos h, inF_at _ _ _ h, ← hM, imM_li hy]
    · obtain ⟨i, rfl⟩ : ∃ i, j = i + 10 := ⟨j - 10, by omega⟩
      rw [if_neg h, show (x * M + (1 + 2 * y)) * 10 + (i + 10) = (x * M + (2 + 2 * y)) * 10 + i by omega, inF_at _ _ _ (by omega), ← hM, imM_ri hy, Nat.add_sub_cancel]))
  have hXM := hid (fun x (hx : x ≤ N) => (show x * M ≤ 210 from Nat.le_trans (Nat.mul_le_mul (Nat.le_trans hx h10) hM21) (Nat.le_refl _)))
  have HSUC := hid (fun x => Nat.succ_mul x M)
  have hMN := hid hM
  clear hM
  have hH := Has.start1 w (sqc N g) 32
  have c0 := hH.c0 0
  rw [sqc_get0] at c0
  go_enter Try.func71, Try.ntmps71
  go_wp2
  clear c0
  go_loopw [3, 9] (fun v i wr => ∃ k : Nat, k ≤ N ∧ i = .int .u8 k ∧ Has w wr [(sqc N g, 32)] ∧ Hid (OP wr (w.heap.size + 1) v (k * M) (inF g N))) (fun _ i _ => 20 - (intOf i).toNat)
  case atStart => exact ⟨0, by omega, rfl, hH, hid (by rw [Nat.zero_mul]; exact OP.nil _ _ _)⟩
  case round =>
    clear hH
    obtain ⟨k, hk, rfl, hH, hO⟩ := hrel
    have hsz := hH.size
    simp only [List.length_cons, List.length_nil] at hsz
    obtain ⟨B, hB⟩ : ∃ B, k * M = B := ⟨_, rfl⟩
    have hBb := hXM.out k hk
    rw [hB] at hO hBb
    by_cases hlt : k < N
    · have hk1 : (k : Int) < N := by omega
      have hk256 : (k : Int) < 256 := by omega
      have ht := HTU.out k
      have htw := HTW.out k
      have hsu := HSUC.out k
      rw [hB] at ht htw hsu
      have HT := hid ht
      have HW := hid htw
      have HS := hid hsu
      have cz : wr.cell? ⟨w.heap.size, 0, none⟩ = some (.int .i64 N) := by rw [hH.c0, sqc_get0]
      obtain ⟨ku, hku⟩ : ∃ ku : UInt8, ku.toNat = k := ⟨UInt8.ofNat k, u8_of k (by omega)⟩
      subst hku
      clear ht htw hsu hB
      go_wp2_with (first | fail | (refine wpL_loadFull rfl rfl rfl rowSq hH.h0 (sqc_size _ _) ?_) | (go_at_call 120; refine (turnMap_any N g ku _ HQ.out hlt).mono ?_; rintro e w3 ⟨rfl, hb⟩; replace hH := hH.call' hb; replace hO := hid (hO.out.below hb); have hs3 := hb.size; clear hb cz) | (refine wpL_sliceP (f := tuF g N ku.toNat) rfl (by rfl) (by rfl) ?_) | (refine wpL_appP (v := u3) (n := B) (base := w.heap.size + 1) (f := tuF g N ku.toNat) rfl (by rfl) (inF g N) (by rfl) (by rfl) (hO.out.alloc _) (holds_new _ _ _) (by omega) (by simp; omega) (fun i _ => rfl) (fun j hj => HT.out j hj) ?_; intro r cap w2 how hg hor hlt3; have hO2 := hid how; replace hH := (hH.alloc _).grown hg (fun x hx => by have := (World.ownsRow.lt hO.out x hx).1; simp; omega); clear how hg hor hlt3 hO; have cz : w2.cell? ⟨w.heap.size, 0, none⟩ = some (.int .i64 N) := (by rw [hH.c0, sqc_get0])))
      clear cz
      go_loopw [3, 21] (fun v i wr => ∃ j : Nat, j ≤ N ∧ i = .int .u8 j ∧ Has w wr [(sqc N g, 32)] ∧ Hid (OP wr (w.heap.size + 1) v (B + (1 + 2 * j)) (inF g N))) (fun _ i _ => 20 - (intOf i).toNat)
      case atStart => exact ⟨0, by omega, rfl, hH, hO2⟩
      case round =>
        clear hH hO2 hsz
        obtain ⟨j, hj, rfl, hH, hO⟩ := hrel
        have hsz := hH.size
        simp only [List.length_cons, List.length_nil] at hsz
        obtain ⟨n, hn⟩ : ∃ n, B + (1 + 2 * j) = n := ⟨_, rfl⟩
        rw [hn] at hO
        have HNN := hid hn
        have hn300 : n ≤ 300 := by omega
        by_cases hjl : j < N
        · have hj1 : (j : Int) < N := by omega
          have hW := HW.out j hjl
          rw [hn] at hW
          have HWJ := hid hW
          obtain ⟨ju, hju⟩ : ∃ ju : UInt8, ju.toNat = j := ⟨UInt8.ofNat j, u8_of j (by omega)⟩
          subst hju
          obtain ⟨li, hli⟩ : ∃ f, liF g N ku.toNat ju.toNat = f := ⟨_, rfl⟩
          obtain ⟨ri, hri⟩ : ∃ f, riF g N ku.toNat ju.toNat = f := ⟨_, rfl⟩
          rw [hli, hri] at HWJ
          have HLI := hid hli
          have HRI := hid hri
          clear hn hW hli hri
          go_wp2
          refine wp_region_frame (X := IQ) (fun d x => [(24, bif d 0 then u3 else u24), (25, bif d 1 then .agg (sqc N g) else u25), (26, bif d 2 then .int .u8 ku.toNat else u26), (27, bif d 3 then .int .u8 ju.toNat else u27), (28, bif d 4 then .agg (u8s 10 li) else u28), (29, bif d 5 then .agg (sqc N g) else u29), (30, bif d 6 then .int .u8 ku.toNat else u30), (31, bif d 7 then .int .u8 ju.toNat else u31), (32, bif d 8 then .agg (u8s 10 ri) else u32), (33, bif d 9 then .slice (some ⟨x.b, 0, none⟩) 2 2 else u33), (34, bif d 10 then .slice (some ⟨x.r, 0, none⟩) (n + 2) x.cap else u34), (3, bif d 11 then .slice (some ⟨x.r, 0, none⟩) (n + 2) x.cap else u3)])
            (fun d x w' => Has w w' [(sqc N g, 32)] ∧ (d 10 = false → Hid (OP w' (w.heap.size + 1) u3 n (inF g N))) ∧ (d 10 = true → Hid (OP w' (w.heap.size + 1) (.slice (some ⟨x.r, 0, none⟩) (n + 2) x.cap) (n + 2) (inF g N))) ∧ (d 9 = true → PRow w' x.b 2 (twoF li ri) ∧ u3.ownBlock ≠ some x.b) ∧ (d 10 = true → d 9 = true) ∧ (d 11 = true → d 10 = true) ∧ (d 10 = true → d 0 = true)) (by kernel_rfl) (by kernel_rfl) ?h0_im ?hs_im ?hq_im
          case h0_im => exact ⟨⟨0, 0, 0⟩, (by simp [lput]), hH.drew, (fun _ => hid (hO.out.kept fun _ _ => rfl)), (fun h => by cases h), (fun h => by cases h), (fun h => by cases h), (fun h => by cases h), (fun h => by cases h)⟩
          case hs_im =>
            refine ⟨?_, ?_, ?_, ?_, ?_, ?_, ?_, ?_, ?_, ?_, ?_, ?_, trivial⟩
            all_goals
              clear hH hO
              intro d x w1 hd hn hJ
              simp only [needs, Region.binds, reduceCtorEq, Bool.false_eq_true, false_implies, true_and, and_true, true_implies, forall_const] at hn
              simp only [lput, List.set, hn, cond_true]
              obtain ⟨hH, hO, hP, hS, I10_9, I11_10, I10_0⟩ := hJ
              (try have hP_ := hP (by simp only [hn]))
              (try have hS_ := hS (by simp only [hn]))
              (try have hO_ := hO hd)
              have zz := hH.size
              simp only [List.length_cons, List.length_nil] at zz
              go_wp2_with (first | fail | (refine wpL_loadFull rfl rfl rfl rowSq hH.h0 (sqc_size _ _) ?_) | (go_at_call 121; refine (leftInner_any N g ku ju _ HQ.out hlt hjl).mono ?_; rintro e w3 ⟨rfl, hb⟩; rw [HLI.out]; replace hH := hH.call' hb; replace hO := fun e => hid ((hO e).out.below hb); replace hP := fun e => hid ((hP e).out.below hb); replace hS := fun e => And.intro ((hS e).1.below hb) (hS e).2; clear hb) | (go_at_call 122; refine (rightInner_any N g ku ju _ HQ.out hlt hjl).mono ?_; rintro e w3 ⟨rfl, hb⟩; rw [HRI.out]; replace hH := hH.call' hb; replace hO := fun e => hid ((hO e).out.below hb); replace hP := fun e => hid ((hP e).out.below hb); replace hS := fun e => And.intro ((hS e).1.below hb) (hS e).2; clear hb) | (refine wpL_sliceP2 (p := li) (q := ri) rfl (by rfl) (by rfl) (by rfl) ?_; intro g2 w2 hPn hgn hb; have z10 : d 10 = false := (by first | exact imp_nq I10_9 hd | exact imp_nq I10_9 rfl); have hne : u3.ownBlock ≠ some g2 := (fun e => by have := (World.ownsRow.lt (hO z10).out g2 e).2; omega); replace hH := hH.call' hb; replace hO := fun e => hid ((hO e).out.below hb); clear hb) | (refine wpL_appPs (v := u3) (n := n) (m := 2) (base := w.heap.size + 1) (F := inF g N) (f := twoF li ri) rfl (by rfl) (inF g N) (by rfl) (by rfl) hO_.out hS_.1 (by omega) (by omega) (by omega) (by omega) (fun i _ => rfl) (fun j hj => HWJ.out j hj) ?_; intro r cap w2 how hg hor hlt3; have hS2 := hS_.1.grown hg hS_.2; replace hH := hH.grown hg (fun x hx => by have := (World.ownsRow.lt hO_.out x hx).1; simp; omega); clear hg hor hlt3))
              first
                | (refine ⟨{ x with b := g2 }, ?_, hH, (fun e => hO (done_no e)), (fun e => by simp [done, z10] at e), (fun _ => ⟨hPn, hne⟩), (by intro e; first | (simp [done]; done) | (simp [done, hn]; done) | (have e2 := I10_9 (done_ne e (by decide)); simp [done, e2]; done)), (by intro e; first | (simp [done]; done) | (simp [done, hn]; done) | (have e2 := I11_10 (done_ne e (by decide)); simp [done, e2]; done)), (by intro e; first | (simp [done]; done) | (simp [done, hn]; done) | (have e2 := I10_0 (done_ne e (by decide)); simp [done, e2]; done))⟩; (simp [lput, done, hn, z10, imp_nq I11_10 z10]; done))
                | (have z11 : d 11 = false := (by first | exact imp_nq I11_10 hd | exact imp_nq I11_10 rfl); refine ⟨{ x with r := r, cap := cap }, ?_, hH, (fun e => by simp [done] at e), (fun _ => hid how), (fun _ => ⟨hS2, hS_.2⟩), (by intro e; first | (simp [done]; done) | (simp [done, hn]; done) | (have e2 := I10_9 (done_ne e (by decide)); simp [done, e2]; done)), (by intro e; first | (simp [done]; done) | (simp [done, hn]; done) | (have e2 := I11_10 (done_ne e (by decide)); simp [done, e2]; done)), (by intro e; first | (simp [done]; done) | (simp [done, hn]; done) | (have e2 := I10_0 (done_ne e (by decide)); simp [done, e2]; done))⟩; (simp [lput, done, hn, z11]; done))
                | (have z11 : d 11 = false := (by first | exact imp_nq I11_10 (imp_nq I10_0 hd) | exact imp_nq I11_10 (imp_nq I10_0 rfl)); refine ⟨x, ?_, hH, (fun e => hO (done_no e)), (fun e => hP (done_ne e (by decide))), (fun e => hS (done_ne e (by decide))), (by intro e; first | (simp [done]; done) | (simp [done, hn]; done) | (have e2 := I10_9 (done_ne e (by decide)); simp [done, e2]; done)), (by intro e; first | (simp [done]; done) | (simp [done, hn]; done) | (have e2 := I11_10 (done_ne e (by decide)); simp [done, e2]; done)), (by intro e; first | (simp [done]; done) | (simp [done, hn]; done) | (have e2 := I10_0 (done_ne e (by decide)); simp [done, e2]; done))⟩; (simp [lput, done, hn, z11]; done))
                | (refine ⟨x, ?_, hH, (fun e => hO (done_no e)), (fun e => hP (done_ne e (by decide))), (fun e => hS (done_ne e (by decide))), (by intro e; first | (simp [done]; done) | (have e2 := I10_9 (done_ne e (by decide)); simp [done, e2]; done) | (simp [done, hn]; done)), (by intro e; first | (simp [done]; done) | (have e2 := I11_10 (done_ne e (by decide)); simp [done, e2]; done) | (simp [done, hn]; done)), (by intro e; first | (simp [done]; done) | (have e2 := I10_0 (done_ne e (by decide)); simp [done, e2]; done) | (simp [done, hn]; done))⟩; (simp [lput, done, hn]; done))
                | (refine ⟨?_, hH, (fun e => hO (done_no e)), (fun e => hP (done_ne e (by decide))), (fun e => hS (done_ne e (by decide))), (by intro e; first | (simp [done]; done) | (have e2 := I10_9 (done_ne e (by decide)); simp [done, e2]; done) | (simp [done, hn]; done)), (by intro e; first | (simp [done]; done) | (have e2 := I11_10 (done_ne e (by decide)); simp [done, e2]; done) | (simp [done, hn]; done)), (by intro e; first | (simp [done]; done) | (have e2 := I10_0 (done_ne e (by decide)); simp [done, e2]; done) | (simp [done, hn]; done))⟩; (simp [lput, done, hn]; done))
                | (refine ⟨x, ?_, hH, (fun e => hO (done_no e)), (fun e => hP (done_ne e (by decide))), (fun e => hS (done_ne e (by decide))), (by intro e; first | (simp [done]; done) | (have e2 := I10_9 (done_ne e (by decide)); simp [done, e2]; done) | (simp [done, hn]; done)), (by intro e; first | (simp [done]; done) | (have e2 := I11_10 (done_ne e (by decide)); simp [done, e2]; done) | (simp [done, hn]; done)), (by intro e; first | (simp [done]; done) | (have e2 := I10_0 (done_ne e (by decide)); simp [done, e2]; done) | (simp [done, hn]; done))⟩; (simp [lput, done, hn]; rfl))
                | (refine ⟨?_, hH, (fun e => hO (done_no e)), (fun e => hP (done_ne e (by decide))), (fun e => hS (done_ne e (by decide))), (by intro e; first | (simp [done]; done) | (have e2 := I10_9 (done_ne e (by decide)); simp [done, e2]; done) | (simp [done, hn]; done)), (by intro e; first | (simp [done]; done) | (have e2 := I11_10 (done_ne e (by decide)); simp [done, e2]; done) | (simp [done, hn]; done)), (by intro e; first | (simp [done]; done) | (have e2 := I10_0 (done_ne e (by decide)); simp [done, e2]; done) | (simp [done, hn]; done))⟩; (simp [lput, done, hn]; rfl))
                | (refine ⟨x, ?_, hH, (fun e => hO (done_no e)), (fun e => hP (done_ne e (by decide))), (fun e => hS (done_ne e (by decide))), (by intro e; first | (simp [done]; done) | (have e2 := I10_9 (done_ne e (by decide)); simp [done, e2]; done) | (simp [done, hn]; done)), (by intro e; first | (simp [done]; done) | (have e2 := I11_10 (done_ne e (by decide)); simp [done, e2]; done) | (simp [done, hn]; done)), (by intro e; first | (simp [done]; done) | (have e2 := I10_0 (done_ne e (by decide)); simp [done, e2]; done) | (simp [done, hn]; done))⟩; (simp [lput, done]; done))
                | (refine ⟨?_, hH, (fun e => hO (done_no e)), (fun e => hP (done_ne e (by decide))), (fun e => hS (done_ne e (by decide))), (by intro e; first | (simp [done]; done) | (have e2 := I10_9 (done_ne e (by decide)); simp [done, e2]; done) | (simp [done, hn]; done)), (by intro e; first | (simp [done]; done) | (have e2 := I11_10 (done_ne e (by decide)); simp [done, e2]; done) | (simp [done, hn]; done)), (by intro e; first | (simp [done]; done) | (have e2 := I10_0 (done_ne e (by decide)); simp [done, e2]; done) | (simp [done, hn]; done))⟩; (simp [lput, done]; done))
                | (refine ⟨x, ?_, hH, (fun e => hO (done_no e)), (fun e => hP (done_ne e (by decide))), (fun e => hS (done_ne e (by decide))), (by intro e; first | (simp [done]; done) | (have e2 := I10_9 (done_ne e (by decide)); simp [done, e2]; done) | (simp [done, hn]; done)), (by intro e; first | (simp [done]; done) | (have e2 := I11_10 (done_ne e (by decide)); simp [done, e2]; done) | (simp [done, hn]; done)), (by intro e; first | (simp [done]; done) | (have e2 := I10_0 (done_ne e (by decide)); simp [done, e2]; done) | (simp [done, hn]; done))⟩; (simp [lput, done]; rfl))
                | (refine ⟨?_, hH, (fun e => hO (done_no e)), (fun e => hP (done_ne e (by decide))), (fun e => hS (done_ne e (by decide))), (by intro e; first | (simp [done]; done) | (have e2 := I10_9 (done_ne e (by decide)); simp [done, e2]; done) | (simp [done, hn]; done)), (by intro e; first | (simp [done]; done) | (have e2 := I11_10 (done_ne e (by decide)); simp [done, e2]; done) | (simp [done, hn]; done)), (by intro e; first | (simp [done]; done) | (have e2 := I10_0 (done_ne e (by decide)); simp [done, e2]; done) | (simp [done, hn]; done))⟩; (simp [lput, done]; rfl))
          case hq_im =>
            clear hH hO
            intro d x w1 hd hJ
            simp only [allDone, List.length_cons, List.length_nil, Nat.reduceAdd, and_true] at hd
            obtain ⟨hH, hO, hP, hS, I10_9, I11_10, I10_0⟩ := hJ
            replace hP := hP (by simp only [hd])
            replace hS := hS (by simp only [hd])
            clear hO
            clear I10_9
            clear I11_10
            clear I10_0
            simp only [lput, List.set, hd, cond_true]
            clear hd
            go_wp2
            go_roundw
            case rel => exact ⟨ju.toNat + 1, by omega, by go_num, hH, by rw [show B + (1 + 2 * (ju.toNat + 1)) = n + 2 by have := HNN.out; omega]; exact hP⟩
            case measure => simp [intOf]; omega
        · obtain rfl : j = N := by omega
          have e := HS.out
          go_wp2
          go_roundw
          case rel => exact ⟨ku.toNat + 1, by omega, by go_num, hH, by rw [show (ku.toNat + 1) * M = n by rw [Nat.succ_eq_add_one] at e; have := HNN.out; have := hMN.out; omega]; exact hO⟩
          case measure => simp [intOf]; omega
    · obtain rfl : k = N := by omega
      have hBN : k * (2 * k + 1) = B := by rw [hMN.out, hB]
      go_wp2
      go_ret
      rw [hBN]
      exact ⟨_, rfl, hH.below, hO.out.lower (by omega)⟩
end Go.Proofs.Ytbhjbllgmenbaab
namespace Go.Proofs.Ytbhjbllgmenbaab
set_option linter.unusedVariables false
set_option linter.unusedSimpArgs false
open Go.RowKit
/-- The m maps G are those among the first t of the maps F. -/
structure Among (m : Nat) (G : Nat → UInt8) (t : Nat) (F : Nat → UInt8) : Prop where
  of : ∀ k, k < m → ∃ i, i < t ∧ ∀ j, j < 10 → G (k * 10 + j) = F (i * 10 + j)
  all : ∀ i, i < t → ∃ k, k < m ∧ ∀ j, j < 10 → G (k * 10 + j) = F (i * 10 + j)
theorem Among.start (G F : Nat → UInt8) : Among 0 G 0 F := ⟨fun k hk => by omega, fun i hi => by omega⟩
theorem Among.skip {m t k : Nat} {G F : Nat → UInt8} (h : Among m G t F) (hk : k < m) (e : ∀ j, j < 10 → G (k * 10 + j) = F (t * 10 + j)) : Among m G (t + 1) F :=
  ⟨fun k hk => by obtain ⟨i, hi, e⟩ := h.of k hk; exact ⟨i, by omega, e⟩, fun i hi => by
    by_cases c : i = t
    · subst c; exact ⟨k, hk, e⟩
    · exact h.all i (by omega)⟩
/-- The maps G with the t-th of F behind them. -/
def addM (m : Nat) (G : Nat → UInt8) (f : Nat → UInt8) : Nat → UInt8 := fun p => if p < m * 10 then G p else f (p - m * 10)
theorem addM_lo {m p : Nat} {G f : Nat → UInt8} (h : p < m * 10) : addM m G f p = G p := by unfold addM; rw [if_pos h]
theorem addM_hi {m j : Nat} {G f : Nat → UInt8} : addM m G f (m * 10 + j) = f j := by unfold addM; rw [if_neg (by omega), Nat.add_sub_cancel_left]
theorem Among.add {m t : Nat} {G F f : Nat → UInt8} (h : Among m G t F) (e : ∀ j, j < 10 → F (t * 10 + j) = f j) : Among (m + 1) (addM m G f) (t + 1) F :=
  ⟨fun k hk => by
    by_cases c : k = m
    · subst c; exact ⟨t, by omega, fun j hj => by rw [addM_hi, e j hj]⟩
    · obtain ⟨i, hi, e⟩ := h.of k (by omega)
      exact ⟨i, by omega, fun j hj => by rw [addM_lo (by omega), e j hj]⟩,
   fun i hi => by
    by_cases c : i = t
    · subst c; exact ⟨m, by omega, fun j hj => by rw [addM_hi, e j hj]⟩
    · obtain ⟨k, hk, e⟩ := h.all i (by omega)
      exact ⟨k, by omega, fun j hj => by rw [addM_lo (by omega), e j hj]⟩⟩
/-- Is f none of the first k maps? -/
def noneB (G f : Nat → UInt8) (k : Nat) : Bool := (List.range k).all fun i => !eqU 10 (fun j => G (i * 10 + j)) f
theorem noneB_succ (G f : Nat → UInt8) (k : Nat) : noneB G f (k + 1) = (noneB G f k && !eqU 10 (fun j => G (k * 10 + j)) f) := by
  simp [noneB, List.range_succ]
theorem noneB_false {G f : Nat → UInt8} {k : Nat} (h : noneB G f k = false) : ∃ i, i < k ∧ ∀ j, j < 10 → G (i * 10 + j) = f j := by
  simp only [noneB, List.all_eq_false, List.mem_range] at h
  obtain ⟨i, hi, e⟩ := h
  exact ⟨i, hi, eqU_iff.1 (by simpa using e)⟩
theorem eqU_congr {a a' b : Nat → UInt8} (h : ∀ i, i < 10 → a i = a' i) : eqU 10 a b = eqU 10 a' b := by
  rw [Bool.eq_iff_iff, eqU_iff, eqU_iff]
  exact ⟨fun q i hi => by rw [← h i hi]; exact q i hi, fun q i hi => by rw [h i hi]; exact q i hi⟩
theorem szU8 : (Try.prog.info? 5).map (·.size) = some 1 := by kernel_rfl
theorem gdPl : Try.prog.eqGuardType Try.prog.depth 97 = false := by kernel_rfl
theorem eqPl (a b : Nat → UInt8) (w : World) : (Op.equalIn Op.maxDepth 97 (.agg (u8s 10 a)) (.agg (u8s 10 b))).run Try.prog w = .ok (eqU 10 a b) w :=
  run_eq_bytes w _ 97 5 _ _ _ _ _ Try.underlying97 Try.underlying5 szU8 rfl rfl
theorem OP.any {w : World} {B m : Nat} {v : Value} {G : Nat → UInt8} (h : OP w B v m G) : ∃ a cap, v = .slice a m cap := by
  rcases h.2 with ⟨e, h0⟩ | ⟨g, cap, cur, e, _⟩
  · subst h0; exact ⟨none, 0, e⟩
  · exact ⟨_, cap, e⟩
theorem OP.at' {w : World} {B m cap : Nat} {a : Option Addr} {G : Nat → UInt8} (h : OP w B (.slice a m cap) m G) (hm : 0 < m) : ∃ g, a = some ⟨g, 0, none⟩ ∧ B ≤ g ∧ PRow w g m G := by
  obtain ⟨g, c, e, h1, h2⟩ := h.form hm
  injection e with e1
  exact ⟨g, e1, h1, h2⟩
/-- What the model's function hands back. -/
def GotA (t : Nat) (F : Nat → UInt8) (w : World) (e : Ending) (w' : World) : Prop :=
  ∃ v m G, e = .returned v ∧ Below w.heap.size w w' ∧ OP w' w.heap.size v m G ∧ m ≤ t ∧ Among m G t F
set_option maxRecDepth 20000 in
set_option maxHeartbeats 8000000 in
theorem l04Inner_any (N : Nat) (g : Nat → UInt8) (w : World) (hq : IsSq N g) :
    Calls Try.prog 69 #[.agg (sqc N g)] w (GotA (N * (2 * N + 1)) (inF g N) w) := by
  have h10 := hq.hi
  have h1 := hq.lo
  have HQ := hid hq
  clear hq
  have hN10 : (N : Int) ≤ 10 := by omega
  obtain ⟨M, hM⟩ : ∃ M, 2 * N + 1 = M := ⟨_, rfl⟩
  have hM21 : M ≤ 21 := by omega
  have HTU := hid (fun x j (hj : j < 10) => (show inF g N (x * M * 10 + j) = tuF g N x j by rw [inF_at _ _ _ hj, ← hM, imM_tu]))
  have HTW := hid (fun x y (hy : y < N) j (hj : j < 2 * 10) => (show inF g N ((x * M + (1 + 2 * y)) * 10 + j) = twoF (liF g N x y) (riF g N x y) j by
    unfold twoF
    by_cases h : j < 10
    · rw [if_pos h, inF_at _ _ _ h, ← hM, imM_li hy]
    · obtain ⟨i, rfl⟩ : ∃ i, j = i + 10 := ⟨j - 10, by omega⟩
      rw [if_neg h, show (x * M + (1 + 2 * y)) * 10 + (i + 10) = (x * M + (2 + 2 * y)) * 10 + i by omega, inF_at _ _ _ (by omega), ← hM, imM_ri hy, Nat.add_sub_cancel]))
  have hXM := hid (fun x (hx : x ≤ N) => (show x * M ≤ 210 from Nat.le_trans (Nat.mul_le_mul (Nat.le_trans hx h10) hM21) (Nat.le_refl _)))
  have HPOS := hid (show 0 < N * M from Nat.mul_pos (by omega) (by omega))
  have HSUC := hid (fun x => Nat.succ_mul x M)
  have hMN := hid hM
  clear hM
  have hH := Has.start1 w (sqc N g) 32
  go_enter Try.func69, Try.ntmps69
  go_wp2
  go_loopw [3, 4] (fun v i wr => ∃ k : Nat, k ≤ N ∧ i = .int .i64 k ∧ Has w wr [(sqc N g, 32)] ∧ Hid (OP wr (w.heap.size + 1) v (k * M) (inF g N))) (fun _ i _ => 20 - (intOf i).toNat)
  case atStart => exact ⟨0, by omega, rfl, hH.alloc _, hid (by rw [Nat.zero_mul]; exact OP.fresh _ _ (by simp) (by simp))⟩
  case round =>
    clear hH
    obtain ⟨k, hk, rfl, hH, hO⟩ := hrel
    have hsz := hH.size
    simp only [List.length_cons, List.length_nil] at hsz
    have cz : wr.cell? ⟨w.heap.size, 0, none⟩ = some (.int .i64 N) := by rw [hH.c0, sqc_get0]
    obtain ⟨B, hB⟩ : ∃ B, k * M = B := ⟨_, rfl⟩
    have hBb := hXM.out k hk
    rw [hB] at hO hBb
    by_cases hlt : k < N
    · have hk1 : (k : Int) < N := by omega
      have hk256 : (k : Int) < 256 := by omega
      have ht := HTU.out k
      have htw := HTW.out k
      have hsu := HSUC.out k
      rw [hB] at ht htw hsu
      have HT := hid ht
      have HW := hid htw
      have HS := hid hsu
      obtain ⟨ku, hku⟩ : ∃ ku : UInt8, ku.toNat = k := ⟨UInt8.ofNat k, u8_of k (by omega)⟩
      subst hku
      clear ht htw hsu hB
      go_wp2_with (first | fail | (refine wpL_loadFull rfl rfl rfl rowSq hH.h0 (sqc_size _ _) ?_) | (go_at_call 117; refine (l04Turn_any N g ku _ HQ.out hlt).mono ?_; rintro e w3 ⟨rfl, hb⟩; replace hH := hH.call' hb; replace hO := hid (hO.out.below hb); have hs3 := hb.size; clear hb cz) | (refine wpL_sliceP (f := tuF g N ku.toNat) rfl (by rfl) (by rfl) ?_) | (refine wpL_appP (v := u3) (n := B) (base := w.heap.size + 1) (f := tuF g N ku.toNat) rfl (by rfl) (inF g N) (by rfl) (by rfl) (hO.out.alloc _) (holds_new _ _ _) (by omega) (by simp; omega) (fun i _ => rfl) (fun j hj => HT.out j hj) ?_; intro r cap w2 how hg hor hlt3; have hO2 := hid how; replace hH := (hH.alloc _).grown hg (fun x hx => by have := (World.ownsRow.lt hO.out x hx).1; simp; omega); clear how hg hor hlt3 hO))
      go_loopw [3, 5] (fun v i wr => ∃ j : Nat, j ≤ N ∧ i = .int .i64 j ∧ Has w wr [(sqc N g, 32)] ∧ Hid (OP wr (w.heap.size + 1) v (B + (1 + 2 * j)) (inF g N))) (fun _ i _ => 20 - (intOf i).toNat)
      case atStart => exact ⟨0, by omega, rfl, hH, hO2⟩
      case round =>
        clear hH hO2 hsz
        obtain ⟨j, hj, rfl, hH, hO⟩ := hrel
        have hsz := hH.size
        simp only [List.length_cons, List.length_nil] at hsz
        have cz : wr.cell? ⟨w.heap.size, 0, none⟩ = some (.int .i64 N) := by rw [hH.c0, sqc_get0]
        obtain ⟨n, hn⟩ : ∃ n, B + (1 + 2 * j) = n := ⟨_, rfl⟩
        rw [hn] at hO
        have HNN := hid hn
        have hn300 : n ≤ 300 := by omega
        by_cases hjl : j < N
        · have hj1 : (j : Int) < N := by omega
          have hj256 : (j : Int) < 256 := by omega
          have hW := HW.out j hjl
          rw [hn] at hW
          have HWJ := hid hW
          obtain ⟨ju, hju⟩ : ∃ ju : UInt8, ju.toNat = j := ⟨UInt8.ofNat j, u8_of j (by omega)⟩
          subst hju
          obtain ⟨li, hli⟩ : ∃ f, liF g N ku.toNat ju.toNat = f := ⟨_, rfl⟩
          obtain ⟨ri, hri⟩ : ∃ f, riF g N ku.toNat ju.toNat = f := ⟨_, rfl⟩
          rw [hli, hri] at HWJ
          have HLI := hid hli
          have HRI := hid hri
          clear hn hW hli hri
          go_wp2
          clear cz
          refine wp_region_frame (X := IQ) (fun d x => [(30, bif d 0 then u3 else u30), (31, bif d 1 then .agg (sqc N g) else u31), (32, bif d 2 then .int .i64 ku.toNat else u32), (33, bif d 3 then .int .u8 ku.toNat else u33), (34, bif d 4 then .int .i64 ju.toNat else u34), (35, bif d 5 then .int .u8 ju.toNat else u35), (36, bif d 6 then .agg (u8s 10 li) else u36), (37, bif d 7 then .agg (sqc N g) else u37), (38, bif d 8 then .int .i64 ku.toNat else u38), (39, bif d 9 then .int .u8 ku.toNat else u39), (40, bif d 10 then .int .i64 ju.toNat else u40), (41, bif d 11 then .int .u8 ju.toNat else u41), (42, bif d 12 then .agg (u8s 10 ri) else u42), (43, bif d 13 then .slice (some ⟨x.b, 0, none⟩) 2 2 else u43), (44, bif d 14 then .slice (some ⟨x.r, 0, none⟩) (n + 2) x.cap else u44), (3, bif d 15 then .slice (some ⟨x.r, 0, none⟩) (n + 2) x.cap else u3)])
            (fun d x w' => Has w w' [(sqc N g, 32)] ∧ (d 14 = false → Hid (OP w' (w.heap.size + 1) u3 n (inF g N))) ∧ (d 14 = true → Hid (OP w' (w.heap.size + 1) (.slice (some ⟨x.r, 0, none⟩) (n + 2) x.cap) (n + 2) (inF g N))) ∧ (d 13 = true → PRow w' x.b 2 (twoF li ri) ∧ u3.ownBlock ≠ some x.b) ∧ (d 14 = true → d 13 = true) ∧ (d 15 = true → d 14 = true) ∧ (d 14 = true → d 0 = true)) (by kernel_rfl) (by kernel_rfl) ?h0_im ?hs_im ?hq_im
          case h0_im => exact ⟨⟨0, 0, 0⟩, (by simp [lput]), hH.drew, (fun _ => hid (hO.out.kept fun _ _ => rfl)), (fun h => by cases h), (fun h => by cases h), (fun h => by cases h), (fun h => by cases h), (fun h => by cases h)⟩
          case hs_im =>
            refine ⟨?_, ?_, ?_, ?_, ?_, ?_, ?_, ?_, ?_, ?_, ?_, ?_, ?_, ?_, ?_, ?_, trivial⟩
            all_goals
              clear hH hO
              intro d x w1 hd hn hJ
              simp only [needs, Region.binds, reduceCtorEq, Bool.false_eq_true, false_implies, true_and, and_true, true_implies, forall_const] at hn
              simp only [lput, List.set, hn, cond_true]
              obtain ⟨hH, hO, hP, hS, I14_13, I15_14, I14_0⟩ := hJ
              (try have hP_ := hP (by simp only [hn]))
              (try have hS_ := hS (by simp only [hn]))
              (try have hO_ := hO hd)
              have zz := hH.size
              simp only [List.length_cons, List.length_nil] at zz
              go_wp2_with (first | fail | (refine wpL_loadFull rfl rfl rfl rowSq hH.h0 (sqc_size _ _) ?_) | (go_at_call 118; refine (l04Left_any N g ku ju _ HQ.out hlt hjl).mono ?_; rintro e w3 ⟨rfl, hb⟩; rw [HLI.out]; replace hH := hH.call' hb; replace hO := fun e => hid ((hO e).out.below hb); replace hP := fun e => hid ((hP e).out.below hb); replace hS := fun e => And.intro ((hS e).1.below hb) (hS e).2; clear hb) | (go_at_call 119; refine (l04Right_any N g ku ju _ HQ.out hlt hjl).mono ?_; rintro e w3 ⟨rfl, hb⟩; rw [HRI.out]; replace hH := hH.call' hb; replace hO := fun e => hid ((hO e).out.below hb); replace hP := fun e => hid ((hP e).out.below hb); replace hS := fun e => And.intro ((hS e).1.below hb) (hS e).2; clear hb) | (refine wpL_sliceP2 (p := li) (q := ri) rfl (by rfl) (by rfl) (by rfl) ?_; intro g2 w2 hPn hgn hb; have z14 : d 14 = false := (by first | exact imp_nq I14_13 hd | exact imp_nq I14_13 rfl); have hne : u3.ownBlock ≠ some g2 := (fun e => by have := (World.ownsRow.lt (hO z14).out g2 e).2; omega); replace hH := hH.call' hb; replace hO := fun e => hid ((hO e).out.below hb); clear hb) | (refine wpL_appPs (v := u3) (n := n) (m := 2) (base := w.heap.size + 1) (F := inF g N) (f := twoF li ri) rfl (by rfl) (inF g N) (by rfl) (by rfl) hO_.out hS_.1 (by omega) (by omega) (by omega) (by omega) (fun i _ => rfl) (fun j hj => HWJ.out j hj) ?_; intro r cap w2 how hg hor hlt3; have hS2 := hS_.1.grown hg hS_.2; replace hH := hH.grown hg (fun x hx => by have := (World.ownsRow.lt hO_.out x hx).1; simp; omega); clear hg hor hlt3))
              first
                | (refine ⟨{ x with b := g2 }, ?_, hH, (fun e => hO (done_no e)), (fun e => by simp [done, z14] at e), (fun _ => ⟨hPn, hne⟩), (by intro e; first | (simp [done]; done) | (simp [done, hn]; done) | (have e2 := I14_13 (done_ne e (by decide)); simp [done, e2]; done)), (by intro e; first | (simp [done]; done) | (simp [done, hn]; done) | (have e2 := I15_14 (done_ne e (by decide)); simp [done, e2]; done)), (by intro e; first | (simp [done]; done) | (simp [done, hn]; done) | (have e2 := I14_0 (done_ne e (by decide)); simp [done, e2]; done))⟩; (simp [lput, done, hn, z14, imp_nq I15_14 z14]; done))
                | (have z15 : d 15 = false := (by first | exact imp_nq I15_14 hd | exact imp_nq I15_14 rfl); refine ⟨{ x with r := r, cap := cap }, ?_, hH, (fun e => by simp [done] at e), (fun _ => hid how), (fun _ => ⟨hS2, hS_.2⟩), (by intro e; first | (simp [done]; done) | (simp [done, hn]; done) | (have e2 := I14_13 (done_ne e (by decide)); simp [done, e2]; done)), (by intro e; first | (simp [done]; done) | (simp [done, hn]; done) | (have e2 := I15_14 (done_ne e (by decide)); simp [done, e2]; done)), (by intro e; first | (simp [done]; done) | (simp [done, hn]; done) | (have e2 := I14_0 (done_ne e (by decide)); simp [done, e2]; done))⟩; (simp [lput, done, hn, z15]; done))
                | (have z15 : d 15 = false := (by first | exact imp_nq I15_14 (imp_nq I14_0 hd) | exact imp_nq I15_14 (imp_nq I14_0 rfl)); refine ⟨x, ?_, hH, (fun e => hO (done_no e)), (fun e => hP (done_ne e (by decide))), (fun e => hS (done_ne e (by decide))), (by intro e; first | (simp [done]; done) | (simp [done, hn]; done) | (have e2 := I14_13 (done_ne e (by decide)); simp [done, e2]; done)), (by intro e; first | (simp [done]; done) | (simp [done, hn]; done) | (have e2 := I15_14 (done_ne e (by decide)); simp [done, e2]; done)), (by intro e; first | (simp [done]; done) | (simp [done, hn]; done) | (have e2 := I14_0 (done_ne e (by decide)); simp [done, e2]; done))⟩; (simp [lput, done, hn, z15]; done))
                | (refine ⟨x, ?_, hH, (fun e => hO (done_no e)), (fun e => hP (done_ne e (by decide))), (fun e => hS (done_ne e (by decide))), (by intro e; first | (simp [done]; done) | (have e2 := I14_13 (done_ne e (by decide)); simp [done, e2]; done) | (simp [done, hn]; done)), (by intro e; first | (simp [done]; done) | (have e2 := I15_14 (done_ne e (by decide)); simp [done, e2]; done) | (simp [done, hn]; done)), (by intro e; first | (simp [done]; done) | (have e2 := I14_0 (done_ne e (by decide)); simp [done, e2]; done) | (simp [done, hn]; done))⟩; (simp [lput, done, hn]; done))
                | (refine ⟨?_, hH, (fun e => hO (done_no e)), (fun e => hP (done_ne e (by decide))), (fun e => hS (done_ne e (by decide))), (by intro e; first | (simp [done]; done) | (have e2 := I14_13 (done_ne e (by decide)); simp [done, e2]; done) | (simp [done, hn]; done)), (by intro e; first | (simp [done]; done) | (have e2 := I15_14 (done_ne e (by decide)); simp [done, e2]; done) | (simp [done, hn]; done)), (by intro e; first | (simp [done]; done) | (have e2 := I14_0 (done_ne e (by decide)); simp [done, e2]; done) | (simp [done, hn]; done))⟩; (simp [lput, done, hn]; done))
                | (refine ⟨x, ?_, hH, (fun e => hO (done_no e)), (fun e => hP (done_ne e (by decide))), (fun e => hS (done_ne e (by decide))), (by intro e; first | (simp [done]; done) | (have e2 := I14_13 (done_ne e (by decide)); simp [done, e2]; done) | (simp [done, hn]; done)), (by intro e; first | (simp [done]; done) | (have e2 := I15_14 (done_ne e (by decide)); simp [done, e2]; done) | (simp [done, hn]; done)), (by intro e; first | (simp [done]; done) | (have e2 := I14_0 (done_ne e (by decide)); simp [done, e2]; done) | (simp [done, hn]; done))⟩; (simp [lput, done, hn]; rfl))
                | (refine ⟨?_, hH, (fun e => hO (done_no e)), (fun e => hP (done_ne e (by decide))), (fun e => hS (done_ne e (by decide))), (by intro e; first | (simp [done]; done) | (have e2 := I14_13 (done_ne e (by decide)); simp [done, e2]; done) | (simp [done, hn]; done)), (by intro e; first | (simp [done]; done) | (have e2 := I15_14 (done_ne e (by decide)); simp [done, e2]; done) | (simp [done, hn]; done)), (by intro e; first | (simp [done]; done) | (have e2 := I14_0 (done_ne e (by decide)); simp [done, e2]; done) | (simp [done, hn]; done))⟩; (simp [lput, done, hn]; rfl))
                | (refine ⟨x, ?_, hH, (fun e => hO (done_no e)), (fun e => hP (done_ne e (by decide))), (fun e => hS (done_ne e (by decide))), (by intro e; first | (simp [done]; done) | (have e2 := I14_13 (done_ne e (by decide)); simp [done, e2]; done) | (simp [done, hn]; done)), (by intro e; first | (simp [done]; done) | (have e2 := I15_14 (done_ne e (by decide)); simp [done, e2]; done) | (simp [done, hn]; done)), (by intro e; first | (simp [done]; done) | (have e2 := I14_0 (done_ne e (by decide)); simp [done, e2]; done) | (simp [done, hn]; done))⟩; (simp [lput, done]; done))
                | (refine ⟨?_, hH, (fun e => hO (done_no e)), (fun e => hP (done_ne e (by decide))), (fun e => hS (done_ne e (by decide))), (by intro e; first | (simp [done]; done) | (have e2 := I14_13 (done_ne e (by decide)); simp [done, e2]; done) | (simp [done, hn]; done)), (by intro e; first | (simp [done]; done) | (have e2 := I15_14 (done_ne e (by decide)); simp [done, e2]; done) | (simp [done, hn]; done)), (by intro e; first | (simp [done]; done) | (have e2 := I14_0 (done_ne e (by decide)); simp [done, e2]; done) | (simp [done, hn]; done))⟩; (simp [lput, done]; done))
                | (refine ⟨x, ?_, hH, (fun e => hO (done_no e)), (fun e => hP (done_ne e (by decide))), (fun e => hS (done_ne e (by decide))), (by intro e; first | (simp [done]; done) | (have e2 := I14_13 (done_ne e (by decide)); simp [done, e2]; done) | (simp [done, hn]; done)), (by intro e; first | (simp [done]; done) | (have e2 := I15_14 (done_ne e (by decide)); simp [done, e2]; done) | (simp [done, hn]; done)), (by intro e; first | (simp [done]; done) | (have e2 := I14_0 (done_ne e (by decide)); simp [done, e2]; done) | (simp [done, hn]; done))⟩; (simp [lput, done]; rfl))
                | (refine ⟨?_, hH, (fun e => hO (done_no e)), (fun e => hP (done_ne e (by decide))), (fun e => hS (done_ne e (by decide))), (by intro e; first | (simp [done]; done) | (have e2 := I14_13 (done_ne e (by decide)); simp [done, e2]; done) | (simp [done, hn]; done)), (by intro e; first | (simp [done]; done) | (have e2 := I15_14 (done_ne e (by decide)); simp [done, e2]; done) | (simp [done, hn]; done)), (by intro e; first | (simp [done]; done) | (have e2 := I14_0 (done_ne e (by decide)); simp [done, e2]; done) | (simp [done, hn]; done))⟩; (simp [lput, done]; rfl))
          case hq_im =>
            clear hH hO
            intro d x w1 hd hJ
            simp only [allDone, List.length_cons, List.length_nil, Nat.reduceAdd, and_true] at hd
            obtain ⟨hH, hO, hP, hS, I14_13, I15_14, I14_0⟩ := hJ
            replace hP := hP (by simp only [hd])
            replace hS := hS (by simp only [hd])
            clear hO
            clear I14_13
            clear I15_14
            clear I14_0
            simp only [lput, List.set, hd, cond_true]
            clear hd
            go_wp2
            go_roundw
            case rel => exact ⟨ju.toNat + 1, by omega, by go_num, hH, by rw [show B + (1 + 2 * (ju.toNat + 1)) = n + 2 by have := HNN.out; omega]; exact hP⟩
            case measure => simp [intOf]; omega
        · obtain rfl : j = N := by omega
          have e := HS.out
          go_wp2
          go_roundw
          case rel => exact ⟨ku.toNat + 1, by omega, by go_num, hH, by rw [show (ku.toNat + 1) * M = n by rw [Nat.succ_eq_add_one] at e; have := HNN.out; have := hMN.out; omega]; exact hO⟩
          case measure => simp [intOf]; omega
    · obtain rfl : k = N := by omega
      have hBN := hid (show k * (2 * k + 1) = B by rw [hMN.out, hB])
      have hB0 := HPOS.out
      rw [hB] at hB0
      clear hB
      obtain ⟨ga, capa, rfl, hga, hpa⟩ := hO.out.form hB0
      have HPA := hid hpa
      have hgal := hpa.lt
      have hB1 : (B : Int) ≤ 210 := by omega
      clear hpa hO
      go_wp2
      obtain ⟨B2, hB2⟩ : ∃ B2, wr.heap.size = B2 := ⟨_, rfl⟩
      have hO2 : OP (wr.alloc (.cells #[] 97)) B2 (.slice (some ⟨B2, 0, none⟩) 0 0) 0 (fun _ => 0) := OP.fresh _ _ (by omega) hB2
      have hA2 : PRow (wr.alloc (.cells #[] 97)) ga B (inF g k) := HPA.out.alloc _
      replace hH := hH.alloc (.cells #[] 97)
      have hs2 : B2 ≤ (wr.alloc (.cells #[] 97)).heap.size := by simp; omega
      rw [hB2] at hgal ⊢
      obtain ⟨w9, hw9⟩ : ∃ w9, wr.alloc (.cells #[] 97) = w9 := ⟨_, rfl⟩
      have hwB : w.heap.size + 1 ≤ B2 := by omega
      rw [hw9] at hO2 hA2 hH hs2 ⊢
      clear hw9 hB2 HPA cz hsz
      obtain ⟨F, hF⟩ : ∃ F, inF g k = F := ⟨_, rfl⟩
      have HFF := hid hF
      rw [hF] at hA2
      clear hF
      go_loopw [6, 7] (fun v i wq => ∃ (t m : Nat) (G : Nat → UInt8), i = .int .i64 t ∧ t ≤ B ∧ m ≤ t ∧ B2 ≤ wq.heap.size ∧ Has w wq [(sqc k g, 32)] ∧ Hid (PRow wq ga B F) ∧ Hid (OP wq B2 v m G) ∧ Hid (Among m G t F)) (fun _ i _ => 300 - (intOf i).toNat)
      case atStart => exact ⟨0, 0, _, rfl, by omega, by omega, hs2, hH, hid hA2, hid hO2, hid (Among.start _ _)⟩
      case round =>
        clear hH hA2 hO2 hs2
        obtain ⟨t, m, G, rfl, htB, hmt, hs2, hH, hA, hO, hM⟩ := hrel
        by_cases htl : t < B
        · have ht1 : (t : Int) < B := by omega
          obtain ⟨a, cap, rfl⟩ := hO.out.any
          obtain ⟨f, hf⟩ : ∃ f : Nat → UInt8, ∀ j, j < 10 → F (t * 10 + j) = f j := ⟨fun j => F (t * 10 + j), fun j _ => rfl⟩
          have HF := hid hf
          have hm1 : (m : Int) ≤ 210 := by omega
          clear hf
          go_wp2
          go_loopw [8, 9] (fun fr i wq => ∃ j : Nat, j ≤ m ∧ i = .int .i64 j ∧ fr = .bool (noneB G f j) ∧ B2 ≤ wq.heap.size ∧ Has w wq [(sqc k g, 32)] ∧ Hid (PRow wq ga B F) ∧ Hid (OP wq B2 (.slice a m cap) m G)) (fun _ i _ => 300 - (intOf i).toNat)
          case atStart => exact ⟨0, by omega, rfl, rfl, hs2, hH, hA, hO⟩
          case round =>
            clear hs2 hH hA hO
            obtain ⟨j, hj, rfl, rfl, hs2, hH, hA, hO⟩ := hrel
            obtain ⟨b, hb⟩ : ∃ b, noneB G f j = b := ⟨_, rfl⟩
            have HB := hid hb
            rw [hb]
            clear hb
            by_cases hjm : j < m
            · have hj1 : (j : Int) < m := by omega
              obtain ⟨go, rfl, hgo, hp⟩ := hO.out.at' (by omega)
              have HP := hid hp
              clear hp
              cases b with
              | false =>
                have HN := hid (show noneB G f (j + 1) = false by rw [noneB_succ, HB.out]; rfl)
                go_wp2
                go_quiet (fail)
                go_wp2
                go_roundw
                case rel => exact ⟨j + 1, by omega, by go_num, by rw [HN.out], hs2, hH.drewN _, hid (hA.out.block rfl), hid (hO.out.kept fun _ _ => rfl)⟩
                case measure => simp [intOf]; omega
              | true =>
                obtain ⟨q, hq⟩ : ∃ q : Nat → UInt8, ∀ i, i < 10 → G (j * 10 + i) = q i := ⟨fun i => G (j * 10 + i), fun i _ => rfl⟩
                obtain ⟨r, hr⟩ : ∃ r, eqU 10 q f = r := ⟨_, rfl⟩
                have HN := hid (show noneB G f (j + 1) = !r by
                  rw [noneB_succ, HB.out, ← hr, Bool.true_and, eqU_congr hq])
                have HQR := hid hr
                have HQ2 := hid hq
                clear hr hq
                go_wp2
                refine wp_region_frame (X := Unit) (fun d _ => [(58, bif d 0 then .bool true else u58), (59, bif d 1 then .bool true else u59), (60, bif d 2 then .slice (some ⟨go, 0, none⟩) m cap else u60), (61, bif d 3 then .int .i64 j else u61), (62, bif d 4 then .pointer (some ⟨go, j * 10, none⟩) else u62), (63, bif d 5 then .agg (u8s 10 q) else u63), (64, bif d 6 then .slice (some ⟨ga, 0, none⟩) B capa else u64), (65, bif d 7 then .int .i64 t else u65), (66, bif d 8 then .pointer (some ⟨ga, t * 10, none⟩) else u66), (67, bif d 9 then .agg (u8s 10 f) else u67), (68, bif d 10 then .bool (!r) else u68), (69, bif d 11 then .bool (!r) else u69), (8, bif d 12 then .bool (!r) else .bool true)])
                  (fun d _ w' => Has w w' [(sqc k g, 32)] ∧ B2 ≤ w'.heap.size ∧ Hid (PRow w' ga B F) ∧ Hid (OP w' B2 (.slice (some ⟨go, 0, none⟩) m cap) m G) ∧ Hid (PRow w' go m G) ∧ (d 12 = true → d 0 = true)) (by kernel_rfl) (by kernel_rfl) ?h0_dd ?hs_dd ?hq_dd
                case h0_dd => exact ⟨(), (by simp [lput]), hH.drew, (show _ from hs2), hid (hA.out.block rfl), hid (hO.out.kept fun _ _ => rfl), hid (HP.out.block rfl), (fun h => by cases h)⟩
                case hs_dd =>
                  refine ⟨?_, ?_, ?_, ?_, ?_, ?_, ?_, ?_, ?_, ?_, ?_, ?_, ?_, trivial⟩
                  all_goals
                    clear hH hs2 hA hO HP
                    intro d _ w1 hd hn hJ
                    simp only [needs, Region.binds, reduceCtorEq, Bool.false_eq_true, false_implies, true_and, and_true, true_implies, forall_const] at hn
                    simp only [lput, List.set, hn, cond_true]
                    obtain ⟨hH, hs2, hA, hO, HP, I12_0⟩ := hJ
                    go_wp2_with (first | fail | (refine wpL_guard rfl rfl ?_) | (refine wpL_loadPr (g := go) (k := j) (f := q) rfl rfl rfl HP.out hjm HQ2.out ?_) | (refine wpL_loadPr (g := ga) (k := t) (f := f) rfl rfl rfl hA.out htl HF.out ?_) | (refine wpL_neqAgg rfl rfl rfl rfl gdPl (eqPl _ _ _) ?_; rw [HQR.out]))
                    first
                      | (have z12 : d 12 = false := (by first | exact imp_nq I12_0 hd | exact imp_nq I12_0 rfl); refine ⟨(), ?_, hH, hs2, hA, hO, HP, (by intro e; first | (simp [done]; done) | (simp [done, hn]; done) | (have e2 := I12_0 (done_ne e (by decide)); simp [done, e2]; done))⟩; (simp [lput, done, hn, z12]; done))
                      | (refine ⟨(), ?_, hH, hs2, hA, hO, HP, (by intro e; first | (simp [done]; done) | (have e2 := I12_0 (done_ne e (by decide)); simp [done, e2]; done) | (simp [done, hn]; done))⟩; (simp [lput, done, hn]; done))
                      | (refine ⟨?_, hH, hs2, hA, hO, HP, (by intro e; first | (simp [done]; done) | (have e2 := I12_0 (done_ne e (by decide)); simp [done, e2]; done) | (simp [done, hn]; done))⟩; (simp [lput, done, hn]; done))
                      | (refine ⟨(), ?_, hH, hs2, hA, hO, HP, (by intro e; first | (simp [done]; done) | (have e2 := I12_0 (done_ne e (by decide)); simp [done, e2]; done) | (simp [done, hn]; done))⟩; (simp [lput, done, hn]; rfl))
                      | (refine ⟨?_, hH, hs2, hA, hO, HP, (by intro e; first | (simp [done]; done) | (have e2 := I12_0 (done_ne e (by decide)); simp [done, e2]; done) | (simp [done, hn]; done))⟩; (simp [lput, done, hn]; rfl))
                      | (refine ⟨(), ?_, hH, hs2, hA, hO, HP, (by intro e; first | (simp [done]; done) | (have e2 := I12_0 (done_ne e (by decide)); simp [done, e2]; done) | (simp [done, hn]; done))⟩; (simp [lput, done]; done))
                      | (refine ⟨?_, hH, hs2, hA, hO, HP, (by intro e; first | (simp [done]; done) | (have e2 := I12_0 (done_ne e (by decide)); simp [done, e2]; done) | (simp [done, hn]; done))⟩; (simp [lput, done]; done))
                      | (refine ⟨(), ?_, hH, hs2, hA, hO, HP, (by intro e; first | (simp [done]; done) | (have e2 := I12_0 (done_ne e (by decide)); simp [done, e2]; done) | (simp [done, hn]; done))⟩; (simp [lput, done]; rfl))
                      | (refine ⟨?_, hH, hs2, hA, hO, HP, (by intro e; first | (simp [done]; done) | (have e2 := I12_0 (done_ne e (by decide)); simp [done, e2]; done) | (simp [done, hn]; done))⟩; (simp [lput, done]; rfl))
                case hq_dd =>
                  clear hH hs2 hA hO HP
                  intro d _ w1 hd hJ
                  simp only [allDone, List.length_cons, List.length_nil, Nat.reduceAdd, and_true] at hd
                  obtain ⟨hH, hs2, hA, hO, HP, I12_0⟩ := hJ
                  clear I12_0
                  simp only [lput, List.set, hd, cond_true]
                  clear hd
                  go_wp2
                  go_roundw
                  case rel => exact ⟨j + 1, by omega, by go_num, by rw [HN.out], hs2, hH, hA, hO⟩
                  case measure => simp [intOf]; omega
            · obtain rfl : j = m := by omega
              cases b with
              | false =>
                obtain ⟨k0, hk0, e0⟩ := noneB_false HB.out
                have HM2 := hid (hM.out.skip hk0 (fun i hi => by rw [e0 i hi, HF.out i hi]))
                clear e0
                go_wp2
                go_roundw
                case rel => exact ⟨t + 1, j, G, by go_num, by omega, by omega, hs2, hH, hA, hO, HM2⟩
                case measure => simp [intOf]; omega
              | true =>
                have HM2 := hid (hM.out.add HF.out)
                go_wp2_with (first | fail | (refine wpL_loadPr (g := ga) (k := t) (f := f) rfl rfl rfl hA.out htl HF.out ?_) | (refine wpL_sliceP (f := f) rfl (by rfl) (by rfl) ?_) | (refine wpL_appP (v := .slice a j cap) (n := j) (base := B2) (f := f) rfl (by rfl) (addM j G f) (by rfl) (by rfl) (hO.out.alloc _) (holds_new _ _ _) (by omega) (by simp; omega) (fun i hi => addM_lo hi) (fun i _ => addM_hi) ?_; intro r2 cap2 w2 how hg hor hlt3; have hO2 := hid how; have hA2 := hid ((hA.out.alloc _).grown hg (fun e => by have := (World.ownsRow.lt hO.out ga e).1; omega)); have hs3 : B2 ≤ w2.heap.size := (by have := hg.size; simp at this; omega); replace hH := (hH.alloc _).grown hg (fun x hx => by have := (World.ownsRow.lt hO.out x hx).1; simp; omega); clear how hg hor hlt3))
                go_roundw
                case rel => exact ⟨t + 1, j + 1, _, by go_num, by omega, by omega, hs3, hH, hA2, hO2, HM2⟩
                case measure => simp [intOf]; omega
        · obtain rfl : t = B := by omega
          go_wp2
          go_ret
          rw [hBN.out, HFF.out]
          exact ⟨_, m, G, rfl, hH.below, hO.out.lower (by omega), hmt, hM.out⟩
end Go.Proofs.Ytbhjbllgmenbaab
namespace Go.Proofs.Ytbhjbllgmenbaab
set_option linter.unusedVariables false
set_option linter.unusedSimpArgs false
open Go.RowKit
/-- The code for a loop and no elements. -/
noncomputable def lpC (o : Int) (g : Nat → UInt8) : Int := bif sqB o g then bif loopB o g then 0 else 5 else 1
set_option maxRecDepth 20000 in
set_option maxHeartbeats 1000000 in
theorem elementCode_nil (o : Int) (g : Nat → UInt8) (w : World) :
    Calls Try.prog 95 #[.agg (sqc o g), .slice none 0 0] w fun e w' => e = .returned (.int .i64 (bif sqB o g then 0 else 1)) ∧ Below w.heap.size w w' := by
  have hH := Has.start1 w (sqc o g) 32
  cases hs : sqB o g with
  | false =>
    go_enter Try.func95, Try.ntmps95
    go_wp2_with (first | (refine wpL_loadFull rfl rfl rfl rowSq hH.h0 (sqc_size _ _) ?_) | (go_at_call 147; refine (IsSquare_any o g _).mono ?_; rintro e w2 ⟨rfl, hb⟩; replace hH := hH.call' hb; rw [hs]))
    go_ret
    exact ⟨rfl, hH.below⟩
  | true =>
    go_enter Try.func95, Try.ntmps95
    go_wp2_with (first | (refine wpL_loadFull rfl rfl rfl rowSq hH.h0 (sqc_size _ _) ?_) | (go_at_call 147; refine (IsSquare_any o g _).mono ?_; rintro e w2 ⟨rfl, hb⟩; replace hH := hH.call' hb; clear hb; rw [hs]))
    go_loopw [12] (fun i wr => i = .int .i64 0 ∧ Has w wr [(sqc o g, 32)]) (fun _ _ => 0)
    case atStart => exact ⟨rfl, hH⟩
    case round =>
      clear hH
      obtain ⟨rfl, hH⟩ := hrel
      go_wp2
      go_ret
      exact ⟨rfl, hH.below⟩
set_option maxRecDepth 20000 in
set_option maxHeartbeats 1000000 in
theorem loopCode_nil (o : Int) (g : Nat → UInt8) (w : World) :
    Calls Try.prog 70 #[.agg (sqc o g), .slice none 0 0] w fun e w' => e = .returned (.int .i64 (lpC o g)) ∧ Below w.heap.size w w' := by
  have hH := Has.start1 w (sqc o g) 32
  unfold lpC
  cases hs : sqB o g with
  | false =>
    go_enter Try.func70, Try.ntmps70
    go_wp2_with (first | (refine wpL_loadFull rfl rfl rfl rowSq hH.h0 (sqc_size _ _) ?_) | (go_at_call 95; refine (elementCode_nil o g _).mono ?_; rintro e w2 ⟨rfl, hb⟩; replace hH := hH.call' hb; clear hb; rw [hs]))
    go_ret
    exact ⟨rfl, hH.below⟩
  | true =>
    cases hl : loopB o g with
    | false =>
      go_enter Try.func70, Try.ntmps70
      go_wp2_with (first | (refine wpL_loadFull rfl rfl rfl rowSq hH.h0 (sqc_size _ _) ?_) | (go_at_call 95; refine (elementCode_nil o g _).mono ?_; rintro e w2 ⟨rfl, hb⟩; replace hH := hH.call' hb; clear hb; rw [hs]) | (go_at_call 115; refine (IsLoop_any o g _).mono ?_; rintro e w3 ⟨rfl, hb⟩; replace hH := hH.call' hb; clear hb; rw [hl]))
      go_ret
      exact ⟨rfl, hH.below⟩
    | true =>
      go_enter Try.func70, Try.ntmps70
      go_wp2_with (first | (refine wpL_loadFull rfl rfl rfl rowSq hH.h0 (sqc_size _ _) ?_) | (go_at_call 95; refine (elementCode_nil o g _).mono ?_; rintro e w2 ⟨rfl, hb⟩; replace hH := hH.call' hb; clear hb; rw [hs]) | (go_at_call 115; refine (IsLoop_any o g _).mono ?_; rintro e w3 ⟨rfl, hb⟩; replace hH := hH.call' hb; clear hb; rw [hl]))
      go_ret
      exact ⟨rfl, hH.below⟩
set_option maxRecDepth 20000 in
set_option maxHeartbeats 1000000 in
theorem l04Loop_nil (o : Int) (g : Nat → UInt8) (w : World) :
    Calls Try.prog 68 #[.agg (sqc o g), .slice none 0 0] w fun e w' => e = .returned (.int .i64 (lpC o g)) ∧ Below w.heap.size w w' := by
  have hH := Has.start1 w (sqc o g) 32
  unfold lpC
  cases hs : sqB o g with
  | false =>
    go_enter Try.func68, Try.ntmps68
    go_wp2_with (first | (refine wpL_loadFull rfl rfl rfl rowSq hH.h0 (sqc_size _ _) ?_) | (go_at_call 91; refine (l01Is_any o g _).mono ?_; rintro e w2 ⟨rfl, hb⟩; replace hH := hH.call' hb; clear hb; rw [hs]))
    go_ret
    exact ⟨rfl, hH.below⟩
  | true =>
    go_enter Try.func68, Try.ntmps68
    go_wp2_with (first | (refine wpL_loadFull rfl rfl rfl rowSq hH.h0 (sqc_size _ _) ?_) | (go_at_call 91; refine (l01Is_any o g _).mono ?_; rintro e w2 ⟨rfl, hb⟩; replace hH := hH.call' hb; clear hb; rw [hs]))
    go_loopw [5] (fun i wr => i = .int .i64 0 ∧ Has w wr [(sqc o g, 32)]) (fun _ _ => 0)
    case atStart => exact ⟨rfl, hH⟩
    case round =>
      clear hH
      obtain ⟨rfl, hH⟩ := hrel
      cases hl : loopB o g with
      | false =>
        go_wp2_with (first | (refine wpL_loadFull rfl rfl rfl rowSq hH.h0 (sqc_size _ _) ?_) | (go_at_call 108; refine (l01Loop_any o g _).mono ?_; rintro e w2 ⟨rfl, hb⟩; replace hH := hH.call' hb; clear hb; rw [hl]))
        go_ret
        exact ⟨by rw [hl]; rfl, hH.below⟩
      | true =>
        go_wp2_with (first | (refine wpL_loadFull rfl rfl rfl rowSq hH.h0 (sqc_size _ _) ?_) | (go_at_call 108; refine (l01Loop_any o g _).mono ?_; rintro e w2 ⟨rfl, hb⟩; replace hH := hH.call' hb; clear hb; rw [hl]))
        go_ret
        exact ⟨by rw [hl]; rfl, hH.below⟩
/-- Is the isotope by f, f and f the loop itself? -/
def autE (g : Nat → UInt8) (N : Nat) (f : Nat → UInt8) : Bool := eqS N N (isoP g (mkTri f f f) N N 0) g
theorem imM_zero (g : Nat → UInt8) (N i : Nat) {j : Nat} (hj : N ≤ j) : imM g N i j = 0 := by
  unfold imM
  split
  · unfold tuF thenF; rw [if_neg (by omega)]
  · split
    · unfold liF thenF; rw [if_neg (by omega)]
    · unfold riF thenF; rw [if_neg (by omega)]
theorem imM_ext {g : Nat → UInt8} {N i i' : Nat} (h10 : N ≤ 10) (h : ∀ j, j < 10 → imM g N i j = imM g N i' j) : imM g N i = imM g N i' := by
  funext j
  by_cases hj : j < 10
  · exact h j hj
  · rw [imM_zero g N i (by omega), imM_zero g N i' (by omega)]
theorem PRow.hold {w w' : World} {g gr n : Nat} {F : Nat → UInt8} (h : PRow w g n F) (hne : g ≠ gr) (hO : ∀ b c u, b ≠ gr → holds w b c u → holds w' b c u) : PRow w' g n F := by
  obtain ⟨cur, h1, h2⟩ := h
  exact ⟨cur, hO _ _ _ hne h1, h2⟩
/-- Are all inner maps automorphisms? -/
noncomputable def amB (g : Nat → UInt8) (N : Nat) : Bool := @decide (∀ i, i < N * (2 * N + 1) → autE g N (imM g N i) = true) (Classical.propDecidable _)
theorem amB_iff {g : Nat → UInt8} {N : Nat} : amB g N = true ↔ ∀ i, i < N * (2 * N + 1) → autE g N (imM g N i) = true := by
  unfold amB; exact @decide_eq_true_iff _ (Classical.propDecidable _)
theorem amB_no {g : Nat → UInt8} {N i : Nat} (hi : i < N * (2 * N + 1)) (h : autE g N (imM g N i) = false) : amB g N = false := by
  cases e : amB g N with
  | false => rfl
  | true => rw [amB_iff.1 e i hi] at h; cases h
theorem imM_tri {g : Nat → UInt8} {N : Nat} (h : IsSq N g) {i : Nat} (hi : i < N * (2 * N + 1)) : IsTri (mkTri (imM g N i) (imM g N i) (imM g N i)) N :=
  mkTri_is (imM_perm h i hi) (imM_perm h i hi) (imM_perm h i hi)
theorem im_bound {N : Nat} (h1 : 1 ≤ N) (h10 : N ≤ 10) : 0 < N * (2 * N + 1) ∧ N * (2 * N + 1) ≤ 210 :=
  ⟨Nat.mul_pos (by omega) (by omega), Nat.le_trans (Nat.mul_le_mul h10 (show 2 * N + 1 ≤ 21 by omega)) (Nat.le_refl _)⟩
set_option maxRecDepth 20000 in
set_option maxHeartbeats 1000000 in
theorem implIsAutomorphicLoop_err (o : Int) (g : Nat → UInt8) (z : Int) (w : World) (hz : (z == 0) = false) (hC : Hid (lpC o g = z)) :
    Calls Try.prog 28 #[.agg (sqc o g)] w fun e w' => e = .returned (.tuple #[.bool false, .int .i64 z]) ∧ Below w.heap.size w w' := by
  have hz2 : ¬ z = 0 := by simpa using hz
  have hH := Has.start1 w (sqc o g) 32
  go_enter Try.func28, Try.ntmps28
  go_wp2_with (first | fail | (refine wpL_loadFull rfl rfl rfl rowSq hH.h0 (sqc_size _ _) ?_) | (go_at_call 70; refine (loopCode_nil o g _).mono ?_; rintro e w2 ⟨rfl, hb⟩; rw [hC.out]; replace hH := hH.call' hb; clear hb))
  go_ret2
  exact ⟨rfl, hH.below⟩
set_option maxRecDepth 20000 in
set_option maxHeartbeats 4000000 in
theorem implIsAutomorphicLoop_in (N : Nat) (g : Nat → UInt8) (w : World) (hq : IsSq N g) (hC : Hid (lpC N g = 0)) :
    Calls Try.prog 28 #[.agg (sqc N g)] w fun e w' => e = .returned (.tuple #[.bool (amB g N), .int .i64 0]) ∧ Below w.heap.size w w' := by
  have hTb := im_bound hq.lo hq.hi
  have HQ := hid hq
  have HTR := hid (fun i hi => imM_tri hq (i := i) hi)
  obtain ⟨T, hT⟩ : ∃ T, N * (2 * N + 1) = T := ⟨_, rfl⟩
  have HTT := hid hT
  rw [hT] at hTb HTR
  have HNO := hid (fun i (hi : i < T) (h : autE g N (imM g N i) = false) => amB_no (by rw [hT]; exact hi) h)
  have HYES := hid (fun (h : ∀ i, i < T → autE g N (imM g N i) = true) => amB_iff.2 (by rw [hT]; exact h))
  obtain ⟨ht0, ht210⟩ := hTb
  have ht1 : (T : Int) ≤ 210 := by omega
  clear hq hT
  have hH := Has.start1 w (sqc N g) 32
  go_enter Try.func28, Try.ntmps28
  go_wp2_with (first | fail | (refine wpL_loadFull rfl rfl rfl rowSq hH.h0 (sqc_size _ _) ?_) | (go_at_call 70; refine (loopCode_nil N g _).mono ?_; rintro e w2 ⟨rfl, hb⟩; rw [hC.out]; replace hH := hH.call' hb; clear hb) | (go_at_call 71; refine (innerMaps_any N g _ HQ.out).mono ?_; rintro e w3 ⟨v3, rfl, hb, hO⟩; rw [HTT.out] at hO; obtain ⟨gl, cl, rfl, hgl, hp⟩ := hO.form ht0; have hsz0 := hH.size; simp only [List.length_cons, List.length_nil] at hsz0; replace hH := hH.call' hb; clear hb hO; have hgl2 : w.heap.size + 1 ≤ gl := (by omega); clear hgl hsz0))
  go_loopw [15] (fun i wr => ∃ k : Nat, k ≤ T ∧ i = .int .i64 k ∧ Has w wr [(sqc N g, 32)] ∧ Hid (PRow wr gl T (inF g N)) ∧ Hid (∀ i, i < k → autE g N (imM g N i) = true)) (fun i _ => 300 - (intOf i).toNat)
  case atStart => exact ⟨0, by omega, rfl, hH, hid hp, hid (fun i hi => by omega)⟩
  case round =>
    clear hH hp
    obtain ⟨k, hk, rfl, hH, hp, hA⟩ := hrel
    by_cases hlt : k < T
    · have hk1 : (k : Int) < T := by omega
      obtain ⟨f, hf⟩ : ∃ f, imM g N k = f := ⟨_, rfl⟩
      have HF := hid (show ∀ j, j < 10 → inF g N (k * 10 + j) = f j from fun j hj => by rw [inF_at _ _ _ hj, hf])
      have HTR2 := hid (HTR.out k hlt)
      have HNO2 := hid (HNO.out k hlt)
      have HFE := hid hf
      rw [hf] at HTR2 HNO2
      clear hf
      have hsz := hH.size
      simp only [List.length_cons, List.length_nil] at hsz
      obtain ⟨r, hr⟩ : ∃ r, autE g N f = r := ⟨_, rfl⟩
      have HR := hid hr
      rw [hr] at HNO2
      clear hr
      go_wp2_with (first | fail | (refine wpL_loadPr (g := gl) (k := k) (f := f) rfl rfl rfl hp.out hlt HF.out ?_) | (refine wpL_storeN (x := .tmp 6) rfl rfl rfl rfl rowPl hgq (u8s_size _ _) (u8s_ok _ _) ?_; intro w5 hz hO hT; replace hH := hT _ _ hH (by simp; omega); replace hp := hid (hp.out.hold (by omega) hO); replace hgq := hz; clear hz hO hT) | (refine wpL_allocN (o := ⟨some 6, _, _, _, _, _⟩) rfl rfl zeroPl ?_; intro gq w4 hgq hlq hb; replace hH := hH.call' hb; have hlq2 : gl < gq := (by have := hp.out.lt; omega); have hlq3 : w.heap.size + 1 ≤ gq := (by omega); replace hp := hid (hp.out.below hb); clear hb hlq))
      simp only [Act.put, List.setIfInBounds_toArray, List.set_cons_zero, List.set_cons_succ]
      refine wp_region_frame (X := Unit) (fun d _ => [(19, bif d 0 then .agg (sqc N g) else u19), (20, bif d 1 then .agg (u8s 10 f) else u20), (21, bif d 2 then .agg (u8s 10 f) else u21), (22, bif d 3 then .agg (u8s 10 f) else u22), (23, bif d 4 then .agg (u8s 30 (mkTri f f f)) else u23), (24, bif d 5 then .agg (sqc N (isoP g (mkTri f f f) N N 0)) else u24), (25, bif d 6 then .agg (sqc N g) else u25), (26, bif d 7 then .bool (!r) else u26)])
        (fun d _ w' => Has w w' [(sqc N g, 32)] ∧ Hid (PRow w' gl T (inF g N)) ∧ holds w' gq (u8s 10 f) 97) (by kernel_rfl) (by kernel_rfl) ?h0_am ?hs_am ?hq_am
      case h0_am => exact ⟨(), (by simp [lput]), hH.drew, hid (hp.out.block rfl), (show _ from hgq)⟩
      case hs_am =>
        refine ⟨?_, ?_, ?_, ?_, ?_, ?_, ?_, ?_, trivial⟩
        all_goals
          clear hH hp hgq
          intro d _ w1 hd hn hJ
          simp only [needs, Region.binds, reduceCtorEq, Bool.false_eq_true, false_implies, true_and, and_true, true_implies, forall_const] at hn
          simp only [lput, List.set, hn, cond_true]
          obtain ⟨hH, hp, hgq⟩ := hJ
          go_wp2_with (first | fail | (refine wpL_loadFull rfl rfl rfl rowSq hH.h0 (sqc_size _ _) ?_) | (refine wpL_loadFull (x := .tmp 6) rfl rfl rfl rowPl hgq (u8s_size _ _) ?_) | (refine wpL_build3 (T := 101) rfl (by rfl) (by rfl) (by rfl) (by rfl) (builtTr3 f f f) ?_) | (go_at_call 74; refine (isotopeBy_any N g (mkTri f f f) _ HQ.out HTR2.out).mono ?_; rintro e w3 ⟨rfl, hb⟩; replace hH := hH.call' hb; replace hp := hid (hp.out.below hb); replace hgq := holds_below hgq hb (holds_lt hgq); clear hb) | (refine wpL_neqAgg (b := r) rfl rfl rfl rfl gdSq (by rw [eqSq]; exact congrArg (fun z => Result.ok z _) HR.out) ?_))
          first
            | (refine ⟨(), ?_, hH, hp, hgq⟩; (simp [lput, done, hn]; done))
            | (refine ⟨?_, hH, hp, hgq⟩; (simp [lput, done, hn]; done))
            | (refine ⟨(), ?_, hH, hp, hgq⟩; (simp [lput, done, hn]; rfl))
            | (refine ⟨?_, hH, hp, hgq⟩; (simp [lput, done, hn]; rfl))
            | (refine ⟨(), ?_, hH, hp, hgq⟩; (simp [lput, done]; done))
            | (refine ⟨?_, hH, hp, hgq⟩; (simp [lput, done]; done))
            | (refine ⟨(), ?_, hH, hp, hgq⟩; (simp [lput, done]; rfl))
            | (refine ⟨?_, hH, hp, hgq⟩; (simp [lput, done]; rfl))
      case hq_am =>
        clear hH hp hgq
        intro d _ w1 hd hJ
        simp only [allDone, List.length_cons, List.length_nil, Nat.reduceAdd, and_true] at hd
        obtain ⟨hH, hp, hgq⟩ := hJ
        simp only [lput, List.set, hd, cond_true]
        clear hd
        cases r with
        | true =>
          go_wp2
          go_roundw
          case rel => exact ⟨k + 1, by omega, by go_num, hH, hp, hid (fun i hi => by
            by_cases e : i = k
            · subst e; rw [HFE.out]; exact HR.out
            · exact hA.out i (by omega))⟩
          case measure => simp [intOf]; omega
        | false =>
          have HV := hid (HNO2.out rfl)
          go_wp2
          go_ret2
          rw [HV.out]
          exact ⟨rfl, hH.below⟩
    · obtain rfl : k = T := by omega
      have HV := hid (HYES.out hA.out)
      go_wp2
      go_ret2
      rw [HV.out]
      exact ⟨rfl, hH.below⟩
set_option maxRecDepth 20000 in
set_option maxHeartbeats 1000000 in
theorem specIsAutomorphicLoop_err (o : Int) (g : Nat → UInt8) (z : Int) (w : World) (hz : (z == 0) = false) (hC : Hid (lpC o g = z)) :
    Calls Try.prog 27 #[.agg (sqc o g)] w fun e w' => e = .returned (.tuple #[.bool false, .int .i64 z]) ∧ Below w.heap.size w w' := by
  have hz2 : ¬ z = 0 := by simpa using hz
  have hH := Has.start1 w (sqc o g) 32
  go_enter Try.func27, Try.ntmps27
  go_wp2_with (first | fail | (refine wpL_loadFull rfl rfl rfl rowSq hH.h0 (sqc_size _ _) ?_) | (go_at_call 68; refine (l04Loop_nil o g _).mono ?_; rintro e w2 ⟨rfl, hb⟩; rw [hC.out]; replace hH := hH.call' hb; clear hb))
  go_ret2
  exact ⟨rfl, hH.below⟩
set_option maxRecDepth 20000 in
set_option maxHeartbeats 4000000 in
theorem specIsAutomorphicLoop_in (N : Nat) (g : Nat → UInt8) (w : World) (hq : IsSq N g) (hC : Hid (lpC N g = 0)) :
    Calls Try.prog 27 #[.agg (sqc N g)] w fun e w' => e = .returned (.tuple #[.bool (amB g N), .int .i64 0]) ∧ Below w.heap.size w w' := by
  have hTb := im_bound hq.lo hq.hi
  have HQ := hid hq
  have HTR := hid (fun i hi => imM_tri hq (i := i) hi)
  obtain ⟨T, hT⟩ : ∃ T, N * (2 * N + 1) = T := ⟨_, rfl⟩
  have HTT := hid hT
  rw [hT] at hTb HTR
  have HNO := hid (fun i (hi : i < T) (h : autE g N (imM g N i) = false) => amB_no (by rw [hT]; exact hi) h)
  have HYES := hid (fun (h : ∀ i, i < T → autE g N (imM g N i) = true) => amB_iff.2 (by rw [hT]; exact h))
  obtain ⟨ht0, ht210⟩ := hTb
  clear hq hT
  have hH := Has.start1 w (sqc N g) 32
  go_enter Try.func27, Try.ntmps27
  go_wp2_with (first | fail | (refine wpL_loadFull rfl rfl rfl rowSq hH.h0 (sqc_size _ _) ?_) | (go_at_call 68; refine (l04Loop_nil N g _).mono ?_; rintro e w2 ⟨rfl, hb⟩; rw [hC.out]; replace hH := hH.call' hb; clear hb) | (go_at_call 69; refine (l04Inner_any N g _ HQ.out).mono ?_; rintro e w3 ⟨v3, m, G, rfl, hb, hO, hmt, hA⟩; rw [HTT.out] at hmt hA; have hm0 : 0 < m := (by obtain ⟨k, hk, _⟩ := hA.all 0 ht0; omega); obtain ⟨gl, cl, rfl, hgl, hp⟩ := hO.form hm0; have hsz0 := hH.size; simp only [List.length_cons, List.length_nil] at hsz0; replace hH := hH.call' hb; clear hb hO; have hgl2 : w.heap.size + 1 ≤ gl := (by omega); have HA := hid hA; clear hgl hsz0 hA))
  have hm1 : (m : Int) ≤ 210 := by omega
  go_loopw [6] (fun i wr => ∃ k : Nat, k ≤ m ∧ i = .int .i64 k ∧ Has w wr [(sqc N g, 32)] ∧ Hid (PRow wr gl m G) ∧ Hid (∀ i, i < T → (∃ k', k' < k ∧ ∀ j, j < 10 → G (k' * 10 + j) = inF g N (i * 10 + j)) → autE g N (imM g N i) = true)) (fun i _ => 300 - (intOf i).toNat)
  case atStart => exact ⟨0, by omega, rfl, hH, hid hp, hid (fun i _ hi => by obtain ⟨k', hk', _⟩ := hi; omega)⟩
  case round =>
    clear hH hp
    obtain ⟨k, hk, rfl, hH, hp, hB⟩ := hrel
    by_cases hlt : k < m
    · have hk1 : (k : Int) < m := by omega
      obtain ⟨i0, hi0, e0⟩ := HA.out.of k hlt
      obtain ⟨f, hf⟩ : ∃ f, imM g N i0 = f := ⟨_, rfl⟩
      have HF := hid (show ∀ j, j < 10 → G (k * 10 + j) = f j from fun j hj => by rw [e0 j hj, inF_at _ _ _ hj, hf])
      have HTR2 := hid (HTR.out i0 hi0)
      have HNO2 := hid (HNO.out i0 hi0)
      rw [hf] at HTR2 HNO2
      have HE0 := hid (show ∀ i, (∀ j, j < 10 → G (k * 10 + j) = inF g N (i * 10 + j)) → autE g N (imM g N i) = autE g N f from fun i hi => by
        rw [← hf]
        exact congrArg (autE g N) (imM_ext HQ.out.hi fun j hj => by rw [← inF_at g N i hj, ← hi j hj, e0 j hj, inF_at _ _ _ hj]))
      clear hf e0
      have hsz := hH.size
      simp only [List.length_cons, List.length_nil] at hsz
      obtain ⟨r, hr⟩ : ∃ r, autE g N f = r := ⟨_, rfl⟩
      have HR := hid hr
      rw [hr] at HNO2 HE0
      clear hr
      go_wp2
      refine wp_region_frame (X := Unit) (fun d _ => [(20, bif d 0 then .agg (sqc N g) else u20), (21, bif d 1 then .slice (some ⟨gl, 0, none⟩) m cl else u21), (22, bif d 2 then .int .i64 k else u22), (23, bif d 3 then .pointer (some ⟨gl, k * 10, none⟩) else u23), (24, bif d 4 then .agg (u8s 10 f) else u24), (25, bif d 5 then .slice (some ⟨gl, 0, none⟩) m cl else u25), (26, bif d 6 then .int .i64 k else u26), (27, bif d 7 then .pointer (some ⟨gl, k * 10, none⟩) else u27), (28, bif d 8 then .agg (u8s 10 f) else u28), (29, bif d 9 then .slice (some ⟨gl, 0, none⟩) m cl else u29), (30, bif d 10 then .int .i64 k else u30), (31, bif d 11 then .pointer (some ⟨gl, k * 10, none⟩) else u31), (32, bif d 12 then .agg (u8s 10 f) else u32), (33, bif d 13 then .agg (u8s 30 (mkTri f f f)) else u33), (34, bif d 14 then .agg (sqc N (isoP g (mkTri f f f) N N 0)) else u34), (35, bif d 15 then .agg (sqc N g) else u35), (36, bif d 16 then .bool (!r) else u36)])
        (fun d _ w' => Has w w' [(sqc N g, 32)] ∧ Hid (PRow w' gl m G)) (by kernel_rfl) (by kernel_rfl) ?h0_am ?hs_am ?hq_am
      case h0_am => exact ⟨(), (by simp [lput]), hH.drew, hid (hp.out.block rfl)⟩
      case hs_am =>
        refine ⟨?_, ?_, ?_, ?_, ?_, ?_, ?_, ?_, ?_, ?_, ?_, ?_, ?_, ?_, ?_, ?_, ?_, trivial⟩
        all_goals
          clear hH hp
          intro d _ w1 hd hn hJ
          simp only [needs, Region.binds, reduceCtorEq, Bool.false_eq_true, false_implies, true_and, and_true, true_implies, forall_const] at hn
          simp only [lput, List.set, hn, cond_true]
          obtain ⟨hH, hp⟩ := hJ
          go_wp2_with (first | fail | (refine wpL_loadFull rfl rfl rfl rowSq hH.h0 (sqc_size _ _) ?_) | (refine wpL_loadPr (g := gl) (k := k) (f := f) rfl rfl rfl hp.out hlt HF.out ?_) | (refine wpL_build3 (T := 101) rfl (by rfl) (by rfl) (by rfl) (by rfl) (builtTr3 f f f) ?_) | (go_at_call 73; refine (l02Isotope_any N g (mkTri f f f) _ HQ.out HTR2.out).mono ?_; rintro e w3 ⟨rfl, hb⟩; replace hH := hH.call' hb; replace hp := hid (hp.out.below hb); clear hb) | (refine wpL_neqAgg (b := r) rfl rfl rfl rfl gdSq (by rw [eqSq]; exact congrArg (fun z => Result.ok z _) HR.out) ?_))
          first
            | (refine ⟨(), ?_, hH, hp⟩; (simp [lput, done, hn]; done))
            | (refine ⟨?_, hH, hp⟩; (simp [lput, done, hn]; done))
            | (refine ⟨(), ?_, hH, hp⟩; (simp [lput, done, hn]; rfl))
            | (refine ⟨?_, hH, hp⟩; (simp [lput, done, hn]; rfl))
            | (refine ⟨(), ?_, hH, hp⟩; (simp [lput, done]; done))
            | (refine ⟨?_, hH, hp⟩; (simp [lput, done]; done))
            | (refine ⟨(), ?_, hH, hp⟩; (simp [lput, done]; rfl))
            | (refine ⟨?_, hH, hp⟩; (simp [lput, done]; rfl))
      case hq_am =>
        clear hH hp
        intro d _ w1 hd hJ
        simp only [allDone, List.length_cons, List.length_nil, Nat.reduceAdd, and_true] at hd
        obtain ⟨hH, hp⟩ := hJ
        simp only [lput, List.set, hd, cond_true]
        clear hd
        cases r with
        | true =>
          go_wp2
          go_roundw
          case rel => exact ⟨k + 1, by omega, by go_num, hH, hp, hid (fun i hi hx => by
            obtain ⟨k', hk', e⟩ := hx
            by_cases c : k' = k
            · subst c; exact HE0.out i e
            · exact hB.out i hi ⟨k', by omega, e⟩)⟩
          case measure => simp [intOf]; omega
        | false =>
          have HV := hid (HNO2.out rfl)
          go_wp2
          go_ret2
          rw [HV.out]
          exact ⟨rfl, hH.below⟩
    · obtain rfl : k = m := by omega
      have HV := hid (HYES.out (fun i hi => hB.out i hi (HA.out.all i hi)))
      go_wp2
      go_ret2
      rw [HV.out]
      exact ⟨rfl, hH.below⟩
end Go.Proofs.Ytbhjbllgmenbaab
