/- Proved: what marking a list of lists that was made from what came in does. Conditions: those that each theorem names. -/
import Derived.Test.YtbhjbllgmenbaaaSn
import Derived.Test.YtbhjbllgmenbaaaLi
namespace Go.Proofs.Ytbhjbllgmenbaaa
set_option linter.unusedVariables false
set_option linter.unusedSimpArgs false
open Go.RowKit
/-- How many numbers the lists before j have. -/
def sumM (m : Nat → Nat) : Nat → Nat
  | 0 => 0
  | j + 1 => sumM m j + m j
theorem szT_sum {m : Nat → Nat} {z : Int} : ∀ n, 0 ≤ szT m z n → szT m z n = z - (sumM m n : Nat)
  | 0, _ => by simp [szT, sumM]
  | n + 1, h => by
    have e : szT m z (n + 1) = if szT m z n < 0 then -1 else if szT m z n - (m n : Int) < 0 then -1 else szT m z n - (m n : Int) := rfl
    by_cases q : szT m z n < 0
    · rw [e, if_pos q] at h; omega
    · by_cases q2 : szT m z n - (m n : Int) < 0
      · rw [e, if_neg q, if_pos q2] at h; omega
      · rw [e, if_neg q, if_neg q2, szT_sum n (by omega)]
        show _ = z - ((sumM m n + m n : Nat) : Int)
        omega
theorem szR_sum {n : Nat} {m : Nat → Nat} (h : ¬ szR n m < 0) : sumM m n ≤ 1048576 := by
  unfold szR at h
  by_cases q : (1048576 : Int) - (n : Int) < 0
  · rw [if_pos q] at h; omega
  · rw [if_neg q] at h
    have := szT_sum n (Int.not_lt.1 h)
    omega
theorem sumM_le {m : Nat → Nat} {n : Nat} : ∀ {j}, j ≤ n → sumM m j ≤ sumM m n := by
  induction n with
  | zero => intro j h; obtain rfl : j = 0 := by omega
            exact Nat.le_refl _
  | succ n ih =>
    intro j h
    by_cases q : j = n + 1
    · subst q; exact Nat.le_refl _
    · have := ih (j := j) (by omega)
      show sumM m j ≤ sumM m n + m n
      omega
theorem exMax {m : Nat → Nat} {p : Nat → Prop} : ∀ {n : Nat}, (∃ i, i < n ∧ p i) → ∃ i, i < n ∧ p i ∧ ∀ j, j < n → p j → m j ≤ m i
  | 0, ⟨i, h, _⟩ => by omega
  | n + 1, h => by
    by_cases hx : ∃ i, i < n ∧ p i
    · obtain ⟨i, hi, hp, hm⟩ := exMax (m := m) hx
      by_cases hl : p n ∧ m i < m n
      · exact ⟨n, by omega, hl.1, fun j hj hpj => by
          by_cases e : j = n
          · subst e; exact Nat.le_refl _
          · have := hm j (by omega) hpj; omega⟩
      · exact ⟨i, by omega, hp, fun j hj hpj => by
          by_cases e : j = n
          · subst e; exact Nat.le_of_not_lt fun q => hl ⟨hpj, q⟩
          · exact hm j (by omega) hpj⟩
    · obtain ⟨i, hi, hp⟩ := h
      have e : i = n := by
        by_cases q : i = n
        · exact q
        · exact absurd ⟨i, by omega, hp⟩ hx
      subst e
      exact ⟨i, hi, hp, fun j hj hpj => by
        by_cases q : j = i
        · subst q; exact Nat.le_refl _
        · exact absurd ⟨j, by omega, hpj⟩ hx⟩
/-- Block g begins with numbers, as many as each list has that lies there. -/
def GoodS (w : World) (n : Nat) (m : Nat → Nat) (cs : Array Value) (g : Nat) : Prop :=
  ∃ N r, Row w g N r ∧ ∀ j, j < n → cs[j]? = some (.slice (some ⟨g, 0, none⟩) (m j) (m j)) → m j ≤ N
/-- Block b holds n lists, all in blocks ahead of B; their numbers may be what they are. -/
def SX (w : World) (b n : Nat) (m : Nat → Nat) (cs : Array Value) (B : Nat) : Prop :=
  holds w b cs 26 ∧ ∀ i, i < n → ∃ g, cs[i]? = some (.slice (some ⟨g, 0, none⟩) (m i) (m i)) ∧ b < g ∧ g < B ∧ GoodS w n m cs g
theorem SU.sx {w : World} {b n B : Nat} {m : Nat → Nat} {f : Nat → Nat → Int} (h : SU w b n m f B) : ∃ cs, SX w b n m cs B := by
  obtain ⟨_, cs, h1, h2, h3⟩ := h
  refine ⟨cs, h1, fun i hi => ?_⟩
  obtain ⟨g, hg, hr, hl, hgB⟩ := h3 i hi
  refine ⟨g, hg, hl, hgB, ?_⟩
  obtain ⟨k, hk, hp, hx⟩ := exMax (m := m) (p := fun j => cs[j]? = some (.slice (some ⟨g, 0, none⟩) (m j) (m j))) ⟨i, hi, hg⟩
  obtain ⟨g', hg', hr', _, _⟩ := h3 k hk
  have e : g' = g := by
    rw [hp] at hg'
    simpa using hg'.symm
  subst e
  exact ⟨m k, _, hr', hx⟩
theorem SX.step {w w' : World} {b n g N B : Nat} {m : Nat → Nat} {cs : Array Value} {r' : Nat → Int} (h : SX w b n m cs B) (hb : b < g) (hN : ∀ j, j < n → cs[j]? = some (.slice (some ⟨g, 0, none⟩) (m j) (m j)) → m j ≤ N)
    (hg : w.grownBy w' (some g)) (hr : Row w' g N r') : SX w' b n m cs B := by
  obtain ⟨h1, h3⟩ := h
  refine ⟨(hg.block b (holds_lt h1) (by simp; omega)).trans h1, fun i hi => ?_⟩
  obtain ⟨g2, e2, l2, l3, N2, r2, R2, H2⟩ := h3 i hi
  refine ⟨g2, e2, l2, l3, ?_⟩
  by_cases q : g2 = g
  · subst q; exact ⟨N, r', hr, hN⟩
  · exact ⟨N2, r2, R2.grown hg q, H2⟩
/-- Blocks outside lo .. hi are left alone. -/
structure OutX (lo hi : Nat) (w w' : World) : Prop where
  os : w'.os = w.os
  tape : w'.tape = w.tape
  output : w'.output = w.output
  size : w.heap.size ≤ w'.heap.size
  block : ∀ k, k < w.heap.size → (k < lo ∨ hi ≤ k) → w'.heap[k]? = w.heap[k]?
theorem OutX.low {lo hi : Nat} {w w' : World} (h : OutX lo hi w w') (hl : lo ≤ w.heap.size) : Below lo w w' := ⟨h.os, h.tape, h.output, h.size, fun k hk => h.block k (by omega) (.inl hk)⟩
theorem IL.outX {lo hi a b : Nat} {w w' : World} {v : Value} {l : List Int} (h : IL w a b v l) (ho : OutX lo hi w w') (hh : b ≤ lo ∨ hi ≤ a) : IL w' a b v l := by
  rcases h with h | ⟨g, cap, ev, h1, h2, h3⟩
  · exact .inl h
  · exact .inr ⟨g, cap, ev, h1, h2, h3.block (ho.block g h3.lt (by omega))⟩
set_option maxHeartbeats 1000000 in
theorem markI (b n N c : Nat) (k : Int) (f : Nat → Int) (w : World) (hN : n ≤ N) (hn : n ≤ 1048576) (hk0 : 0 ≤ k) (hk1 : k ≤ 1000000000) (h : Row w b N f) :
    Calls Try.prog 25 #[.slice (some ⟨b, 0, none⟩) n c, .int .i64 k] w fun e w' => e = .returned (.int .i64 (k + n)) ∧ w.grownBy w' (some b) ∧ ∃ r, Row w' b N r := by
  go_enter Try.func25, Try.ntmps25
  go_wp2
  go_loopw [1, 5] (fun m i wr => ∃ j : Nat, j ≤ n ∧ i = .int .i64 j ∧ m = .int .i64 (k + j) ∧ Hid (w.grownBy wr (some b)) ∧ Hid (Row wr b N (fun i => if i < j then k + i else f i))) (fun _ i _ => n - (intOf i).toNat)
  case atStart => exact ⟨0, by omega, rfl, by simp, grown_refl _ _, h.congr fun i hi => by simp⟩
  case round =>
    obtain ⟨j, hj, rfl, rfl, hG, hR⟩ := hrel
    by_cases hlt : j < n
    · have c1 := hR.out.cell (show j < N by omega)
      have f1 := hR.out.frozen j
      have hlt' : (j : Int) < (n : Int) := by omega
      go_wp2
      go_roundw
      case rel => exact ⟨j + 1, by omega, by go_num, by congr 1; omega, hid (grown_set hG.out _ _), hid (hR.out.set j _ _ fun i hi => by
          by_cases e : i = j
          · subst e; simp
          · simp [e, show i < j + 1 ↔ i < j by omega])⟩
      case measure => simp [intOf]; omega
    · obtain rfl : j = n := by omega
      have HR := hid hR.out
      go_wp2
      go_ret
      exact ⟨rfl, hG.out, _, HR.out⟩
set_option maxHeartbeats 2000000 in
theorem markSX (b n : Nat) (k : Int) (m : Nat → Nat) (B : Nat) (cs : Array Value) (w : World) (hn : n ≤ 1048576) (hM : sumM m n ≤ 1048576) (hk0 : 0 ≤ k) (hk1 : k ≤ 1000) (h : SX w b n m cs B) :
    Calls Try.prog 36 #[.slice (some ⟨b, 0, none⟩) n n, .int .i64 k] w fun e w' => e = .returned (.int .i64 (k + (sumM m n : Nat))) ∧ OutX b B w w' := by
  have HA := hid (fun j (hj : j ≤ n) => sumM_le (m := m) hj)
  have HO0 := hid (show sumM m 0 = 0 from rfl)
  have HS := hid (fun j => show sumM m (j + 1) = sumM m j + m j from rfl)
  obtain ⟨M, hMe⟩ : ∃ M, sumM m n = M := ⟨_, rfl⟩
  have HM := hid hMe
  rw [hMe] at hM ⊢
  clear hMe
  go_enter Try.func36, Try.ntmps36
  go_wp2
  go_loopw [1, 5] (fun mv i wr => ∃ j : Nat, j ≤ n ∧ i = .int .i64 j ∧ mv = .int .i64 (k + ((sumM m j : Nat) : Int)) ∧ Hid (OutX b B w wr) ∧ Hid (SX wr b n m cs B)) (fun _ i _ => n - (intOf i).toNat)
  case atStart => exact ⟨0, by omega, rfl, by rw [HO0.out]; simp, ⟨rfl, rfl, rfl, Nat.le_refl _, fun _ _ _ => rfl⟩, h⟩
  case round =>
    clear h
    obtain ⟨j, hj, rfl, rfl, hG, h⟩ := hrel
    obtain ⟨o, ho⟩ : ∃ o, sumM m j = o := ⟨_, rfl⟩
    have HQ := hid ho
    rw [ho] at ⊢
    have ha := HA.out j hj
    rw [ho, HM.out] at ha
    clear ho
    by_cases hlt : j < n
    · obtain ⟨g, e1, hbg, hgB, N, r, hR, hN⟩ := h.out.2 j hlt
      have c1 : wr.cell? ⟨b, j, none⟩ = some (.slice (some ⟨g, 0, none⟩) (m j) (m j)) := by rw [holds_cell h.out.1, e1]
      have hmN := hN j hlt e1
      have HN := hid hN
      have HR := hid hR
      have hs1 := HS.out j
      have ha1 := HA.out (j + 1) (by omega)
      rw [hs1, HQ.out, HM.out] at ha1
      obtain ⟨q, hq⟩ : ∃ q, m j = q := ⟨_, rfl⟩
      rw [hq] at c1 ha1 hmN hs1
      have HOS := hid hs1
      clear hq hR hN e1 hs1
      have hlt' : (j : Int) < (n : Int) := by omega
      have hq1 : 0 ≤ k + (o : Int) + (q : Int) := by omega
      have HC := hid (markI g q N q (k + (o : Int)) r wr hmN (by omega) (by omega) (by omega) HR.out)
      go_wp2_with (go_at_call 25; refine HC.out.mono ?_; rintro e w' ⟨rfl, hg, r', hr⟩; have HG := hid hg; have HI := hid hr; clear hg hr)
      go_roundw
      case rel => exact ⟨j + 1, by omega, by go_num, by congr 1; rw [HOS.out, HQ.out]; omega, hid (by
          have g2 := HG.out
          have g1 := hG.out
          exact ⟨g2.os.trans g1.os, g2.tape.trans g1.tape, g2.output.trans g1.output, Nat.le_trans g1.size g2.size, fun x hx ho => (g2.block x (by have := g1.size; omega) (by simp; omega)).trans (g1.block x hx ho)⟩), hid (h.out.step hbg HN.out HG.out HI.out)⟩
      case measure => simp [intOf]; omega
    · obtain rfl : j = n := by omega
      have hoM : o = M := by rw [← HQ.out, ← HM.out]
      subst hoM
      go_wp2
      go_ret
      exact ⟨rfl, hG.out⟩
end Go.Proofs.Ytbhjbllgmenbaaa
