/- Proved: what the program's functions that write terms return, for every term. Conditions: those that each theorem names. -/
import Derived.Test.YtphninlinegbbacTi
namespace Go.Proofs.Ytphninlinegbbac
set_option linter.unusedVariables false
set_option linter.unusedSimpArgs false
open Go.RowKit
set_option maxRecDepth 20000 in
set_option maxHeartbeats 4000000 in
theorem branchText (s : UInt8) (a b : Tr) (ha : Writes a) (hb : Writes b) (hl : ln a + ln b ≤ 1000) (w : World) :
    Calls Try.prog 133 #[.agg #[.int .u8 s.toNat, encT a, encT b]] w fun e w' => e = .returned (.string (textB (.node s a b))) ∧ Below w.heap.size w w' := by
  have za : (partB a (textB a)).size ≤ 4000 := by have := partB_size a (textB a); have := textB_size a; have := ln_pos b; omega
  have zb : (partB b (textB b)).size ≤ 4000 := by have := partB_size b (textB b); have := textB_size b; have := ln_pos a; omega
  have HA := hid ha
  have HB := hid hb
  clear ha hb hl
  obtain ⟨Ta, va, ea⟩ := encT_iface a
  obtain ⟨Tb, vb, eb⟩ := encT_iface b
  have EA := hid ea
  have EB := hid eb
  go_enter Try.func133, Try.ntmps133
  rw [ea, eb]
  have hH := Has.start1 w #[.int .u8 s.toNat, .iface Ta va, .iface Tb vb] 124
  have zs : (⟨#[s]⟩ : ByteArray).size = 1 := rfl
  have hL : 1 ≤ w.heap.size + 1 := by omega
  go_wp2
  clear ea eb
  refine wp_region_frame (X := Nat) (fun d x => [(3, bif d 0 then .pointer (some ⟨w.heap.size, 1, none⟩) else undef), (4, bif d 1 then .iface Ta va else undef), (5, bif d 2 then .string (partB a (textB a)) else undef), (6, bif d 3 then .pointer (some ⟨w.heap.size, 0, none⟩) else undef), (7, bif d 4 then .int .u8 s.toNat else undef), (8, bif d 5 then .slice (some ⟨x, 0, none⟩) 1 1 else undef), (9, bif d 6 then .string ⟨#[s]⟩ else undef), (10, bif d 7 then .string (partB a (textB a) ++ ⟨#[s]⟩) else undef), (11, bif d 8 then .pointer (some ⟨w.heap.size, 2, none⟩) else undef), (12, bif d 9 then .iface Tb vb else undef), (13, bif d 10 then .string (partB b (textB b)) else undef), (14, bif d 11 then .string (partB a (textB a) ++ ⟨#[s]⟩ ++ partB b (textB b)) else undef), (2, bif d 12 then .string (partB a (textB a) ++ ⟨#[s]⟩ ++ partB b (textB b)) else .string { data := #[] })])
    (fun d x w' => Has w w' [(#[.int .u8 s.toNat, .iface Ta va, .iface Tb vb], 124)] ∧ (d 5 = true → w'.cell? ⟨x, 0, none⟩ = some (.int .u8 s.toNat))) (by kernel_rfl) (by kernel_rfl) ?h0_bt ?hs_bt ?hq_bt
  case h0_bt => exact ⟨0, (by simp [lput]), hH.drew, (fun h => by cases h)⟩
  case hs_bt =>
    refine ⟨?_, ?_, ?_, ?_, ?_, ?_, ?_, ?_, ?_, ?_, ?_, ?_, ?_, trivial⟩
    all_goals
      clear hH
      intro d x w1 hd hn hJ
      simp only [needs, Region.binds, reduceCtorEq, Bool.false_eq_true, false_implies, true_and, and_true, true_implies, forall_const] at hn
      simp only [lput, List.set, hn, cond_true]
      obtain ⟨hH, hc⟩ := hJ
      (try have hc_ := hc (by simp only [hn]))
      have c0 : w1.cell? ⟨w.heap.size, 0, none⟩ = some (.int .u8 s.toNat) := hH.c0 0
      have c1 : w1.cell? ⟨w.heap.size, 1, none⟩ = some (.iface Ta va) := hH.c0 1
      have c2 : w1.cell? ⟨w.heap.size, 2, none⟩ = some (.iface Tb vb) := hH.c0 2
      go_wp2_with (first | fail | (refine wpL_part EA.out rfl (by rfl) (by rfl) HA.out ?_; intro w2 hb; replace hH := hH.call' hb; replace hc := fun h => Below.cellAt hb (hc h)) | (refine wpL_part EB.out rfl (by rfl) (by rfl) HB.out ?_; intro w2 hb; replace hH := hH.call' hb; replace hc := fun h => Below.cellAt hb (hc h)) | (refine wpL_conv1 (u := s) rfl (by rfl) Try.underlying35 Try.underlying5 Try.underlying9 (by rfl) hc_ ?_) | (refine wpL_cat rfl (by rfl) (by rfl) (by rfl) (by (try simp only [size_app, zs]); omega) ?_))
      first
        | (refine ⟨w1.heap.size, ?_, hH.alloc _, (fun _ => by simp)⟩; (simp [lput, done, hn]; done))
        | (refine ⟨x, ?_, hH, (fun e => hc (done_ne e (by decide)))⟩; (simp [lput, done, hn]; done))
        | (refine ⟨?_, hH, (fun e => hc (done_ne e (by decide)))⟩; (simp [lput, done, hn]; done))
        | (refine ⟨x, ?_, hH, (fun e => hc (done_ne e (by decide)))⟩; (simp [lput, done, hn]; rfl))
        | (refine ⟨?_, hH, (fun e => hc (done_ne e (by decide)))⟩; (simp [lput, done, hn]; rfl))
        | (refine ⟨x, ?_, hH, (fun e => hc (done_ne e (by decide)))⟩; (simp [lput, done]; done))
        | (refine ⟨?_, hH, (fun e => hc (done_ne e (by decide)))⟩; (simp [lput, done]; done))
        | (refine ⟨x, ?_, hH, (fun e => hc (done_ne e (by decide)))⟩; (simp [lput, done]; rfl))
        | (refine ⟨?_, hH, (fun e => hc (done_ne e (by decide)))⟩; (simp [lput, done]; rfl))
  case hq_bt =>
    clear hH
    intro d x w1 hd hJ
    simp only [allDone, List.length_cons, List.length_nil, Nat.reduceAdd, and_true] at hd
    obtain ⟨hH, hc⟩ := hJ
    replace hc := hc (by simp only [hd])
    simp only [lput, List.set, hd, cond_true]
    clear hd
    go_wp2
    go_ret
    exact ⟨rfl, hH.below⟩
theorem branchPart (s : UInt8) (a b : Tr) (ha : Writes a) (hb : Writes b) (hl : ln a + ln b ≤ 1000) (w : World) :
    Calls Try.prog 132 #[.agg #[.int .u8 s.toNat, encT a, encT b]] w fun e w' => e = .returned (.string (partB (.node s a b) (textB (.node s a b)))) ∧ Below w.heap.size w w' := by
  have z : (textB (.node s a b)).size ≤ 8000 := by have := textB_size (.node s a b); simp only [ln] at this; omega
  have HT := hid (fun w => branchText s a b ha hb hl w)
  clear ha hb hl
  have z40 : (⟨#[40]⟩ : ByteArray).size = 1 := rfl
  have z41 : (⟨#[41]⟩ : ByteArray).size = 1 := rfl
  have HT2 := HT.out
  clear HT
  obtain ⟨Ta, va, ea⟩ := encT_iface a
  obtain ⟨Tb, vb, eb⟩ := encT_iface b
  rw [ea, eb] at HT2 ⊢
  have HT := hid HT2
  clear ea eb HT2
  have hH := Has.start1 w #[.int .u8 s.toNat, .iface Ta va, .iface Tb vb] 124
  go_enter Try.func132, Try.ntmps132
  go_wp2_with (first | (go_at_call 133; refine (HT.out _).mono ?_; rintro e w2 ⟨rfl, hb⟩; replace hH := hH.call' hb; clear hb) | (refine wpL_cat rfl (by rfl) (by rfl) (by rfl) (by (try simp only [size_app, z40]); omega) ?_))
  go_ret
  exact ⟨rfl, hH.below⟩
/-- Every term is written. -/
theorem writes : ∀ (t : Tr), ln t ≤ 1000 → Writes t
  | .leaf c, _ => ⟨fun w => leafText c w, fun w => leafPart c w⟩
  | .node s a b, h => by
    have h' : ln a + ln b + 1 ≤ 1000 := h
    have ha := writes a (by omega)
    have hb := writes b (by omega)
    exact ⟨fun w => branchText s a b ha hb (by omega) w, fun w => branchPart s a b ha hb (by omega) w⟩
end Go.Proofs.Ytphninlinegbbac
