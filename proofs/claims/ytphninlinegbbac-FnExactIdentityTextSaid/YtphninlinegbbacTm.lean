/- Proved: what the model's functions that write terms return. Conditions: those that each theorem names. -/
import Derived.Test.YtphninlinegbbacTe2
import Derived.Test.YtphninlinegbbacTi
namespace Go.Proofs.Ytphninlinegbbac
set_option linter.unusedVariables false
set_option linter.unusedSimpArgs false
open Go.RowKit
theorem infoStr : (Try.prog.info? 9).map (fun i => (i.zero, i.size, i.bytes)) = some (some (.string ⟨#[]⟩), 1, 16) := by kernel_rfl
theorem textB_pos (t : Tr) : 1 ≤ (textB t).size := by
  cases t with
  | leaf c => exact Nat.le_refl 1
  | node s a b =>
    simp only [textB, size_app]
    show 1 ≤ _ + 1 + _
    omega
theorem partB_pos (t : Tr) : 1 ≤ (partB t (textB t)).size := by
  cases t with
  | leaf c => exact Nat.le_refl 1
  | node s a b =>
    simp only [partB, size_app]
    show 1 ≤ 1 + _ + 1
    omega
theorem textB_three (s : UInt8) (a b : Tr) : 3 ≤ (textB (.node s a b)).size := by
  have h1 := partB_pos a
  have h2 := partB_pos b
  simp only [textB, size_app]
  show 3 ≤ _ + 1 + _
  omega
theorem l03Part_any (t : Tr) (h : ln t ≤ 1000) (w : World) : Calls Try.prog 85 #[.string (textB t)] w fun e w' => e = .returned (.string (partB t (textB t))) ∧ w = w' := by
  have z := textB_size t
  cases t with
  | leaf c =>
    have z1 : (textB (.leaf c)).size = 1 := rfl
    go_enter Try.func85, Try.ntmps85
    go_wp2
    go_ret
    exact ⟨rfl, rfl⟩
  | node s a b =>
    have z3 := textB_three s a b
    have e : partB (.node s a b) (textB (.node s a b)) = ⟨#[40]⟩ ++ textB (.node s a b) ++ ⟨#[41]⟩ := rfl
    rw [e]
    obtain ⟨T, hT⟩ : ∃ T, textB (.node s a b) = T := ⟨_, rfl⟩
    rw [hT] at z z3 ⊢
    have hne : ((T.size : Int) == 1) = false := by rw [beq_eq_false_iff_ne]; omega
    have z40 : (⟨#[40]⟩ : ByteArray).size = 1 := rfl
    clear e hT
    go_enter Try.func85, Try.ntmps85
    go_wp2_with (refine wpL_cat rfl (by rfl) (by rfl) (by rfl) (by (try simp only [size_app, z40]); omega) ?_)
    go_ret
    exact ⟨rfl, rfl⟩
theorem var_noop {c : UInt8} (h : isVar c = true) : isOp c = false := by
  rcases letters c with hv | ho | ⟨_, _, _, ho⟩
  · rcases hv with rfl | rfl | rfl | rfl <;> rfl
  · rw [op_novar ho] at h; cases h
  · exact ho
/-- What a stack of texts is kept as. -/
def strV (t : Tr) : Value := .string (textB t)
set_option maxRecDepth 20000 in
set_option maxHeartbeats 8000000 in
theorem l03Text_any (b n c : Nat) (f : Nat → UInt8) (t : Tr) (w : World) (h : BRow w b n f) (ht : termT f n = some t) :
    Calls Try.prog 57 #[.slice (some ⟨b, 0, none⟩) n c] w fun e w' => e = .returned (.string (textB t)) ∧ Below w.heap.size w w' := by
  obtain ⟨h40, hrun, hln⟩ := termT_some ht
  have HU := hid hrun
  have HR := hid h
  clear h hrun ht hln
  go_enter Try.func57, Try.ntmps57
  go_wp2
  go_loopw [3, 4] (fun v i wr => ∃ k m : Nat, k ≤ n ∧ m ≤ k ∧ i = .int .i64 k ∧ Below w.heap.size w wr ∧ Hid (∃ l, runT f k = some l ∧ l.length = m ∧ OX 9 strV wr w.heap.size v l)) (fun _ i _ => n - (intOf i).toNat)
  case atStart => exact ⟨0, 0, by omega, by omega, rfl, (Below.refl _ _).alloc (Nat.le_refl _) _, hid ⟨[], rfl, rfl, World.ownsRow_made _ #[] 0 (Nat.le_refl _) (by unfold maxLen; omega) rfl⟩⟩
  case round =>
    obtain ⟨k, m, hk, hm, rfl, hB, hl⟩ := hrel
    have hs : w.heap.size ≤ wr.heap.size := hB.size
    by_cases hlt : k < n
    · have hlt' : (k : Int) < (n : Int) := by omega
      have ca := (HR.out.below hB).cell hlt
      obtain ⟨ch, hx⟩ : ∃ ch, f k = ch := ⟨_, rfl⟩
      rw [hx] at ca
      obtain ⟨l, e1, e2, e3⟩ := hl.out
      obtain ⟨l', hn1⟩ := runT_upto HU.out (k + 1) hlt
      obtain ⟨l0, e0, hst⟩ := runT_back hn1
      obtain rfl : l = l0 := by rw [e1] at e0; exact Option.some.inj e0
      rw [hx] at hst
      have HL := hid (runT_ln e1)
      have HN := hid hn1
      have hO := hid e3
      have H2 := hid e2
      have hH : Has w wr [] := (Has.nil w).call' hB
      obtain ⟨A, cap, rfl⟩ : ∃ A cap, u3 = .slice A m cap := by
        rw [← e2]
        rcases e3.form with ⟨rfl, rfl⟩ | ⟨g, cap, rfl, _⟩
        · exact ⟨none, 0, rfl⟩
        · exact ⟨_, cap, rfl⟩
      clear hl hn1 e0 e1 e2 e3 hx
      go_wp2
      refine wp_region_frame (X := Nat) (fun d x => [(15, bif d 0 then .slice A m cap else u15), (16, bif d 1 then .int .i64 m else u16), (17, bif d 2 then .slice (some ⟨b, 0, none⟩) n c else u17), (18, bif d 3 then .int .i64 k else u18), (19, bif d 4 then .pointer (some ⟨b, k, none⟩) else u19), (20, bif d 5 then .int .u8 ch.toNat else u20), (21, bif d 6 then .slice (some ⟨x, 0, none⟩) 1 1 else u21), (22, bif d 7 then .string ⟨#[ch]⟩ else u22), (5, bif d 8 then .int .i64 m else u5), (6, bif d 9 then .string ⟨#[ch]⟩ else u6)])
        (fun d x w' => Has w w' [] ∧ Hid (OX 9 strV w' w.heap.size (.slice A m cap) l) ∧ w'.cell? ⟨b, k, none⟩ = some (.int .u8 ch.toNat) ∧ (d 6 = true → w'.cell? ⟨x, 0, none⟩ = some (.int .u8 ch.toNat))) (by kernel_rfl) (by kernel_rfl) ?h0_tx ?hs_tx ?hq_tx
      case h0_tx => exact ⟨0, (by simp [lput]), hH.drew, hid hO.out.drew, (show _ from ca), (fun h => by cases h)⟩
      case hs_tx =>
        refine ⟨?_, ?_, ?_, ?_, ?_, ?_, ?_, ?_, ?_, ?_, trivial⟩
        all_goals
          clear hH hO ca
          intro d x w1 hd hn hJ
          simp only [needs, Region.binds, reduceCtorEq, Bool.false_eq_true, false_implies, true_and, and_true, true_implies, forall_const] at hn
          simp only [lput, List.set, hn, cond_true]
          obtain ⟨hH, hO, ca, hc⟩ := hJ
          (try have hc_ := hc (by simp only [hn]))
          go_wp2_with (first | fail | (refine wpL_conv1 (u := ch) rfl (by rfl) Try.underlying35 Try.underlying5 Try.underlying9 (by rfl) hc_ ?_))
          first
            | (refine ⟨w1.heap.size, ?_, hH.alloc _, hid (hO.out.alloc _), Below.cellAt ((Below.refl _ _).alloc (Nat.le_refl _) _) ca, (fun _ => by simp)⟩; (simp [lput, done, hn]; done))
            | (refine ⟨x, ?_, hH, hO, ca, (fun e => hc (done_ne e (by decide)))⟩; (simp [lput, done, hn]; done))
            | (refine ⟨?_, hH, hO, ca, (fun e => hc (done_ne e (by decide)))⟩; (simp [lput, done, hn]; done))
            | (refine ⟨x, ?_, hH, hO, ca, (fun e => hc (done_ne e (by decide)))⟩; (simp [lput, done, hn]; rfl))
            | (refine ⟨?_, hH, hO, ca, (fun e => hc (done_ne e (by decide)))⟩; (simp [lput, done, hn]; rfl))
            | (refine ⟨x, ?_, hH, hO, ca, (fun e => hc (done_ne e (by decide)))⟩; (simp [lput, done]; done))
            | (refine ⟨?_, hH, hO, ca, (fun e => hc (done_ne e (by decide)))⟩; (simp [lput, done]; done))
            | (refine ⟨x, ?_, hH, hO, ca, (fun e => hc (done_ne e (by decide)))⟩; (simp [lput, done]; rfl))
            | (refine ⟨?_, hH, hO, ca, (fun e => hc (done_ne e (by decide)))⟩; (simp [lput, done]; rfl))
      case hq_tx =>
        clear hH hO ca
        intro d x w1 hd hJ
        simp only [allDone, List.length_cons, List.length_nil, Nat.reduceAdd, and_true] at hd
        obtain ⟨hH, hO, ca, hc⟩ := hJ
        replace hc := hc (by simp only [hd])
        simp only [lput, List.set, hd, cond_true]
        clear hd
        clear hc
        rcases hst with ⟨hv, rfl⟩ | ⟨hv, ho, p, y1, y2, rfl, rfl⟩
        · have hno := var_noop hv
          clear hv
          go_wp2_with (first | fail | (go_at_call 84; refine (l03Op_any ch _).mono ?_; rintro e w4 ⟨rfl, rfl⟩; rw [hno]) | (refine wpL_appX (en := strV) infoStr rfl (by omega) rfl Try.underlying68 (fun _ => rfl) rfl (by rfl) (.leaf ch) (by rfl) (by rfl) H2.out (hO.out.alloc _) ?h2 (by omega) ?h3 ?h4))
          case h2 => (simp [strV, textB]; done)
          case h3 => (have := hH.size; simp at this ⊢; omega)
          case h4 =>
            intro g3 cap3 w5 ho3 hg3 _
            have HO3 := hid ho3
            have HG3 := hid hg3
            clear ho3 hg3
            go_wp2
            go_roundw
            case rel => exact ⟨k + 1, m + 1, by omega, by omega, by go_num, (hO.out.alloc _).grow (hH.below.alloc hH.size _) (by have := hH.size; simp at this ⊢; omega) HG3.out, hid ⟨_, HN.out, by simp [H2.out], HO3.out⟩⟩
            case measure => simp [intOf]; omega
        · obtain ⟨g, cap', eV, hlo, hcap, ce1, ce2, ho3⟩ := hO.out.two
          obtain ⟨rfl, hm2, rfl⟩ : A = some ⟨g, 0, none⟩ ∧ m = p.length + 2 ∧ cap = cap' := by simpa using eV
          obtain ⟨q, hq⟩ : ∃ q, p.length = q := ⟨_, rfl⟩
          rw [hq] at hm2 hcap ce1 ce2 ho3
          subst hm2
          have hsum := HL.out
          simp [lns, List.sum_append] at hsum
          have hl1 : ln y1 ≤ 1000 := by omega
          have hl2 : ln y2 ≤ 1000 := by omega
          have z1 : (partB y1 (textB y1)).size ≤ 4000 := by have := partB_size y1 (textB y1); have := textB_size y1; omega
          have z2 : (partB y2 (textB y2)).size ≤ 4000 := by have := partB_size y2 (textB y2); have := textB_size y2; omega
          have zc : (⟨#[ch]⟩ : ByteArray).size = 1 := rfl
          replace ce1 : w1.cell? ⟨g, q, none⟩ = some (.string (textB y1)) := ce1
          replace ce2 : w1.cell? ⟨g, q + 1, none⟩ = some (.string (textB y2)) := ce2
          clear hO
          have hO := hid ho3
          have HQ := hid hq
          clear hsum ho3 hq eV hv HL H2
          go_wp2_with (first | fail | (go_at_call 84; refine (l03Op_any ch _).mono ?_; rintro e w4 ⟨rfl, rfl⟩; rw [ho]))
          refine wp_region_frame (X := Unit) (fun d _ => [(33, bif d 0 then .slice (some ⟨g, 0, none⟩) (q + 2) cap else u33), (34, bif d 1 then .int .i64 (q + 2) else u34), (35, bif d 2 then .int .i64 q else u35), (36, bif d 3 then .pointer (some ⟨g, q, none⟩) else u36), (37, bif d 4 then .string (textB y1) else u37), (38, bif d 5 then .string (partB y1 (textB y1)) else u38), (39, bif d 6 then .string ⟨#[ch]⟩ else u39), (40, bif d 7 then .string (partB y1 (textB y1) ++ ⟨#[ch]⟩) else u40), (41, bif d 8 then .slice (some ⟨g, 0, none⟩) (q + 2) cap else u41), (42, bif d 9 then .int .i64 (q + 2) else u42), (43, bif d 10 then .int .i64 (q + 1) else u43), (44, bif d 11 then .pointer (some ⟨g, q + 1, none⟩) else u44), (45, bif d 12 then .string (textB y2) else u45), (46, bif d 13 then .string (partB y2 (textB y2)) else u46), (47, bif d 14 then .string (partB y1 (textB y1) ++ ⟨#[ch]⟩ ++ partB y2 (textB y2)) else u47), (7, bif d 15 then .string (partB y1 (textB y1) ++ ⟨#[ch]⟩ ++ partB y2 (textB y2)) else u7)])
            (fun d _ w' => Has w w' [] ∧ Hid (OX 9 strV w' w.heap.size (.slice (some ⟨g, 0, none⟩) q cap) p) ∧ w'.cell? ⟨g, q, none⟩ = some (.string (textB y1)) ∧ w'.cell? ⟨g, q + 1, none⟩ = some (.string (textB y2))) (by kernel_rfl) (by kernel_rfl) ?h0_ty ?hs_ty ?hq_ty
          case h0_ty => exact ⟨(), (by simp [lput]), hH.drew, hid hO.out.drew, (show _ from ce1), (show _ from ce2)⟩
          case hs_ty =>
            refine ⟨?_, ?_, ?_, ?_, ?_, ?_, ?_, ?_, ?_, ?_, ?_, ?_, ?_, ?_, ?_, ?_, trivial⟩
            all_goals
              clear hH hO ce1 ce2
              intro d _ w1 hd hn hJ
              simp only [needs, Region.binds, reduceCtorEq, Bool.false_eq_true, false_implies, true_and, and_true, true_implies, forall_const] at hn
              simp only [lput, List.set, hn, cond_true]
              obtain ⟨hH, hO, ce1, ce2⟩ := hJ
              go_wp2_with (first | fail | (go_at_call 85; refine (l03Part_any y1 hl1 _).mono ?_; rintro e w4 ⟨rfl, rfl⟩) | (go_at_call 85; refine (l03Part_any y2 hl2 _).mono ?_; rintro e w4 ⟨rfl, rfl⟩) | (refine wpL_cat rfl (by rfl) (by rfl) (by rfl) (by (try simp only [size_app, zc]); omega) ?_))
              first
                | (refine ⟨(), ?_, hH, hO, ce1, ce2⟩; (simp [lput, done, hn]; done))
                | (refine ⟨(), ?_, hH, hO, ce1, ce2⟩; (simp [lput, done, hn]; omega))
                | (refine ⟨(), ?_, hH, hO, ce1, ce2⟩; (simp [lput, done, hn]; done))
                | (refine ⟨?_, hH, hO, ce1, ce2⟩; (simp [lput, done, hn]; done))
                | (refine ⟨(), ?_, hH, hO, ce1, ce2⟩; (simp [lput, done, hn]; rfl))
                | (refine ⟨?_, hH, hO, ce1, ce2⟩; (simp [lput, done, hn]; rfl))
                | (refine ⟨(), ?_, hH, hO, ce1, ce2⟩; (simp [lput, done]; done))
                | (refine ⟨?_, hH, hO, ce1, ce2⟩; (simp [lput, done]; done))
                | (refine ⟨(), ?_, hH, hO, ce1, ce2⟩; (simp [lput, done]; rfl))
                | (refine ⟨?_, hH, hO, ce1, ce2⟩; (simp [lput, done]; rfl))
          case hq_ty =>
            clear hH hO ce1 ce2
            intro d _ w1 hd hJ
            simp only [allDone, List.length_cons, List.length_nil, Nat.reduceAdd, and_true] at hd
            obtain ⟨hH, hO, ce1, ce2⟩ := hJ
            simp only [lput, List.set, hd, cond_true]
            clear hd
            go_wp2_with (first | fail | (refine wpL_appX (en := strV) infoStr rfl (by omega) rfl Try.underlying68 (fun _ => rfl) rfl (by rfl) (.node ch y1 y2) (by rfl) (by rfl) HQ.out (hO.out.alloc _) ?h2 (by omega) ?h3 ?h4))
            case h2 => (simp [strV, textB]; done)
            case h3 => (have := hH.size; simp at this ⊢; omega)
            case h4 =>
              intro g3 cap3 w5 ho3 hg3 _
              have HO3 := hid ho3
              have HG3 := hid hg3
              clear ho3 hg3
              go_wp2
              go_roundw
              case rel => exact ⟨k + 1, q + 1, by omega, by omega, by go_num, (hO.out.alloc _).grow (hH.below.alloc hH.size _) (by have := hH.size; simp at this ⊢; omega) HG3.out, hid ⟨_, HN.out, by simp [HQ.out], HO3.out⟩⟩
              case measure => simp [intOf]; omega
    · obtain rfl : k = n := by omega
      obtain ⟨l, e1, e2, e3⟩ := hl.out
      obtain rfl : l = [t] := by rw [HU.out] at e1; exact (Option.some.inj e1).symm
      obtain ⟨g, cap, rfl, _, c0⟩ := e3.one
      replace c0 : wr.cell? ⟨g, 0, none⟩ = some (.string (textB t)) := c0
      clear hl e1 e3
      simp only [List.length_singleton] at e2
      subst e2
      go_wp2
      go_ret
      exact ⟨rfl, hB⟩
end Go.Proofs.Ytphninlinegbbac
