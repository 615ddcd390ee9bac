/- Proved: what the program's function that reads a term returns. Conditions: those that each theorem names. -/
import Derived.Test.YtphninlinegbbacTe1
import Derived.Deep.AppendLies
namespace Go.Proofs.Ytphninlinegbbac
set_option linter.unusedVariables false
set_option linter.unusedSimpArgs false
open Go.RowKit
def encT : Tr → Value
  | .leaf c => .iface 122 (.int .u8 c.toNat)
  | .node s a b => .iface 124 (.agg #[.int .u8 s.toNat, encT a, encT b])
def treeV : Option Tr → Value
  | none => .nilIface
  | some t => encT t
theorem encT_iface (t : Tr) : ∃ T v, encT t = .iface T v := by
  cases t with
  | leaf c => exact ⟨_, _, rfl⟩
  | node s a b => exact ⟨_, _, rfl⟩
theorem encT_one (t : Tr) : (encT t).oneCell' = true := by
  cases t with
  | leaf c => rfl
  | node s a b => rfl
/-- v is the stack l, in memory of its own behind B. -/
def OT (w : World) (B : Nat) (v : Value) (l : List Tr) : Prop := w.ownsRow B 81 1 v l.length (l.map encT)
theorem OT.kept {w w' : World} {B : Nat} {v : Value} {l : List Tr} (h : OT w B v l) (e : ∀ k, k < w.heap.size → w'.heap[k]? = w.heap[k]?) : OT w' B v l := by
  refine ⟨h.1, ?_⟩
  rcases h.2 with hn | ⟨g, cap, cur, rfl, hb, hg, rest⟩
  · exact .inl hn
  · exact .inr ⟨g, cap, cur, rfl, hb, by rw [e g (Array.getElem?_eq_some_iff.1 hg).1]; exact hg, rest⟩
theorem OT.nil (w : World) (B : Nat) : OT w B (.slice none 0 0) [] := World.ownsRow_nil _ _ _ _
theorem OT.add {w' : World} {B g cap m : Nat} {l : List Tr} {t : Tr} (hm : l.length = m) (h : w'.ownsRow B 81 1 (.slice (some ⟨g, 0, none⟩) (m + 1) cap) (m + 1) (l.map encT ++ [encT t])) : OT w' B (.slice (some ⟨g, 0, none⟩) (m + 1) cap) (l ++ [t]) := by
  subst hm
  unfold OT
  simpa using h
theorem OT.form {w : World} {B : Nat} {v : Value} {l : List Tr} (h : OT w B v l) : (v = .slice none 0 0 ∧ l = []) ∨ ∃ g cap, v = .slice (some ⟨g, 0, none⟩) l.length cap ∧ B ≤ g ∧ l.length ≤ cap ∧ ∀ i, i < l.length → w.cell? ⟨g, i, none⟩ = (l.map encT)[i]? := by
  rcases h.2 with ⟨h1, h0⟩ | ⟨g, cap, cur, rfl, hb, hg, hc, _, hs, hx⟩
  · exact .inl ⟨h1, List.length_eq_zero_iff.1 h0⟩
  · refine .inr ⟨g, cap, rfl, hb, hc, fun i hi => ?_⟩
    rw [cell_of_row w g i cur _ (0, 0) hg, ← hx, List.getElem?_take, if_pos (by omega)]
    simp
theorem OT.two {w : World} {B : Nat} {v : Value} {p : List Tr} {x y : Tr} (h : OT w B v (p ++ [x, y])) : ∃ g cap, v = .slice (some ⟨g, 0, none⟩) (p.length + 2) cap ∧ B ≤ g ∧ p.length + 2 ≤ cap ∧ w.cell? ⟨g, p.length, none⟩ = some (encT x) ∧ w.cell? ⟨g, p.length + 1, none⟩ = some (encT y) ∧ OT w B (.slice (some ⟨g, 0, none⟩) p.length cap) p := by
  have hl : (p ++ [x, y]).length = p.length + 2 := by simp
  rcases h.form with ⟨_, h0⟩ | ⟨g, cap, rfl, hb, hc, hcell⟩
  · simp at h0
  · have e1 := hcell p.length (by omega)
    have e2 := hcell (p.length + 1) (by omega)
    simp at e1 e2
    refine ⟨g, cap, by rw [hl], hb, by omega, e1, by simpa using e2, ?_⟩
    have h1 : w.ownsRow B 81 1 (.slice (some ⟨g, 0, none⟩) (p.length + 1 + 1) cap) (p.length + 1 + 1) ((p.map encT ++ [encT x]) ++ [encT y]) := by
      have := h
      unfold OT at this
      rw [hl] at this
      simpa using this
    have h2 : w.ownsRow B 81 1 (.slice (some ⟨g, 0, none⟩) (p.length + 1) cap) (p.length + 1) (p.map encT ++ [encT x]) := ownsRow_pop (by simp) h1
    exact ownsRow_pop (by simp) h2
theorem infoT : (Try.prog.info? 81).map (fun i => (i.zero, i.size, i.bytes)) = some (some .nilIface, 1, 16) := by kernel_rfl
section
variable {ops : Array Oper} {rest : List Oper} {o : Oper} {a : Act} {w : World} {Q : Exit → Act → World → Prop}
theorem wpL_appT {s x : Operand} (hgd : o.guard = none) (ho : o.op = .call { callee := .builtin .append, args := #[s, x], argTypes := #[121, 121] }) {v : Value} {n base c : Nat} {l : List Tr} {ad : Addr} (t : Tr)
    (hs : a.eval s = v) (hx : a.eval x = .slice (some ad) 1 c) (hn : l.length = n) (hown : OT w base v l) (hc : w.cell? ad = some (encT t)) (hn1 : n ≤ 1000) (hbase : base ≤ w.heap.size)
    (h : ∀ g cap w', OT w' base (.slice (some ⟨g, 0, none⟩) (n + 1) cap) (l ++ [t]) → w.grownBy w' v.ownBlock → wpList Try.prog ops Q rest (a.put o.dst (.slice (some ⟨g, 0, none⟩) (n + 1) cap)) w') : wpList Try.prog ops Q (o :: rest) a w := by
  obtain ⟨i, hi, hz, h1, h2⟩ := info_parts infoT
  subst hn
  refine wpList_append_lies w hgd s x 121 ho base 81 i .nilIface 1 16 Try.underlying121 hi hz h1 h2 rfl (by omega) v l.length (l.map encT) hs hown ad 1 c [encT t] hx rfl (fun j u hj => ?_) (fun u hu => ?_) (by omega) (by unfold maxLen; omega) (by omega) hbase _ rfl (fun g cap w' h1 h2 h3 h4 => h g cap w' (OT.add rfl h1) h2)
  · cases j with
    | zero => simp at hj; subst hj; simpa [Addr.add] using hc
    | succ j => simp at hj
  · simp at hu; subst hu; exact encT_one t
end
theorem OT.grow {w w' : World} {B : Nat} {v : Value} {l : List Tr} {w0 : World} (h : OT w B v l) (hb : Below B w0 w) (hB : B ≤ w.heap.size) (hg : w.grownBy w' v.ownBlock) : Below B w0 w' :=
  hb.trans ⟨hg.os, hg.tape, hg.output, hg.size, fun k hk => hg.block k (by omega) (fun e => by have := (World.ownsRow.lt h k e.symm).1; omega)⟩
theorem OT.alloc {w : World} {B : Nat} {v : Value} {l : List Tr} (h : OT w B v l) (o : Obj) : OT (w.alloc o) B v l := h.kept fun k hk => heap_alloc_old w o hk
theorem builtBr (z : Int) (y1 y2 : Tr) : Try.prog.built 124 [(0, .int .u8 z), (1, encT y1), (2, encT y2)] = some #[.int .u8 z, encT y1, encT y2] := by
  obtain ⟨T1, v1, e1⟩ := encT_iface y1
  obtain ⟨T2, v2, e2⟩ := encT_iface y2
  rw [e1, e2]
  kernel_rfl
section
variable {ops : Array Oper} {rest : List Oper} {o : Oper} {a : Act} {w : World} {Q : Exit → Act → World → Prop}
theorem wpL_bu3T {x y z : Operand} {s : Int} {y1 y2 : Tr} (hgd : o.guard = none) (ho : o.op = .build 124 #[(0, x), (1, y), (2, z)]) (hx : a.eval x = .int .u8 s) (hy : a.eval y = encT y1) (hz : a.eval z = encT y2)
    (h : wpList Try.prog ops Q rest (a.put o.dst (.agg #[.int .u8 s, encT y1, encT y2])) w) : wpList Try.prog ops Q (o :: rest) a w := by
  refine wpList_build hgd 124 #[(0, x), (1, y), (2, z)] ho ?_ ?_
  · simp [hx, hy, hz, builtBr]
  · simpa [hx, hy, hz, builtBr] using h
end
/-- The numbers of the blocks that a region makes. -/
structure Tri where
  b : Nat
  g : Nat
  c : Nat
def Cl (d : Nat → Bool) : Prop := (d 17 = true → d 16 = true ∧ d 0 = true ∧ d 4 = true ∧ d 8 = true) ∧ (d 16 = true → d 15 = true) ∧ (d 15 = true → d 14 = true) ∧ (d 14 = true → d 13 = true) ∧ (d 13 = true → d 7 = true ∧ d 12 = true)
theorem Cl.step {d : Nat → Bool} (h : Cl d) (i : Nat) (h17 : i = 17 → d 16 = true ∧ d 0 = true ∧ d 4 = true ∧ d 8 = true) (h16 : i = 16 → d 15 = true) (h15 : i = 15 → d 14 = true) (h14 : i = 14 → d 13 = true) (h13 : i = 13 → d 7 = true ∧ d 12 = true) : Cl (done d i) := by
  have up : ∀ j, d j = true → done d i j = true := fun j hj => by unfold done; split <;> simp [hj]
  have dn : ∀ j, done d i j = true → j = i ∨ d j = true := fun j hj => by
    unfold done at hj
    by_cases e : j = i
    · exact .inl e
    · rw [if_neg e] at hj; exact .inr hj
  refine ⟨fun e => ?_, fun e => ?_, fun e => ?_, fun e => ?_, fun e => ?_⟩
  · rcases dn _ e with e | e
    · exact ⟨up _ (h17 e.symm).1, up _ (h17 e.symm).2.1, up _ (h17 e.symm).2.2.1, up _ (h17 e.symm).2.2.2⟩
    · exact ⟨up _ (h.1 e).1, up _ (h.1 e).2.1, up _ (h.1 e).2.2.1, up _ (h.1 e).2.2.2⟩
  · rcases dn _ e with e | e
    · exact up _ (h16 e.symm)
    · exact up _ (h.2.1 e)
  · rcases dn _ e with e | e
    · exact up _ (h15 e.symm)
    · exact up _ (h.2.2.1 e)
  · rcases dn _ e with e | e
    · exact up _ (h14 e.symm)
    · exact up _ (h.2.2.2.1 e)
  · rcases dn _ e with e | e
    · exact ⟨up _ (h13 e.symm).1, up _ (h13 e.symm).2⟩
    · exact ⟨up _ (h.2.2.2.2 e).1, up _ (h.2.2.2.2 e).2⟩
theorem Cl.n16 {d : Nat → Bool} (h : Cl d) (hd : d 16 = false) : d 17 = false := by
  cases e : d 17 with
  | false => rfl
  | true => have := (h.1 e).1; rw [hd] at this; cases this
theorem Cl.n0 {d : Nat → Bool} (h : Cl d) (hd : d 0 = false) : d 17 = false := by
  cases e : d 17 with
  | false => rfl
  | true => have := (h.1 e).2.1; rw [hd] at this; cases this
theorem Cl.n4 {d : Nat → Bool} (h : Cl d) (hd : d 4 = false) : d 17 = false := by
  cases e : d 17 with
  | false => rfl
  | true => have := (h.1 e).2.2.1; rw [hd] at this; cases this
theorem Cl.n8 {d : Nat → Bool} (h : Cl d) (hd : d 8 = false) : d 17 = false := by
  cases e : d 17 with
  | false => rfl
  | true => have := (h.1 e).2.2.2; rw [hd] at this; cases this
/-- What stands while a node is put onto the stack. -/
structure StJ (w w' : World) (g q cap : Nat) (p : List Tr) (y1 y2 nd : Tr) (t : Tri) (d : Nat → Bool) : Prop where
  below : Below w.heap.size w w'
  cl : Cl d
  r0 : d 16 = false → OT w' w.heap.size (.slice (some ⟨g, 0, none⟩) q cap) p
  c1 : d 7 = false → w'.cell? ⟨g, q, none⟩ = some (encT y1)
  c2 : d 12 = false → w'.cell? ⟨g, q + 1, none⟩ = some (encT y2)
  r1 : d 15 = true → d 16 = false → w'.cell? ⟨t.b, 0, none⟩ = some (encT nd)
  r2 : d 16 = true → OT w' w.heap.size (.slice (some ⟨t.g, 0, none⟩) (q + 1) t.c) (p ++ [nd])
theorem StJ.plain {w w' : World} {g q cap : Nat} {p : List Tr} {y1 y2 nd : Tr} {t : Tri} {d : Nat → Bool} (h : StJ w w' g q cap p y1 y2 nd t d) (i : Nat) (hi : i ≠ 16) (hi' : i ≠ 15) (h17 : i = 17 → d 16 = true ∧ d 0 = true ∧ d 4 = true ∧ d 8 = true) (h14 : i = 14 → d 13 = true) (h13 : i = 13 → d 7 = true ∧ d 12 = true) : StJ w w' g q cap p y1 y2 nd t (done d i) :=
  ⟨h.below, h.cl.step i h17 (fun e => absurd e hi) (fun e => absurd e hi') h14 h13, fun e => h.r0 (done_no e), fun e => h.c1 (done_no e), fun e => h.c2 (done_no e), fun e e' => h.r1 (done_ne e (Ne.symm hi')) (done_no e'), fun e => h.r2 (done_ne e (Ne.symm hi))⟩
theorem StJ.alloc {w w' : World} {g q cap : Nat} {p : List Tr} {y1 y2 nd : Tr} {t : Tri} {d : Nat → Bool} (h : StJ w w' g q cap p y1 y2 nd t d) (h14 : d 14 = true) (h15 : d 15 = false) :
    StJ w (w'.alloc (.cells #[encT nd] 81)) g q cap p y1 y2 nd ⟨w'.heap.size, t.g, t.c⟩ (done d 15) := by
  have n16 : d 16 = false := by
    cases e : d 16 with
    | false => rfl
    | true => have := h.cl.2.1 e; rw [h15] at this; cases this
  have n7 : d 7 = true := (h.cl.2.2.2.2 (h.cl.2.2.2.1 h14)).1
  have n12 : d 12 = true := (h.cl.2.2.2.2 (h.cl.2.2.2.1 h14)).2
  refine ⟨h.below.alloc h.below.size _, h.cl.step 15 (fun e => by omega) (fun e => by omega) (fun _ => h14) (fun e => by omega) (fun e => by omega), fun e => (h.r0 n16).alloc _, fun e => ?_, fun e => ?_, fun _ _ => by simp, fun e => ?_⟩
  · have := done_no e; rw [n7] at this; cases this
  · have := done_no e; rw [n12] at this; cases this
  · have := done_ne e (by omega); rw [n16] at this; cases this
theorem StJ.app {w w' w2 : World} {g q cap g2 c2 : Nat} {p : List Tr} {y1 y2 nd : Tr} {t : Tri} {d : Nat → Bool} (h : StJ w w' g q cap p y1 y2 nd t d) (h15 : d 15 = true) (h16 : d 16 = false)
    (ho : OT w2 w.heap.size (.slice (some ⟨g2, 0, none⟩) (q + 1) c2) (p ++ [nd])) (hg : w'.grownBy w2 (Value.slice (some ⟨g, 0, none⟩) q cap).ownBlock) :
    StJ w w2 g q cap p y1 y2 nd ⟨t.b, g2, c2⟩ (done d 16) := by
  have n7 : d 7 = true := (h.cl.2.2.2.2 (h.cl.2.2.2.1 (h.cl.2.2.1 h15))).1
  have n12 : d 12 = true := (h.cl.2.2.2.2 (h.cl.2.2.2.1 (h.cl.2.2.1 h15))).2
  refine ⟨(h.r0 h16).grow h.below h.below.size hg, h.cl.step 16 (fun e => by omega) (fun _ => h15) (fun e => by omega) (fun e => by omega) (fun e => by omega), fun e => ?_, fun e => ?_, fun e => ?_, fun _ e => ?_, fun _ => ho⟩
  · simp [done] at e
  · have := done_no e; rw [n7] at this; cases this
  · have := done_no e; rw [n12] at this; cases this
  · simp [done] at e
theorem StJ.start {w w' : World} {g q cap : Nat} {p : List Tr} {y1 y2 nd : Tr} {t : Tri} (hB : Below w.heap.size w w') (ho : OT w' w.heap.size (.slice (some ⟨g, 0, none⟩) q cap) p) (c1 : w'.cell? ⟨g, q, none⟩ = some (encT y1)) (c2 : w'.cell? ⟨g, q + 1, none⟩ = some (encT y2)) :
    StJ w w'.drew g q cap p y1 y2 nd t (fun _ => false) :=
  ⟨hB.drew, ⟨(fun h => by cases h), (fun h => by cases h), (fun h => by cases h), (fun h => by cases h), (fun h => by cases h)⟩, fun _ => ho.kept (fun _ _ => rfl), fun _ => c1, fun _ => c2, (fun h => by cases h), (fun h => by cases h)⟩
set_option maxRecDepth 20000 in
set_option maxHeartbeats 8000000 in
theorem treeOf_any (b n c : Nat) (f : Nat → UInt8) (w : World) (hn : n ≤ 1048576) (h : BRow w b n f) :
    Calls Try.prog 58 #[.slice (some ⟨b, 0, none⟩) n c] w fun e w' => e = .returned (.tuple #[treeV (termT f n), .bool (termT f n).isSome]) ∧ Below w.heap.size w w' := by
  by_cases h40 : n ≤ 40
  · have HR := hid h
    clear h
    have hle : ¬ (40 : Int) < (n : Int) := by omega
    go_enter Try.func58, Try.ntmps58
    go_wp2
    clear hle
    go_loopw [4, 13] (fun v i wr => ∃ k m : Nat, k ≤ n ∧ m ≤ k ∧ i = .int .i64 k ∧ Below w.heap.size w wr ∧ Hid (∃ l, runT f k = some l ∧ l.length = m ∧ OT wr w.heap.size v l)) (fun _ i _ => n - (intOf i).toNat)
    case atStart => exact ⟨0, 0, by omega, by omega, rfl, Below.refl _ _, hid ⟨[], rfl, rfl, OT.nil _ _⟩⟩
    case round =>
      obtain ⟨k, m, hk, hm, rfl, hB, hl⟩ := hrel
      have hBs := hB.size
      by_cases hlt : k < n
      · have hlt' : (k : Int) < (n : Int) := by omega
        have ca := (HR.out.below hB).cell hlt
        obtain ⟨x, hx⟩ : ∃ x, f k = x := ⟨_, rfl⟩
        rw [hx] at ca
        have HX := hid hx
        clear hx
        rcases letters x with hv | ho | hb
        · obtain ⟨l, e1, e2, e3⟩ := hl.out
          have HO := hid e3
          have hN := runT_var e1 (by rw [HX.out]; exact var_yes hv)
          rw [HX.out] at hN
          have HN := hid hN
          have HL := hid e2
          have hs : w.heap.size ≤ wr.heap.size := hBs
          clear hl hN e1 e2 e3
          obtain ⟨z, hz, hv2⟩ := var_int hv
          have HZ := hid (show encT (.leaf x) = .iface 122 (.int .u8 z) by simp [encT, hz])
          rw [hz] at ca
          clear hz hv
          rcases hv2 with rfl | rfl | rfl | rfl
          all_goals
            go_wp2_with (refine wpL_appT (v := u4) (n := m) (base := w.heap.size) rfl (by rfl) (.leaf x) (by rfl) (by rfl) HL.out (HO.out.alloc _) (by rw [HZ.out]; simp) (by omega) (by simp; omega) ?_; intro g cap w3 ho3 hg3; have HO3 := hid ho3; have HG3 := hid hg3; clear ho3 hg3)
            go_roundw
            case rel => exact ⟨k + 1, m + 1, by omega, by omega, by go_num, (HO.out.alloc _).grow (hB.alloc hs _) (by simp; omega) HG3.out, hid ⟨_, HN.out, by simp [HL.out], HO3.out⟩⟩
            case measure => simp [intOf]; omega
        · have hc1 : isVar x = false := op_novar ho
          have hc2 : isOp x = true := op_yes ho
          by_cases h2 : 2 ≤ m
          · obtain ⟨l, e1, e2, e3⟩ := hl.out
            obtain ⟨p, y1, y2, rfl, e4⟩ := two_last (l := l) (by omega)
            obtain ⟨q, hq⟩ : ∃ q, p.length = q := ⟨_, rfl⟩
            obtain ⟨g, cap, rfl, hlo, hcap, ce1, ce2, ho3⟩ := e3.two
            have hN := runT_op e1 (by rw [HX.out]; exact hc1) (by rw [HX.out]; exact hc2)
            rw [HX.out] at hN
            have HN := hid hN
            have HO := hid ho3
            rw [hq] at ce1 ce2 hcap HO ⊢
            have hm2 : m = q + 2 := by omega
            have HQ := hid hq
            clear hl hN e1 e2 e3 e4 ho3 hq
            obtain ⟨z, hz, ho2⟩ := op_int ho
            have HZ := hid hz
            rw [hz] at ca
            clear hz ho hc1 hc2 h2
            have hnn : ¬ ((q + 2 : Nat) : Int) - 2 < 0 := by omega
            rcases ho2 with rfl | rfl | rfl
            case inl =>
              have HE := hid (show encT (.node x y1 y2) = .iface 124 (.agg #[.int .u8 42, encT y1, encT y2]) by simp [encT, HZ.out])
              have hqc : (q : Int) ≤ (cap : Int) := by omega
              go_wp2
              refine wp_region_frame (X := Tri) (fun d t => [(37, bif d 0 then .slice (some ⟨g, 0, none⟩) (q + 2) cap else u37), (38, bif d 1 then .int .i64 q else u38), (39, bif d 2 then .slice (some ⟨g, 0, none⟩) q cap else u39), (40, bif d 3 then .int .u8 42 else u40), (41, bif d 4 then .slice (some ⟨g, 0, none⟩) (q + 2) cap else u41), (42, bif d 5 then .int .i64 q else u42), (43, bif d 6 then .pointer (some ⟨g, q, none⟩) else u43), (44, bif d 7 then encT y1 else u44), (45, bif d 8 then .slice (some ⟨g, 0, none⟩) (q + 2) cap else u45), (46, bif d 9 then .int .i64 q else u46), (47, bif d 10 then .int .i64 (q + 1) else u47), (48, bif d 11 then .pointer (some ⟨g, q + 1, none⟩) else u48), (49, bif d 12 then encT y2 else u49), (50, bif d 13 then .agg #[.int .u8 42, encT y1, encT y2] else u50), (51, bif d 14 then .iface 124 (.agg #[.int .u8 42, encT y1, encT y2]) else u51), (52, bif d 15 then .slice (some ⟨t.b, 0, none⟩) 1 1 else u52), (53, bif d 16 then .slice (some ⟨t.g, 0, none⟩) (q + 1) t.c else u53), (4, bif d 17 then .slice (some ⟨t.g, 0, none⟩) (q + 1) t.c else .slice (some ⟨g, 0, none⟩) (q + 2) cap)])
                (fun d t w' => Hid (StJ w w' g q cap p y1 y2 (.node x y1 y2) t d)) (by kernel_rfl) (by kernel_rfl) ?h0_42 ?hs_42 ?hq_42
              case h0_42 => exact ⟨⟨0, 0, 0⟩, (by simp [lput]), hid (StJ.start hB HO.out ce1 ce2)⟩
              case hs_42 =>
                refine ⟨?_, ?_, ?_, ?_, ?_, ?_, ?_, ?_, ?_, ?_, ?_, ?_, ?_, ?_, ?_, ?_, ?_, ?_, trivial⟩
                all_goals
                  clear ce1 ce2 ca HO hB hBs
                  intro d t w1 hd hn hJ
                  simp only [needs, Region.binds, reduceCtorEq, Bool.false_eq_true, false_implies, true_and, and_true, true_implies, forall_const] at hn
                  have hb1 := hJ.out.below.size
                  simp only [lput, List.set, hn, cond_true]
                  have n17 : d 17 = d 17 := rfl
                  (try (first | (replace n17 := hJ.out.cl.n16 hd) | (replace n17 := hJ.out.cl.n0 hd) | (replace n17 := hJ.out.cl.n4 hd) | (replace n17 := hJ.out.cl.n8 hd)); simp only [n17, cond_false])
                  (try have k1 := hJ.out.c1 hd)
                  (try have k2 := hJ.out.c2 hd)
                  first
                    | (have h16 := hJ.out.r0 hd
                       go_wp2_with (refine wpL_appT (v := .slice (some ⟨g, 0, none⟩) q cap) (n := q) (base := w.heap.size) rfl (by rfl) (.node x y1 y2) (by rfl) (by rfl) HQ.out h16 (hJ.out.r1 hn.2 hd) (by omega) hb1 ?_; intro g3 cap3 w3 ho3 hg3)
                       exact ⟨⟨t.b, g3, cap3⟩, (by simp [lput, done, n17, hn]), hid (hJ.out.app hn.2 hd ho3 hg3)⟩)
                    | (go_wp2_with (refine wpL_bu3T rfl (by rfl) (by rfl) (by rfl) (by rfl) ?_)
                       first
                         | (refine ⟨t, ?_, hid (hJ.out.plain _ (by omega) (by omega) (by omega) (by omega) (by omega))⟩; (first | (simp [lput, done, hn, n17]; done) | (simp [lput, done, hn]; done)))
                         | (refine ⟨t, ?_, hid (hJ.out.plain _ (by omega) (by omega) (by omega) (by omega) (by omega))⟩; (first | (simp [lput, done, n17]; done) | (simp [lput, done]; done)))
                         | (refine ⟨t, ?_, hid (hJ.out.plain _ (by omega) (by omega) (by omega) (fun _ => hn) (by omega))⟩; (first | (simp [lput, done, hn, n17]; done) | (simp [lput, done, hn]; done)))
                         | (refine ⟨t, ?_, hid (hJ.out.plain _ (by omega) (by omega) (by omega) (by omega) (fun _ => ⟨hn.2.1, hn.2.2⟩))⟩; (first | (simp [lput, done, hn, n17]; done) | (simp [lput, done, hn]; done)))
                         | (refine ⟨⟨w1.heap.size, t.g, t.c⟩, ?_, hid (by have := hJ.out.alloc hn hd; rw [HE.out] at this; exact this)⟩; (first | (simp [lput, done, hn, n17]; done) | (simp [lput, done, hn]; done)))
                         | (refine ⟨t, ?_, hid (hJ.out.plain _ (by omega) (by omega) (fun _ => by simp [hn]) (by omega) (by omega))⟩; (first | (simp [lput, done, hn, n17]; done) | (simp [lput, done, hn]; done)))
                         | (trace_state; sorry))
              case hq_42 => 
                clear ce1 ce2 HO hB hBs
                intro d t w1 hd hJ
                simp only [allDone, List.length_cons, List.length_nil, Nat.reduceAdd, and_true] at hd
                have hB := hJ.out.below
                have HR2 := hid (hJ.out.r2 hd.2.1)
                simp only [lput, List.set, hd, cond_true]
                clear hd hJ
                go_wp2
                go_roundw
                case rel => exact ⟨k + 1, q + 1, by omega, by omega, by go_num, hB, hid ⟨_, HN.out, by simp [HQ.out], HR2.out⟩⟩
                case measure => simp [intOf]; omega
            case inr.inl =>
              have HE := hid (show encT (.node x y1 y2) = .iface 124 (.agg #[.int .u8 92, encT y1, encT y2]) by simp [encT, HZ.out])
              have hqc : (q : Int) ≤ (cap : Int) := by omega
              go_wp2
              refine wp_region_frame (X := Tri) (fun d t => [(37, bif d 0 then .slice (some ⟨g, 0, none⟩) (q + 2) cap else u37), (38, bif d 1 then .int .i64 q else u38), (39, bif d 2 then .slice (some ⟨g, 0, none⟩) q cap else u39), (40, bif d 3 then .int .u8 92 else u40), (41, bif d 4 then .slice (some ⟨g, 0, none⟩) (q + 2) cap else u41), (42, bif d 5 then .int .i64 q else u42), (43, bif d 6 then .pointer (some ⟨g, q, none⟩) else u43), (44, bif d 7 then encT y1 else u44), (45, bif d 8 then .slice (some ⟨g, 0, none⟩) (q + 2) cap else u45), (46, bif d 9 then .int .i64 q else u46), (47, bif d 10 then .int .i64 (q + 1) else u47), (48, bif d 11 then .pointer (some ⟨g, q + 1, none⟩) else u48), (49, bif d 12 then encT y2 else u49), (50, bif d 13 then .agg #[.int .u8 92, encT y1, encT y2] else u50), (51, bif d 14 then .iface 124 (.agg #[.int .u8 92, encT y1, encT y2]) else u51), (52, bif d 15 then .slice (some ⟨t.b, 0, none⟩) 1 1 else u52), (53, bif d 16 then .slice (some ⟨t.g, 0, none⟩) (q + 1) t.c else u53), (4, bif d 17 then .slice (some ⟨t.g, 0, none⟩) (q + 1) t.c else .slice (some ⟨g, 0, none⟩) (q + 2) cap)])
                (fun d t w' => Hid (StJ w w' g q cap p y1 y2 (.node x y1 y2) t d)) (by kernel_rfl) (by kernel_rfl) ?h0_92 ?hs_92 ?hq_92
              case h0_92 => exact ⟨⟨0, 0, 0⟩, (by simp [lput]), hid (StJ.start hB HO.out ce1 ce2)⟩
              case hs_92 =>
                refine ⟨?_, ?_, ?_, ?_, ?_, ?_, ?_, ?_, ?_, ?_, ?_, ?_, ?_, ?_, ?_, ?_, ?_, ?_, trivial⟩
                all_goals
                  clear ce1 ce2 ca HO hB hBs
                  intro d t w1 hd hn hJ
                  simp only [needs, Region.binds, reduceCtorEq, Bool.false_eq_true, false_implies, true_and, and_true, true_implies, forall_const] at hn
                  have hb1 := hJ.out.below.size
                  simp only [lput, List.set, hn, cond_true]
                  have n17 : d 17 = d 17 := rfl
                  (try (first | (replace n17 := hJ.out.cl.n16 hd) | (replace n17 := hJ.out.cl.n0 hd) | (replace n17 := hJ.out.cl.n4 hd) | (replace n17 := hJ.out.cl.n8 hd)); simp only [n17, cond_false])
                  (try have k1 := hJ.out.c1 hd)
                  (try have k2 := hJ.out.c2 hd)
                  first
                    | (have h16 := hJ.out.r0 hd
                       go_wp2_with (refine wpL_appT (v := .slice (some ⟨g, 0, none⟩) q cap) (n := q) (base := w.heap.size) rfl (by rfl) (.node x y1 y2) (by rfl) (by rfl) HQ.out h16 (hJ.out.r1 hn.2 hd) (by omega) hb1 ?_; intro g3 cap3 w3 ho3 hg3)
                       exact ⟨⟨t.b, g3, cap3⟩, (by simp [lput, done, n17, hn]), hid (hJ.out.app hn.2 hd ho3 hg3)⟩)
                    | (go_wp2_with (refine wpL_bu3T rfl (by rfl) (by rfl) (by rfl) (by rfl) ?_)
                       first
                         | (refine ⟨t, ?_, hid (hJ.out.plain _ (by omega) (by omega) (by omega) (by omega) (by omega))⟩; (first | (simp [lput, done, hn, n17]; done) | (simp [lput, done, hn]; done)))
                         | (refine ⟨t, ?_, hid (hJ.out.plain _ (by omega) (by omega) (by omega) (by omega) (by omega))⟩; (first | (simp [lput, done, n17]; done) | (simp [lput, done]; done)))
                         | (refine ⟨t, ?_, hid (hJ.out.plain _ (by omega) (by omega) (by omega) (fun _ => hn) (by omega))⟩; (first | (simp [lput, done, hn, n17]; done) | (simp [lput, done, hn]; done)))
                         | (refine ⟨t, ?_, hid (hJ.out.plain _ (by omega) (by omega) (by omega) (by omega) (fun _ => ⟨hn.2.1, hn.2.2⟩))⟩; (first | (simp [lput, done, hn, n17]; done) | (simp [lput, done, hn]; done)))
                         | (refine ⟨⟨w1.heap.size, t.g, t.c⟩, ?_, hid (by have := hJ.out.alloc hn hd; rw [HE.out] at this; exact this)⟩; (first | (simp [lput, done, hn, n17]; done) | (simp [lput, done, hn]; done)))
                         | (refine ⟨t, ?_, hid (hJ.out.plain _ (by omega) (by omega) (fun _ => by simp [hn]) (by omega) (by omega))⟩; (first | (simp [lput, done, hn, n17]; done) | (simp [lput, done, hn]; done)))
                         | (trace_state; sorry))
              case hq_92 => 
                clear ce1 ce2 HO hB hBs
                intro d t w1 hd hJ
                simp only [allDone, List.length_cons, List.length_nil, Nat.reduceAdd, and_true] at hd
                have hB := hJ.out.below
                have HR2 := hid (hJ.out.r2 hd.2.1)
                simp only [lput, List.set, hd, cond_true]
                clear hd hJ
                go_wp2
                go_roundw
                case rel => exact ⟨k + 1, q + 1, by omega, by omega, by go_num, hB, hid ⟨_, HN.out, by simp [HQ.out], HR2.out⟩⟩
                case measure => simp [intOf]; omega
            case inr.inr =>
              have HE := hid (show encT (.node x y1 y2) = .iface 124 (.agg #[.int .u8 47, encT y1, encT y2]) by simp [encT, HZ.out])
              have hqc : (q : Int) ≤ (cap : Int) := by omega
              go_wp2
              refine wp_region_frame (X := Tri) (fun d t => [(37, bif d 0 then .slice (some ⟨g, 0, none⟩) (q + 2) cap else u37), (38, bif d 1 then .int .i64 q else u38), (39, bif d 2 then .slice (some ⟨g, 0, none⟩) q cap else u39), (40, bif d 3 then .int .u8 47 else u40), (41, bif d 4 then .slice (some ⟨g, 0, none⟩) (q + 2) cap else u41), (42, bif d 5 then .int .i64 q else u42), (43, bif d 6 then .pointer (some ⟨g, q, none⟩) else u43), (44, bif d 7 then encT y1 else u44), (45, bif d 8 then .slice (some ⟨g, 0, none⟩) (q + 2) cap else u45), (46, bif d 9 then .int .i64 q else u46), (47, bif d 10 then .int .i64 (q + 1) else u47), (48, bif d 11 then .pointer (some ⟨g, q + 1, none⟩) else u48), (49, bif d 12 then encT y2 else u49), (50, bif d 13 then .agg #[.int .u8 47, encT y1, encT y2] else u50), (51, bif d 14 then .iface 124 (.agg #[.int .u8 47, encT y1, encT y2]) else u51), (52, bif d 15 then .slice (some ⟨t.b, 0, none⟩) 1 1 else u52), (53, bif d 16 then .slice (some ⟨t.g, 0, none⟩) (q + 1) t.c else u53), (4, bif d 17 then .slice (some ⟨t.g, 0, none⟩) (q + 1) t.c else .slice (some ⟨g, 0, none⟩) (q + 2) cap)])
                (fun d t w' => Hid (StJ w w' g q cap p y1 y2 (.node x y1 y2) t d)) (by kernel_rfl) (by kernel_rfl) ?h0_47 ?hs_47 ?hq_47
              case h0_47 => exact ⟨⟨0, 0, 0⟩, (by simp [lput]), hid (StJ.start hB HO.out ce1 ce2)⟩
              case hs_47 =>
                refine ⟨?_, ?_, ?_, ?_, ?_, ?_, ?_, ?_, ?_, ?_, ?_, ?_, ?_, ?_, ?_, ?_, ?_, ?_, trivial⟩
                all_goals
                  clear ce1 ce2 ca HO hB hBs
                  intro d t w1 hd hn hJ
                  simp only [needs, Region.binds, reduceCtorEq, Bool.false_eq_true, false_implies, true_and, and_true, true_implies, forall_const] at hn
                  have hb1 := hJ.out.below.size
                  simp only [lput, List.set, hn, cond_true]
                  have n17 : d 17 = d 17 := rfl
                  (try (first | (replace n17 := hJ.out.cl.n16 hd) | (replace n17 := hJ.out.cl.n0 hd) | (replace n17 := hJ.out.cl.n4 hd) | (replace n17 := hJ.out.cl.n8 hd)); simp only [n17, cond_false])
                  (try have k1 := hJ.out.c1 hd)
                  (try have k2 := hJ.out.c2 hd)
                  first
                    | (have h16 := hJ.out.r0 hd
                       go_wp2_with (refine wpL_appT (v := .slice (some ⟨g, 0, none⟩) q cap) (n := q) (base := w.heap.size) rfl (by rfl) (.node x y1 y2) (by rfl) (by rfl) HQ.out h16 (hJ.out.r1 hn.2 hd) (by omega) hb1 ?_; intro g3 cap3 w3 ho3 hg3)
                       exact ⟨⟨t.b, g3, cap3⟩, (by simp [lput, done, n17, hn]), hid (hJ.out.app hn.2 hd ho3 hg3)⟩)
                    | (go_wp2_with (refine wpL_bu3T rfl (by rfl) (by rfl) (by rfl) (by rfl) ?_)
                       first
                         | (refine ⟨t, ?_, hid (hJ.out.plain _ (by omega) (by omega) (by omega) (by omega) (by omega))⟩; (first | (simp [lput, done, hn, n17]; done) | (simp [lput, done, hn]; done)))
                         | (refine ⟨t, ?_, hid (hJ.out.plain _ (by omega) (by omega) (by omega) (by omega) (by omega))⟩; (first | (simp [lput, done, n17]; done) | (simp [lput, done]; done)))
                         | (refine ⟨t, ?_, hid (hJ.out.plain _ (by omega) (by omega) (by omega) (fun _ => hn) (by omega))⟩; (first | (simp [lput, done, hn, n17]; done) | (simp [lput, done, hn]; done)))
                         | (refine ⟨t, ?_, hid (hJ.out.plain _ (by omega) (by omega) (by omega) (by omega) (fun _ => ⟨hn.2.1, hn.2.2⟩))⟩; (first | (simp [lput, done, hn, n17]; done) | (simp [lput, done, hn]; done)))
                         | (refine ⟨⟨w1.heap.size, t.g, t.c⟩, ?_, hid (by have := hJ.out.alloc hn hd; rw [HE.out] at this; exact this)⟩; (first | (simp [lput, done, hn, n17]; done) | (simp [lput, done, hn]; done)))
                         | (refine ⟨t, ?_, hid (hJ.out.plain _ (by omega) (by omega) (fun _ => by simp [hn]) (by omega) (by omega))⟩; (first | (simp [lput, done, hn, n17]; done) | (simp [lput, done, hn]; done)))
                         | (trace_state; sorry))
              case hq_47 => 
                clear ce1 ce2 HO hB hBs
                intro d t w1 hd hJ
                simp only [allDone, List.length_cons, List.length_nil, Nat.reduceAdd, and_true] at hd
                have hB := hJ.out.below
                have HR2 := hid (hJ.out.r2 hd.2.1)
                simp only [lput, List.set, hd, cond_true]
                clear hd hJ
                go_wp2
                go_roundw
                case rel => exact ⟨k + 1, q + 1, by omega, by omega, by go_num, hB, hid ⟨_, HN.out, by simp [HQ.out], HR2.out⟩⟩
                case measure => simp [intOf]; omega
          · have hq := hid (show termT f n = none by
              obtain ⟨l, e1, e2, _⟩ := hl.out
              exact termT_dead (runT_few e1 (by rw [HX.out]; exact hc1) (by omega)) (by omega : k + 1 ≤ n))
            obtain ⟨l, e1, e2, e3⟩ := hl.out
            have hf := e3.form
            rw [e2] at hf
            clear hl e1 e2 e3
            obtain ⟨z, hz, ho2⟩ := op_int ho
            rw [hz] at ca
            clear hz ho hc1 hc2
            rcases hf with ⟨rfl, _⟩ | ⟨g, cap, rfl, _⟩
            · rcases ho2 with rfl | rfl | rfl
              all_goals
                go_wp2
                go_ret2
                exact ⟨by rw [hq.out]; rfl, hB⟩
            · have hlt2 : (m : Int) - 2 < 0 := by omega
              rcases ho2 with rfl | rfl | rfl
              all_goals
                go_wp2
                go_ret2
                exact ⟨by rw [hq.out]; rfl, hB⟩
        · obtain ⟨⟨n1, n2, n3, n4⟩, ⟨n5, n6, n7⟩, hc1, hc2⟩ := hb
          have hq := hid (show termT f n = none by
            obtain ⟨l, e1, e2, _⟩ := hl.out
            exact termT_dead (runT_bad e1 (by rw [HX.out]; exact hc1) (by rw [HX.out]; exact hc2)) (by omega : k + 1 ≤ n))
          clear hl hc1 hc2
          go_wp2
          go_ret2
          exact ⟨by rw [hq.out]; rfl, hB⟩
      · obtain rfl : k = n := by omega
        obtain ⟨l, e1, e2, e3⟩ := hl.out
        by_cases h1 : m = 1
        · subst h1
          obtain ⟨t, rfl⟩ : ∃ t, l = [t] := by
            match l, e2 with
            | [t], _ => exact ⟨t, rfl⟩
          have hq := hid (termT_yes e1 h40)
          rcases e3.form with ⟨_, h0⟩ | ⟨g, cap, rfl, _, _, hc⟩
          · cases h0
          · have c0 := hc 0 (by simp)
            simp only [List.map_cons, List.map_nil, List.length_singleton, List.getElem?_cons_zero] at c0
            clear hc hl e1 e2 e3
            obtain ⟨tT, tv, htv⟩ := encT_iface t
            rw [htv] at c0
            have HT := hid htv
            clear htv
            go_wp2
            go_ret2
            exact ⟨by rw [hq.out]; simp [treeV, HT.out], hB⟩
        · have hq := hid (termT_many e1 (by omega))
          have hf := e3.form
          rw [e2] at hf
          clear hl e1 e2 e3
          rcases hf with ⟨rfl, _⟩ | ⟨g, cap, rfl, _⟩
          · go_wp2
            go_ret2
            exact ⟨by rw [hq.out]; rfl, hB⟩
          · have hne : ¬ (m : Int) = 1 := by omega
            go_wp2
            go_ret2
            exact ⟨by rw [hq.out]; rfl, hB⟩
  · have hq := hid (termT_long (f := f) (n := n) (by omega))
    have hgt : (40 : Int) < (n : Int) := by omega
    go_enter Try.func58, Try.ntmps58
    go_wp2
    go_ret2
    exact ⟨by rw [hq.out]; rfl, Below.refl _ _⟩
end Go.Proofs.Ytphninlinegbbac
