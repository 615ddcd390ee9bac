/- Proved: lemmas on slices of permutations that a function makes behind its own start, and what the function that lists all columns of a square returns. Conditions: those that each theorem names. -/
import Derived.Test.YtbhjbllgmenbaabOl
import Derived.Test.YtbhjbllgmenbaabPi2
import Derived.Test.YtbhjbllgmenbaabEc
import Derived.Great.Walk
namespace Go.Proofs.Ytbhjbllgmenbaab
set_option linter.unusedVariables false
set_option linter.unusedSimpArgs false
open Go.RowKit
theorem infoP : (Try.prog.info? 97).map (fun i => (i.zero, i.size, i.bytes)) = some (some (.agg (u8s 10 fun _ => 0)), 10, 10) := by kernel_rfl
theorem u8s_app (n m : Nat) (F F' f : Nat → UInt8) (hF : ∀ i, i < n → F' i = F i) (hf : ∀ j, j < m → F' (n + j) = f j) : (u8s n F).toList ++ (u8s m f).toList = (u8s (n + m) F').toList := by
  unfold u8s
  simp only [List.range_add, List.map_append, List.map_map]
  congr 1
  · exact List.map_congr_left fun i hi => by rw [hF i (List.mem_range.1 hi)]
  · exact List.map_congr_left fun i hi => by
      show Value.int .u8 _ = Value.int .u8 _
      rw [hf i (List.mem_range.1 hi)]
/-- v is a list of its own, made behind B, of n permutations, ten bytes each: the bytes F. -/
def OP (w : World) (B : Nat) (v : Value) (n : Nat) (F : Nat → UInt8) : Prop := w.ownsRow B 97 10 v n (u8s (n * 10) F).toList
theorem OP.kept {w w' : World} {B n : Nat} {v : Value} {F : Nat → UInt8} (h : OP w B v n F) (e : ∀ k, k < w.heap.size → w'.heap[k]? = w.heap[k]?) : OP w' B v n F := by
  refine ⟨h.1, ?_⟩
  rcases h.2 with h2 | ⟨g, cap, cur, hv, hB, hg, hr⟩
  · exact .inl h2
  · exact .inr ⟨g, cap, cur, hv, hB, by rw [e g (Array.getElem?_eq_some_iff.1 hg).1]; exact hg, hr⟩
theorem OP.below {w w' : World} {B n : Nat} {v : Value} {F : Nat → UInt8} (h : OP w B v n F) (hb : Below w.heap.size w w') : OP w' B v n F := h.kept hb.block
theorem OP.alloc {w : World} {B n : Nat} {v : Value} {F : Nat → UInt8} (h : OP w B v n F) (o : Obj) : OP (w.alloc o) B v n F := h.kept fun k hk => heap_alloc_old w o hk
theorem OP.nil (w : World) (B : Nat) (F : Nat → UInt8) : OP w B (.slice none 0 0) 0 F := World.ownsRow_nil _ _ _ _
theorem OP.congr {w : World} {B n : Nat} {v : Value} {F F' : Nat → UInt8} (h : OP w B v n F) (e : ∀ i, i < n * 10 → F i = F' i) : OP w B v n F' := by
  unfold OP at *
  rw [← u8s_congr (n * 10) F F' e]; exact h
/-- Block g begins with n permutations, the bytes F. -/
def PRow (w : World) (g n : Nat) (F : Nat → UInt8) : Prop := ∃ cur, holds w g cur 97 ∧ n * 10 ≤ cur.size ∧ ∀ i, i < n * 10 → cur[i]? = some (.int .u8 (F i).toNat)
theorem PRow.lt {w : World} {g n : Nat} {F : Nat → UInt8} (h : PRow w g n F) : g < w.heap.size := by
  obtain ⟨cur, h1, _⟩ := h; exact holds_lt h1
theorem PRow.block {w w' : World} {g n : Nat} {F : Nat → UInt8} (h : PRow w g n F) (e : w'.heap[g]? = w.heap[g]?) : PRow w' g n F := by
  obtain ⟨cur, h1, h2⟩ := h; exact ⟨cur, by show w'.heap[g]? = _; rw [e]; exact h1, h2⟩
theorem PRow.below {w w' : World} {g n : Nat} {F : Nat → UInt8} (h : PRow w g n F) (hb : Below w.heap.size w w') : PRow w' g n F := h.block (hb.block g h.lt)
theorem OP.form {w : World} {B n : Nat} {v : Value} {F : Nat → UInt8} (h : OP w B v n F) (hn : 0 < n) : ∃ g cap, v = .slice (some ⟨g, 0, none⟩) n cap ∧ B ≤ g ∧ PRow w g n F := by
  rcases h.2 with ⟨_, h0⟩ | ⟨g, cap, cur, hv, hB, hg, hc, _, hs, hx⟩
  · omega
  · refine ⟨g, cap, hv, hB, cur, hg, by rw [hs]; omega, fun i hi => ?_⟩
    have := u8s_get (n * 10) F i hi
    rw [← Array.getElem?_toList, ← hx, List.getElem?_take, if_pos hi] at this
    simpa using this
theorem PRow.sub {w : World} {g n : Nat} {F f : Nat → UInt8} (h : PRow w g n F) {k : Nat} (hk : k < n) (hf : ∀ j, j < 10 → F (k * 10 + j) = f j) : ∃ cur, holds w g cur 97 ∧ k * 10 + 10 ≤ cur.size ∧ cur.extract (k * 10) (k * 10 + 10) = u8s 10 f := by
  obtain ⟨cur, h1, h2, h3⟩ := h
  refine ⟨cur, h1, by omega, ?_⟩
  apply u8s_ext
  · simp; omega
  · intro i hi
    rw [Array.getElem?_extract]
    simp
    exact ⟨by omega, by rw [h3 _ (by omega), hf i hi]⟩
theorem builtP1 (f : Nat → UInt8) : (Try.prog).builtSlice 97 1 [(0, Value.agg (u8s 10 f))] = some (u8s 10 f) := by kernel_rfl
section
variable {ops : Array Oper} {rest : List Oper} {o : Oper} {a : Act} {w : World} {Q : Exit → Act → World → Prop}
theorem wpL_loadPr {x : Operand} {g n k : Nat} {F f : Nat → UInt8} (hgd : o.guard = none) (ho : o.op = .load 97 x) (hx : a.eval x = .pointer (some ⟨g, k * 10, none⟩)) (hp : PRow w g n F) (hk : k < n) (hf : ∀ j, j < 10 → F (k * 10 + j) = f j)
    (h : wpList Try.prog ops Q rest (a.put o.dst (.agg (u8s 10 f))) w) : wpList Try.prog ops Q (o :: rest) a w := by
  obtain ⟨cur, h1, h2, h3⟩ := hp.sub hk hf
  exact wpL_loadSub hgd ho hx rowPl h1 h2 h3 h
theorem wpL_makeP {l c : Operand} (hgd : o.guard = none) (ho : o.op = .makeSlice 48 l c) {n base : Nat} (F : Nat → UInt8) (hl : a.eval l = .int .i64 0) (hc : a.eval c = .int .i64 n) (hn : n ≤ 1000) (hbase : base ≤ w.heap.size)
    (h : ∀ w', OP w' base (.slice (some ⟨w.heap.size, 0, none⟩) 0 n) 0 F → w.grownBy w' none → wpList Try.prog ops Q rest (a.put o.dst (.slice (some ⟨w.heap.size, 0, none⟩) 0 n)) w') : wpList Try.prog ops Q (o :: rest) a w := by
  obtain ⟨i, hi, hz, h1, h2⟩ := info_parts infoP
  exact wpList_make_own w hgd l c 48 ho base 97 i (.agg (u8s 10 fun _ => 0)) 10 Try.underlying48 hi hz h1 .i64 .i64 n n hl hc rfl (by rw [h2]; omega) (by unfold maxLen; omega) hbase h
theorem wpL_sliceP {p : Operand} {f : Nat → UInt8} (hgd : o.guard = none) (ho : o.op = .buildSlice 48 1 #[(0, p)]) (hx : a.eval p = .agg (u8s 10 f))
    (h : wpList Try.prog ops Q rest (a.put o.dst (.slice (some ⟨w.heap.size, 0, none⟩) 1 1)) (w.alloc (.cells (u8s 10 f) 97))) : wpList Try.prog ops Q (o :: rest) a w := by
  refine Great.wpList_buildSliceTo hgd 48 97 1 _ ho _ rfl o.dst rfl Try.underlying48 (u8s 10 f) ?_ h
  have hp : ((#[(0, p)] : Array (Nat × Operand)).map fun (i, x) => (i, a.eval x)).toList = [(0, Value.agg (u8s 10 f))] := by simp [hx]
  rw [hp]
  exact builtP1 f
theorem wpL_appP {s x : Operand} (hgd : o.guard = none) (ho : o.op = .call { callee := .builtin .append, args := #[s, x], argTypes := #[48, 48] }) {v : Value} {n base c g : Nat} {F f : Nat → UInt8} (F' : Nat → UInt8)
    (hs : a.eval s = v) (hx : a.eval x = .slice (some ⟨g, 0, none⟩) 1 c) (hown : OP w base v n F) (hg : holds w g (u8s 10 f) 97) (hn : n ≤ 1000) (hbase : base ≤ w.heap.size) (hF : ∀ i, i < n * 10 → F' i = F i) (hf : ∀ j, j < 10 → F' (n * 10 + j) = f j)
    (h : ∀ g cap w', OP w' base (.slice (some ⟨g, 0, none⟩) (n + 1) cap) (n + 1) F' → w.grownBy w' v.ownBlock → (v.ownBlock = some g ∨ g = w.heap.size) → g < w'.heap.size → wpList Try.prog ops Q rest (a.put o.dst (.slice (some ⟨g, 0, none⟩) (n + 1) cap)) w') : wpList Try.prog ops Q (o :: rest) a w := by
  obtain ⟨i, hi, hz, h1, h2⟩ := info_parts infoP
  refine wpList_append_lies w hgd s x 48 ho base 97 i (.agg (u8s 10 fun _ => 0)) 10 10 Try.underlying48 hi hz h1 h2 (by simp [Value.cells]) (by omega) v n _ hs hown ⟨g, 0, none⟩ 1 c (u8s 10 f).toList hx (by simp) (fun j u hj => ?_) (fun u hu => ?_) (by omega) (by unfold maxLen; omega) (by omega) hbase _ rfl (fun g cap w' ho2 hg2 hor hlt => h g cap w' ?_ hg2 hor hlt)
  · have hadd : (⟨g, 0, none⟩ : Addr).add j = ⟨g, j, none⟩ := by unfold Addr.add; split <;> simp_all
    rw [hadd, holds_cell hg, ← Array.getElem?_toList]; exact hj
  · exact (Array.all_eq_true_iff_forall_mem.1 (u8s_one 10 f)) u (by simpa using hu)
  · unfold OP
    rw [show (n + 1) * 10 = n * 10 + 10 by omega, ← u8s_app (n * 10) 10 F F' f hF hf]
    exact ho2
end
/-- What a function hands back that makes a list of permutations alone. -/
def GotP (n : Nat) (F : Nat → UInt8) (w : World) (e : Ending) (w' : World) : Prop :=
  ∃ v, e = .returned v ∧ Below w.heap.size w w' ∧ OP w' w.heap.size v n F
theorem OP.lower {w : World} {B B' n : Nat} {v : Value} {F : Nat → UInt8} (h : OP w B v n F) (hb : B' ≤ B) : OP w B' v n F := by
  refine ⟨h.1, ?_⟩
  rcases h.2 with h2 | ⟨g, cap, cur, e, hB, hr⟩
  · exact .inl h2
  · exact .inr ⟨g, cap, cur, e, by omega, hr⟩
theorem turn_col (g : Nat → UInt8) (k j : Nat) (hj : j < 10) : turn g (k * 10 + j) = colF g k j := by
  unfold turn colF
  rw [show (k * 10 + j) % 10 = j by omega, show (k * 10 + j) / 10 = k by omega]
set_option maxRecDepth 20000 in
set_option maxHeartbeats 4000000 in
theorem columnMapsOf_any (N : Nat) (g : Nat → UInt8) (w : World) (h1 : 1 ≤ N) (h10 : N ≤ 10) :
    Calls Try.prog 139 #[.agg (sqc N g)] w (GotP N (turn g) w) := by
  have hN2 : (N : Int) ≤ 10 := by omega
  have hH := Has.start1 w (sqc N g) 32
  have c0 := hH.c0 0
  rw [sqc_get0] at c0
  go_enter Try.func139, Try.ntmps139
  go_wp2_with (refine wpL_makeP (n := N) (base := w.heap.size + 1) rfl (by rfl) (turn g) (by rfl) (by rfl) (by omega) hH.size ?_; intro w3 hown hgm; replace hH := hH.grown hgm (fun x hx => by cases hx); clear c0; have c0 := hH.c0 0; rw [sqc_get0] at c0)
  clear c0
  go_loopw [3, 10] (fun v i wr => ∃ k : Nat, k ≤ N ∧ i = .int .i64 k ∧ Has w wr [(sqc N g, 32)] ∧ Hid (OP wr (w.heap.size + 1) v k (turn g))) (fun _ i _ => 10 - (intOf i).toNat)
  case atStart => exact ⟨0, by omega, rfl, hH, hid (by simpa using hown)⟩
  case round =>
    clear hH hown hgm
    obtain ⟨k, hk, rfl, hH, hO⟩ := hrel
    have hsz := hH.size
    simp only [List.length_cons, List.length_nil] at hsz
    by_cases hlt : k < N
    · have hk10 : k < 10 := by omega
      have hk10' : (k : Int) < 10 := by omega
      go_wp2_with (first | fail | (refine wpL_loadTab rfl rfl rfl rowTa hH.h0 ?_) | (go_at_call 157; refine (columnOf_any g k _ hk10).mono ?_; rintro e w3 ⟨rfl, hb⟩; replace hH := hH.call' hb; replace hO := hid (hO.out.below hb); have hs3 := hb.size; clear hb) | (refine wpL_sliceP (f := colF g k) rfl (by rfl) (by rfl) ?_) | (refine wpL_appP (v := u3) (n := k) (base := w.heap.size + 1) (f := colF g k) rfl (by rfl) (turn g) (by rfl) (by rfl) (hO.out.alloc _) (holds_new _ _ _) (by omega) (by simp; omega) (fun i _ => rfl) (fun j hj => turn_col g k j hj) ?_; intro r cap w2 how hg hor hlt3))
      have hO2 := hid how
      replace hH := (hH.alloc _).grown hg (fun x hx => by have := (World.ownsRow.lt hO.out x hx).1; simp; omega)
      clear how hg hor hlt3 hO
      go_wp2
      go_roundw
      case rel => exact ⟨k + 1, by omega, by go_num, hH, hO2⟩
      case measure => simp [intOf]; omega
    · obtain rfl : k = N := by omega
      go_wp2
      go_ret
      exact ⟨_, rfl, hH.below, hO.out.lower (by omega)⟩
end Go.Proofs.Ytbhjbllgmenbaab
