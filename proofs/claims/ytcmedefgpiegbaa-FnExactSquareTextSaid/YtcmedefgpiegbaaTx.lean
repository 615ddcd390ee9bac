/- Proved: what SquareText returns, of program and model alike: the rows as digits, with a stroke between them. Conditions: those that each theorem names. -/
import Derived.Test.YtcmedefgpiegbaaBd
import Derived.Test.YtcmedefgpiegbaaShelf
import Derived.Test.YtcmedefgpiegbaaSq5
import Derived.Test.YtcmedefgpiegbaaSq3b
namespace Go.Proofs.Ytcmedefgpiegbaa
set_option linter.unusedVariables false
set_option linter.unusedSimpArgs false
open Go.RowKit
def dig (x : UInt8) : UInt8 := UInt8.ofNat (48 + x.toNat)
theorem dig_int {x : UInt8} (h : x.toNat < 100) : (48 : Int) + (x.toNat : Int) = ((dig x).toNat : Int) := by unfold dig; rw [u8_of _ (by omega)]; omega
def rowL (g : Nat → UInt8) (k j : Nat) : List UInt8 := (List.range j).map fun y => dig (g (k * 10 + y))
def sep (k : Nat) : List UInt8 := if k = 0 then [] else [47]
def txt (g : Nat → UInt8) (N : Nat) : Nat → List UInt8
  | 0 => []
  | k + 1 => txt g N k ++ sep k ++ rowL g k N
theorem rowL_zero (g : Nat → UInt8) (k : Nat) : rowL g k 0 = [] := rfl
theorem rowL_succ (g : Nat → UInt8) (k j : Nat) : rowL g k (j + 1) = rowL g k j ++ [dig (g (k * 10 + j))] := by simp [rowL, List.range_succ]
theorem rowL_len (g : Nat → UInt8) (k j : Nat) : (rowL g k j).length = j := by simp [rowL]
theorem sep_len (k : Nat) : (sep k).length ≤ 1 := by unfold sep; split <;> simp
theorem txt_len (g : Nat → UInt8) (N : Nat) (hN : N ≤ 10) : ∀ k, (txt g N k).length ≤ k * 11
  | 0 => by simp [txt]
  | k + 1 => by
    have := txt_len g N hN k
    have := sep_len k
    simp only [txt, List.length_append, rowL_len]
    omega
theorem txt_pos (g : Nat → UInt8) (N k : Nat) (hN : 0 < N) : 0 < (txt g N (k + 1)).length := by
  simp only [txt, List.length_append, rowL_len]; omega
theorem bytes_snoc (l : List UInt8) (x : UInt8) : Lib.byteCells (l ++ [x]) = Lib.byteCells l ++ [.int .u8 x.toNat] := by simp [Lib.byteCells]
/-- The model's state: the bytes l have been put into v. -/
structure TM (w wr : World) (N : Nat) (g : Nat → UInt8) (v : Value) (l : List UInt8) : Prop where
  has : Has w wr [(sqc N g, 30)]
  own : wr.ownsRow (w.heap.size + 1) 5 1 v l.length (Lib.byteCells l)
theorem TM.base {w wr : World} {N : Nat} {g : Nat → UInt8} {v : Value} {l : List UInt8} (h : TM w wr N g v l) : w.heap.size + 1 ≤ wr.heap.size := by have := h.has.size; simpa using this
theorem TM.next {w wr w' : World} {N : Nat} {g : Nat → UInt8} {v : Value} {l : List UInt8} {o : Obj} {r cap : Nat} {x : UInt8} {z : Int} (h : TM w wr N g v l) (hz : z = (x.toNat : Int))
    (how : w'.ownsRow (w.heap.size + 1) 5 1 (.slice (some ⟨r, 0, none⟩) (l.length + 1) cap) (l.length + 1) (Lib.byteCells l ++ [.int .u8 z])) (hg : (wr.alloc o).grownBy w' v.ownBlock) :
    TM w w' N g (.slice (some ⟨r, 0, none⟩) (l.length + 1) cap) (l ++ [x]) :=
  ⟨(h.has.alloc o).grown hg (fun k hk => by have := (h.own.lt k hk).1; simp; omega), by rw [bytes_snoc, List.length_append, ← hz]; exact how⟩
section
variable {ops : Array Oper} {rest : List Oper} {o : Oper} {a : Act} {w : World} {Q : Exit → Act → World → Prop}
theorem wpL_appB {s x : Operand} (hgd : o.guard = none) (ho : o.op = .call { callee := .builtin .append, args := #[s, x], argTypes := #[53, 53] }) {v : Value} {n base c : Nat} {xs : List Value} {ad : Addr} {z : Int}
    (hs : a.eval s = v) (hx : a.eval x = .slice (some ad) 1 c) (hown : w.ownsRow base 5 1 v n xs) (hc : w.cell? ad = some (.int .u8 z)) (hn : n ≤ 1000) (hbase : base ≤ w.heap.size)
    (h : ∀ g cap w', w'.ownsRow base 5 1 (.slice (some ⟨g, 0, none⟩) (n + 1) cap) (n + 1) (xs ++ [.int .u8 z]) → w.grownBy w' v.ownBlock → wpList Try.prog ops Q rest (a.put o.dst (.slice (some ⟨g, 0, none⟩) (n + 1) cap)) w') : wpList Try.prog ops Q (o :: rest) a w := by
  obtain ⟨i, hi, hz, h1, h2⟩ := info_parts infoB
  refine wpList_append_lies w hgd s x 53 ho base 5 i (.int .u8 0) 1 1 Try.underlying53 hi hz h1 h2 rfl (by omega) v n xs hs hown ad 1 c [.int .u8 z] hx rfl (fun j u hj => ?_) (fun u hu => ?_) (by omega) (by unfold maxLen; omega) (by omega) hbase _ rfl (fun g cap w' a b _ _ => h g cap w' a b)
  · cases j with
    | zero => simp at hj; subst hj; simpa [Addr.add] using hc
    | succ j => simp at hj
  · simp at hu; subst hu; rfl
end
theorem own_text {w : World} {base : Nat} {v : Value} {l : List UInt8} (h : w.ownsRow base 5 1 v l.length (Lib.byteCells l)) (hl : 0 < l.length) : (convert 53 9 v).run Try.prog w = .ok (.string ⟨l.toArray⟩) w := by
  rcases h.2 with ⟨_, h0⟩ | ⟨g, cap, cur, rfl, hb, hg, hc, _, hs, hx⟩
  · omega
  · refine run_convert_bytes_back w 53 9 5 ⟨g, 0, none⟩ cap l Try.underlying53 Try.underlying5 Try.underlying9 (fun j hj => ?_)
    have e : (Lib.byteCells l)[j]? = some (.int .u8 (l[j].toNat : Int)) := by simp [Lib.byteCells, hj]
    have hadd : (⟨g, 0, none⟩ : Addr).add j = ⟨g, j, none⟩ := by unfold Addr.add; split <;> simp_all
    rw [hadd, Lib.cell_of_heap hg, ← Array.getElem?_toList]
    rw [← hx, List.getElem?_take, if_pos (by omega)] at e
    exact e
set_option maxRecDepth 20000 in
set_option maxHeartbeats 4000000 in
theorem l01Text_any (N : Nat) (g : Nat → UInt8) (w : World) (hq : IsSq N g) :
    Calls Try.prog 70 #[.agg (sqc N g)] w fun e w' => e = .returned (.string ⟨(txt g N N).toArray⟩) ∧ Below w.heap.size w w' := by
  have h1 := hq.lo
  have h10 := hq.hi
  have HQ := hid (fun k j (hk : k < N) (hj : j < N) => (show (g (k * 10 + j)).toNat < N from (hq.rows k hk).lt j hj))
  clear hq
  have HL := hid (txt_len g N h10)
  have HP := hid (txt_pos g N (N - 1) h1)
  have hH := Has.start1 w (sqc N g) 30
  have hS0 : TM w ((w.alloc (.cells (sqc N g) 30)).alloc (.cells #[] 5)) N g (.slice (some ⟨w.heap.size + 1, 0, none⟩) 0 0) (txt g N 0) := ⟨hH.alloc _, by
    have h := World.ownsRow_made (w.alloc (.cells (sqc N g) 30)) #[] 0 (base := w.heap.size + 1) (e := 5) (size := 1) (by simp) (by unfold maxLen; omega) rfl
    have e : (w.alloc (.cells (sqc N g) 30)).heap.size = w.heap.size + 1 := by simp
    rw [e] at h
    exact h⟩
  have HS0 := hid hS0
  clear hS0
  go_enter Try.func70, Try.ntmps70
  go_wp2
  go_loopw [3, 4] (fun v i wr => ∃ k : Nat, k ≤ N ∧ i = .int .i64 k ∧ Hid (TM w wr N g v (txt g N k))) (fun _ i _ => 10 - (intOf i).toNat)
  case atStart => exact ⟨0, by omega, rfl, HS0⟩
  case round =>
    clear hH HS0
    obtain ⟨k, hk, rfl, hM⟩ := hrel
    obtain ⟨ws, hws⟩ : ∃ ws : World, ws = wr := ⟨_, rfl⟩
    subst hws
    have hb := hM.out.base
    have c0 : ws.cell? ⟨w.heap.size, 0, none⟩ = some (.int .i64 N) := by rw [hM.out.has.c0, sqc_get0]
    have hlen := HL.out k
    by_cases hlt : k < N
    · have hk10 : k < 10 := by omega
      by_cases h0 : k = 0
      case' pos =>
        have HS := hid (show TM w ws N g u3 (txt g N k ++ sep k) by unfold sep; rw [if_pos h0, List.append_nil]; exact hM.out)
        have hd : decide ((0 : Int) < (k : Int)) = false := by simp; omega
        have hd2 : decide (0 < k) = false := by simp; omega
        clear h0
        go_wp2
      case' neg =>
        have h0' : (0 : Int) < (k : Int) := by omega
        go_wp2_with (refine wpL_appB (v := u3) (n := (txt g N k).length) (base := w.heap.size + 1) (z := 47) rfl (by rfl) (by rfl) (by rfl) (hM.out.own.alloc _) (by simp) (by omega) (by simp; omega) ?_; intro r cap w2 how hg; have HS := hid (show TM w w2 N g (.slice (some ⟨r, 0, none⟩) ((txt g N k).length + 1) cap) (txt g N k ++ sep k) by unfold sep; rw [if_neg h0]; exact hM.out.next (x := 47) rfl how hg); clear how hg)
        have hd : True := trivial
        have hd2 : True := trivial
        clear h0
      all_goals
        clear hM c0 hb hd hd2
        go_loopw [3, 5] (fun v i wr => ∃ j : Nat, j ≤ N ∧ i = .int .i64 j ∧ Hid (TM w wr N g v (txt g N k ++ sep k ++ rowL g k j))) (fun _ i _ => 10 - (intOf i).toNat)
        case atStart => exact ⟨0, by omega, rfl, by rw [rowL_zero, List.append_nil]; exact HS⟩
        case round =>
          clear HS
          obtain ⟨j, hj, rfl, hM⟩ := hrel
          have hb := hM.out.base
          have c0 : wr.cell? ⟨w.heap.size, 0, none⟩ = some (.int .i64 N) := by rw [hM.out.has.c0, sqc_get0]
          by_cases hlt2 : j < N
          · have hj10 : j < 10 := by omega
            have hx := HQ.out k j hlt hlt2
            have ca : wr.cell? ⟨w.heap.size, 1 + k * 10 + j, none⟩ = some (.int .u8 (g (k * 10 + j)).toNat) := by rw [hM.out.has.c0, Nat.add_assoc, sqc_get _ _ _ (by omega)]
            obtain ⟨l, hl⟩ : ∃ l, txt g N k ++ sep k ++ rowL g k j = l := ⟨_, rfl⟩
            have hll : l.length ≤ 200 := by
              have := sep_len k
              rw [← hl]
              simp only [List.length_append, rowL_len]; omega
            have HM := hid (show TM w wr N g u3 l by rw [← hl]; exact hM.out)
            have HE := hid hl
            clear hl hM
            go_wp2_with (refine wpL_appB (v := u3) (n := l.length) (base := w.heap.size + 1) (z := 48 + ((g (k * 10 + j)).toNat : Int)) rfl (by rfl) (by rfl) (by rfl) (HM.out.own.alloc _) (by simp) (by omega) (by simp; omega) ?_; intro r cap w2 how hg; have hM2 := hid (HM.out.next (x := dig (g (k * 10 + j))) (dig_int (by omega)) how hg); clear how hg)
            go_roundw
            case rel => exact ⟨j + 1, by omega, by go_num, by rw [rowL_succ, ← List.append_assoc, HE.out]; exact hM2⟩
            case measure => simp [intOf]; omega
          · obtain rfl : j = N := by omega
            go_wp2
            go_roundw
            case rel => exact ⟨k + 1, by omega, by go_num, hM⟩
            case measure => simp [intOf]; omega
    · obtain rfl : k = N := by omega
      have hpos : 0 < (txt g k k).length := by have := HP.out; rwa [show k - 1 + 1 = k by omega] at this
      have hcv := own_text hM.out.own hpos
      go_wp2
      go_ret
      exact ⟨rfl, hM.out.has.below⟩
end Go.Proofs.Ytcmedefgpiegbaa
