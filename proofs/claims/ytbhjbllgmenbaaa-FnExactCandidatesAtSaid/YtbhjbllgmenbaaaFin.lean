/- Proved: how arguments of the laws are read, and that a law that leaves old memory alone meets its row. Conditions: those that each theorem names. -/
import Derived.Test.YtbhjbllgmenbaaaLib
import Derived.ProofKit
import Derived.OpenShut
namespace Go.Proofs.Ytbhjbllgmenbaaa
set_option linter.unusedVariables false
set_option linter.unusedSimpArgs false
open Go.ChangeShapes Go.WideShapes Go.ChangeAt Go.RowKit

section
variable {H : Type} {enc : TypeId × Value → H} {P : Program} {w : World} {base : Nat} {spare : Nat → Bool} {held : Bool}
theorem trodAll_below (hl : laidOutB P = true) {W W' : World} (hb : Below W.heap.size W W') : ∀ (ts : List TypeId) (vs : List Value) (ds : List (DataW H)) (ps : List MemPlace),
    (∀ t ∈ ts, P.readableRec t = true ∧ t < P.types.size) → DataW.TrodAll enc P W 0 (fun _ => true) true ts vs ds ps → (∀ x ∈ ps, x.block < W.heap.size) →
    DataW.TrodAll enc P W' 0 (fun b => decide (b < W.heap.size)) true ts vs ds ps
  | [], [], [], ps, _, h, _ => h
  | t :: ts, v :: vs, d :: ds, ps, ht, h, hlt => by
    obtain ⟨p, q, h1, h2, rfl⟩ := h
    exact ⟨p, q, Below.trod hl (ht t (by simp)).1 (ht t (by simp)).2 h1 hb (fun x hx => hlt x (by simp [hx])),
      trodAll_below hl hb ts vs ds q (fun u hu => ht u (by simp [hu])) h2 (fun x hx => hlt x (by simp [hx])), rfl⟩
  | [], [], _ :: _, _, _, h, _ => h.elim
  | [], _ :: _, _, _, _, h, _ => by cases h
  | _ :: _, [], _, _, _, h, _ => by cases h
  | _ :: _, _ :: _, [], _, _, h, _ => h.elim
theorem law_post {f : Func} {s : ChangeSpec} {W W' : World} {args : Array Value} {ds gs : List (DataW H)} {before : List MemPlace} {TB : TypeId}
    (hl : laidOutB P = true) (hts : ∀ t ∈ f.params.toList, P.readableRec t = true ∧ t < P.types.size) (hrt : f.resultTypes = #[TB]) (hTB : P.underlying TB = some .bool) (hvars : s.vars = [])
    (hW : DataW.Whole enc P f.params.toList s.vars false W args.toList ds gs before)
    (hres : (s.fn H (ds ++ [])).results = [.lit (.bool true)]) (hargs : (s.fn H (ds ++ [])).args = ds) (hv : (s.fn H (ds ++ [])).vars = [])
    (hb : Below W.heap.size W W') : s.post enc P f false true false false W args (.bool true) W' := by
  have hW' := hW
  obtain ⟨p, q, hA, hV, rfl, hfz, hnd⟩ := hW
  rw [hvars] at hV
  obtain ⟨rfl, rfl⟩ := trodVars_none hV
  have hlt : ∀ x ∈ p, x.block < W.heap.size := fun x hx => by simpa using hW'.lt x (by simp [hx])
  refine ⟨ds, [], p ++ [], [], p, [], hW', ?_, ?_, ?_, hb.frame _, fun h => by cases h⟩
  · rw [hres, hrt]
    exact trodAll_mk1 (shut_bool hTB _)
  · rw [hargs]
    exact trodAll_below hl hb _ _ _ _ hts hA hlt
  · rw [hv, hvars]
    rfl

/-- The cells of an array of bytes, as they are read. -/
theorem trod_bytes {T E n : Nat} {fuel : Nat} {cs : List Value} {x : DataW H × List MemPlace} (hT : P.underlying T = some (.array n E)) (hE : P.underlying E = some (.int .u8)) (hcE : P.cellsOf E = 1) (hcT : P.cellsOf T = n)
    (h : DataW.trod enc P w base spare held fuel T cs = some x) : ∃ f : Nat → UInt8, cs = (u8s n f).toList := by
  obtain ⟨xs, m, _, _, hlen, hxs, hel⟩ := DataW.trod_array hT h
  rw [hcT] at hlen
  have hone : ∀ i, i < n → ∃ u : UInt8, cs[i]? = some (.int .u8 u.toNat) := fun i hi => by
    have h1 := hel i hi
    rw [hcE] at h1
    have hx : ∃ y, xs[i]? = some y := ⟨xs[i]'(by omega), by simp⟩
    obtain ⟨y, hy⟩ := hx
    rw [hy] at h1
    obtain ⟨k, e1, e2, hw⟩ := DataW.trod_int hE h1
    have hb := bounds_u8 hw
    have hlt : i < cs.length := by omega
    have h2 : ((cs.drop (i * 1)).take 1)[0]? = cs[i]? := by simp [List.getElem?_take]
    rw [e1] at h2
    refine ⟨UInt8.ofNat k.toNat, ?_⟩
    rw [← h2, u8_of _ (by omega)]
    simp
    omega
  let f : Nat → UInt8 := fun i => if h : i < n then (hone i h).choose else 0
  refine ⟨f, ?_⟩
  have e : cs.toArray = u8s n f := by
    apply u8s_ext
    · simp [hlen]
    · intro i hi
      rw [List.getElem?_toArray]
      have := (hone i hi).choose_spec
      simp only [f, hi, dif_pos]
      exact this
  rw [← e]
theorem open_bytes {T E n : Nat} {v : Value} {d : DataW H} {p : List MemPlace} (hT : P.underlying T = some (.array n E)) (hE : P.underlying E = some (.int .u8)) (hcE : P.cellsOf E = 1) (hcT : P.cellsOf T = n)
    {r : Reach} {b0 : Nat} {W : World} (hv : Value.okWide P W r b0 T v) (h : DataW.Trod enc P w base spare held T v d p) : ∃ f : Nat → UInt8, v = .agg (u8s n f) := by
  simp only [Value.okWide, hT] at hv
  obtain ⟨cs, rfl, hsz, _⟩ := hv
  obtain ⟨fuel, hf⟩ := h
  obtain ⟨f, e⟩ := trod_bytes hT hE hcE hcT hf
  refine ⟨f, ?_⟩
  congr 1
  have e' : cs.toList = (u8s n f).toList := e
  exact Array.toList_inj.1 e'
theorem open_u8 {T : Nat} {v : Value} {d : DataW H} {p : List MemPlace} (hT : P.underlying T = some (.int .u8)) {r : Reach} {b0 : Nat} (hv : Value.okWide P w r b0 T v) (h : DataW.Trod enc P w base spare held T v d p) : ∃ x : UInt8, v = .int .u8 x.toNat := by
  obtain ⟨a, rfl, _, _, hw⟩ := open_int hT hv h
  have hb := bounds_u8 hw
  exact ⟨UInt8.ofNat a.toNat, by rw [u8_of _ (by omega)]; congr 1; omega⟩
/-- The cells of a table of bytes. -/
theorem trod_table {T R E n m : Nat} {fuel : Nat} {cs : List Value} {x : DataW H × List MemPlace} (hT : P.underlying T = some (.array n R)) (hR : P.underlying R = some (.array m E)) (hE : P.underlying E = some (.int .u8)) (hm : 0 < m)
    (hcE : P.cellsOf E = 1) (hcR : P.cellsOf R = m) (hcT : P.cellsOf T = n * m) (h : DataW.trod enc P w base spare held fuel T cs = some x) : ∃ g : Nat → UInt8, cs = (u8s (n * m) g).toList := by
  obtain ⟨xs, k, _, _, hlen, hxs, hel⟩ := DataW.trod_array hT h
  rw [hcT] at hlen
  have hrow : ∀ i, i < n → ∃ f : Nat → UInt8, (cs.drop (i * m)).take m = (u8s m f).toList := fun i hi => by
    have h1 := hel i hi
    rw [hcR] at h1
    have hx : ∃ y, xs[i]? = some y := ⟨xs[i]'(by omega), by simp⟩
    obtain ⟨y, hy⟩ := hx
    rw [hy] at h1
    exact trod_bytes hR hE hcE hcR h1
  let g : Nat → UInt8 := fun j => if h : j / m < n then (hrow (j / m) h).choose (j % m) else 0
  refine ⟨g, ?_⟩
  have e : cs.toArray = u8s (n * m) g := by
    apply u8s_ext
    · simp [hlen]
    · intro j hj
      rw [List.getElem?_toArray]
      have hq : j / m < n := Nat.div_lt_of_lt_mul (by rw [Nat.mul_comm]; exact hj)
      have hr : j % m < m := Nat.mod_lt _ hm
      have hs := (hrow (j / m) hq).choose_spec
      have h3 : ((cs.drop (j / m * m)).take m)[j % m]? = cs[j]? := by
        rw [List.getElem?_take, if_pos hr, List.getElem?_drop]
        congr 1
        exact Nat.div_add_mod' j m
      rw [hs, Array.getElem?_toList, u8s_get m _ _ hr] at h3
      simp only [g, hq, dif_pos]
      exact h3.symm
  rw [← e]
/-- A square by value. -/
theorem open_sq {T TI TT R E : Nat} {fs : Array Field} {f0 f1 : Field} {v : Value} {d : DataW H} {p : List MemPlace} (hS : P.underlying T = some (.struct fs)) (hfs : fs = #[f0, f1])
    (h0 : f0.type = TI ∧ f0.offset = 0) (h1 : f1.type = TT ∧ f1.offset = 1)
    (hI : P.underlying TI = some (.int .i64)) (hcI : P.cellsOf TI = 1) (hT : P.underlying TT = some (.array 10 R)) (hR : P.underlying R = some (.array 10 E)) (hE : P.underlying E = some (.int .u8))
    (hcE : P.cellsOf E = 1) (hcR : P.cellsOf R = 10) (hcT : P.cellsOf TT = 100) (hcS : P.cellsOf T = 101)
    {r : Reach} {b0 : Nat} {W : World} (hv : Value.okWide P W r b0 T v) (h : DataW.Trod enc P w base spare held T v d p) : ∃ (o : Int) (g : Nat → UInt8), v = .agg (sqc o g) ∧ (Lit.int .i64 o).wf = true := by
  subst hfs
  obtain ⟨cs, rfl, hsz⟩ := okWide_struct hS hv
  obtain ⟨fuel, hf⟩ := h
  obtain ⟨xs, m, _, _, hlen, hxs, hel⟩ := DataW.trod_struct hS hf
  have e0 := hel 0 f0 rfl
  have e1 := hel 1 f1 rfl
  rw [h0.1, h0.2, hcI] at e0
  rw [h1.1, h1.2, hcT] at e1
  obtain ⟨y0, hy0⟩ : ∃ y, xs[0]? = some y := ⟨xs[0]'(by simp at hxs; omega), by simp⟩
  obtain ⟨y1, hy1⟩ : ∃ y, xs[1]? = some y := ⟨xs[1]'(by simp at hxs; omega), by simp⟩
  rw [hy0] at e0
  rw [hy1] at e1
  obtain ⟨o, a1, _, hw⟩ := DataW.trod_int hI e0
  obtain ⟨g, a2⟩ := trod_table hT hR hE (by decide) hcE hcR (by rw [hcT]) e1
  refine ⟨o, g, ?_, hw⟩
  congr 1
  have hl : cs.toList.length = 101 := by simpa [hcS] using hsz
  apply Array.toList_inj.1
  have a1' : cs.toList.take 1 = [Value.int .i64 o] := by simpa [Value.cells] using a1
  have a2' : cs.toList.drop 1 = (u8s 100 g).toList := by
    have : (cs.toList.drop 1).take 100 = (u8s 100 g).toList := by simpa [Value.cells] using a2
    rwa [List.take_of_length_le (by simp; omega)] at this
  rw [← List.take_append_drop 1 cs.toList, a1', a2']
  rfl
/-- A triple by value. -/
theorem open_tri {T TT E : Nat} {fs : Array Field} {f0 f1 f2 : Field} {v : Value} {d : DataW H} {p : List MemPlace} (hS : P.underlying T = some (.struct fs)) (hfs : fs = #[f0, f1, f2])
    (h0 : f0.type = TT ∧ f0.offset = 0) (h1 : f1.type = TT ∧ f1.offset = 10) (h2 : f2.type = TT ∧ f2.offset = 20) (hT : P.underlying TT = some (.array 10 E)) (hE : P.underlying E = some (.int .u8))
    (hcE : P.cellsOf E = 1) (hcT : P.cellsOf TT = 10) (hcS : P.cellsOf T = 30)
    {r : Reach} {b0 : Nat} {W : World} (hv : Value.okWide P W r b0 T v) (h : DataW.Trod enc P w base spare held T v d p) : ∃ t : Nat → UInt8, v = .agg (u8s 30 t) := by
  subst hfs
  obtain ⟨cs, rfl, hsz⟩ := okWide_struct hS hv
  obtain ⟨fuel, hf⟩ := h
  obtain ⟨xs, m, _, _, hlen, hxs, hel⟩ := DataW.trod_struct hS hf
  have e0 := hel 0 f0 rfl
  have e1 := hel 1 f1 rfl
  have e2 := hel 2 f2 rfl
  rw [h0.1, h0.2, hcT] at e0
  rw [h1.1, h1.2, hcT] at e1
  rw [h2.1, h2.2, hcT] at e2
  have hx3 : xs.length = 3 := by simpa using hxs
  obtain ⟨y0, hy0⟩ : ∃ y, xs[0]? = some y := ⟨xs[0]'(by omega), by simp⟩
  obtain ⟨y1, hy1⟩ : ∃ y, xs[1]? = some y := ⟨xs[1]'(by omega), by simp⟩
  obtain ⟨y2, hy2⟩ : ∃ y, xs[2]? = some y := ⟨xs[2]'(by omega), by simp⟩
  rw [hy0] at e0
  rw [hy1] at e1
  rw [hy2] at e2
  obtain ⟨a, ea⟩ := trod_bytes hT hE hcE hcT e0
  obtain ⟨b, eb⟩ := trod_bytes hT hE hcE hcT e1
  obtain ⟨c, ec⟩ := trod_bytes hT hE hcE hcT e2
  have hl : cs.size = 30 := by simpa [hcS] using hsz
  refine ⟨fun i => if i < 10 then a i else if i < 20 then b (i - 10) else c (i - 20), ?_⟩
  congr 1
  apply u8s_ext
  · exact hl
  · intro i hi
    have key : ∀ (off : Nat) (f : Nat → UInt8), ((Value.agg cs).cells.toList.drop off).take 10 = (u8s 10 f).toList → off ≤ i → i < off + 10 → cs[i]? = some (.int .u8 (f (i - off)).toNat) := by
      intro off f e h1 h2
      have h3 : (((Value.agg cs).cells.toList.drop off).take 10)[i - off]? = cs[i]? := by
        rw [List.getElem?_take, if_pos (by omega), List.getElem?_drop, show off + (i - off) = i by omega]
        simp [Value.cells]
      rw [← h3, e, Array.getElem?_toList, u8s_get 10 f _ (by omega)]
    by_cases h1 : i < 10
    · rw [if_pos h1]; simpa using key 0 a ea (by omega) (by omega)
    · rw [if_neg h1]
      by_cases h2 : i < 20
      · rw [if_pos h2]; exact key 10 b eb (by omega) (by omega)
      · rw [if_neg h2]; exact key 20 c ec (by omega) (by omega)
end
end Go.Proofs.Ytbhjbllgmenbaaa
