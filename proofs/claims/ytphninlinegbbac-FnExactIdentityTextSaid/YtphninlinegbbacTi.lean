/- Proved: a rule for a call through an interface, and what the program's functions that write terms return. Conditions: those that each theorem names. -/
import Derived.Test.YtphninlinegbbacTe3
import Derived.Test.YtphninlinegbbacOx
namespace Go.Proofs.Ytphninlinegbbac
set_option linter.unusedVariables false
set_option linter.unusedSimpArgs false
open Go.RowKit
theorem inv_e0 (v : Value) (ys : Array Value) : (#[v] ++ ys)[0]? = some v := by
  rw [Array.getElem?_append_left (by simp)]; rfl
theorem inv_e1 (v : Value) (ys : Array Value) : (#[v] ++ ys).extract 1 (#[v] ++ ys).size = ys := by
  apply Array.ext_getElem?
  intro i
  rw [Array.getElem?_extract, Array.getElem?_append_right (by simp)]
  simp
section
variable {P : Program} {ops : Array Oper} {rest : List Oper} {o : Oper} {a : Act} {w : World} {Q : Exit → Act → World → Prop}
theorem wpL_invoke {name : String} {xs : Array Operand} {tys : Array TypeId} {x : Operand} {T : Nat} {v recv : Value} {F : FuncId} {fn : Func} {R : Value → World → Prop} {args : Array Value}
    (hgd : o.guard = none) (ho : o.op = .call { callee := .invoke x name, args := xs, argTypes := tys }) (hx : a.eval x = .iface T v) (hargs : #[recv] ++ xs.map a.eval = args)
    (hm : ∀ w, (method (P.types.size + Made.depth) T v name).run P w = .ok (F, recv) w)
    (hf : P.funcs[F]? = some fn) (hname : (fn.name == "runtime.NumGoroutine") = false) (hb : fn.body.isNone = false)
    (hc : Calls P F args w fun e w' => ∃ u, e = .returned u ∧ R u w')
    (h : ∀ u w', R u w' → wpList P ops Q rest (a.put o.dst u) w') : wpList P ops Q (o :: rest) a w :=
  wpList_plain hgd fun K hK => by
    have hrun : (callFunc F args).run P w = .ok (.enter F args) w := by
      have h1 : ¬ fn.name = "runtime.NumGoroutine" := by simpa using hname
      have h2 : ¬ fn.body = none := by intro e; rw [e] at hb; cases hb
      simp [callFunc, Sem.run_bind, hf, h1, h2]
    have hrun2 : (execOp a.eval o).run P w = .ok (.enter F args) w := by
      unfold execOp
      simp only [ho, resolve, Sem.run_bind, Sem.run_pure, Result.andThen_ok, invoke, hx]
      rw [inv_e0]
      simp only [inv_e1, callMethod, Sem.run_bind, run_program, hm, Result.andThen_ok, hargs]
      exact hrun
    unfold Oper.wp
    rw [hrun2, Oper.upon_enter]
    exact hc.mono (by rintro e w' ⟨u, rfl, hR⟩; exact hK _ _ (h u w' hR))
end
def partB (t : Tr) (b : ByteArray) : ByteArray := match t with
  | .leaf _ => b
  | .node .. => ⟨#[40]⟩ ++ b ++ ⟨#[41]⟩
/-- The text of a term. -/
def textB : Tr → ByteArray
  | .leaf c => ⟨#[c]⟩
  | .node s a b => partB a (textB a) ++ ⟨#[s]⟩ ++ partB b (textB b)
def payload : Tr → Value
  | .leaf c => .int .u8 c.toNat
  | .node s a b => .agg #[.int .u8 s.toNat, encT a, encT b]
def dynT : Tr → TypeId
  | .leaf _ => 122
  | .node .. => 124
theorem encT_eq (t : Tr) : encT t = .iface (dynT t) (payload t) := by cases t <;> rfl
def textFn : Tr → FuncId
  | .leaf _ => 128
  | .node .. => 133
def partFn : Tr → FuncId
  | .leaf _ => 127
  | .node .. => 132
theorem size_app (x y : ByteArray) : (x ++ y).size = x.size + y.size := ByteArray.size_append
theorem partB_size (t : Tr) (b : ByteArray) : (partB t b).size ≤ b.size + 2 := by
  cases t with
  | leaf c => simp [partB]
  | node s x y =>
    simp only [partB, size_app]
    show 1 + b.size + 1 ≤ _
    omega
theorem textB_size (t : Tr) : (textB t).size + 2 ≤ 4 * ln t := by
  induction t with
  | leaf c => show 1 + 2 ≤ 4 * 1; omega
  | node s a b iha ihb =>
    have ha := partB_size a (textB a)
    have hb := partB_size b (textB b)
    simp only [textB, size_app, ln]
    show _ + 1 + _ + 2 ≤ _
    omega
section
variable {P : Program} {ops : Array Oper} {rest : List Oper} {o : Oper} {a : Act} {w : World} {Q : Exit → Act → World → Prop}
theorem wpL_cat {T T2 : Nat} {x y : Operand} {s t : ByteArray} (hgd : o.guard = none) (ho : o.op = .binOp .add T x y T2) (hx : a.eval x = .string s) (hy : a.eval y = .string t) (hs : s.size + t.size ≤ 1000000)
    (h : wpList P ops Q rest (a.put o.dst (.string (s ++ t))) w) : wpList P ops Q (o :: rest) a w :=
  wpList_plain hgd fun K hK => by
    have hr := run_string_add_sum (P := P) w s t (by omega)
    have hrun : (execOp a.eval o).run P w = .ok (.value (.string (s ++ t))) w := by
      unfold execOp
      simp [ho, hx, hy, eqGuard, binOp, hr, Sem.run_bind]
    unfold Oper.wp
    rw [hrun]
    exact hK _ _ h
theorem wpL_conv1 {S D E : Nat} {x : Operand} {g c : Nat} {u : UInt8} (hgd : o.guard = none) (ho : o.op = .convert S D x) (hS : P.underlying S = some (.slice E)) (hE : P.underlying E = some (.int .u8)) (hD : P.underlying D = some .string)
    (hx : a.eval x = .slice (some ⟨g, 0, none⟩) 1 c) (hc : w.cell? ⟨g, 0, none⟩ = some (.int .u8 u.toNat)) (h : wpList P ops Q rest (a.put o.dst (.string ⟨#[u]⟩)) w) : wpList P ops Q (o :: rest) a w :=
  wpList_plain hgd fun K hK => by
    have hr := run_convert_bytes_back (P := P) w S D E ⟨g, 0, none⟩ c [u] hS hE hD (fun j hj => by
      have : j = 0 := by simp at hj; omega
      subst this
      simpa [Addr.add] using hc)
    have hrun : (execOp a.eval o).run P w = .ok (.value (.string ⟨#[u]⟩)) w := by
      unfold execOp
      simp only [List.length_singleton] at hr
      simp [ho, hx, hr, Sem.run_bind]
    unfold Oper.wp
    rw [hrun]
    exact hK _ _ h
end
theorem methText (t : Tr) (w : World) : (method (Try.prog.types.size + Made.depth) (dynT t) (payload t) "loop.example/g01195/impl.text").run Try.prog w = .ok (textFn t, payload t) w := by cases t <;> kernel_rfl
theorem methPart (t : Tr) (w : World) : (method (Try.prog.types.size + Made.depth) (dynT t) (payload t) "loop.example/g01195/impl.part").run Try.prog w = .ok (partFn t, payload t) w := by cases t <;> kernel_rfl
/-- t's text and the text that it has as a part are written. -/
def Writes (t : Tr) : Prop :=
  (∀ w, Calls Try.prog (textFn t) #[payload t] w fun e w' => e = .returned (.string (textB t)) ∧ Below w.heap.size w w') ∧
  (∀ w, Calls Try.prog (partFn t) #[payload t] w fun e w' => e = .returned (.string (partB t (textB t))) ∧ Below w.heap.size w w')
section
variable {ops : Array Oper} {rest : List Oper} {o : Oper} {a : Act} {w : World} {Q : Exit → Act → World → Prop}
theorem wpL_text {tys : Array TypeId} {x : Operand} {t : Tr} {V : Value} (he : encT t = V) (hgd : o.guard = none) (ho : o.op = .call { callee := .invoke x "loop.example/g01195/impl.text", args := #[], argTypes := tys }) (hx : a.eval x = V) (ht : Writes t)
    (h : ∀ w', Below w.heap.size w w' → wpList Try.prog ops Q rest (a.put o.dst (.string (textB t))) w') : wpList Try.prog ops Q (o :: rest) a w := by
  subst he
  have h1 := ht.1 w
  cases t with
  | leaf c => exact wpL_invoke hgd ho hx (by simp) (methText (.leaf c)) Try.func128 (by kernel_rfl) (by kernel_rfl) (R := fun u w' => u = .string (textB (.leaf c)) ∧ Below w.heap.size w w') (h1.mono (fun e w' he => ⟨_, he.1, rfl, he.2⟩)) (fun u w' hu => by obtain ⟨rfl, hb⟩ := hu; exact h w' hb)
  | node s b c => exact wpL_invoke hgd ho hx (by simp) (methText (.node s b c)) Try.func133 (by kernel_rfl) (by kernel_rfl) (R := fun u w' => u = .string (textB (.node s b c)) ∧ Below w.heap.size w w') (h1.mono (fun e w' he => ⟨_, he.1, rfl, he.2⟩)) (fun u w' hu => by obtain ⟨rfl, hb⟩ := hu; exact h w' hb)
theorem wpL_part {tys : Array TypeId} {x : Operand} {t : Tr} {V : Value} (he : encT t = V) (hgd : o.guard = none) (ho : o.op = .call { callee := .invoke x "loop.example/g01195/impl.part", args := #[], argTypes := tys }) (hx : a.eval x = V) (ht : Writes t)
    (h : ∀ w', Below w.heap.size w w' → wpList Try.prog ops Q rest (a.put o.dst (.string (partB t (textB t)))) w') : wpList Try.prog ops Q (o :: rest) a w := by
  subst he
  have h1 := ht.2 w
  cases t with
  | leaf c => exact wpL_invoke hgd ho hx (by simp) (methPart (.leaf c)) Try.func127 (by kernel_rfl) (by kernel_rfl) (R := fun u w' => u = .string (partB (.leaf c) (textB (.leaf c))) ∧ Below w.heap.size w w') (h1.mono (fun e w' he => ⟨_, he.1, rfl, he.2⟩)) (fun u w' hu => by obtain ⟨rfl, hb⟩ := hu; exact h w' hb)
  | node s b c => exact wpL_invoke hgd ho hx (by simp) (methPart (.node s b c)) Try.func132 (by kernel_rfl) (by kernel_rfl) (R := fun u w' => u = .string (partB (.node s b c) (textB (.node s b c))) ∧ Below w.heap.size w w') (h1.mono (fun e w' he => ⟨_, he.1, rfl, he.2⟩)) (fun u w' hu => by obtain ⟨rfl, hb⟩ := hu; exact h w' hb)
end
theorem leafText (c : UInt8) (w : World) : Calls Try.prog 128 #[.int .u8 c.toNat] w fun e w' => e = .returned (.string (textB (.leaf c))) ∧ Below w.heap.size w w' := by
  go_enter Try.func128, Try.ntmps128
  go_wp2_with (refine wpL_conv1 (u := c) rfl (by rfl) Try.underlying35 Try.underlying5 Try.underlying9 (by rfl) (by simp) ?_)
  go_ret
  exact ⟨rfl, (Below.refl _ _).alloc (Nat.le_refl _) _⟩
theorem leafPart (c : UInt8) (w : World) : Calls Try.prog 127 #[.int .u8 c.toNat] w fun e w' => e = .returned (.string (textB (.leaf c))) ∧ Below w.heap.size w w' := by
  go_enter Try.func127, Try.ntmps127
  go_wp2_with (go_at_call 128; refine (leafText c _).mono ?_; rintro e w2 ⟨rfl, hb⟩)
  go_ret
  exact ⟨rfl, hb⟩
end Go.Proofs.Ytphninlinegbbac
