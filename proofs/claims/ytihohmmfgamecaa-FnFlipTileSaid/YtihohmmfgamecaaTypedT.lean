/- Typed regions with whole tiles: loads, comparisons, calls whose result is known. -/
import Derived.Test.YtihohmmfgamecaaTypedL
import Derived.Test.YtihohmmfgamecaaTilH
import Derived.Test.YtihohmmfgamecaaTilE
namespace Go.Proofs.Ytihohmmfgamecaa
open Go.ChangeShapes Go.WideShapes Go.ChangeAt Go.RowKit
set_option linter.unusedVariables false

theorem stabB_k (x : Value) : Stab RlB (TV x) := fun _ _ _ _ h => h
theorem stabB_u : Stab RlB (fun (_ : Value) (_ : World) => True) := fun _ _ _ _ h => h
section
variable {ops : Array Oper} {Q : Exit → Act → World → Prop} {T : Nat → Value → World → Prop} {a0 : Act} {w0 : World} {i : Nat} {o : Oper}
/-- A whole tile is loaded. -/
theorem lb_tile (x : Operand) (b : Nat) {t : TypeId} (px : List Int) (hop : o.op = .load 25 x) (hl : px.length = 64) (hb : Box w0 b t (iv px)) (hw : ∀ (ρ : Operand → Value) w, PreR ops T ρ w o.after.toList → wantV ops (slotR ρ) o = true)
    (h : ∀ (ρ : Operand → Value) w, (∀ n, (ops.toList.all fun o => o.dst != some n) = true → ρ (.tmp n) = a0.eval (.tmp n)) → PreR ops T ρ w o.after.toList → ρ x = .pointer (some ⟨b, 0, none⟩) ∧ T i (dstV o (tilV px)) w) : Ob Try.prog ops Q (ClB w0) RlB T a0 i o :=
  lb_val (tilV px) hw fun ρ w hbl _ hx hp => by
    obtain ⟨h1, h2⟩ := h ρ w hx hp
    refine ⟨?_, h2⟩
    unfold execOp
    rw [hop]
    simp only [h1, Sem.run_bind, exec_tilLoad hl (hb.below hbl), Result.andThen_ok]
    rfl
/-- A call whose result is known and that changes nothing that was there. -/
theorem lb_known (f : FuncId) (xs : Array Operand) (ty : Array TypeId) (v : Value) (hcf : ∀ (args : Array Value) (w : World), (callFunc f args).run Try.prog w = .ok (.enter f args) w) (hop : o.op = .call { callee := .value (.func f), args := xs, argTypes := ty }) (hw : ∀ (ρ : Operand → Value) w, PreR ops T ρ w o.after.toList → wantV ops (slotR ρ) o = true)
    (args : Array Value) (hC : ∀ w, Below w0.heap.size w0 w → Calls Try.prog f args w fun e w' => e = .returned v ∧ Below w.heap.size w w')
    (h : ∀ (ρ : Operand → Value) w, (∀ v, ρ (.const v) = v) → (∀ n, (ops.toList.all fun o => o.dst != some n) = true → ρ (.tmp n) = a0.eval (.tmp n)) → PreR ops T ρ w o.after.toList → xs.map ρ = args) (hT : ∀ w, T i (dstV o v) w) : Ob Try.prog ops Q (ClB w0) RlB T a0 i o :=
  lb_gen hw fun ρ w hbl hc hf hx hp => by
    have ha := h ρ w hc hx hp
    have e : (execOp ρ o).run Try.prog w = .ok (.enter f args) w := by
      have h3 := hf f
      unfold execOp; rw [hop]
      simp [go_sem, h3, ha, hcf]
    rw [e, UponT_enter]
    refine (hC w hbl).mono ?_
    rintro e w' ⟨rfl, h1⟩
    exact ⟨v, rfl, h1, hT _⟩
/-- Two tiles compared. -/
theorem lb_eqlT (x y : Operand) (ty : TypeId) (px py : List Int) (r : Bool) (hop : o.op = .binOp .eql 25 x y ty) (h1 : px.length = 64) (h2 : py.length = 64) (hr : decide (px = py) = r) (hw : ∀ (ρ : Operand → Value) w, PreR ops T ρ w o.after.toList → wantV ops (slotR ρ) o = true)
    (h : ∀ (ρ : Operand → Value) w, (∀ n, (ops.toList.all fun o => o.dst != some n) = true → ρ (.tmp n) = a0.eval (.tmp n)) → PreR ops T ρ w o.after.toList → ρ x = tilV px ∧ ρ y = tilV py ∧ T i (dstV o (.bool r)) w) : Ob Try.prog ops Q (ClB w0) RlB T a0 i o :=
  lb_val (.bool r) hw fun ρ w _ _ hx hp => by
    obtain ⟨e1, e2, e3⟩ := h ρ w hx hp
    exact ⟨by rw [exec_tilEql ρ o x y ty px py h1 h2 hop e1 e2 w, hr], e3⟩
theorem lb_neqT (x y : Operand) (ty : TypeId) (px py : List Int) (r : Bool) (hop : o.op = .binOp .neq 25 x y ty) (h1 : px.length = 64) (h2 : py.length = 64) (hr : (!decide (px = py)) = r) (hw : ∀ (ρ : Operand → Value) w, PreR ops T ρ w o.after.toList → wantV ops (slotR ρ) o = true)
    (h : ∀ (ρ : Operand → Value) w, (∀ n, (ops.toList.all fun o => o.dst != some n) = true → ρ (.tmp n) = a0.eval (.tmp n)) → PreR ops T ρ w o.after.toList → ρ x = tilV px ∧ ρ y = tilV py ∧ T i (dstV o (.bool r)) w) : Ob Try.prog ops Q (ClB w0) RlB T a0 i o :=
  lb_val (.bool r) hw fun ρ w _ _ hx hp => by
    obtain ⟨e1, e2, e3⟩ := h ρ w hx hp
    exact ⟨by rw [exec_tilNeq ρ o x y ty px py h1 h2 hop e1 e2 w, hr], e3⟩
/-- Two numbers compared. -/
theorem lb_eqlI (x y : Operand) (ty : TypeId) (u v : Int) (r : Bool) (hop : o.op = .binOp .eql 3 x y ty) (hr : (u == v) = r) (hw : ∀ (ρ : Operand → Value) w, PreR ops T ρ w o.after.toList → wantV ops (slotR ρ) o = true)
    (h : ∀ (ρ : Operand → Value) w, (∀ v, ρ (.const v) = v) → (∀ n, (ops.toList.all fun o => o.dst != some n) = true → ρ (.tmp n) = a0.eval (.tmp n)) → PreR ops T ρ w o.after.toList → ρ x = .int .i64 u ∧ ρ y = .int .i64 v ∧ T i (dstV o (.bool r)) w) : Ob Try.prog ops Q (ClB w0) RlB T a0 i o :=
  lb_val (.bool r) hw fun ρ w _ hc hx hp => by
    obtain ⟨e1, e2, e3⟩ := h ρ w hc hx hp
    refine ⟨?_, e3⟩
    unfold execOp
    rw [hop]
    simp only [e1, e2]
    clear e1 e2 hx hp hc hw
    go_simp
theorem lb_neqI (x y : Operand) (ty : TypeId) (u v : Int) (r : Bool) (hop : o.op = .binOp .neq 3 x y ty) (hr : (u != v) = r) (hw : ∀ (ρ : Operand → Value) w, PreR ops T ρ w o.after.toList → wantV ops (slotR ρ) o = true)
    (h : ∀ (ρ : Operand → Value) w, (∀ v, ρ (.const v) = v) → (∀ n, (ops.toList.all fun o => o.dst != some n) = true → ρ (.tmp n) = a0.eval (.tmp n)) → PreR ops T ρ w o.after.toList → ρ x = .int .i64 u ∧ ρ y = .int .i64 v ∧ T i (dstV o (.bool r)) w) : Ob Try.prog ops Q (ClB w0) RlB T a0 i o :=
  lb_val (.bool r) hw fun ρ w _ hc hx hp => by
    obtain ⟨e1, e2, e3⟩ := h ρ w hc hx hp
    refine ⟨?_, e3⟩
    unfold execOp
    rw [hop]
    simp only [e1, e2]
    clear e1 e2 hx hp hc hw
    go_simp
end
end Go.Proofs.Ytihohmmfgamecaa
