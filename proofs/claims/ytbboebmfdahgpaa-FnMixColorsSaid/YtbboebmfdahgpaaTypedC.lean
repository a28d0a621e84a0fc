/- Typed regions with whole colors: loads, comparisons, variables that are made, calls whose result is known. -/
import Derived.Test.YtbboebmfdahgpaaTypedL
import Derived.Test.YtbboebmfdahgpaaTypedG
import Derived.Test.YtbboebmfdahgpaaLater
import Derived.ChangeKeysEq
import Derived.Laws.StructEq
namespace Go.Proofs.Ytbboebmfdahgpaa
open Go.ChangeShapes Go.WideShapes Go.ChangeAt Go.RowKit
set_option linter.unusedVariables false

theorem stabB_k (x : Value) : Stab RlB (TV x) := fun _ _ _ _ h => h
theorem stabB_u : Stab RlB (fun (_ : Value) (_ : World) => True) := fun _ _ _ _ h => h
theorem stabB_var {L : Nat} {t : TypeId} {cs : List Value} : Stab RlB (TVar L t cs) := fun _ _ _ hR ⟨b, hv, hL, hb⟩ => ⟨b, hv, hL, hb.below hR⟩
section
variable {ops : Array Oper} {Q : Exit → Act → World → Prop} {T : Nat → Value → World → Prop} {a0 : Act} {w0 : World} {i : Nat} {o : Oper}
/-- A variable is made. -/
theorem lb_var {t : TypeId} {cs : List Value} (hw : ∀ (ρ : Operand → Value) w, PreR ops T ρ w o.after.toList → wantV ops (slotR ρ) o = true)
    (hrun : ∀ (ρ : Operand → Value) w, (execOp ρ o).run Try.prog w = .ok (.value (.pointer (some ⟨w.heap.size, 0, none⟩))) (w.alloc (.cells cs.toArray t)))
    (hT : ∀ v w, TVar w0.heap.size t cs v w → T i (dstV o v) w) : Ob Try.prog ops Q (ClB w0) RlB T a0 i o :=
  lb_gen hw fun ρ w hb _ _ _ _ => by
    rw [hrun ρ w]
    exact ⟨below1 w _, hT _ _ ⟨_, rfl, hb.size, Box.new w _ _⟩⟩
/-- A whole color is loaded. -/
theorem lb_col (x : Operand) (b : Nat) {t : TypeId} (x0 x1 x2 : Int) (hop : o.op = .load 24 x) (hb : Box w0 b t [.int .i64 x0, .int .i64 x1, .int .i64 x2]) (hw : ∀ (ρ : Operand → Value) w, PreR ops T ρ w o.after.toList → wantV ops (slotR ρ) o = true)
    (h : ∀ (ρ : Operand → Value) w, (∀ n, (ops.toList.all fun o => o.dst != some n) = true → ρ (.tmp n) = a0.eval (.tmp n)) → PreR ops T ρ w o.after.toList → ρ x = .pointer (some ⟨b, 0, none⟩) ∧ T i (dstV o (.agg #[.int .i64 x0, .int .i64 x1, .int .i64 x2])) w) : Ob Try.prog ops Q (ClB w0) RlB T a0 i o :=
  lb_val (.agg #[.int .i64 x0, .int .i64 x1, .int .i64 x2]) hw fun ρ w hbl _ hx hp => by
    obtain ⟨h1, h2⟩ := h ρ w hx hp
    refine ⟨?_, h2⟩
    have c0 : w.cell? ⟨b, 0, none⟩ = some (.int .i64 x0) := (hb.below hbl).cell 0
    have c1 : w.cell? ⟨b, 1, none⟩ = some (.int .i64 x1) := (hb.below hbl).cell 1
    have c2 : w.cell? ⟨b, 2, none⟩ = some (.int .i64 x2) := (hb.below hbl).cell 2
    unfold execOp
    rw [hop]
    simp only [h1]
    clear h1 h2 hx hp hbl hw h hop
    go_simp
theorem lb_lcol (x : Operand) (b : Nat) {t : TypeId} (x0 x1 x2 : Int) (hop : o.op = .load 39 x) (hb : Box w0 b t [.int .i64 x0, .int .i64 x1, .int .i64 x2]) (hw : ∀ (ρ : Operand → Value) w, PreR ops T ρ w o.after.toList → wantV ops (slotR ρ) o = true)
    (h : ∀ (ρ : Operand → Value) w, (∀ n, (ops.toList.all fun o => o.dst != some n) = true → ρ (.tmp n) = a0.eval (.tmp n)) → PreR ops T ρ w o.after.toList → ρ x = .pointer (some ⟨b, 0, none⟩) ∧ T i (dstV o (.agg #[.int .i64 x0, .int .i64 x1, .int .i64 x2])) w) : Ob Try.prog ops Q (ClB w0) RlB T a0 i o :=
  lb_val (.agg #[.int .i64 x0, .int .i64 x1, .int .i64 x2]) hw fun ρ w hbl _ hx hp => by
    obtain ⟨h1, h2⟩ := h ρ w hx hp
    refine ⟨?_, h2⟩
    have c0 : w.cell? ⟨b, 0, none⟩ = some (.int .i64 x0) := (hb.below hbl).cell 0
    have c1 : w.cell? ⟨b, 1, none⟩ = some (.int .i64 x1) := (hb.below hbl).cell 1
    have c2 : w.cell? ⟨b, 2, none⟩ = some (.int .i64 x2) := (hb.below hbl).cell 2
    unfold execOp
    rw [hop]
    simp only [h1]
    clear h1 h2 hx hp hbl hw h hop
    go_simp
/-- A call whose result is known and that changes nothing that was there. -/
theorem lb_known (f : FuncId) (xs : Array Operand) (ty : Array TypeId) (v : Value) (hcf : ∀ (args : Array Value) (w : World), (callFunc f args).run Try.prog w = .ok (.enter f args) w) (hop : o.op = .call { callee := .value (.func f), args := xs, argTypes := ty }) (hw : ∀ (ρ : Operand → Value) w, PreR ops T ρ w o.after.toList → wantV ops (slotR ρ) o = true)
    (args : Array Value) (hC : ∀ w, Below w0.heap.size w0 w → Calls Try.prog f args w fun e w' => e = .returned v ∧ Below w.heap.size w w')
    (h : ∀ (ρ : Operand → Value) w, (∀ v, ρ (.const v) = v) → (∀ n, (ops.toList.all fun o => o.dst != some n) = true → ρ (.tmp n) = a0.eval (.tmp n)) → PreR ops T ρ w o.after.toList → xs.map ρ = args) (hT : ∀ w, T i (dstV o v) w) : Ob Try.prog ops Q (ClB w0) RlB T a0 i o :=
  lb_gen hw fun ρ w hbl hc hf hx hp => by
    have ha := h ρ w hc hx hp
    have e : (execOp ρ o).run Try.prog w = .ok (.enter f args) w := by
      have h3 := hf f
      unfold execOp; rw [hop]
      simp [go_sem, h3, ha, hcf]
    rw [e, UponT_enter]
    refine (hC w hbl).mono ?_
    rintro e w' ⟨rfl, h1⟩
    exact ⟨v, rfl, h1, hT _⟩
/-- Two colors compared. -/
theorem lb_eqlC (x y : Operand) (ty : TypeId) (x0 x1 x2 y0 y1 y2 : Int) (hop : o.op = .binOp .eql 24 x y ty) (e0 : x0 = y0) (e1 : x1 = y1) (e2 : x2 = y2) (hw : ∀ (ρ : Operand → Value) w, PreR ops T ρ w o.after.toList → wantV ops (slotR ρ) o = true)
    (h : ∀ (ρ : Operand → Value) w, (∀ n, (ops.toList.all fun o => o.dst != some n) = true → ρ (.tmp n) = a0.eval (.tmp n)) → PreR ops T ρ w o.after.toList → ρ x = .agg #[.int .i64 x0, .int .i64 x1, .int .i64 x2] ∧ ρ y = .agg #[.int .i64 y0, .int .i64 y1, .int .i64 y2] ∧ T i (dstV o (.bool true)) w) : Ob Try.prog ops Q (ClB w0) RlB T a0 i o :=
  lb_val (.bool true) hw fun ρ w _ _ hx hp => by
    obtain ⟨g1, g2, e3⟩ := h ρ w hx hp
    subst e0 e1 e2
    refine ⟨?_, e3⟩
    unfold execOp
    rw [hop]
    simp only [g1, g2]
    clear g1 g2 hx hp hw h hop
    go_simp
theorem lb_neqC (x y : Operand) (ty : TypeId) (x0 x1 x2 y0 y1 y2 : Int) (hop : o.op = .binOp .neq 24 x y ty) (e0 : x0 = y0) (e1 : x1 = y1) (e2 : x2 = y2) (hw : ∀ (ρ : Operand → Value) w, PreR ops T ρ w o.after.toList → wantV ops (slotR ρ) o = true)
    (h : ∀ (ρ : Operand → Value) w, (∀ n, (ops.toList.all fun o => o.dst != some n) = true → ρ (.tmp n) = a0.eval (.tmp n)) → PreR ops T ρ w o.after.toList → ρ x = .agg #[.int .i64 x0, .int .i64 x1, .int .i64 x2] ∧ ρ y = .agg #[.int .i64 y0, .int .i64 y1, .int .i64 y2] ∧ T i (dstV o (.bool false)) w) : Ob Try.prog ops Q (ClB w0) RlB T a0 i o :=
  lb_val (.bool false) hw fun ρ w _ _ hx hp => by
    obtain ⟨g1, g2, e3⟩ := h ρ w hx hp
    subst e0 e1 e2
    refine ⟨?_, e3⟩
    unfold execOp
    rw [hop]
    simp only [g1, g2]
    clear g1 g2 hx hp hw h hop
    go_simp
end
/-- A color is stored. -/
theorem exec_storeC (ρ : Operand → Value) (o : Oper) (p x : Operand) (w : World) (b : Nat) {t : TypeId} (u0 u1 u2 : Value) (x0 x1 x2 : Int) (hop : o.op = .store 24 p x) (hp : ρ p = .pointer (some ⟨b, 0, none⟩)) (hx : ρ x = .agg #[.int .i64 x0, .int .i64 x1, .int .i64 x2]) (hb : Box w b t [u0, u1, u2]) :
    (execOp ρ o).run Try.prog w = .ok .skip (((w.setCell ⟨b, 0, none⟩ (.int .i64 x0)).setCell ⟨b, 1, none⟩ (.int .i64 x1)).setCell ⟨b, 2, none⟩ (.int .i64 x2)) := by
  have c0 : w.cell? ⟨b, 0, none⟩ = some u0 := hb.cell 0
  have c1 : w.cell? ⟨b, 1, none⟩ = some u1 := hb.cell 1
  have c2 : w.cell? ⟨b, 2, none⟩ = some u2 := hb.cell 2
  have g0 := hb.frozen 0
  have g1 := hb.frozen 1
  have g2 := hb.frozen 2
  unfold execOp
  rw [hop]
  simp only [hp, hx]
  clear hop hp hx hb
  go_simp
end Go.Proofs.Ytbboebmfdahgpaa
