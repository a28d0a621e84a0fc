/- Typed regions with whole colors: loads, comparisons, variables that are made, calls whose result is known. -/
import Derived.Test.YtlppmcflgbeolaaTypedL
import Derived.Test.YtlppmcflgbeolaaTypedG
import Derived.Test.YtlppmcflgbeolaaLater
import Derived.ChangeKeysEq
import Derived.Laws.StructEq
namespace Go.Proofs.Ytlppmcflgbeolaa
open Go.ChangeShapes Go.WideShapes Go.ChangeAt Go.RowKit
set_option linter.unusedVariables false

theorem stabB_k (x : Value) : Stab RlB (TV x) := fun _ _ _ _ h => h
theorem stabB_u : Stab RlB (fun (_ : Value) (_ : World) => True) := fun _ _ _ _ h => h
theorem stabB_var {L : Nat} {t : TypeId} {cs : List Value} : Stab RlB (TVar L t cs) := fun _ _ _ hR ⟨b, hv, hL, hb⟩ => ⟨b, hv, hL, hb.below hR⟩
section
variable {ops : Array Oper} {Q : Exit → Act → World → Prop} {T : Nat → Value → World → Prop} {a0 : Act} {w0 : World} {i : Nat} {o : Oper}
/-- A variable is made. -/
theorem lb_var {t : TypeId} {cs : List Value} (hw : ∀ (ρ : Operand → Value) w, PreR ops T ρ w o.after.toList → wantV ops (slotR ρ) o = true)
    (hrun : ∀ (ρ : Operand → Value) w, (execOp ρ o).run Try.prog w = .ok (.value (.pointer (some ⟨w.heap.size, 0, none⟩))) (w.alloc (.cells cs.toArray t)))
    (hT : ∀ v w, TVar w0.heap.size t cs v w → T i (dstV o v) w) : Ob Try.prog ops Q (ClB w0) RlB T a0 i o :=
  lb_gen hw fun ρ w hb _ _ _ _ => by
    rw [hrun ρ w]
    exact ⟨below1 w _, hT _ _ ⟨_, rfl, hb.size, Box.new w _ _⟩⟩
/-- A call whose result is known and that changes nothing that was there. -/
theorem lb_known (f : FuncId) (xs : Array Operand) (ty : Array TypeId) (v : Value) (hcf : ∀ (args : Array Value) (w : World), (callFunc f args).run Try.prog w = .ok (.enter f args) w) (hop : o.op = .call { callee := .value (.func f), args := xs, argTypes := ty }) (hw : ∀ (ρ : Operand → Value) w, PreR ops T ρ w o.after.toList → wantV ops (slotR ρ) o = true)
    (args : Array Value) (hC : ∀ w, Below w0.heap.size w0 w → Calls Try.prog f args w fun e w' => e = .returned v ∧ Below w.heap.size w w')
    (h : ∀ (ρ : Operand → Value) w, (∀ v, ρ (.const v) = v) → (∀ n, (ops.toList.all fun o => o.dst != some n) = true → ρ (.tmp n) = a0.eval (.tmp n)) → PreR ops T ρ w o.after.toList → xs.map ρ = args) (hT : ∀ w, T i (dstV o v) w) : Ob Try.prog ops Q (ClB w0) RlB T a0 i o :=
  lb_gen hw fun ρ w hbl hc hf hx hp => by
    have ha := h ρ w hc hx hp
    have e : (execOp ρ o).run Try.prog w = .ok (.enter f args) w := by
      have h3 := hf f
      unfold execOp; rw [hop]
      simp [go_sem, h3, ha, hcf]
    rw [e, UponT_enter]
    refine (hC w hbl).mono ?_
    rintro e w' ⟨rfl, h1⟩
    exact ⟨v, rfl, h1, hT _⟩
end
end Go.Proofs.Ytlppmcflgbeolaa
