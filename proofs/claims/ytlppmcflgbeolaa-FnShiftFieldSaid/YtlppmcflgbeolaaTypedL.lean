/- Typed regions of the laws' walks: what was there stays as it was. -/
import Derived.Test.YtlppmcflgbeolaaTypedK
namespace Go.Proofs.Ytlppmcflgbeolaa
open Go.ChangeShapes Go.WideShapes Go.ChangeAt Go.RowKit

def ClB (w0 : World) (_ : Nat) (w : World) : Prop := Below w0.heap.size w0 w
def RlB (w w' : World) : Prop := Below w.heap.size w w'
theorem want_none {ops : Array Oper} {f : Option Tmp → Value} {o : Oper} (hg : o.guard = none) : wantV ops f o = true := by unfold wantV; rw [hg]
theorem want_of {ops : Array Oper} {ρ : Operand → Value} {o : Oper} (j : Nat) (b : Bool) (d : Nat) (hg : o.guard = some (j, b)) (hd : (ops[j]?).bind (·.dst) = some d) (he : ρ (.tmp d) = .bool b) : wantV ops (slotR ρ) o = true := by
  unfold wantV; rw [hg]; simp only [hd, slotR, he]; simp
theorem want_not {ops : Array Oper} {ρ : Operand → Value} {o : Oper} (j : Nat) (b : Bool) (d : Nat) (hg : o.guard = some (j, b)) (hd : (ops[j]?).bind (·.dst) = some d) (he : ρ (.tmp d) = .bool (!b)) : wantV ops (slotR ρ) o = false := by
  unfold wantV; rw [hg]; simp only [hd, slotR, he]; cases b <;> rfl
theorem slots_eq (a : Act) : slotV a = slotR a.eval := funext (slot_eq a)
section
variable {P : Program} {ops : Array Oper} {Q : Exit → Act → World → Prop} {T : Nat → Value → World → Prop} {a0 : Act} {w0 : World} {i : Nat} {o : Oper}
theorem fr_eval {a : Act} (hF : Fr ops a0 a) (n : Nat) (hn : (ops.toList.all fun o => o.dst != some n) = true) : a.eval (.tmp n) = a0.eval (.tmp n) := by
  show a.tmps.getD n undef = a0.tmps.getD n undef
  refine hF.same n fun j o' ho' hd => ?_
  rw [List.all_eq_true] at hn
  have := hn o' (List.mem_of_getElem? (i := j) (by simpa using ho'))
  simp [hd] at this
/-- An operation that is carried out. -/
theorem lb_gen (hw : ∀ (ρ : Operand → Value) w, PreR ops T ρ w o.after.toList → wantV ops (slotR ρ) o = true)
    (h : ∀ (ρ : Operand → Value) w, Below w0.heap.size w0 w → (∀ v, ρ (.const v) = v) → (∀ f, ρ (.func f) = .func (.func f) #[] #[]) → (∀ n, (ops.toList.all fun o => o.dst != some n) = true → ρ (.tmp n) = a0.eval (.tmp n)) → PreR ops T ρ w o.after.toList →
      UponT P (fun v w' => Below w.heap.size w w' ∧ T i (dstV o v) w') ((execOp ρ o).run P w)) : Ob P ops Q (ClB w0) RlB T a0 i o := by
  intro k a w hk hI hF hp
  have hp' := pre_eq _ hp
  have hwt := hw a.eval w hp'
  rw [slots_eq]
  refine ⟨fun _ => ?_, fun hn => by rw [hwt] at hn; cases hn⟩
  have h1 := h a.eval w hI (fun _ => rfl) (fun _ => rfl) (fun n hn => fr_eval hF n hn) hp'
  unfold Oper.wp
  refine upon_of_T (K := fun v w' => RlB w w' ∧ ClB w0 (k + 1) w' ∧ T i (dstV o v) w') ?_
  generalize (execOp a.eval o).run P w = r at h1 ⊢
  have go : ∀ v w', (Below w.heap.size w w' ∧ T i (dstV o v) w') → RlB w w' ∧ ClB w0 (k + 1) w' ∧ T i (dstV o v) w' := fun v w' ⟨b1, b2⟩ => ⟨b1, Below.trans hI (b1.mono hI.size), b2⟩
  cases r with
  | ok n w' =>
    cases n <;> simp only [UponT] at h1 ⊢
    case value v => exact go v w' h1
    case skip => exact go undef w' h1
    case enter f args => exact Calls.mono h1 fun e w'' ⟨v, he, hK⟩ => ⟨v, he, go v w'' hK⟩
  | halt x w' => simp only [UponT] at h1
/-- An operation that is passed over. -/
theorem lb_not (hw : ∀ (ρ : Operand → Value) w, PreR ops T ρ w o.after.toList → wantV ops (slotR ρ) o = false) (hT : ∀ w, T i undef w) : Ob P ops Q (ClB w0) RlB T a0 i o := by
  intro k a w hk hI hF hp
  have hwt := hw a.eval w (pre_eq _ hp)
  rw [slots_eq]
  exact ⟨(fun hn => by rw [hwt] at hn; cases hn), fun _ => ⟨Below.refl _ _, hI, hT w⟩⟩
theorem lb_val (v : Value) (hw : ∀ (ρ : Operand → Value) w, PreR ops T ρ w o.after.toList → wantV ops (slotR ρ) o = true)
    (h : ∀ (ρ : Operand → Value) w, Below w0.heap.size w0 w → (∀ v, ρ (.const v) = v) → (∀ n, (ops.toList.all fun o => o.dst != some n) = true → ρ (.tmp n) = a0.eval (.tmp n)) → PreR ops T ρ w o.after.toList → (execOp ρ o).run P w = .ok (.value v) w ∧ T i (dstV o v) w) :
    Ob P ops Q (ClB w0) RlB T a0 i o :=
  lb_gen hw fun ρ w hb hc _ hx hp => by
    obtain ⟨e, ht⟩ := h ρ w hb hc hx hp
    rw [e]
    exact ⟨Below.refl _ _, ht⟩
/-- move, assign -/
theorem lb_move (x : Operand) (hop : o.op = .move x ∨ o.op = .assign x) (hw : ∀ (ρ : Operand → Value) w, PreR ops T ρ w o.after.toList → wantV ops (slotR ρ) o = true)
    (h : ∀ (ρ : Operand → Value) w, (∀ v, ρ (.const v) = v) → (∀ n, (ops.toList.all fun o => o.dst != some n) = true → ρ (.tmp n) = a0.eval (.tmp n)) → PreR ops T ρ w o.after.toList → T i (dstV o (ρ x)) w) : Ob P ops Q (ClB w0) RlB T a0 i o :=
  lb_gen hw fun ρ w _ hc _ hx hp => by
    have e : (execOp ρ o).run P w = .ok (.value (ρ x)) w := by
      rcases hop with h | h <;> (unfold execOp; rw [h]; rfl)
    rw [e]
    exact ⟨Below.refl _ _, h ρ w hc hx hp⟩
/-- A choice by a Bool that is known. -/
theorem lb_pick (x y z : Operand) (hop : o.op = .pick x y z) (b : Bool) (hw : ∀ (ρ : Operand → Value) w, PreR ops T ρ w o.after.toList → wantV ops (slotR ρ) o = true)
    (h : ∀ (ρ : Operand → Value) w, (∀ v, ρ (.const v) = v) → PreR ops T ρ w o.after.toList → ρ x = .bool b ∧ T i (dstV o (if b then ρ y else ρ z)) w) : Ob P ops Q (ClB w0) RlB T a0 i o :=
  lb_gen hw fun ρ w _ hc _ _ hp => by
    obtain ⟨h1, h2⟩ := h ρ w hc hp
    have e : (execOp ρ o).run P w = .ok (.value (if b then ρ y else ρ z)) w := by
      unfold execOp; rw [hop]; simp only [h1]; cases b <;> rfl
    rw [e]
    exact ⟨Below.refl _ _, h2⟩
/-- not -/
theorem lb_unot (x : Operand) (ty : TypeId) (b : Bool) (hop : o.op = .unOp .not ty x) (hw : ∀ (ρ : Operand → Value) w, PreR ops T ρ w o.after.toList → wantV ops (slotR ρ) o = true)
    (h : ∀ (ρ : Operand → Value) w, PreR ops T ρ w o.after.toList → ρ x = .bool b ∧ T i (dstV o (.bool (!b))) w) : Ob P ops Q (ClB w0) RlB T a0 i o :=
  lb_val (.bool (!b)) hw fun ρ w _ _ _ hp => by
    obtain ⟨h1, h2⟩ := h ρ w hp
    refine ⟨?_, h2⟩
    unfold execOp; rw [hop]; simp only [h1]; rfl
/-- A call of a function of the program. -/
theorem lb_call (f : FuncId) (xs : Array Operand) (ty : Array TypeId) (hcf : ∀ (args : Array Value) (w : World), (callFunc f args).run P w = .ok (.enter f args) w) (hop : o.op = .call { callee := .value (.func f), args := xs, argTypes := ty }) (hw : ∀ (ρ : Operand → Value) w, PreR ops T ρ w o.after.toList → wantV ops (slotR ρ) o = true)
    (h : ∀ (ρ : Operand → Value) w, Below w0.heap.size w0 w → (∀ v, ρ (.const v) = v) → PreR ops T ρ w o.after.toList → ∃ args, xs.map ρ = args ∧ Calls P f args w fun e w' => ∃ v, e = .returned v ∧ Below w.heap.size w w' ∧ T i (dstV o v) w') : Ob P ops Q (ClB w0) RlB T a0 i o :=
  lb_gen hw fun ρ w hb hc hf _ hp => by
    obtain ⟨args, ha, hC⟩ := h ρ w hb hc hp
    have e : (execOp ρ o).run P w = .ok (.enter f args) w := by
      have h3 := hf f
      unfold execOp; rw [hop]
      simp [go_sem, h3, ha, hcf]
    rw [e, UponT_enter]
    exact hC.mono fun _ _ ⟨v, he, h1, h2⟩ => ⟨v, he, h1, h2⟩
end
def StabB (t : Value → World → Prop) : Prop := Stab RlB t
theorem stabB_v (p : Value → Prop) : Stab RlB (fun v _ => p v) := fun _ _ _ _ h => h
end Go.Proofs.Ytlppmcflgbeolaa
