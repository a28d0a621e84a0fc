/- Typed regions over any class of worlds: what holds all along (J), what holds on once it has come (D). -/
import Derived.Test.YtihohmmfgamecaaTypedL
namespace Go.Proofs.Ytihohmmfgamecaa
open Go.ChangeShapes Go.WideShapes Go.ChangeAt Go.RowKit

theorem only_cell {S : List Nat} {w w' : World} (h : Only S w w') {p : Addr} {v : Value} (hc : w.cell? p = some v) (hp : p.block ∉ S) : w'.cell? p = some v := by
  rw [World.cell?_of_block (a := p) (w := w) (h.block p.block (World.block_lt_of_cell? _ _ hc) hp)]
  exact hc
def ClJ (J : World → Prop) (_ : Nat) (w : World) : Prop := J w
def RlJ (D : World → Prop) (w w' : World) : Prop := D w → D w'
theorem stabJ_v (D : World → Prop) (x : Value) : Stab (RlJ D) (TV x) := fun _ _ _ _ h => h
theorem stabJ_d (D : World → Prop) : Stab (RlJ D) (fun _ w => D w) := fun _ _ _ hR h => hR h
section
variable {P : Program} {ops : Array Oper} {Q : Exit → Act → World → Prop} {T : Nat → Value → World → Prop} {a0 : Act} {J D : World → Prop} {i : Nat} {o : Oper}
theorem lj_gen (hw : ∀ (ρ : Operand → Value) w, PreR ops T ρ w o.after.toList → wantV ops (slotR ρ) o = true)
    (h : ∀ (ρ : Operand → Value) w, J w → (∀ v, ρ (.const v) = v) → (∀ f, ρ (.func f) = .func (.func f) #[] #[]) → (∀ n, (ops.toList.all fun o => o.dst != some n) = true → ρ (.tmp n) = a0.eval (.tmp n)) → PreR ops T ρ w o.after.toList →
      UponT P (fun v w' => (D w → D w') ∧ J w' ∧ T i (dstV o v) w') ((execOp ρ o).run P w)) : Ob P ops Q (ClJ J) (RlJ D) T a0 i o := by
  intro k a w _ hI hF hp
  have hp' := pre_eq _ hp
  have hwt := hw a.eval w hp'
  rw [slots_eq]
  refine ⟨fun _ => ?_, fun hn => by rw [hwt] at hn; cases hn⟩
  have h1 := h a.eval w hI (fun _ => rfl) (fun _ => rfl) (fun n hn => fr_eval hF n hn) hp'
  unfold Oper.wp
  exact upon_of_T (K := fun v w' => RlJ D w w' ∧ ClJ J (k + 1) w' ∧ T i (dstV o v) w') h1
theorem lj_val (v : Value) (hw : ∀ (ρ : Operand → Value) w, PreR ops T ρ w o.after.toList → wantV ops (slotR ρ) o = true)
    (h : ∀ (ρ : Operand → Value) w, J w → (∀ v, ρ (.const v) = v) → (∀ n, (ops.toList.all fun o => o.dst != some n) = true → ρ (.tmp n) = a0.eval (.tmp n)) → PreR ops T ρ w o.after.toList → (execOp ρ o).run P w = .ok (.value v) w ∧ T i (dstV o v) w) :
    Ob P ops Q (ClJ J) (RlJ D) T a0 i o :=
  lj_gen hw fun ρ w hj hc _ hx hp => by
    obtain ⟨e, ht⟩ := h ρ w hj hc hx hp
    rw [e]
    exact ⟨id, hj, ht⟩
/-- move, assign -/
theorem lj_move (x : Operand) (hop : o.op = .move x ∨ o.op = .assign x) (hw : ∀ (ρ : Operand → Value) w, PreR ops T ρ w o.after.toList → wantV ops (slotR ρ) o = true)
    (h : ∀ (ρ : Operand → Value) w, (∀ v, ρ (.const v) = v) → (∀ n, (ops.toList.all fun o => o.dst != some n) = true → ρ (.tmp n) = a0.eval (.tmp n)) → PreR ops T ρ w o.after.toList → T i (dstV o (ρ x)) w) : Ob P ops Q (ClJ J) (RlJ D) T a0 i o :=
  lj_gen hw fun ρ w hj hc _ hx hp => by
    have e : (execOp ρ o).run P w = .ok (.value (ρ x)) w := by
      rcases hop with h | h <;> (unfold execOp; rw [h]; rfl)
    rw [e]
    exact ⟨id, hj, h ρ w hc hx hp⟩
/-- A store. -/
theorem lj_put (hw : ∀ (ρ : Operand → Value) w, PreR ops T ρ w o.after.toList → wantV ops (slotR ρ) o = true)
    (h : ∀ (ρ : Operand → Value) w, J w → (∀ n, (ops.toList.all fun o => o.dst != some n) = true → ρ (.tmp n) = a0.eval (.tmp n)) → PreR ops T ρ w o.after.toList → ∃ w', (execOp ρ o).run P w = .ok .skip w' ∧ (D w → D w') ∧ J w' ∧ T i undef w') :
    Ob P ops Q (ClJ J) (RlJ D) T a0 i o :=
  lj_gen hw fun ρ w hj _ _ hx hp => by
    obtain ⟨w', e, h1, h2, h3⟩ := h ρ w hj hx hp
    rw [e, UponT_skip]
    refine ⟨h1, h2, ?_⟩
    have e2 : dstV o undef = undef := by unfold dstV; cases o.dst <;> rfl
    rw [e2]
    exact h3
end
end Go.Proofs.Ytihohmmfgamecaa
