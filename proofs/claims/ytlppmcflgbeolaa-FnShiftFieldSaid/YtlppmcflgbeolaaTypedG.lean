/- Typed regions: variables that are made, values known in part, and a store that waits for all. -/
import Derived.Test.YtlppmcflgbeolaaTypedK
import Derived.Test.YtlppmcflgbeolaaTypedE
namespace Go.Proofs.Ytlppmcflgbeolaa
open Go.ChangeShapes Go.WideShapes Go.ChangeAt Go.RowKit
set_option linter.unusedVariables false

/-- A new variable of a struct's type t with the cells cs, in a block from L on. -/
def TVar (L : Nat) (t : TypeId) (cs : List Value) : Value → World → Prop := fun v w => ∃ b, v = .pointer (some ⟨b, 0, none⟩) ∧ L ≤ b ∧ Box w b t cs
theorem stab_tvar {S : List Nat} {D : World → Prop} {L : Nat} {t : TypeId} {cs : List Value} (hS : ∀ b ∈ S, b < L) : Stab (Rel S D) (TVar L t cs) := by
  rintro _ w w' hR ⟨b, hv, hL, hb⟩
  exact ⟨b, hv, hL, hb.only hR.only fun hx => by have := hS b hx; omega⟩
section
variable {ops : Array Oper} {Q : Exit → Act → World → Prop} {T : Nat → Value → World → Prop} {a0 : Act} {S : List Nat} {q m : Nat} {w0 : World} {J D : World → Prop} {i : Nat} {o : Oper}
/-- A variable is made. -/
theorem ob_var {t : TypeId} {cs : List Value} (hg : o.guard = none) (hq : q ∈ S) (hJ : Kept q J) (hD : Kept q D)
    (hrun : ∀ (ρ : Operand → Value) w, (execOp ρ o).run Try.prog w = .ok (.value (.pointer (some ⟨w.heap.size, 0, none⟩))) (w.alloc (.cells cs.toArray t)))
    (hT : ∀ v w, TVar w0.heap.size t cs v w → T i (dstV o v) w) :
    Ob Try.prog ops Q (Cls S q m w0 J) (Rel S D) T a0 i o :=
  ob_only hg hq hJ hD fun ρ k w _ hI _ _ _ _ => by
    rw [hrun ρ w]
    exact ⟨(Only.refl _ _).alloc _, (hI.rd.mono (by omega)).alloc _, hT _ _ ⟨_, rfl, hI.only.size, Box.new w _ _⟩⟩
/-- An operation that yields a value of which this is known and leaves the world alone. -/
theorem ob_some (hg : o.guard = none) (hq : q ∈ S) (hJ : Kept q J) (hD : Kept q D)
    (h : ∀ (ρ : Operand → Value) k w, Cls S q m w0 J k w → (∀ v, ρ (.const v) = v) → (∀ n, (ops.toList.all fun o => o.dst != some n) = true → ρ (.tmp n) = a0.eval (.tmp n)) → PreR ops T ρ w o.after.toList →
      ∃ v, (execOp ρ o).run Try.prog w = .ok (.value v) w ∧ T i (dstV o v) w) :
    Ob Try.prog ops Q (Cls S q m w0 J) (Rel S D) T a0 i o :=
  ob_only hg hq hJ hD fun ρ k w _ hI hc _ hx hp => by
    obtain ⟨v, e, ht⟩ := h ρ k w hI hc hx hp
    rw [e]
    exact ⟨Only.refl _ _, hI.rd.mono (by omega), ht⟩
end
/-- A typed region whose last operation, a store, waits for all others: what it does is said as an equation. -/
theorem wp_region_end {P : Program} {id : Nat} {Q : Exit → Act → World → Prop} {a0 : Act} {w : World} {l l0 : List Oper} {oL : Oper} (h0 : l.dropLast = l0) (h1 : l.getLast? = some oL) (I : Nat → World → Prop) (R : World → World → Prop) (T : Nat → Value → World → Prop)
    (hw : waitsB oL l0.length = true) (hm : P.follows .mixedOrders = true) (hB : okB l.toArray a0.tmps.size = true) (hT : ∀ i v w w', R w w' → T i v w → T i v w') (hI : I 0 w.drew)
    (hst : Obs P l.toArray Q I R T a0 0 l0) (hend : ∀ vs w, I l0.length w → Facts T vs w 0 l0 → ∃ w', (execOp (putAll a0 l0 0 vs).eval oL).run P w = .ok .skip w' ∧ Q .normal (putAll a0 l0 0 vs) w') : (Code.region id l.toArray true).wp P Q a0 w := by
  subst h0
  have hd : oL.dst = none := by
    unfold waitsB at hw
    simp only [Bool.and_eq_true] at hw
    simpa using hw.1.2
  refine wp_region_last oL I R T ?_ hw hm hB hT hI hst fun vs w' hI' hF' => ?_
  · rw [List.getLast?_eq_some_iff] at h1
    obtain ⟨ys, rfl⟩ := h1
    simp
  · obtain ⟨w2, he, hk⟩ := hend vs w' hI' hF'
    generalize putAll a0 l.dropLast 0 vs = a at he hk
    have h2 : oL.wp P a w' (fun a' w'' => ∃ v, a' = a.put oL.dst v ∧ w'' = w2) Q := by
      unfold Oper.wp
      refine upon_of_T (K := fun _ w'' => w'' = w2) ?_
      rw [he]
      rfl
    refine Oper.wp_mono (fun a' w'' ⟨v, g1, g2⟩ => ?_) h2
    subst g1 g2
    rw [hd]
    exact hk
theorem facts_at {T : Nat → Value → World → Prop} {vs : Nat → Value} {w : World} : ∀ (l : List Oper) (k i : Nat), i < l.length → Facts T vs w k l → T (k + i) (vs (k + i)) w
  | [], _, _, h, _ => by simp at h
  | o :: r, k, 0, _, h => h.1
  | o :: r, k, i + 1, h, hF => by
    have := facts_at r (k + 1) i (by simpa using h) hF.2
    rwa [show k + 1 + i = k + (i + 1) by omega] at this
theorem lit_at2 {w w' : World} {q : Nat} {cs : Array Value} {T : TypeId} {i : Nat} {v : Value} (hs : Sole q (w.alloc (.cells cs T)) w') (hq : q < w.heap.size) (hv : cs[i]? = some v) : w'.cell? ⟨w.heap.size, i, none⟩ = some v := by
  rw [World.cell?_of_block (a := ⟨w.heap.size, i, none⟩) (w := w.alloc (.cells cs T)) (hs.block w.heap.size (by simp) (by omega)), World.cell?_alloc_new]; exact hv
end Go.Proofs.Ytlppmcflgbeolaa
