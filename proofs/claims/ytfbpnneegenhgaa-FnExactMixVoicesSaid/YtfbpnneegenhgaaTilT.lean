/- Appends of tiles to rows of the call's own. -/
import Derived.Test.YtfbpnneegenhgaaTilB
import Derived.Test.YtfbpnneegenhgaaFldM
import Derived.Test.YtfbpnneegenhgaaClonI
import Derived.Deep.RegionLaw
import Derived.Deep.MidRow
namespace Go.Proofs.Ytfbpnneegenhgaa
open Go.ChangeShapes Go.WideShapes Go.ChangeAt Go.RowKit
set_option linter.unusedVariables false

/-- Pixels one after another in memory: one tile of them. -/
theorem til_range {w : World} {b o m : Nat} {zs : List Int} {ft : List Nat} (h : Ints w (some ⟨b, o, none⟩) (64 * m) zs ft) {k : Nat} (hk : k < m) : w.rangeAt b (o + k * 64) (iv (tl zs k)) := by
  intro j v hv
  have hj : j < (tl zs k).length := by have := (List.getElem?_eq_some_iff.1 hv).1; simpa using this
  have h64 := tl_len h.1 hk
  rw [iv_at _ _ hj] at hv
  injection hv with hv
  subst hv
  obtain ⟨b', o', he, _, _, hc⟩ := h.at_ (by omega)
  injection he with he
  injection he with e1 e2 _
  subst e1 e2
  rw [show o + k * 64 + j = o + (64 * k + j) by omega, hc (64 * k + j) (by omega), tl_get _ _ _ (by omega)]
section
variable {ops : Array Oper} {rest : List Oper} {o : Oper} {a : Act} {w : World} {Q : Exit → Act → World → Prop}
end
theorem own_down {w : World} {b b' : Nat} {e : TypeId} {s : Nat} {v : Value} {n : Nat} {xs : List Value} (h : w.ownsRow b e s v n xs) (hb : b' ≤ b) : w.ownsRow b' e s v n xs := by
  obtain ⟨h1, h2 | ⟨g, cap, cur, a, k, r⟩⟩ := h
  · exact ⟨h1, .inl h2⟩
  · exact ⟨h1, .inr ⟨g, cap, cur, a, by omega, r⟩⟩
/-- What a copy of tiles leaves. -/
def CopiedT (zs : List Int) (m : Nat) (w : World) (e : Ending) (w' : World) : Prop :=
  ∃ (A : Option Addr) (c : Nat) (fp : List Nat), e = .returned (.slice A m c) ∧ m ≤ c ∧ Ints w' A (64 * m) zs fp ∧ New w.heap.size w' fp ∧ Below w.heap.size w w'
theorem own_empty64 (w : World) (t : TypeId) (base : Nat) (h : base ≤ w.heap.size) : (w.alloc (.cells #[] t)).ownsRow base t 64 (.slice (some ⟨w.heap.size, 0, none⟩) 0 0) 0 [] :=
  ⟨by simp, .inr ⟨w.heap.size, 0, #[], rfl, h, heap_alloc_new w _, Nat.le_refl _, by unfold maxLen; omega, by simp, by simp⟩⟩
end Go.Proofs.Ytfbpnneegenhgaa
