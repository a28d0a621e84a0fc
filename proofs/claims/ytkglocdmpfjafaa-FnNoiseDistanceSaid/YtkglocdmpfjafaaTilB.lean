/- Whole tiles loaded, stored, made and handed back: one step each. -/
import Derived.Test.YtkglocdmpfjafaaTilA
import Derived.ChangeKeysEq
namespace Go.Proofs.Ytkglocdmpfjafaa
open Go.ChangeShapes Go.WideShapes Go.ChangeAt Go.RowKit
set_option linter.unusedVariables false

/-- The tile of zeros. -/
def z64 : List Int := List.replicate 64 0
theorem z64_len : z64.length = 64 := by simp [z64]
theorem z64_get (i : Nat) : z64.getD i 0 = 0 := by
  unfold z64
  rw [List.getD_eq_getElem?_getD, List.getElem?_replicate]
  split <;> rfl
theorem z64_valid : tilB z64 = true := by rw [tilB_iff]; intro i _; rw [z64_get]; rfl
theorem iv_len (px : List Int) (hp : px.length = 64) : (iv px).toArray.size = 64 := by simp [hp]
theorem iv_all (px : List Int) : (iv px).toArray.all (·.oneCell') = true := by
  rw [Array.all_eq_true_iff_forall_mem]
  intro x hx
  exact iv_one px x (by simpa using hx)
theorem Box.row {w : World} {b : Nat} {t : TypeId} {cs ds : List Value} (h : Box w b t cs) : Box (w.setRow b ds.toArray) b t ds := by
  have := setRow_heap w b cs.toArray ds.toArray t (0, 0) h
  simpa [Box] using this
theorem Box.rowFar {w : World} {b g : Nat} {t : TypeId} {cs : List Value} {ds : Array Value} (h : Box w b t cs) (hb : b ≠ g) : Box (w.setRow g ds) b t cs := (setRow_other w g b ds hb).trans h
theorem below_row {B : Nat} {a w : World} (h : Below B a w) {g : Nat} (hg : B ≤ g) (cs : Array Value) : Below B a (w.setRow g cs) :=
  ⟨h.os, h.tape, h.output, by simpa using h.size, fun k hk => (setRow_other w g k cs (by omega)).trans (h.block k hk)⟩
theorem Only.row {S : List Nat} {a w : World} (h : Only S a w) {g : Nat} (hg : g ∈ S ∨ a.heap.size ≤ g) (cs : Array Value) : Only S a (w.setRow g cs) :=
  ⟨h.os, h.tape, h.output, by simpa using h.size, fun k hk hn => (setRow_other w g k cs (by rcases hg with hg | hg; · intro e; subst e; exact hn hg
                                                                                            · omega)).trans (h.block k hk hn)⟩
section
variable {ops : Array Oper} {rest : List Oper} {o : Oper} {a : Act} {w : World} {Q : Exit → Act → World → Prop}
end
end Go.Proofs.Ytkglocdmpfjafaa
