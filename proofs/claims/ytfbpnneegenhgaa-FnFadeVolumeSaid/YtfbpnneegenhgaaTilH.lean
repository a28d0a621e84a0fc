/- Tiles that the laws draw. -/
import Derived.Test.YtfbpnneegenhgaaTilG
import Derived.Laws.CopyRow
namespace Go.Proofs.Ytfbpnneegenhgaa
open Go.ChangeShapes Go.WideShapes Go.ChangeAt Go.RowKit
set_option linter.unusedVariables false

theorem setAll_row {b : Nat} {t : TypeId} : ∀ (vs pre cs : List Value) (w : World), Box w b t (pre ++ cs) → cs.length = vs.length → setAll w b pre.length vs = w.setRow b (pre ++ vs).toArray
  | [], pre, cs, w, h, hl => by
    obtain rfl : cs = [] := List.length_eq_zero_iff.1 hl
    show w = _
    simpa using (setRow_self w b pre.toArray t (0, 0) (by simpa [Box] using h)).symm
  | v :: r, pre, cs, w, h, hl => by
    match cs, hl with
    | c :: cs', hl =>
      have h1 := h.set pre.length v
      rw [List.set_append_right _ _ (Nat.le_refl _), Nat.sub_self, List.set_cons_zero] at h1
      have h2 := setAll_row r (pre ++ [v]) cs' _ (by simpa using h1) (by simpa using hl)
      have h3 := setCell_eq_setRow w b pre.length (pre ++ c :: cs').toArray t (0, 0) v h
      simp only [setAll]
      rw [show pre.length + 1 = (pre ++ [v]).length by simp, h2, h3, setRow_setRow]
      simp
theorem plain_iv (px : List Int) : ∀ v ∈ iv px, plainV v := by
  intro v hv z e
  obtain ⟨x, _, rfl⟩ := List.mem_map.1 hv
  cases e
/-- A tile that a law got; with two values. -/
def TilGot (w : World) (e : Ending) (w' : World) : Prop := ∃ px, PxIn (-1) 4 px ∧ e = .returned (tilV px) ∧ Below w.heap.size w w'
def TilGot3 (w : World) (e : Ending) (w' : World) : Prop := ∃ px a d, PxIn (-1) 4 px ∧ e = .returned (.tuple #[tilV px, .bool a, .bool d]) ∧ Below w.heap.size w w'
end Go.Proofs.Ytfbpnneegenhgaa
