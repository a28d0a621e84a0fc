/- Tiles as 64 plain numbers: the tests of the program and of the model. -/
import Derived.Test.YtddllcgbdgpkbaaGA
import Derived.Deep.WholeRow
import Derived.IntWalk
import Derived.Deep.QuietTactic
import Derived.BigQuiet
import Derived.Deep.RegionLaw
namespace Go.Proofs.Ytddllcgbdgpkbaa
open Go.ChangeShapes Go.WideShapes Go.ChangeAt Go.RowKit
set_option linter.unusedVariables false

/-- A tile's value. -/
abbrev tilV (px : List Int) : Value := .agg (iv px).toArray
theorem tilV_lit : (.agg #[.int .i64 1, .int .i64 2] : Value) = tilV [1, 2] := rfl
def tilB (px : List Int) : Bool := px.all fun x => betB x 0 3
theorem tilB_iff {px : List Int} : tilB px = true ↔ ∀ i, i < px.length → betB (px.getD i 0) 0 3 = true := by
  unfold tilB
  rw [List.all_eq_true]
  constructor
  · intro h i hi
    rw [List.getD_eq_getElem?_getD, List.getElem?_eq_getElem hi]
    exact h _ (List.getElem_mem hi)
  · intro h x hx
    obtain ⟨i, hi, rfl⟩ := List.mem_iff_getElem.1 hx
    have := h i hi
    rwa [List.getD_eq_getElem?_getD, List.getElem?_eq_getElem hi] at this
theorem tilB_no {px : List Int} (i : Nat) (hi : i < px.length) (h : betB (px.getD i 0) 0 3 = false) : tilB px = false := by
  cases e : tilB px
  · rfl
  · rw [tilB_iff.1 e i hi] at h; cases h
theorem til_cell {w : World} {b : Nat} {t : TypeId} {px : List Int} (h : Box w b t (iv px)) (i : Nat) (hi : i < px.length) : w.cell? ⟨b, i, none⟩ = some (.int .i64 (px.getD i 0)) := (h.cell i).trans (iv_at px i hi)
set_option maxHeartbeats 2000000 in
theorem spec_tileValid (px : List Int) (hp : px.length = 64) (w : World) : Calls Try.prog 49 #[tilV px] w fun e w' => e = .returned (.bool (tilB px)) ∧ Below w.heap.size w w' := by
  have X1 : Hid (Box (w.alloc (.cells (iv px).toArray 74)) w.heap.size 74 (iv px)) := Box.new w _ _
  have BB := Lib.hid (below1 w (.cells (iv px).toArray 74))
  go_enter Try.func49, Try.ntmps49
  go_wp2_with fail
  generalize w.alloc (.cells (iv px).toArray 74) = w1 at X1 BB ⊢
  generalize w.heap.size = b at X1 ⊢
  go_loopw [2, 3] (fun u i wr => ∃ k : Nat, k ≤ 64 ∧ u = .bool false ∧ i = .int .i64 k ∧ wr = w1 ∧ ∀ j, j < k → betB (px.getD j 0) 0 3 = true) (fun _ i _ => 64 - (intOf i).toNat)
  case atStart => exact ⟨0, by omega, rfl, rfl, rfl, fun j hj => by omega⟩
  case round =>
    obtain ⟨k, hk, rfl, rfl, rfl, hall⟩ := hrel
    have HA := Lib.hid hall
    clear hall
    by_cases h64 : k < 64
    · have i64' : (k : Int) < 64 := by omega
      have c0 := til_cell X1.out k (by omega)
      obtain ⟨x, hx⟩ : ∃ x, px.getD k 0 = x := ⟨_, rfl⟩
      rw [hx] at c0
      have HX := Lib.hid hx
      clear hx
      go_wp2_with fail
      refine (l1In_any _ _ _ _).mono ?_; rintro e w' ⟨rfl, rfl⟩
      cases hb : betB x 0 3
      · have HF := Lib.hid (tilB_no (px := px) k (by omega) (by rw [HX.out]; exact hb))
        go_wp2_with fail
        go_ret
        exact ⟨ret_bool HF.out.symm, BB.out⟩
      · have HB := Lib.hid hb
        clear hb
        go_wp2_with fail
        go_roundw
        case rel => exact ⟨k + 1, by omega, rfl, by go_num, trivial, fun j hj => by
          by_cases e : j = k
          · subst e; rw [HX.out]; exact HB.out
          · exact HA.out j (by omega)⟩
        case measure => simp [intOf]; omega
    · obtain rfl : k = 64 := by omega
      have HF := Lib.hid (tilB_iff.2 fun j hj => HA.out j (by omega))
      go_wp2_with fail
      go_ret
      exact ⟨ret_bool HF.out.symm, BB.out⟩
end Go.Proofs.Ytddllcgbdgpkbaa
