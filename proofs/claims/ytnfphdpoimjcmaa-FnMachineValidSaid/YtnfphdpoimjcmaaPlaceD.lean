/- A drawn address. -/
import Derived.Test.YtnfphdpoimjcmaaRomD
namespace Go.Proofs.Ytnfphdpoimjcmaa
open Go.ChangeShapes Go.WideShapes Go.ChangeAt Go.RowKit

/-- What drawing an address leaves. -/
def PlaceDrawn (q m : Nat) (w : World) (e : Ending) (w' : World) : Prop := ∃ v : Int, -1 ≤ v ∧ v ≤ 1024 ∧ e = .returned (.int .i64 v) ∧ Only [q] w w' ∧ Rd w' q (m + 7)
theorem fiveB (v x0 x1 x2 x3 x4 lo hi : Int) (d0 : 0 ≤ v) (d1 : v < 5) (a0 : lo ≤ x0 ∧ x0 ≤ hi) (a1 : lo ≤ x1 ∧ x1 ≤ hi) (a2 : lo ≤ x2 ∧ x2 ≤ hi) (a3 : lo ≤ x3 ∧ x3 ≤ hi) (a4 : lo ≤ x4 ∧ x4 ≤ hi) :
    ∃ u : Int, (#[Value.int .i64 x0, .int .i64 x1, .int .i64 x2, .int .i64 x3, .int .i64 x4] : Array Value)[v.toNat]? = some (.int .i64 u) ∧ lo ≤ u ∧ u ≤ hi := by
  have h : v = 0 ∨ v = 1 ∨ v = 2 ∨ v = 3 ∨ v = 4 := by omega
  rcases h with rfl | rfl | rfl | rfl | rfl
  · exact ⟨_, rfl, a0⟩
  · exact ⟨_, rfl, a1⟩
  · exact ⟨_, rfl, a2⟩
  · exact ⟨_, rfl, a3⟩
  · exact ⟨_, rfl, a4⟩
theorem twoB (v x0 x1 lo hi : Int) (d0 : 0 ≤ v) (d1 : v < 2) (a0 : lo ≤ x0 ∧ x0 ≤ hi) (a1 : lo ≤ x1 ∧ x1 ≤ hi) : ∃ u : Int, (#[Value.int .i64 x0, .int .i64 x1] : Array Value)[v.toNat]? = some (.int .i64 u) ∧ lo ≤ u ∧ u ≤ hi := by
  have h : v = 0 ∨ v = 1 := by omega
  rcases h with rfl | rfl
  · exact ⟨_, rfl, a0⟩
  · exact ⟨_, rfl, a1⟩
/-- A cell of a literal that was laid ahead of a pick. -/
theorem lit_at {w w' : World} {q : Nat} {cs : Array Value} {T : TypeId} {i : Nat} {v : Value} (hs : Sole q (w.alloc (.cells cs T)) w') (hq : q < w.heap.size) (hv : cs[i]? = some v) : w'.cell? ⟨w.heap.size, i, none⟩ = some v := by
  rw [World.cell?_of_block (a := ⟨w.heap.size, i, none⟩) (w := w.alloc (.cells cs T)) (hs.block w.heap.size (by simp) (by omega)), World.cell?_alloc_new]; exact hv
end Go.Proofs.Ytnfphdpoimjcmaa
