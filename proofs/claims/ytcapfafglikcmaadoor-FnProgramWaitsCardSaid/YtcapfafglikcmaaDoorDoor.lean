/- The program's table of operations, as the rows lay it; instructions and lists of integers that came in. -/
import Derived.Test.YtcapfafglikcmaaDoorOps
import Derived.Test.YtcapfafglikcmaaDoorOpenM
import Derived.LaidMore
import Derived.OpenVars
import Derived.Stop.Joined
import Derived.Deep.Strs
namespace Go.Proofs.YtcapfafglikcmaaDoor
open Go.ChangeShapes Go.WideShapes Go.ChangeAt Go.RowKit

theorem door_own : ownKnob Tryd.prog.godebug = none := by kernel_rfl
theorem door_laidOut : laidOutB Tryd.prog = true := by kernel_rfl
theorem gOps : Tryd.prog.globalNamed "loop.example/homeconsole/impl.operations" = some 0 := by kernel_rfl
theorem tOps : (Tryd.prog.globals[0]?).map (·.type) = some 99 := by kernel_rfl
theorem cellsOp : Tryd.prog.cellsOf 90 = 3 := by kernel_rfl
theorem cellsInt : Tryd.prog.cellsOf 3 = 1 := by kernel_rfl
/-- What the rows lay. -/
def laidOps : List (String × DataW Unit) := [("loop.example/homeconsole/impl.operations", Rows.laid_loop_example_homeconsole_impl_operations)]
theorem door_met (os : Os) (args : Array Value) : laidMetH Tryd.prog laidOps ((World.doorLaid Tryd.prog 400 os).forCall (fun _ _ => 0) ⟨#[], args, []⟩).memory :=
  laidMetH_of_parts3 (fuel := 8) (laidMet_of_run' 8 (by kernel_rfl) (by kernel_rfl)) (by kernel_rfl) (by kernel_rfl)
def opsData : List (DataW Unit) := match (Rows.laid_loop_example_homeconsole_impl_operations : DataW Unit) with | .agg l => l | _ => []
theorem ops_data (k : Nat) (hk : k < 16) (s : ByteArray) (n0 n1 : Int) (h : opsData[k]? = some (.agg [.lit (.string s.data.toList), .lit (.int .i64 n0), .lit (.int .i64 n1)])) : opsCells[k * 3]? = some (.string s) ∧ opsCells[k * 3 + 1]? = some (.int .i64 n0) ∧ opsCells[k * 3 + 2]? = some (.int .i64 n1) := by
  obtain ⟨⟨l⟩⟩ := s
  rcases sixteen hk with rfl | rfl | rfl | rfl | rfl | rfl | rfl | rfl | rfl | rfl | rfl | rfl | rfl | rfl | rfl | rfl
  all_goals
    simp [opsData, Rows.laid_loop_example_homeconsole_impl_operations] at h
    obtain ⟨rfl, rfl, rfl⟩ := h
    exact ⟨rfl, rfl, rfl⟩
theorem cellsStr : Tryd.prog.cellsOf 9 = 1 := by kernel_rfl
theorem ops_of_var {W : World} {g0 : Nat} {t0 : TypeId} {cs0 : Array Value} {f0 : Nat} {p0 : List MemPlace} (hg0 : Tryd.prog.globalNamed "loop.example/homeconsole/impl.operations" = some g0) (ht0 : (Tryd.prog.globals[g0]?).map (·.type) = some t0) (hv0 : W.var? Tryd.prog "loop.example/homeconsole/impl.operations" = some cs0) (hd0 : DataW.trod (fun _ => ()) Tryd.prog W 0 (fun _ => true) false f0 t0 cs0.toList = some (Rows.laid_loop_example_homeconsole_impl_operations, p0)) : Ops W := by
  obtain rfl := Option.some.inj (gOps.symm.trans hg0)
  obtain rfl := Option.some.inj (tOps.symm.trans ht0)
  obtain ⟨xs, m, rfl, hx, hlen, hn, hel⟩ := DataW.trod_array Tryd.underlying99 hd0
  have key : ∀ k, k < 16 → cs0[k * 3]? = opsCells[k * 3]? ∧ cs0[k * 3 + 1]? = opsCells[k * 3 + 1]? ∧ cs0[k * 3 + 2]? = opsCells[k * 3 + 2]? := fun k hk => by
    have he := hel k hk
    rw [List.getElem?_eq_getElem (by omega)] at he
    obtain ⟨y0, y1, y2, m', hxs, _, h0, h1, h2⟩ := Deep.trod_struct3 Tryd.underlying90 he
    obtain ⟨s0, e0, z0, _⟩ := DataW.trod_string Tryd.underlying9 h0
    obtain ⟨n1, e1, z1, _⟩ := DataW.trod_int Tryd.underlying3 h1
    obtain ⟨n2, e2, z2, _⟩ := DataW.trod_int Tryd.underlying3 h2
    rw [cellsOp] at e0 e1 e2
    rw [cellsStr] at e0
    rw [cellsInt] at e1 e2
    have a0 := congrArg (·[0]?) e0
    have a1 := congrArg (·[0]?) e1
    have a2 := congrArg (·[0]?) e2
    simp [List.getElem?_drop] at a0 a1 a2
    have hd : opsData[k]? = some (.agg [.lit (.string s0.data.toList), .lit (.int .i64 n1), .lit (.int .i64 n2)]) := by
      have hx1 : opsData = xs.map (·.1) := by
        have := congrArg Prod.fst hx
        simp only [Rows.laid_loop_example_homeconsole_impl_operations, DataW.agg.injEq] at this
        exact this
      rw [hx1, List.getElem?_map, List.getElem?_eq_getElem (by omega), hxs, z0, z1, z2]
      rfl
    obtain ⟨b0, b1, b2⟩ := ops_data k hk s0 n1 n2 hd
    exact ⟨by rw [b0]; simpa using a0, by rw [b1]; simpa using a1, by rw [b2]; simpa using a2⟩
  intro i hi
  rw [World.var?_cell hg0 hv0 i]
  obtain ⟨k, hk⟩ : ∃ k, i = k * 3 ∨ i = k * 3 + 1 ∨ i = k * 3 + 2 := ⟨i / 3, by omega⟩
  rcases hk with rfl | rfl | rfl
  · exact (key k (by omega)).1
  · exact (key k (by omega)).2.1
  · exact (key k (by omega)).2.2
theorem ops_of_laid {W : World} (h : laidMetH Tryd.prog laidOps W) : Ops W := by
  rw [MakeChecks.laidMetH_plain _ _ _ (by kernel_rfl)] at h
  obtain ⟨ps, ⟨g0, t0, cs0, f0, p0, q0, hg0, ht0, hv0, hd0, _, _⟩, _, _⟩ := h
  exact ops_of_var hg0 ht0 hv0 hd0
section
variable {H : Type} {enc : TypeId × Value → H} {w : World} {base : Nat} {held : Bool}
end
end Go.Proofs.YtcapfafglikcmaaDoor
