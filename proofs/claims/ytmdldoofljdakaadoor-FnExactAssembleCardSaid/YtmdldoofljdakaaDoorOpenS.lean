/- A list of texts that came in. -/
import Derived.Test.YtmdldoofljdakaaDoorStrs
import Derived.Test.YtmdldoofljdakaaDoorOpenM
import Derived.SliceStrings
namespace Go.Proofs.YtmdldoofljdakaaDoor
open Go.ChangeShapes Go.WideShapes Go.ChangeAt Go.RowKit

theorem strs_at {w : World} {a : Addr} {n : Nat} {zs : List ByteArray} (h : ∀ i, i < n → w.cell? (a.add i) = some (.string (zs.getD i ByteArray.empty))) (h0 : 0 < n) : ∃ b o, a = ⟨b, o, none⟩ ∧ ∀ i, i < n → w.cell? ⟨b, o + i, none⟩ = some (.string (zs.getD i ByteArray.empty)) := by
  obtain ⟨b, off, spot⟩ := a
  have hspot : spot = none := by simpa [Addr.add] using World.cell?_spot (h 0 h0)
  subst hspot
  exact ⟨b, off, rfl, fun j hj => by rw [← Go.WideShapes.add_plain]; exact h j hj⟩
section
variable {H : Type} {enc : TypeId × Value → H} {w : World} {base : Nat} {held : Bool}
theorem strs_came {fuel : Nat} {A : Option Addr} {n c : Nat} {x : DataW H × List MemPlace} (h : DataW.trod enc Tryd.prog w base (fun _ => true) held fuel 34 [.slice A n c] = some x) : n ≤ 9223372036854775807 ∧ ∃ xs fa, Strs w A n xs fa ∧ ∀ i, i < n → (xs.getD i ByteArray.empty).size ≤ 9223372036854775807 := by
  rcases open_strings Tryd.underlying34 Tryd.underlying9 (by kernel_rfl) h with ⟨hcs, _⟩ | ⟨a, len, cap, ss, hcs, _, hl, hm, hz, _, hcell, hss⟩
  · simp at hcs
    obtain ⟨rfl, rfl, _⟩ := hcs
    exact ⟨by omega, [], [], .nil _ _, fun i hi => by omega⟩
  · simp at hcs
    obtain ⟨rfl, rfl, rfl⟩ := hcs
    simp only [if_true] at hz
    unfold maxLen at hm hss
    have hg : ∀ i, i < n → (ss.take n).getD i ByteArray.empty = ss.getD i ByteArray.empty := fun i hi => by
      simp [List.getD, hi]
    by_cases h0 : n = 0
    · subst h0
      exact ⟨by omega, [], [], .nil _ _, fun i hi => by omega⟩
    · obtain ⟨b, o, rfl, hb⟩ := strs_at (zs := ss) (n := n) (fun i hi => hcell i (by omega)) (by omega)
      refine ⟨by omega, ss.take n, [b], ⟨by rw [List.length_take]; omega, .inr ⟨by omega, b, o, rfl, rfl, World.block_lt_of_cell? _ _ (hb 0 (by omega)), fun i hi => by rw [hb i hi, hg i hi]⟩⟩, fun i hi => ?_⟩
      rw [hg i hi]
      have hi' : i < ss.length := by omega
      exact hss _ (by simp [List.getD, List.getElem?_eq_getElem hi'])
end
end Go.Proofs.YtmdldoofljdakaaDoor
