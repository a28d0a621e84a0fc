/- What a walk is told of an argument that is a slice of slices, or a memory. -/
import Derived.Test.YtehiplkoofdkeaaDoorMemE
import Derived.Deep.Matrix
import Derived.Lib.SmallJoins
namespace Go.Proofs.YtehiplkoofdkeaaDoor
open Go.ChangeShapes Go.WideShapes Go.ChangeAt Go.RowKit

/-- A slice of slices that came in. -/
def InRows (w : World) (R : Option Addr) (k : Nat) (rs : List (List Int)) : Prop := k ≤ 9223372036854775807 ∧ (∀ i, (rs.getD i []).length ≤ 9223372036854775807) ∧ ∃ fr, Grid w R k rs fr
/-- A memory that came in. -/
def InMem (w : World) (A : Option Addr) (n : Nat) (R : Option Addr) (k : Nat) (M : Mem) : Prop := n ≤ 9223372036854775807 ∧ (∃ fa, Ints w A n M.ram fa) ∧ InRows w R k M.rom
theorem take_getD (zs : List Int) (n i : Nat) (h : i < n) : (zs.take n).getD i 0 = zs.getD i 0 := by
  simp only [List.getD_eq_getElem?_getD, List.getElem?_take, if_pos h]
theorem ints_in {w : World} {A : Option Addr} {L C : Nat} {Z : List Int} (hl : L ≤ C) (hz : Z.length = C) (h0 : A = none → C = 0) (hc : ∀ a', A = some a' → ∀ c, c < C → w.cell? (a'.add c) = some (.int .i64 (Z.getD c 0))) :
    Ints w A L (Z.take L) (if L = 0 then [] else [(A.elim 0 (·.block))]) := by
  refine ⟨by rw [List.length_take]; omega, ?_⟩
  by_cases h : L = 0
  · exact .inl ⟨h, if_pos h⟩
  · right
    rcases A with _ | a
    · have := h0 rfl; omega
    · obtain ⟨b, o, rfl, hb⟩ := ints_at (zs := Z) (fun i hi => hc a rfl i (by omega)) (by omega)
      refine ⟨by omega, b, o, rfl, by rw [if_neg h]; rfl, World.block_lt_of_cell? _ _ (hb 0 (by omega)), fun i hi => ?_⟩
      rw [hb i (by omega), take_getD Z L i hi]
section
variable {H : Type} {enc : TypeId × Value → H} {w : World} {base : Nat} {held : Bool}
theorem ints_came {fuel : Nat} {A : Option Addr} {n c : Nat} {x : DataW H × List MemPlace} (h : DataW.trod enc Tryd.prog w base (fun _ => true) held fuel 25 [.slice A n c] = some x) : n ≤ 9223372036854775807 ∧ ∃ xs fa, Ints w A n xs fa := by
  rcases open_ints Tryd.underlying25 Tryd.underlying3 (by kernel_rfl) h with ⟨hcs, _⟩ | ⟨a, len, cap, zs, hcs, _, hl, hm, hz, _, hcell, _⟩
  · simp at hcs
    obtain ⟨rfl, rfl, _⟩ := hcs
    exact ⟨by omega, [], [], .nil _ _⟩
  · simp at hcs
    obtain ⟨rfl, rfl, rfl⟩ := hcs
    simp only [if_true] at hz
    unfold maxLen at hm
    exact ⟨by omega, _, _, ints_in hl hz (by simp) (fun a' e i hi => by injection e with e; subst e; exact hcell i (by omega))⟩
end
end Go.Proofs.YtehiplkoofdkeaaDoor
