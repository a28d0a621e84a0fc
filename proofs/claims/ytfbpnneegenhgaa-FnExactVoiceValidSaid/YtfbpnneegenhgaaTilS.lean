/- Whole tiles of the laws' own type and whole arrays: one step each; the laws' own functions on them; a tile that came in. -/
import Derived.Test.YtfbpnneegenhgaaTilC
import Derived.ChangeSame
import Derived.Deep.DeepCutAuto
import Derived.Lib.SmallJoins
namespace Go.Proofs.Ytfbpnneegenhgaa
open Go.ChangeShapes Go.WideShapes Go.ChangeAt Go.RowKit
set_option linter.unusedVariables false

section
variable {ops : Array Oper} {rest : List Oper} {o : Oper} {a : Act} {w : World} {Q : Exit → Act → World → Prop}
end
theorem take_getD8 (zs : List Int) (n i : Nat) (h : i < n) : (zs.take n).getD i 0 = zs.getD i 0 := by
  simp only [List.getD_eq_getElem?_getD, List.getElem?_take, if_pos h]
theorem ints_in8 {w : World} {A : Option Addr} {L C : Nat} {Z : List Int} (hl : L ≤ C) (hz : Z.length = C) (h0 : A = none → C = 0) (hc : ∀ a', A = some a' → ∀ c, c < C → w.cell? (a'.add c) = some (.int .i64 (Z.getD c 0))) :
    Ints w A L (Z.take L) (if L = 0 then [] else [(A.elim 0 (·.block))]) := by
  refine ⟨by rw [List.length_take]; omega, ?_⟩
  by_cases h : L = 0
  · exact .inl ⟨h, if_pos h⟩
  · right
    rcases A with _ | a
    · have := h0 rfl; omega
    · obtain ⟨b, o, rfl, hb⟩ := ints_at (zs := Z) (fun i hi => hc a rfl i (by omega)) (by omega)
      refine ⟨by omega, b, o, rfl, by rw [if_neg h]; rfl, World.block_lt_of_cell? _ _ (hb 0 (by omega)), fun i hi => ?_⟩
      rw [hb i (by omega), take_getD8 Z L i hi]
/-- A list of cells that are all integers. -/
theorem ints_list : ∀ l : List Value, (∀ i, i < l.length → ∃ z, l[i]? = some (.int .i64 z)) → ∃ px : List Int, px.length = l.length ∧ l = iv px
  | [], _ => ⟨[], rfl, rfl⟩
  | v :: l, h => by
    obtain ⟨z, hz⟩ := h 0 (by simp)
    obtain rfl : v = .int .i64 z := by simpa using hz
    obtain ⟨px, h1, h2⟩ := ints_list l fun i hi => by simpa using h (i + 1) (by simpa using hi)
    exact ⟨z :: px, by simp [h1], by rw [h2]; rfl⟩
section
variable {H : Type} {enc : TypeId × Value → H} {w : World} {base : Nat} {held : Bool}
theorem ints_came8 {fuel : Nat} {A : Option Addr} {n c : Nat} {x : DataW H × List MemPlace} (h : DataW.trod enc Try.prog w base (fun _ => true) held fuel 31 [.slice A n c] = some x) : n ≤ 9223372036854775807 ∧ ∃ xs fa, Ints w A n xs fa := by
  rcases open_ints Try.underlying31 Try.underlying3 (by kernel_rfl) h with ⟨hcs, _⟩ | ⟨a, len, cap, zs, hcs, _, hl, hm, hz, _, hcell, _⟩
  · simp at hcs
    obtain ⟨rfl, rfl, _⟩ := hcs
    exact ⟨by omega, [], [], .nil _ _⟩
  · simp at hcs
    obtain ⟨rfl, rfl, rfl⟩ := hcs
    simp only [if_true] at hz
    unfold maxLen at hm
    exact ⟨by omega, _, _, ints_in8 hl hz (by simp) (fun a' e i hi => by injection e with e; subst e; exact hcell i (by omega))⟩
end
end Go.Proofs.Ytfbpnneegenhgaa
