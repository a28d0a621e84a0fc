/- What a walk is told of an argument that is a slice of slices, or a memory. -/
import Derived.Test.YtcapfafglikcmaaDoorKA
import Derived.Deep.Matrix
import Derived.Lib.SmallJoins
namespace Go.Proofs.YtcapfafglikcmaaDoor
open Go.ChangeShapes Go.WideShapes Go.ChangeAt Go.RowKit

/-- A slice of slices that came in. -/
def InRows (w : World) (R : Option Addr) (k : Nat) (rs : List (List Int)) : Prop := k ≤ 9223372036854775807 ∧ (∀ i, (rs.getD i []).length ≤ 9223372036854775807) ∧ ∃ fr, Grid w R k rs fr
/-- A memory that came in. -/
def InMem (w : World) (A : Option Addr) (n : Nat) (R : Option Addr) (k : Nat) (M : Mem) : Prop := n ≤ 9223372036854775807 ∧ (∃ fa, Ints w A n M.ram fa) ∧ InRows w R k M.rom
theorem take_getD (zs : List Int) (n i : Nat) (h : i < n) : (zs.take n).getD i 0 = zs.getD i 0 := by
  simp only [List.getD_eq_getElem?_getD, List.getElem?_take, if_pos h]
theorem ints_in {w : World} {A : Option Addr} {L C : Nat} {Z : List Int} (hl : L ≤ C) (hz : Z.length = C) (h0 : A = none → C = 0) (hc : ∀ a', A = some a' → ∀ c, c < C → w.cell? (a'.add c) = some (.int .i64 (Z.getD c 0))) :
    Ints w A L (Z.take L) (if L = 0 then [] else [(A.elim 0 (·.block))]) := by
  refine ⟨by rw [List.length_take]; omega, ?_⟩
  by_cases h : L = 0
  · exact .inl ⟨h, if_pos h⟩
  · right
    rcases A with _ | a
    · have := h0 rfl; omega
    · obtain ⟨b, o, rfl, hb⟩ := ints_at (zs := Z) (fun i hi => hc a rfl i (by omega)) (by omega)
      refine ⟨by omega, b, o, rfl, by rw [if_neg h]; rfl, World.block_lt_of_cell? _ _ (hb 0 (by omega)), fun i hi => ?_⟩
      rw [hb i (by omega), take_getD Z L i hi]
section
variable {H : Type} {enc : TypeId × Value → H} {w : World} {base : Nat} {held : Bool}
theorem rows_in {fuel : Nat} {R : Option Addr} {k d : Nat} {x : DataW H × List MemPlace} (h : DataW.trod enc Tryd.prog w base (fun _ => true) held fuel 24 [.slice R k d] = some x) : ∃ rs, InRows w R k rs := by
  rcases Go.Deep.open_int_rows Tryd.underlying24 Tryd.underlying23 Tryd.underlying3 (by kernel_rfl) (by kernel_rfl) h with ⟨hcs, _⟩ | ⟨a, len, cap, A, L, C, Z, hcs, _, hl, hm, _, hr⟩
  · simp at hcs
    obtain ⟨rfl, rfl, _⟩ := hcs
    exact ⟨[], by omega, by simp, [], .nil _ _⟩
  · simp at hcs
    obtain ⟨rfl, rfl, rfl⟩ := hcs
    unfold maxLen at hm
    obtain ⟨D, hD⟩ : ∃ D : List Row, D = (List.range k).map fun r => (⟨A r, L r, C r, (Z r).take (L r), if L r = 0 then [] else [((A r).elim 0 (·.block))]⟩ : Row) := ⟨_, rfl⟩
    have hlen : D.length = k := by rw [hD]; simp
    have hat : ∀ i, i < k → D[i]? = some ⟨A i, L i, C i, (Z i).take (L i), if L i = 0 then [] else [((A i).elim 0 (·.block))]⟩ := fun i hi => by rw [hD]; simp [hi]
    have hok : ∀ r ∈ D, RowOk w r := fun r hr' => by
      rw [hD] at hr'
      obtain ⟨i, hi, rfl⟩ := List.mem_map.1 hr'
      have hi' : i < k := List.mem_range.1 hi
      obtain ⟨_, h2, _, h4, _, h6, h7⟩ := hr i (by omega)
      exact ⟨h2, ints_in h2 h4 h6 (fun a' e => (h7 a' e).2)⟩
    refine ⟨D.map Row.xs, by omega, fun i => ?_, ?_⟩
    · by_cases hi : i < k
      · obtain ⟨_, h2, h3, h4, _⟩ := hr i (by omega)
        unfold maxLen at h3
        simp only [List.getD_eq_getElem?_getD, List.getElem?_map, hat i hi, Option.map_some, Option.getD_some, List.length_take]
        omega
      · rw [List.getD_eq_getElem?_getD, List.getElem?_eq_none (by simp; omega)]; simp
    · by_cases h0 : k = 0
      · subst h0
        have : D = [] := List.eq_nil_of_length_eq_zero hlen
        subst this
        exact ⟨[], [], rfl, rfl, by simp, .inl ⟨rfl, rfl⟩⟩
      · obtain ⟨b, o, spot⟩ := a
        have hspot : spot = none := by simpa [Addr.add] using World.cell?_spot ((hr 0 (by omega)).1)
        subst hspot
        have hcell : ∀ i, i < k → w.cell? ⟨b, o + i, none⟩ = some (.slice (A i) (L i) (C i)) := fun i hi => by rw [← Go.WideShapes.add_plain]; exact (hr i (by omega)).1
        refine ⟨_, D, rfl, hlen, hok, .inr ⟨by omega, b, o, rfl, rfl, World.block_lt_of_cell? _ _ (hcell 0 (by omega)), fun i r hi => ?_⟩⟩
        have hi' : i < k := by have := (List.getElem?_eq_some_iff.1 hi).1; omega
        rw [hat i hi'] at hi
        injection hi with hi
        subst hi
        exact hcell i hi'
theorem ints_came {fuel : Nat} {A : Option Addr} {n c : Nat} {x : DataW H × List MemPlace} (h : DataW.trod enc Tryd.prog w base (fun _ => true) held fuel 23 [.slice A n c] = some x) : n ≤ 9223372036854775807 ∧ ∃ xs fa, Ints w A n xs fa := by
  rcases open_ints Tryd.underlying23 Tryd.underlying3 (by kernel_rfl) h with ⟨hcs, _⟩ | ⟨a, len, cap, zs, hcs, _, hl, hm, hz, _, hcell, _⟩
  · simp at hcs
    obtain ⟨rfl, rfl, _⟩ := hcs
    exact ⟨by omega, [], [], .nil _ _⟩
  · simp at hcs
    obtain ⟨rfl, rfl, rfl⟩ := hcs
    simp only [if_true] at hz
    unfold maxLen at hm
    exact ⟨by omega, _, _, ints_in hl hz (by simp) (fun a' e i hi => by injection e with e; subst e; exact hcell i (by omega))⟩
end
end Go.Proofs.YtcapfafglikcmaaDoor
