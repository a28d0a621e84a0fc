/- Drawn bytes of instructions, some bent. -/
import Derived.Test.YtehiplkoofdkeaaDoorRomD
import Derived.Test.YtehiplkoofdkeaaDoorOrderF
namespace Go.Proofs.YtehiplkoofdkeaaDoor
open Go.ChangeShapes Go.WideShapes Go.ChangeAt Go.RowKit

/-- A list of numbers in new memory; of what was there at most the reader has changed. -/
def CodeDrawn (q m k : Nat) (w : World) (e : Ending) (w' : World) : Prop :=
  ∃ (A : Option Addr) (n c : Nat) (xs : List Int) (fp : List Nat), e = .returned (.slice A n c) ∧ n ≤ c ∧ n ≤ 100 ∧ Ints w' A n xs fp ∧ New w.heap.size w' fp ∧ Only [q] w w' ∧ Rd w' q (m + k)
theorem ints_pre {w : World} {A : Option Addr} {n : Nat} {xs : List Int} {fp : List Nat} (h : Ints w A n xs fp) {L : Nat} (hw : New L w fp) (k : Nat) (hk : k ≤ n) : ∃ fq, Ints w A k (xs.take k) fq ∧ New L w fq ∧ ∀ b ∈ fq, b ∈ fp := by
  have hl := h.1
  by_cases h0 : k = 0
  · subst h0; exact ⟨[], ⟨by simp, .inl ⟨rfl, rfl⟩⟩, .nil _ _, by simp⟩
  · obtain ⟨b, o, rfl, rfl, hb, hc⟩ := h.at_ (by omega)
    refine ⟨[b], ⟨by simp; omega, .inr ⟨by omega, b, o, rfl, rfl, hb, fun i hi => ?_⟩⟩, hw, by simp⟩
    rw [hc i (by omega)]
    simp only [List.getD_eq_getElem?_getD, List.getElem?_take, if_pos hi]
end Go.Proofs.YtehiplkoofdkeaaDoor
