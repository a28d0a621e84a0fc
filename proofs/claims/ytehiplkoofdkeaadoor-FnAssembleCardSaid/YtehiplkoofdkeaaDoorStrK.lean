/- Slices of texts: marks in order, and how long they are together. -/
import Derived.Test.YtehiplkoofdkeaaDoorStrs
import Derived.SliceStrings
namespace Go.Proofs.YtehiplkoofdkeaaDoor
open Go.ChangeShapes Go.WideShapes Go.ChangeAt Go.RowKit

theorem Strs.set {w : World} {b o n : Nat} {xs : List ByteArray} {fp : List Nat} (h : Strs w (some ⟨b, o, none⟩) n xs fp) {k : Nat} (hk : k < n) (v : ByteArray) : Strs (w.setCell ⟨b, o + k, none⟩ (.string v)) (some ⟨b, o, none⟩) n (xs.set k v) fp := by
  obtain ⟨hl, ⟨rfl, _⟩ | ⟨hn, b', o', he, rfl, hb, hc⟩⟩ := h
  · omega
  · injection he with he
    injection he with h1 h2 _
    subst h1 h2
    refine ⟨by simpa using hl, .inr ⟨hn, b, o, rfl, rfl, by simpa using hb, fun i hi => ?_⟩⟩
    simp only [List.getD_eq_getElem?_getD, List.getElem?_set]
    by_cases h : k = i
    · subst h
      rw [World.cell?_setCell_same _ _ _ (hc k hk)]
      simp [hl, hk]
    · rw [World.cell?_setCell_other _ _ _ _ (fun e => by injection e; omega), hc i hi, if_neg h]
      simp [List.getD_eq_getElem?_getD]
/-- How long a slice of texts is, up to a bound. -/
def SizedS (n : Nat) (xs : List ByteArray) (w : World) (e : Ending) (w' : World) : Prop := ∃ t : Int, e = .returned (.int .i64 t) ∧ w = w' ∧ -1 ≤ t ∧ (0 ≤ t → n ≤ 1048576 ∧ ∀ i, i < n → (xs.getD i ByteArray.empty).size ≤ 1048576)
/-- The mark with a number. -/
def markL (k : Nat) : List UInt8 := 109 :: Lib.decDigits k
def markT (k : Nat) : ByteArray := ⟨(markL k).toArray⟩
theorem dec_len (n : Nat) : (Lib.decDigits n).length ≤ n + 1 := by
  induction n using Nat.strongRecOn with
  | _ n ih =>
    rw [dec_step]
    by_cases h : n < 10
    · simp [h]
    · rw [if_neg h]
      have := ih (n / 10) (by omega)
      simp; omega
/-- The marks from k on. -/
def marks (k n : Nat) : List ByteArray := (List.range n).map fun i => markT (k + i)
theorem marks_len (k n : Nat) : (marks k n).length = n := by simp [marks]
theorem marks_at (k n i : Nat) (h : i < n) : (marks k n).getD i ByteArray.empty = markT (k + i) := by simp [marks, List.getD, h]
theorem list_extS (xs ys : List ByteArray) (h : xs.length = ys.length) (k : ∀ i, i < ys.length → xs.getD i ByteArray.empty = ys.getD i ByteArray.empty) : xs = ys := by
  apply List.ext_getElem h
  intro i h1 h2
  have := k i h2
  simpa [List.getD, List.getElem?_eq_getElem h1, List.getElem?_eq_getElem h2] using this
/-- What writing the marks from k on leaves. -/
def MarkedS (A : Option Addr) (n k : Nat) (fp : List Nat) (w : World) (e : Ending) (w' : World) : Prop :=
  e = .returned (.int .i64 ((k : Int) + n)) ∧ Only fp w w' ∧ Strs w' A n (marks k n) fp ∧ (∀ b ∈ fp, ∀ o, w'.frozen? ⟨b, o, none⟩ = false)
end Go.Proofs.YtehiplkoofdkeaaDoor
