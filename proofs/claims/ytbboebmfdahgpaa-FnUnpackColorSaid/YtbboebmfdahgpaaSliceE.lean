/- The laws' own functions on slices of integers: the same numbers are equal; a copy is new and reads the same; numbers written in order are found again. -/
import Derived.Test.YtbboebmfdahgpaaHeap
import Derived.Deep.QuietTactic
import Derived.Deep.OwnRows
import Derived.BigQuiet
namespace Go.Proofs.Ytbboebmfdahgpaa
open Go.ChangeShapes Go.WideShapes Go.ChangeAt Go.RowKit

theorem infoInt : (Try.prog.info? 3).map (fun i => (i.zero, i.size, i.bytes)) = some (some (.int .i64 0), 1, 8) := by kernel_rfl
theorem ints_of_row {w : World} {g n : Nat} {t : TypeId} {xs : List Int} {f : Nat → Value} (h : w.rowIs g t n f) (hf : ∀ i, i < n → f i = .int .i64 (xs.getD i 0)) (hl : xs.length = n) (h0 : 0 < n) :
    Ints w (some ⟨g, 0, none⟩) n xs [g] :=
  ⟨hl, .inr ⟨h0, g, 0, rfl, rfl, h.lt, fun i hi => by rw [Nat.zero_add, h.cell hi, hf i hi]⟩⟩
theorem row_step {w : World} {g n k : Nat} {t : TypeId} {xs : List Int} (h : w.rowIs g t n (fun j => .int .i64 (if j < k then xs.getD j 0 else 0))) (v : Int) (hv : v = xs.getD k 0) :
    (w.setCell ⟨g, k, none⟩ (.int .i64 v)).rowIs g t n (fun j => .int .i64 (if j < k + 1 then xs.getD j 0 else 0)) :=
  (h.set k _).congr fun i _ => by
    by_cases h1 : i = k
    · subst h1; rw [if_pos rfl, if_pos (by omega), hv]
    · rw [if_neg h1]
      by_cases h2 : i < k
      · rw [if_pos h2, if_pos (by omega)]
      · rw [if_neg h2, if_neg (by omega)]
/-- What a copy leaves: a slice of its own. -/
def Copied (xs : List Int) (n : Nat) (w : World) (e : Ending) (w' : World) : Prop :=
  ∃ (A : Option Addr) (c : Nat) (fp : List Nat), e = .returned (.slice A n c) ∧ n ≤ c ∧ Ints w' A n xs fp ∧ New w.heap.size w' fp ∧ Below w.heap.size w w'
theorem copied_row {w w' : World} {n k : Nat} {t : TypeId} {xs : List Int} (h : w'.rowIs w.heap.size t n (fun j => .int .i64 (if j < k then xs.getD j 0 else 0))) (hk : n ≤ k) (hl : xs.length = n) (hb : Below w.heap.size w w') :
    Copied xs n w (.returned (.slice (some ⟨w.heap.size, 0, none⟩) n n)) w' := by
  by_cases h0 : n = 0
  · subst h0
    have : xs = [] := List.eq_nil_of_length_eq_zero hl
    subst this
    exact ⟨_, _, [], rfl, Nat.le_refl _, .nil _ _, .nil _ _, hb⟩
  · refine ⟨_, _, [w.heap.size], rfl, Nat.le_refl _, ints_of_row h (fun i hi => by rw [if_pos (by omega)]) hl (by omega), .one (Nat.le_refl _) h.lt h.frozen, hb⟩
/-- The numbers from k on. -/
def upFrom (k : Int) (n : Nat) : List Int := (List.range n).map fun i : Nat => k + (i : Int)
theorem upFrom_len (k : Int) (n : Nat) : (upFrom k n).length = n := by simp [upFrom]
theorem upFrom_at (k : Int) (n i : Nat) (h : i < n) : (upFrom k n).getD i 0 = k + i := by simp [upFrom, List.getD, h]
theorem list_ext0 (xs ys : List Int) (h : xs.length = ys.length) (k : ∀ i, i < ys.length → xs.getD i 0 = ys.getD i 0) : xs = ys := by
  apply List.ext_getElem h
  intro i h1 h2
  have := k i h2
  simpa [List.getD, List.getElem?_eq_getElem h1, List.getElem?_eq_getElem h2] using this
theorem Ints.set {w : World} {b o n : Nat} {xs : List Int} {fp : List Nat} (h : Ints w (some ⟨b, o, none⟩) n xs fp) {k : Nat} (hk : k < n) (v : Int) : Ints (w.setCell ⟨b, o + k, none⟩ (.int .i64 v)) (some ⟨b, o, none⟩) n (xs.set k v) fp := by
  obtain ⟨hl, ⟨rfl, _⟩ | ⟨hn, b', o', he, rfl, hb, hc⟩⟩ := h
  · omega
  · injection he with he
    injection he with h1 h2 _
    subst h1 h2
    refine ⟨by simpa using hl, .inr ⟨hn, b, o, rfl, rfl, by simpa using hb, fun i hi => ?_⟩⟩
    simp only [List.getD_eq_getElem?_getD, List.getElem?_set]
    by_cases h : k = i
    · subst h
      rw [World.cell?_setCell_same _ _ _ (hc k hk)]
      simp [hl, hk]
    · rw [World.cell?_setCell_other _ _ _ _ (fun e => by injection e; omega), hc i hi, if_neg h]
      simp [List.getD_eq_getElem?_getD]
/-- What writing the numbers from k on leaves. -/
def MarkedI (A : Option Addr) (n : Nat) (k : Int) (fp : List Nat) (w : World) (e : Ending) (w' : World) : Prop :=
  e = .returned (.int .i64 (k + n)) ∧ Only fp w w' ∧ Ints w' A n (upFrom k n) fp ∧ (∀ b ∈ fp, ∀ o, w'.frozen? ⟨b, o, none⟩ = false)
end Go.Proofs.Ytbboebmfdahgpaa
