/- Disassemble: what it returns; the model's. -/
import Derived.Test.YtehiplkoofdkeaaDoorStrK
import Derived.Test.YtehiplkoofdkeaaDoorSFmt
import Derived.Test.YtehiplkoofdkeaaDoorOwnB
import Derived.Test.YtehiplkoofdkeaaDoorDecL
import Derived.Maps.AppendAt
namespace Go.Proofs.YtehiplkoofdkeaaDoor
open Go.ChangeShapes Go.WideShapes Go.ChangeAt Go.RowKit

abbrev sv (xs : List ByteArray) : List Value := xs.map Value.string
theorem sv_at (xs : List ByteArray) (i : Nat) (h : i < xs.length) : (sv xs)[i]? = some (.string (xs.getD i ByteArray.empty)) := by
  simp [sv, List.getElem?_map, List.getD, List.getElem?_eq_getElem h]
theorem own_strs {w : World} {base : Nat} {v : Value} {n : Nat} {xs : List ByteArray} (h : w.ownsRow base 9 1 v n (sv xs)) : ∃ A c fp, v = .slice A n c ∧ n ≤ c ∧ (A = none → c = 0) ∧ Strs w A n xs fp ∧ New base w fp ∧ ∀ b ∈ fp, v.ownBlock = some b := by
  have hl : xs.length = n := by have := h.1; simpa [sv] using this
  rcases h.2 with ⟨rfl, h0⟩ | ⟨g, cap, cur, rfl, hb, hh, hnc, _, hsz, hcur⟩
  · subst h0
    have : xs = [] := List.eq_nil_of_length_eq_zero hl
    subst this
    exact ⟨none, 0, [], rfl, Nat.le_refl _, fun _ => rfl, .nil _ _, .nil _ _, by simp⟩
  · by_cases h0 : n = 0
    · subst h0
      have : xs = [] := List.eq_nil_of_length_eq_zero hl
      subst this
      exact ⟨_, cap, [], rfl, hnc, by simp, .nil _ _, .nil _ _, by simp⟩
    · have hlt : g < w.heap.size := by
        by_cases hl : g < w.heap.size
        · exact hl
        · rw [Array.getElem?_eq_none (by omega)] at hh; cases hh
      refine ⟨_, cap, [g], rfl, hnc, by simp, ⟨hl, .inr ⟨by omega, g, 0, rfl, rfl, hlt, fun i hi => ?_⟩⟩, .one hb hlt (fun o => by simp [World.frozen?, hh]), by simp [Value.ownBlock]⟩
      rw [cell_of_row w g (0 + i) cur _ (0, 0) hh, Nat.zero_add]
      have e : (cur.toList.take (n * 1))[i]? = (sv xs)[i]? := by rw [hcur]
      rw [sv_at xs i (by omega), List.getElem?_take, if_pos (by omega)] at e
      simpa using e

/-- The instructions of a list of bytes from an index on, each with the index behind it. -/
def disFrom (xs : List Int) : Nat → Nat → List (Nat × Int × Int)
  | 0, _ => []
  | f + 1, a => match decN xs a with
    | none => []
    | some (op, arg) => (a + (lenN op).toNat, op, arg) :: disFrom xs f (a + (lenN op).toNat)
def seqL (xs : List Int) : List (Nat × Int × Int) := disFrom xs (xs.length + 1) 0
def endAt (l : List (Nat × Int × Int)) : Nat := (l.getLast?.map (·.1)).getD 0
theorem endAt_snoc (l : List (Nat × Int × Int)) (x : Nat × Int × Int) : endAt (l ++ [x]) = x.1 := by simp [endAt]
theorem dis_none {xs : List Int} {f a : Nat} (h : decN xs a = none) : disFrom xs f a = [] := by
  cases f with
  | zero => rfl
  | succ f => simp [disFrom, h]
theorem dis_some {xs : List Int} {f a : Nat} {op arg : Int} (h : decN xs a = some (op, arg)) (hf : xs.length < a + f) : ∃ g, xs.length < a + (lenN op).toNat + g ∧ disFrom xs f a = (a + (lenN op).toNat, op, arg) :: disFrom xs g (a + (lenN op).toNat) ∧ a < xs.length ∧ a + (lenN op).toNat ≤ xs.length ∧ 1 ≤ lenN op ∧ lenN op ≤ 3 ∧ ordB op arg = true := by
  obtain ⟨k, hk, h1, h2, h3, _, _⟩ := dec_some h
  obtain ⟨l1, _⟩ := ordB_len h3
  obtain ⟨_, l2⟩ := lenN_bd op
  have : k = a := by omega
  subst this
  cases f with
  | zero => omega
  | succ f => exact ⟨f, by omega, by simp [disFrom, h], h1, by omega, l1, l2, h3⟩
/-- The text of an instruction, as a text. -/
def fmtT (x : Nat × Int × Int) : ByteArray := ⟨(fmtN x.2.1 x.2.2).toArray⟩
/-- What Disassemble returns. -/
def disOk (xs : List Int) : Bool := decide ((seqL xs).length ≤ 60) && decide (endAt (seqL xs) = xs.length)
def disS (xs : List Int) : List ByteArray := if disOk xs = true then (seqL xs).map fmtT else []
theorem dis_bad {xs : List Int} (h : ¬ ((seqL xs).length ≤ 60 ∧ endAt (seqL xs) = xs.length)) : disOk xs = false ∧ disS xs = [] := by
  have : disOk xs = false := by
    unfold disOk
    by_cases h1 : (seqL xs).length ≤ 60
    · have h2 : ¬ endAt (seqL xs) = xs.length := fun e => h ⟨h1, e⟩
      simp [h2]
    · simp [h1]
  exact ⟨this, by simp [disS, this]⟩
theorem dis_good {xs : List Int} (h1 : (seqL xs).length ≤ 60) (h2 : endAt (seqL xs) = xs.length) : disOk xs = true ∧ disS xs = (seqL xs).map fmtT := by
  have : disOk xs = true := by simp [disOk, h1, h2]
  exact ⟨this, by simp [disS, this]⟩
def Disd (xs : List Int) (w : World) (e : Ending) (w' : World) : Prop :=
  ∃ (A : Option Addr) (n c : Nat) (fp : List Nat), e = .returned (.tuple #[.slice A n c, .bool (disOk xs)]) ∧ n ≤ c ∧ n ≤ 60 ∧ Strs w' A n (disS xs) fp ∧ New w.heap.size w' fp ∧ Below w.heap.size w w'
theorem disd_none {xs : List Int} {w w' : World} {A : Option Addr} {c : Nat} (h : disOk xs = false ∧ disS xs = []) (b : Below w.heap.size w w') : Disd xs w (.returned (.tuple #[.slice A 0 c, .bool false])) w' :=
  ⟨A, 0, c, [], by rw [h.1], by omega, by omega, by rw [h.2]; exact .nil _ _, .nil _ _, b⟩
end Go.Proofs.YtehiplkoofdkeaaDoor
