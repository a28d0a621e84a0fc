/- A slice of slices, written by the laws' own function with numbers in order, and looked through again. -/
import Derived.Test.YtlppmcflgbeolaaSliceT
namespace Go.Proofs.Ytlppmcflgbeolaa
open Go.ChangeShapes Go.WideShapes Go.ChangeAt Go.RowKit

theorem sumLen_congr {rs rs' : List (List Int)} (h : rs'.map List.length = rs.map List.length) (i : Nat) : sumLen (rs'.take i) = sumLen (rs.take i) := by
  unfold sumLen
  rw [List.map_take, h, ← List.map_take]
theorem sumLen_same {rs rs' : List (List Int)} (h : rs'.map List.length = rs.map List.length) : sumLen rs' = sumLen rs := by
  unfold sumLen
  rw [h]
theorem len_at {rs rs' : List (List Int)} (h : rs'.map List.length = rs.map List.length) (i : Nat) : (rs'.getD i []).length = (rs.getD i []).length := by
  have e := congrArg (fun l : List Nat => l[i]?) h
  simp only [List.getElem?_map] at e
  simp only [List.getD_eq_getElem?_getD]
  cases h1 : rs'[i]? <;> cases h2 : rs[i]? <;> simp [h1, h2] at e ⊢
  exact e
/-- The rows hold the numbers from k on, in order. -/
def Marked (k : Int) (rs : List (List Int)) : Prop := ∀ i, i < rs.length → rs.getD i [] = upFrom (k + sumLen (rs.take i)) (rs.getD i []).length
/-- What writing numbers in order leaves. -/
def MarkedR (A : Option Addr) (n : Nat) (k : Int) (rs : List (List Int)) (fp : List Nat) (w : World) (e : Ending) (w' : World) : Prop :=
  ∃ rs' : List (List Int), e = .returned (.int .i64 (k + sumLen rs)) ∧ Only fp w w' ∧ Grid w' A n rs' fp ∧ Marked k rs' ∧ rs'.map List.length = rs.map List.length ∧ (∀ b ∈ fp, ∀ o, w'.frozen? ⟨b, o, none⟩ = false)
theorem only_frozen {S : List Nat} {w w' : World} {fp : List Nat} (h : Only S w w') (hl : ∀ b ∈ fp, b < w.heap.size) (hf : ∀ b ∈ fp, ∀ o, w.frozen? ⟨b, o, none⟩ = false) (hS : ∀ b ∈ S, ∀ o, w'.frozen? ⟨b, o, none⟩ = false) :
    ∀ b ∈ fp, ∀ o, w'.frozen? ⟨b, o, none⟩ = false := by
  intro b hb o
  by_cases hs : b ∈ S
  · exact hS b hs o
  · rw [World.frozen?_of_block (a := ⟨b, o, none⟩) (h.block b (hl b hb) hs)]
    exact hf b hb o
theorem marks_step {rs cur : List (List Int)} {k0 : Int} {k m : Nat} {q : Int} (hk : k < rs.length) (hc : cur.map List.length = rs.map List.length) (hm : ∀ j, j < k → cur.getD j [] = upFrom (k0 + sumLen (rs.take j)) (rs.getD j []).length)
    (hl : m = (rs.getD k []).length) (hq : q = k0 + sumLen (rs.take k)) :
    (cur.set k (upFrom q m)).map List.length = rs.map List.length ∧ ∀ j, j < k + 1 → (cur.set k (upFrom q m)).getD j [] = upFrom (k0 + sumLen (rs.take j)) (rs.getD j []).length := by
  have hlen : cur.length = rs.length := by simpa using congrArg List.length hc
  constructor
  · rw [List.map_set, hc, upFrom_len, hl]
    apply List.ext_getElem (by simp)
    intro i h1 h2
    rw [List.getElem_set]
    split
    · rename_i h; subst h
      simp [List.getD, List.getElem?_eq_getElem hk]
    · rfl
  · intro j hj
    simp only [List.getD_eq_getElem?_getD, List.getElem?_set]
    by_cases h : k = j
    · subst h
      rw [if_pos rfl, if_pos (by omega), hl, hq]
      simp [List.getD_eq_getElem?_getD]
    · rw [if_neg h, ← List.getD_eq_getElem?_getD, ← List.getD_eq_getElem?_getD]
      exact hm j (by omega)
theorem ret_mark {t k0 : Int} {rs : List (List Int)} {n : Nat} (h : t = k0 + sumLen (rs.take n)) (hl : rs.length = n) : Ending.returned (.int .i64 t) = .returned (.int .i64 (k0 + sumLen rs)) := by
  rw [h, sumLen_whole _ _ hl]
end Go.Proofs.Ytlppmcflgbeolaa
