/- A slice of slices that grows by one row after the other. -/
import Derived.Test.YtkglocdmpfjafaaGA
namespace Go.Proofs.Ytkglocdmpfjafaa
open Go.ChangeShapes Go.WideShapes Go.ChangeAt Go.RowKit

/-- The rows that have been appended so far: the value v owns their slices; each row is new memory from block L on. -/
structure Grow (w : World) (L : Nat) (rs : List (List Int)) (j : Nat) (v : Value) (D : List Row) : Prop where
  len : D.length = j
  xs : D.map Row.xs = rs.take j
  own : w.ownsRow L 29 1 v j (D.map Row.val)
  ok : ∀ r ∈ D, RowOk w r
  new : New L w (D.flatMap Row.fp)
  off : ∀ b ∈ D.flatMap Row.fp, v.ownBlock ≠ some b
theorem own_lt {w : World} {base : Nat} {e : TypeId} {v : Value} {n : Nat} {xs : List Value} (h : w.ownsRow base e 1 v n xs) : ∀ g, v.ownBlock = some g → base ≤ g ∧ g < w.heap.size := by
  intro g hg
  rcases h.2 with ⟨rfl, _⟩ | ⟨g', cap, cur, rfl, hb, hh, _⟩
  · simp [Value.ownBlock] at hg
  · have e : some g' = some g := hg
    injection e with e
    subst e
    refine ⟨hb, ?_⟩
    by_cases hl : g' < w.heap.size
    · exact hl
    · rw [Array.getElem?_eq_none (by omega)] at hh; cases hh
theorem own_keep {w w' : World} {base : Nat} {e : TypeId} {v : Value} {n : Nat} {xs : List Value} (h : w.ownsRow base e 1 v n xs) (k : Below w.heap.size w w') : w'.ownsRow base e 1 v n xs := by
  rcases h with ⟨hl, h | ⟨g, cap, cur, rfl, hb, hh, hr⟩⟩
  · exact ⟨hl, .inl h⟩
  · have hg : g < w.heap.size := by
      by_cases hl : g < w.heap.size
      · exact hl
      · rw [Array.getElem?_eq_none (by omega)] at hh; cases hh
    exact ⟨hl, .inr ⟨g, cap, cur, rfl, hb, (k.block g hg).trans hh, hr⟩⟩
theorem own_only {S : List Nat} {w w' : World} {base : Nat} {e : TypeId} {v : Value} {n : Nat} {xs : List Value} (h : w.ownsRow base e 1 v n xs) (k : Only S w w') (hS : ∀ b ∈ S, v.ownBlock ≠ some b) : w'.ownsRow base e 1 v n xs := by
  rcases h with ⟨hl, h | ⟨g, cap, cur, rfl, hb, hh, hr⟩⟩
  · exact ⟨hl, .inl h⟩
  · have hg : g < w.heap.size := by
      by_cases hl : g < w.heap.size
      · exact hl
      · rw [Array.getElem?_eq_none (by omega)] at hh; cases hh
    exact ⟨hl, .inr ⟨g, cap, cur, rfl, hb, (k.block g hg (fun hs => hS g hs rfl)).trans hh, hr⟩⟩
theorem Grow.none_ (w : World) (L : Nat) (rs : List (List Int)) : Grow w L rs 0 (.slice none 0 0) [] :=
  ⟨rfl, by simp, ⟨by simp, .inl ⟨rfl, rfl⟩⟩, by simp, by simpa using New.nil _ _, by simp⟩
theorem Grow.below {w w' : World} {L : Nat} {rs : List (List Int)} {j : Nat} {v : Value} {D : List Row} (h : Grow w L rs j v D) (k : Below w.heap.size w w') : Grow w' L rs j v D :=
  ⟨h.len, h.xs, own_keep h.own k, fun r hr => ⟨(h.ok r hr).1, (h.ok r hr).2.below k⟩, h.new.keep (.of_below k), h.off⟩
theorem Grow.only {S : List Nat} {w w' : World} {L : Nat} {rs : List (List Int)} {j : Nat} {v : Value} {D : List Row} (h : Grow w L rs j v D) (k : Only S w w') (hS : ∀ b ∈ S, b < L) : Grow w' L rs j v D := by
  have d : ∀ x ∈ D.flatMap Row.fp, x ∉ S := fun x hx hs => by have := hS x hs; have := (h.new.lt x hx).1; omega
  exact ⟨h.len, h.xs, own_only h.own k (fun b hb e => by have := hS b hb; have := (own_lt h.own b e).1; omega), fun r hr => ⟨(h.ok r hr).1, (h.ok r hr).2.keep (.of_only k fun x hx => d x (List.mem_flatMap.2 ⟨r, hr, hx⟩))⟩, h.new.keep (.of_only k d), h.off⟩
theorem grown_only {w w' : World} {row : Option Nat} (h : w.grownBy w' row) {S : List Nat} (hS : ∀ b, row = some b → b ∈ S) : Only S w w' :=
  ⟨h.os, h.tape, h.output, h.size, fun k hk hn => h.block k hk (fun e => hn (hS k e.symm))⟩
/-- One row more: w1 is the world in which the row lies, W the one ahead of the append, w2 the one behind it. -/
theorem Grow.next {w w1 W w2 : World} {L : Nat} {rs : List (List Int)} {j : Nat} {v : Value} {D : List Row} (h : Grow w L rs j v D) (hL : L ≤ w.heap.size) (hj : j < rs.length) (b1 : Below w.heap.size w w1) {A : Option Addr} {m c : Nat} {fp : List Nat} (hm : m ≤ c) (hi : Ints w1 A m (rs.getD j []) fp) (hw : New w.heap.size w1 fp)
    (bW : Below w1.heap.size w1 W) {g cap : Nat} (own2 : w2.ownsRow L 29 1 (.slice (some ⟨g, 0, none⟩) (j + 1) cap) (j + 1) (D.map Row.val ++ [.slice A m c])) (gr : W.grownBy w2 v.ownBlock) (hat : v.ownBlock = some g ∨ g = W.heap.size) :
    Grow w2 L rs (j + 1) (.slice (some ⟨g, 0, none⟩) (j + 1) cap) (D ++ [⟨A, m, c, rs.getD j [], fp⟩]) := by
  have hW := (h.below b1).below bW
  have gl := own_lt h.own
  have wW : w.heap.size ≤ W.heap.size := Nat.le_trans b1.size bW.size
  obtain ⟨S, hS1, hS2⟩ : ∃ S : List Nat, (∀ b, v.ownBlock = some b → b ∈ S) ∧ ∀ b ∈ S, v.ownBlock = some b := by
    rcases hv : v.ownBlock with _ | b
    · exact ⟨[], by simp, by simp⟩
    · exact ⟨[b], by simp, by simp⟩
  have o2 : Only S W w2 := grown_only gr hS1
  have d1 : ∀ x ∈ D.flatMap Row.fp, x ∉ S := fun x hx hs => h.off x hx (hS2 x hs)
  have d2 : ∀ x ∈ fp, x ∉ S := fun x hx hs => by have := (gl x (hS2 x hs)).2; have := (hw.lt x hx).1; omega
  refine ⟨by simp [h.len], ?_, ?_, fun r hr => ?_, ?_, fun b hb e => ?_⟩
  · rw [List.map_append, h.xs, List.take_succ_eq_append_getElem hj]
    simp [List.getD, List.getElem?_eq_getElem hj]
  · rw [List.map_append]; exact own2
  · rcases List.mem_append.1 hr with hr | hr
    · exact ⟨(hW.ok r hr).1, (hW.ok r hr).2.keep (.of_only o2 fun x hx => d1 x (List.mem_flatMap.2 ⟨r, hr, hx⟩))⟩
    · simp at hr; subst hr
      exact ⟨hm, (hi.below bW).keep (.of_only o2 d2)⟩
  · rw [List.flatMap_append]
    simp only [List.flatMap_cons, List.flatMap_nil, List.append_nil]
    exact (hW.new.keep (.of_only o2 d1)).append (((hw.mono hL).keep (.of_below bW)).keep (.of_only o2 d2)) (fun x hx hy => by
      have := (h.new.lt x hx).2
      have := (hw.lt x hy).1
      omega)
  · have e1 : some g = some b := e
    injection e1 with e1
    subst e1
    rw [List.flatMap_append] at hb
    simp only [List.flatMap_cons, List.flatMap_nil, List.append_nil] at hb
    rcases List.mem_append.1 hb with hb | hb
    · rcases hat with hat | hat
      · exact h.off g hb hat
      · have := (h.new.lt g hb).2; omega
    · rcases hat with hat | hat
      · have := (gl g hat).2; have := (hw.lt g hb).1; omega
      · have := (hw.lt g hb).2; have := bW.size; omega
/-- All rows. -/
theorem Grow.grid {w : World} {L : Nat} {rs : List (List Int)} {n : Nat} {v : Value} {D : List Row} (h : Grow w L rs n v D) (hl : rs.length = n) : ∃ R d fr, v = .slice R n d ∧ n ≤ d ∧ Grid w R n rs fr ∧ New L w fr := by
  have hx : D.map Row.xs = rs := by rw [h.xs, List.take_of_length_le (by omega)]
  rcases h.own.2 with ⟨rfl, h0⟩ | ⟨g, cap, cur, rfl, hb, hh, hnc, _, hsz, hcur⟩
  · subst h0
    have hD : D = [] := List.eq_nil_of_length_eq_zero h.len
    subst hD
    obtain rfl : rs = [] := List.eq_nil_of_length_eq_zero hl
    exact ⟨none, 0, [], rfl, Nat.le_refl _, .nil _ _, .nil _ _⟩
  · by_cases h0 : n = 0
    · subst h0
      obtain rfl : rs = [] := List.eq_nil_of_length_eq_zero hl
      exact ⟨_, cap, [], rfl, hnc, .nil _ _, .nil _ _⟩
    · have hlt := (own_lt h.own g rfl).2
      refine ⟨_, cap, g :: D.flatMap Row.fp, rfl, hnc, ⟨D, hx, h.len, h.ok, .inr ⟨by omega, g, 0, rfl, rfl, hlt, fun i r hi => ?_⟩⟩, ?_⟩
      · have hi' : i < n := by have := (List.getElem?_eq_some_iff.1 hi).1; have := h.len; omega
        rw [cell_of_row w g (0 + i) cur _ (0, 0) hh, Nat.zero_add]
        have e : (cur.toList.take (n * 1))[i]? = (D.map Row.val)[i]? := by rw [hcur]
        rw [List.getElem?_take, if_pos (by omega), List.getElem?_map, hi] at e
        simpa using e
      · exact (New.one hb hlt (fun o => by simp [World.frozen?, hh])).append h.new (fun b hb' hx' => by simp at hb'; subst hb'; exact h.off _ hx' rfl)
end Go.Proofs.Ytkglocdmpfjafaa
