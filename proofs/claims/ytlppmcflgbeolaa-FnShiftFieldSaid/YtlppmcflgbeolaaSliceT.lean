/- A slice of slices, copied by the laws' own function: every row is a block of its own. -/
import Derived.Test.YtlppmcflgbeolaaSliceR
namespace Go.Proofs.Ytlppmcflgbeolaa
open Go.ChangeShapes Go.WideShapes Go.ChangeAt Go.RowKit

theorem infoInts : (Try.prog.info? 23).map (fun i => (i.zero, i.size, i.bytes)) = some (some (.slice none 0 0), 1, 24) := by kernel_rfl
/-- What a row's cell holds while rows are filled in from the left. -/
def fillRow (D : List Row) (j : Nat) : Value := (D[j]?.map Row.val).getD (.slice none 0 0)
theorem fill_snoc (D : List Row) (r : Row) (j : Nat) : fillRow (D ++ [r]) j = if j = D.length then r.val else fillRow D j := by
  unfold fillRow
  by_cases h : j = D.length
  · subst h; simp
  · rw [if_neg h]
    by_cases h2 : j < D.length
    · rw [List.getElem?_append_left h2]
    · rw [List.getElem?_eq_none (by simp; omega), List.getElem?_eq_none (by omega)]
/-- The rows that have been made so far: as many as D has, each in new memory from block g + 1 on; the cells for them lie in block g. -/
structure Fill (w : World) (g n : Nat) (rs : List (List Int)) (k : Nat) (D : List Row) : Prop where
  len : D.length = k
  xs : D.map Row.xs = rs.take k
  row : w.rowIs g 23 n (fillRow D)
  ok : ∀ r ∈ D, RowOk w r
  new : New (g + 1) w (D.flatMap Row.fp)
theorem Fill.none_ (w : World) (n : Nat) (rs : List (List Int)) : Fill (w.alloc (.cells (madeCells #[.slice none 0 0] n) 23)) w.heap.size n rs 0 [] :=
  ⟨rfl, by simp, (World.rowIs_made w (.slice none 0 0) n 23).congr fun i _ => by simp [fillRow], by simp, by simpa using New.nil _ _⟩
theorem Fill.keep {w w' : World} {g n : Nat} {rs : List (List Int)} {k : Nat} {D : List Row} (h : Fill w g n rs k D) (b : Below w.heap.size w w') : Fill w' g n rs k D :=
  ⟨h.len, h.xs, h.row.of_block (b.block g h.row.lt), fun r hr => ⟨(h.ok r hr).1, (h.ok r hr).2.below b⟩, h.new.keep (.of_below b)⟩
theorem Fill.next {w w1 : World} {g n : Nat} {rs : List (List Int)} {k : Nat} {D : List Row} (h : Fill w g n rs k D) (hk : k < rs.length) (b : Below w.heap.size w w1) {A : Option Addr} {m c : Nat} {fp : List Nat} (hm : m ≤ c) (hi : Ints w1 A m (rs.getD k []) fp) (hw : New w.heap.size w1 fp) :
    Fill (w1.setCell ⟨g, k, none⟩ (.slice A m c)) g n rs (k + 1) (D ++ [⟨A, m, c, rs.getD k [], fp⟩]) := by
  have h1 := h.keep b
  have hg := h.row.lt
  have ho : Only [g] w1 (w1.setCell ⟨g, k, none⟩ (.slice A m c)) := (Only.refl _ _).setCell (.inl (by simp)) _
  have off : ∀ x ∈ D.flatMap Row.fp, x ∉ [g] := fun x hx e => by have := (h.new.lt x hx).1; simp at e; omega
  have off2 : ∀ x ∈ fp, x ∉ [g] := fun x hx e => by have := (hw.lt x hx).1; simp at e; omega
  refine ⟨by simp [h.len], ?_, ?_, fun r hr => ?_, ?_⟩
  · rw [List.map_append, h.xs, List.take_succ_eq_append_getElem hk]
    simp [List.getD, List.getElem?_eq_getElem hk]
  · refine (h1.row.set k (.slice A m c)).congr fun i _ => ?_
    rw [fill_snoc, h.len]; rfl
  · rcases List.mem_append.1 hr with hr | hr
    · exact ⟨(h1.ok r hr).1, (h1.ok r hr).2.keep (.of_only ho fun x hx => off x (List.mem_flatMap.2 ⟨r, hr, hx⟩))⟩
    · simp at hr; subst hr
      exact ⟨hm, hi.keep (.of_only ho off2)⟩
  · rw [List.flatMap_append]
    simp only [List.flatMap_cons, List.flatMap_nil, List.append_nil]
    exact (h1.new.keep (.of_only ho off)).append ((hw.mono (show g + 1 ≤ w.heap.size by omega)).keep (.of_only ho off2)) (fun x hx hy => by
      have := (h.new.lt x hx).2
      have := (hw.lt x hy).1
      omega)
/-- What a copy of a slice of slices leaves. -/
def CopiedR (rs : List (List Int)) (n : Nat) (w : World) (e : Ending) (w' : World) : Prop :=
  ∃ (A : Option Addr) (c : Nat) (fp : List Nat), e = .returned (.slice A n c) ∧ n ≤ c ∧ Grid w' A n rs fp ∧ New w.heap.size w' fp ∧ Below w.heap.size w w'
theorem Fill.grid {w : World} {g n : Nat} {rs : List (List Int)} {D : List Row} (h : Fill w g n rs n D) (hl : rs.length = n) (h0 : 0 < n) : Grid w (some ⟨g, 0, Option.none⟩) n rs (g :: D.flatMap Row.fp) ∧ New g w (g :: D.flatMap Row.fp) := by
  constructor
  · refine ⟨D, by rw [h.xs, List.take_of_length_le (by omega)], h.len, h.ok, .inr ⟨h0, g, 0, rfl, rfl, h.row.lt, fun i r hi => ?_⟩⟩
    have hi' : i < n := by have := (List.getElem?_eq_some_iff.1 hi).1; have := h.len; omega
    rw [Nat.zero_add, h.row.cell hi']
    simp [fillRow, hi]
  · have h1 := New.one (L := g) (Nat.le_refl _) h.row.lt h.row.frozen
    exact h1.append (h.new.mono (by omega)) (fun b hb hx => by simp at hb; subst hb; have := (h.new.lt _ hx).1; omega)
theorem Fill.both {w : World} {g n : Nat} {rs : List (List Int)} {D : List Row} (h : Fill w g n rs n D) (hl : rs.length = n) : ∃ fq, Grid w (some ⟨g, 0, Option.none⟩) n rs fq ∧ New g w fq := by
  by_cases h0 : n = 0
  · subst h0
    have : rs = [] := List.eq_nil_of_length_eq_zero hl
    subst this
    exact ⟨[], .nil _ _, .nil _ _⟩
  · exact ⟨_, h.grid hl (by omega)⟩
theorem Fill.copied {w w' : World} {n : Nat} {rs : List (List Int)} {D : List Row} (h : Fill w' w.heap.size n rs n D) (hl : rs.length = n) (hb : Below w.heap.size w w') : CopiedR rs n w (.returned (.slice (some ⟨w.heap.size, 0, Option.none⟩) n n)) w' := by
  by_cases h0 : n = 0
  · subst h0
    have : rs = [] := List.eq_nil_of_length_eq_zero hl
    subst this
    exact ⟨_, _, [], rfl, Nat.le_refl _, .nil _ _, .nil _ _, hb⟩
  · obtain ⟨hg, hn⟩ := h.grid hl (by omega)
    exact ⟨_, _, _, rfl, Nat.le_refl _, hg, hn, hb⟩
end Go.Proofs.Ytlppmcflgbeolaa
