/- What a walk is told of an argument that is a sound channel, or a list of them. -/
import Derived.Test.YtfbpnneegenhgaaVocA
import Derived.Test.YtfbpnneegenhgaaFldS
namespace Go.Proofs.Ytfbpnneegenhgaa
open Go.ChangeShapes Go.WideShapes Go.ChangeAt Go.RowKit
set_option linter.unusedVariables false

/-- Channels that came in. -/
def InVocs (w : World) (A : Option Addr) (n : Nat) (L : List Int) : Prop := n ≤ 9223372036854775807 ∧ ∃ fp, Ints w A (5 * n) L fp
section
variable {H : Type} {enc : TypeId × Value → H} {w : World} {base : Nat} {held : Bool}
theorem quintL {α : Type} (l : List α) (h : l.length = 5) : ∃ c0 c1 c2 c3 c4, l = [c0, c1, c2, c3, c4] := by
  match l, h with
  | [c0, c1, c2, c3, c4], _ => exact ⟨c0, c1, c2, c3, c4, rfl⟩
set_option maxRecDepth 100000 in
/-- The cells of a channel. -/
theorem voc_cells {fuel : Nat} {cs : List Value} {y : DataW H × List MemPlace} (hl : cs.length = 5) (h : DataW.trod enc Try.prog w base (fun _ => true) held fuel 43 cs = some y) : ∃ px : List Int, px.length = 5 ∧ cs = iv px := by
  have kI : Try.prog.cellsOf 3 = 1 := by kernel_rfl
  obtain ⟨c0, c1, c2, c3, c4, rfl⟩ := quintL cs hl
  obtain ⟨xs, n0, _, _, _, hlen, hff⟩ := DataW.trod_struct Try.underlying43 h
  obtain ⟨y0, y1, y2, y3, y4, rfl⟩ := quintL xs hlen
  have t0 : DataW.trod enc Try.prog w base (fun _ => true) held n0 3 [c0] = some y0 := by simpa [Value.cells, kI] using hff 0 _ rfl
  have t1 : DataW.trod enc Try.prog w base (fun _ => true) held n0 3 [c1] = some y1 := by simpa [Value.cells, kI] using hff 1 _ rfl
  have t2 : DataW.trod enc Try.prog w base (fun _ => true) held n0 3 [c2] = some y2 := by simpa [Value.cells, kI] using hff 2 _ rfl
  have t3 : DataW.trod enc Try.prog w base (fun _ => true) held n0 3 [c3] = some y3 := by simpa [Value.cells, kI] using hff 3 _ rfl
  have t4 : DataW.trod enc Try.prog w base (fun _ => true) held n0 3 [c4] = some y4 := by simpa [Value.cells, kI] using hff 4 _ rfl
  obtain ⟨z0, e0, _⟩ := DataW.trod_int Try.underlying3 t0
  obtain rfl : c0 = .int .i64 z0 := by simpa using e0
  obtain ⟨z1, e1, _⟩ := DataW.trod_int Try.underlying3 t1
  obtain rfl : c1 = .int .i64 z1 := by simpa using e1
  obtain ⟨z2, e2, _⟩ := DataW.trod_int Try.underlying3 t2
  obtain rfl : c2 = .int .i64 z2 := by simpa using e2
  obtain ⟨z3, e3, _⟩ := DataW.trod_int Try.underlying3 t3
  obtain rfl : c3 = .int .i64 z3 := by simpa using e3
  obtain ⟨z4, e4, _⟩ := DataW.trod_int Try.underlying3 t4
  obtain rfl : c4 = .int .i64 z4 := by simpa using e4
  exact ⟨[z0, z1, z2, z3, z4], rfl, rfl⟩
set_option maxRecDepth 100000 in
theorem voc_in {r : Reach} {b0 : Nat} {v : Value} {dd : DataW H} {p : List MemPlace} (hv : Value.okWide Try.prog w r b0 43 v) (h : DataW.Trod enc Try.prog w base (fun _ => true) held 43 v dd p) : ∃ u : Voc, v = vocV u := by
  obtain ⟨cs, rfl, hsz⟩ := okWide_struct Try.underlying43 hv
  have hC : Try.prog.cellsOf 43 = 5 := by kernel_rfl
  obtain ⟨l⟩ := cs
  obtain ⟨fuel, hf⟩ := h
  obtain ⟨px, hp, hcs⟩ := voc_cells (cs := l) (by rw [hC] at hsz; simpa using hsz) hf
  obtain ⟨z0, z1, z2, z3, z4, rfl⟩ := quintL px hp
  subst hcs
  exact ⟨⟨z0, z1, z2, z3, z4⟩, rfl⟩
set_option maxRecDepth 100000 in
theorem vocs_came {fuel : Nat} {T : Option Addr} {m d : Nat} {x : DataW H × List MemPlace} (h : DataW.trod enc Try.prog w base (fun _ => true) held fuel 49 [.slice T m d] = some x) : m ≤ 9223372036854775807 ∧ ∃ zs ft, Ints w T (5 * m) zs ft := by
  have hc5 : Try.prog.cellsOf 43 = 5 := by kernel_rfl
  rcases Go.Deep.open_slice Try.underlying49 h with ⟨hcs, _⟩ | ⟨a, len, cap, mm, n, D, Pl, hcs, _, hl, hm, hmm, _, hel⟩
  · simp at hcs
    obtain ⟨rfl, rfl, _⟩ := hcs
    exact ⟨by omega, [], [], .nil _ _⟩
  · simp at hcs
    obtain ⟨rfl, rfl, rfl⟩ := hcs
    simp only [if_true] at hmm
    unfold maxLen at hm
    rw [hc5] at hel
    obtain ⟨f, hf⟩ := Go.Deep.choose_lt (n := mm) (p := fun i (px : List Int) => px.length = 5 ∧ ∀ j, j < 5 → w.cell? (a.add (i * 5 + j)) = some (.int .i64 (px.getD j 0))) fun i hi => by
      obtain ⟨cs', hcs', htr⟩ := hel i hi
      obtain ⟨_, hlen, hcell⟩ := World.cells?_some hcs'
      obtain ⟨px, hp, rfl⟩ := voc_cells hlen htr
      refine ⟨px, hp, fun j hj => ?_⟩
      have := hcell j hj
      rw [Go.Deep.add_add] at this
      rw [this]
      exact iv_at px j (by omega)
    refine ⟨by omega, _, _, ints_in8 (L := 5 * m) (C := 5 * m) (Z := (List.range (5 * m)).map fun q => (f (q / 5)).getD (q % 5) 0) (Nat.le_refl _) (by simp) (by simp) fun a' e c hc => ?_⟩
    injection e with e
    subst e
    have h2 := (hf (c / 5) (by omega)).2 (c % 5) (by omega)
    rw [show c / 5 * 5 + c % 5 = c by omega] at h2
    rw [h2]
    congr 2
    have h3 : ((List.range (5 * m)).map fun q => (f (q / 5)).getD (q % 5) 0)[c]? = some ((f (c / 5)).getD (c % 5) 0) := by
      rw [List.getElem?_map, List.getElem?_range hc]
      rfl
    rw [List.getD_eq_getElem?_getD (l := (List.range (5 * m)).map fun q => (f (q / 5)).getD (q % 5) 0), h3]
    rfl
set_option maxRecDepth 100000 in
theorem vocs_in {r : Reach} {b0 : Nat} {v : Value} {dd : DataW H} {p : List MemPlace} (hv : Value.okWide Try.prog w r b0 49 v) (h : DataW.Trod enc Try.prog w base (fun _ => true) held 49 v dd p) :
    ∃ A n c L, v = .slice A n c ∧ InVocs w A n L := by
  obtain ⟨A, n, c, rfl⟩ := okWide_slice Try.underlying49 hv
  obtain ⟨fuel, hf⟩ := h
  obtain ⟨hm, L, fp, hL⟩ := vocs_came hf
  exact ⟨A, n, c, L, rfl, hm, fp, hL⟩
end
end Go.Proofs.Ytfbpnneegenhgaa
