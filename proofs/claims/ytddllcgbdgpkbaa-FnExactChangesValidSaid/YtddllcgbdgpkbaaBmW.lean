/- What a walk is told of an argument that is a list of changes. -/
import Derived.Test.YtddllcgbdgpkbaaBmM
import Derived.Test.YtddllcgbdgpkbaaFldS
namespace Go.Proofs.Ytddllcgbdgpkbaa
open Go.ChangeShapes Go.WideShapes Go.ChangeAt Go.RowKit
set_option linter.unusedVariables false

/-- Changes that came in. -/
def InChgs (w : World) (A : Option Addr) (n : Nat) (L : List Int) : Prop := n ≤ 9223372036854775807 ∧ ∃ fp, Ints w A (3 * n) L fp
section
variable {H : Type} {enc : TypeId × Value → H} {w : World} {base : Nat} {held : Bool}
theorem threeL {α : Type} (l : List α) (h : l.length = 3) : ∃ c0 c1 c2, l = [c0, c1, c2] := by
  match l, h with
  | [c0, c1, c2], _ => exact ⟨c0, c1, c2, rfl⟩
set_option maxRecDepth 100000 in
/-- The cells of a change. -/
theorem chg_cells {fuel : Nat} {cs : List Value} {y : DataW H × List MemPlace} (hl : cs.length = 3) (h : DataW.trod enc Try.prog w base (fun _ => true) held fuel 76 cs = some y) : ∃ px : List Int, px.length = 3 ∧ cs = iv px := by
  have kI : Try.prog.cellsOf 3 = 1 := by kernel_rfl
  obtain ⟨c0, c1, c2, rfl⟩ := threeL cs hl
  obtain ⟨xs, n0, _, _, _, hlen, hff⟩ := DataW.trod_struct Try.underlying76 h
  obtain ⟨y0, y1, y2, rfl⟩ := threeL xs hlen
  have t0 : DataW.trod enc Try.prog w base (fun _ => true) held n0 3 [c0] = some y0 := by simpa [Value.cells, kI] using hff 0 _ rfl
  have t1 : DataW.trod enc Try.prog w base (fun _ => true) held n0 3 [c1] = some y1 := by simpa [Value.cells, kI] using hff 1 _ rfl
  have t2 : DataW.trod enc Try.prog w base (fun _ => true) held n0 3 [c2] = some y2 := by simpa [Value.cells, kI] using hff 2 _ rfl
  obtain ⟨z0, e0, _⟩ := DataW.trod_int Try.underlying3 t0
  obtain rfl : c0 = .int .i64 z0 := by simpa using e0
  obtain ⟨z1, e1, _⟩ := DataW.trod_int Try.underlying3 t1
  obtain rfl : c1 = .int .i64 z1 := by simpa using e1
  obtain ⟨z2, e2, _⟩ := DataW.trod_int Try.underlying3 t2
  obtain rfl : c2 = .int .i64 z2 := by simpa using e2
  exact ⟨[z0, z1, z2], rfl, rfl⟩
set_option maxRecDepth 100000 in
theorem chgs_came {fuel : Nat} {T : Option Addr} {m d : Nat} {x : DataW H × List MemPlace} (h : DataW.trod enc Try.prog w base (fun _ => true) held fuel 43 [.slice T m d] = some x) : m ≤ 9223372036854775807 ∧ ∃ zs ft, Ints w T (3 * m) zs ft := by
  have hc3 : Try.prog.cellsOf 76 = 3 := by kernel_rfl
  rcases Go.Deep.open_slice Try.underlying43 h with ⟨hcs, _⟩ | ⟨a, len, cap, mm, n, D, Pl, hcs, _, hl, hm, hmm, _, hel⟩
  · simp at hcs
    obtain ⟨rfl, rfl, _⟩ := hcs
    exact ⟨by omega, [], [], .nil _ _⟩
  · simp at hcs
    obtain ⟨rfl, rfl, rfl⟩ := hcs
    simp only [if_true] at hmm
    unfold maxLen at hm
    rw [hc3] at hel
    obtain ⟨f, hf⟩ := Go.Deep.choose_lt (n := mm) (p := fun i (px : List Int) => px.length = 3 ∧ ∀ j, j < 3 → w.cell? (a.add (i * 3 + j)) = some (.int .i64 (px.getD j 0))) fun i hi => by
      obtain ⟨cs', hcs', htr⟩ := hel i hi
      obtain ⟨_, hlen, hcell⟩ := World.cells?_some hcs'
      obtain ⟨px, hp, rfl⟩ := chg_cells hlen htr
      refine ⟨px, hp, fun j hj => ?_⟩
      have := hcell j hj
      rw [Go.Deep.add_add] at this
      rw [this]
      exact iv_at px j (by omega)
    refine ⟨by omega, _, _, ints_in8 (L := 3 * m) (C := 3 * m) (Z := (List.range (3 * m)).map fun q => (f (q / 3)).getD (q % 3) 0) (Nat.le_refl _) (by simp) (by simp) fun a' e c hc => ?_⟩
    injection e with e
    subst e
    have h2 := (hf (c / 3) (by omega)).2 (c % 3) (by omega)
    rw [show c / 3 * 3 + c % 3 = c by omega] at h2
    rw [h2]
    congr 2
    have h3 : ((List.range (3 * m)).map fun q => (f (q / 3)).getD (q % 3) 0)[c]? = some ((f (c / 3)).getD (c % 3) 0) := by
      rw [List.getElem?_map, List.getElem?_range hc]
      rfl
    rw [List.getD_eq_getElem?_getD (l := (List.range (3 * m)).map fun q => (f (q / 3)).getD (q % 3) 0), h3]
    rfl
set_option maxRecDepth 100000 in
theorem chgs_in {r : Reach} {b0 : Nat} {v : Value} {dd : DataW H} {p : List MemPlace} (hv : Value.okWide Try.prog w r b0 43 v) (h : DataW.Trod enc Try.prog w base (fun _ => true) held 43 v dd p) :
    ∃ A n c L, v = .slice A n c ∧ InChgs w A n L := by
  obtain ⟨A, n, c, rfl⟩ := okWide_slice Try.underlying43 hv
  obtain ⟨fuel, hf⟩ := h
  obtain ⟨hm, L, fp, hL⟩ := chgs_came hf
  exact ⟨A, n, c, L, rfl, hm, fp, hL⟩
end
end Go.Proofs.Ytddllcgbdgpkbaa
