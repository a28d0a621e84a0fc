/- What a walk is told of an argument that is a background. -/
import Derived.Test.YtddllcgbdgpkbaaFldO
import Derived.Deep.Slices
namespace Go.Proofs.Ytddllcgbdgpkbaa
open Go.ChangeShapes Go.WideShapes Go.ChangeAt Go.RowKit
set_option linter.unusedVariables false

/-- A background that came in. -/
def InFld (w : World) (A T : Option Addr) (F : Fld) : Prop := F.xs.length ≤ 9223372036854775807 ∧ F.nt ≤ 9223372036854775807 ∧ ∃ fa ft, FHas w A T F fa ft
section
variable {H : Type} {enc : TypeId × Value → H} {w : World} {base : Nat} {held : Bool}
set_option maxRecDepth 100000 in
/-- The cells of a tile are integers. -/
theorem tile_cells {fuel : Nat} {cs : List Value} {y : DataW H × List MemPlace} (hl : cs.length = 64) (h : DataW.trod enc Try.prog w base (fun _ => true) held fuel 94 cs = some y) : ∃ px : List Int, px.length = 64 ∧ cs = iv px := by
  have ha : Try.prog.cellsOf 72 = 64 := by kernel_rfl
  have h1 : Try.prog.cellsOf 3 = 1 := by kernel_rfl
  obtain ⟨xs, n, _, hx, hl2, hlen, hfs⟩ := DataW.trod_struct Try.underlying94 h
  have h0 : DataW.trod enc Try.prog w base (fun _ => true) held n 72 ((cs.drop 0).take (Try.prog.cellsOf 72)) = xs[0]? := hfs 0 _ rfl
  have hx0 : ∃ y, xs[0]? = some y := ⟨xs[0]'(by rw [hlen]; decide), List.getElem?_eq_getElem _⟩
  obtain ⟨y, hy⟩ := hx0
  rw [hy, ha, List.drop_zero, List.take_of_length_le (by omega)] at h0
  obtain ⟨ys, m, _, _, _, hyl, hys⟩ := DataW.trod_array Try.underlying72 h0
  obtain ⟨px, e1, e2⟩ := ints_list cs fun i hi => by
    have hi64 : i < 64 := by omega
    have hq := hys i hi64
    rw [h1, Nat.mul_one, List.getElem?_eq_getElem (by omega : i < ys.length)] at hq
    have ht : (cs.drop i).take 1 = [cs[i]'hi] := by
      rw [List.drop_eq_getElem_cons hi]; rfl
    rw [ht] at hq
    obtain ⟨z, hz, _⟩ := DataW.trod_int Try.underlying3 hq
    refine ⟨z, ?_⟩
    rw [List.getElem?_eq_getElem hi]
    simpa using hz
  exact ⟨px, by omega, e2⟩
set_option maxRecDepth 100000 in
theorem tiles_came {fuel : Nat} {T : Option Addr} {m d : Nat} {x : DataW H × List MemPlace} (h : DataW.trod enc Try.prog w base (fun _ => true) held fuel 48 [.slice T m d] = some x) : m ≤ 9223372036854775807 ∧ ∃ zs ft, Ints w T (64 * m) zs ft := by
  have hc64 : Try.prog.cellsOf 94 = 64 := by kernel_rfl
  rcases Go.Deep.open_slice Try.underlying48 h with ⟨hcs, _⟩ | ⟨a, len, cap, mm, n, D, Pl, hcs, _, hl, hm, hmm, _, hel⟩
  · simp at hcs
    obtain ⟨rfl, rfl, _⟩ := hcs
    exact ⟨by omega, [], [], .nil _ _⟩
  · simp at hcs
    obtain ⟨rfl, rfl, rfl⟩ := hcs
    simp only [if_true] at hmm
    unfold maxLen at hm
    rw [hc64] at hel
    obtain ⟨f, hf⟩ := Go.Deep.choose_lt (n := mm) (p := fun i (px : List Int) => px.length = 64 ∧ ∀ j, j < 64 → w.cell? (a.add (i * 64 + j)) = some (.int .i64 (px.getD j 0))) fun i hi => by
      obtain ⟨cs', hcs', htr⟩ := hel i hi
      obtain ⟨_, hlen, hcell⟩ := World.cells?_some hcs'
      obtain ⟨px, hp, rfl⟩ := tile_cells hlen htr
      refine ⟨px, hp, fun j hj => ?_⟩
      have := hcell j hj
      rw [Go.Deep.add_add] at this
      rw [this]
      exact iv_at px j (by omega)
    refine ⟨by omega, _, _, ints_in8 (L := 64 * m) (C := 64 * m) (Z := (List.range (64 * m)).map fun q => (f (q / 64)).getD (q % 64) 0) (Nat.le_refl _) (by simp) (by simp) fun a' e c hc => ?_⟩
    injection e with e
    subst e
    have h2 := (hf (c / 64) (by omega)).2 (c % 64) (by omega)
    rw [show c / 64 * 64 + c % 64 = c by omega] at h2
    rw [h2]
    congr 2
    have h3 : ((List.range (64 * m)).map fun q => (f (q / 64)).getD (q % 64) 0)[c]? = some ((f (c / 64)).getD (c % 64) 0) := by
      rw [List.getElem?_map, List.getElem?_range hc]
      rfl
    rw [List.getD_eq_getElem?_getD (l := (List.range (64 * m)).map fun q => (f (q / 64)).getD (q % 64) 0), h3]
    rfl
set_option maxRecDepth 100000 in
theorem fiveL {α : Type} (l : List α) (h : l.length = 5) : ∃ c0 c1 c2 c3 c4, l = [c0, c1, c2, c3, c4] := by
  match l, h with
  | [c0, c1, c2, c3, c4], _ => exact ⟨c0, c1, c2, c3, c4, rfl⟩
set_option maxRecDepth 100000 in
theorem fld_in {r : Reach} {b0 : Nat} {v : Value} {dd : DataW H} {p : List MemPlace} (hv : Value.okWide Try.prog w r b0 50 v) (h : DataW.Trod enc Try.prog w base (fun _ => true) held 50 v dd p) :
    ∃ A c T d F, v = fv F A c T d ∧ InFld w A T F := by
  obtain ⟨cs, rfl, hsz⟩ := okWide_struct Try.underlying50 hv
  have hC : Try.prog.cellsOf 50 = 5 := by kernel_rfl
  have kI : Try.prog.cellsOf 3 = 1 := by kernel_rfl
  have kS : Try.prog.cellsOf 30 = 1 := by kernel_rfl
  have kT : Try.prog.cellsOf 48 = 1 := by kernel_rfl
  obtain ⟨l⟩ := cs
  obtain ⟨c0, c1, c2, c3, c4, rfl⟩ := fiveL l (by rw [hC] at hsz; simpa using hsz)
  obtain ⟨fuel, hf⟩ := h
  obtain ⟨xs, n0, _, _, _, hlen, hff⟩ := DataW.trod_struct Try.underlying50 hf
  obtain ⟨y0, y1, y2, y3, y4, rfl⟩ := fiveL xs hlen
  have t0 : DataW.trod enc Try.prog w base (fun _ => true) held n0 3 [c0] = some y0 := by simpa [Value.cells, kI] using hff 0 _ rfl
  have t1 : DataW.trod enc Try.prog w base (fun _ => true) held n0 30 [c1] = some y1 := by simpa [Value.cells, kS] using hff 1 _ rfl
  have t2 : DataW.trod enc Try.prog w base (fun _ => true) held n0 48 [c2] = some y2 := by simpa [Value.cells, kT] using hff 2 _ rfl
  have t3 : DataW.trod enc Try.prog w base (fun _ => true) held n0 3 [c3] = some y3 := by simpa [Value.cells, kI] using hff 3 _ rfl
  have t4 : DataW.trod enc Try.prog w base (fun _ => true) held n0 3 [c4] = some y4 := by simpa [Value.cells, kI] using hff 4 _ rfl
  have e1 : ∃ A n c, c1 = .slice A n c := by
    rcases open_ints Try.underlying30 Try.underlying3 (by kernel_rfl) t1 with ⟨hcs, _⟩ | ⟨a, len, cap, zs, hcs, _⟩
    · exact ⟨_, _, _, by simpa using hcs⟩
    · exact ⟨_, _, _, by simpa using hcs⟩
  have e2 : ∃ A n c, c2 = .slice A n c := by
    rcases Go.Deep.open_slice Try.underlying48 t2 with ⟨hcs, _⟩ | ⟨a, len, cap, mm, n, D, Pl, hcs, _⟩
    · exact ⟨_, _, _, by simpa using hcs⟩
    · exact ⟨_, _, _, by simpa using hcs⟩
  obtain ⟨A, n, c, rfl⟩ := e1
  obtain ⟨T, m, d, rfl⟩ := e2
  obtain ⟨W, hz0, _⟩ := DataW.trod_int Try.underlying3 t0
  obtain rfl : c0 = .int .i64 W := by simpa using hz0
  obtain ⟨sx, hz3, _⟩ := DataW.trod_int Try.underlying3 t3
  obtain rfl : c3 = .int .i64 sx := by simpa using hz3
  obtain ⟨sy, hz4, _⟩ := DataW.trod_int Try.underlying3 t4
  obtain rfl : c4 = .int .i64 sy := by simpa using hz4
  obtain ⟨hn, zs, fa, hi⟩ := ints_came8 t1
  obtain ⟨hm, ts, ft, ht⟩ := tiles_came t2
  have hl := hi.1
  subst hl
  exact ⟨A, c, T, d, ⟨W, zs, m, ts, sx, sy⟩, rfl, hn, hm, fa, ft, hi, ht⟩
end
end Go.Proofs.Ytddllcgbdgpkbaa
