/- What a walk is told of an argument that is a scene. -/
import Derived.Test.YtacebhncecninaaGE
import Derived.Test.YtacebhncecninaaScnA
namespace Go.Proofs.Ytacebhncecninaa
open Go.ChangeShapes Go.WideShapes Go.ChangeAt Go.RowKit
set_option linter.unusedVariables false

/-- A scene that came in. -/
def InScn (w : World) (A T O : Option Addr) (F : Fld) (S : List Spr) : Prop := F.xs.length ≤ 9223372036854775807 ∧ F.nt ≤ 9223372036854775807 ∧ S.length ≤ 9223372036854775807 ∧ ∃ fa ft fo, SHas w A T O F S fa ft fo
section
variable {H : Type} {enc : TypeId × Value → H} {w : World} {base : Nat} {held : Bool}
set_option maxRecDepth 100000 in
theorem fld_came {fuel : Nat} {l : List Value} {x : DataW H × List MemPlace} (hl5 : l.length = 5) (hf : DataW.trod enc Try.prog w base (fun _ => true) held fuel 60 l = some x) :
    ∃ A c T d F, l = [.int .i64 (F : Fld).w, .slice A F.xs.length c, .slice T F.nt d, .int .i64 F.sx, .int .i64 F.sy] ∧ InFld w A T F := by
  have kI : Try.prog.cellsOf 3 = 1 := by kernel_rfl
  have kS : Try.prog.cellsOf 23 = 1 := by kernel_rfl
  have kT : Try.prog.cellsOf 58 = 1 := by kernel_rfl
  obtain ⟨c0, c1, c2, c3, c4, rfl⟩ := fiveL l hl5
  obtain ⟨xs, n0, _, _, _, hlen, hff⟩ := DataW.trod_struct Try.underlying60 hf
  obtain ⟨y0, y1, y2, y3, y4, rfl⟩ := fiveL xs hlen
  have t0 : DataW.trod enc Try.prog w base (fun _ => true) held n0 3 [c0] = some y0 := by simpa [Value.cells, kI] using hff 0 _ rfl
  have t1 : DataW.trod enc Try.prog w base (fun _ => true) held n0 23 [c1] = some y1 := by simpa [Value.cells, kS] using hff 1 _ rfl
  have t2 : DataW.trod enc Try.prog w base (fun _ => true) held n0 58 [c2] = some y2 := by simpa [Value.cells, kT] using hff 2 _ rfl
  have t3 : DataW.trod enc Try.prog w base (fun _ => true) held n0 3 [c3] = some y3 := by simpa [Value.cells, kI] using hff 3 _ rfl
  have t4 : DataW.trod enc Try.prog w base (fun _ => true) held n0 3 [c4] = some y4 := by simpa [Value.cells, kI] using hff 4 _ rfl
  have e1 : ∃ A n c, c1 = .slice A n c := by
    rcases open_ints Try.underlying23 Try.underlying3 (by kernel_rfl) t1 with ⟨hcs, _⟩ | ⟨a, len, cap, zs, hcs, _⟩
    · exact ⟨_, _, _, by simpa using hcs⟩
    · exact ⟨_, _, _, by simpa using hcs⟩
  have e2 : ∃ A n c, c2 = .slice A n c := by
    rcases Go.Deep.open_slice Try.underlying58 t2 with ⟨hcs, _⟩ | ⟨a, len, cap, mm, n, D, Pl, hcs, _⟩
    · exact ⟨_, _, _, by simpa using hcs⟩
    · exact ⟨_, _, _, by simpa using hcs⟩
  obtain ⟨A, n, c, rfl⟩ := e1
  obtain ⟨T, m, d, rfl⟩ := e2
  obtain ⟨W, hz0, _⟩ := DataW.trod_int Try.underlying3 t0
  obtain rfl : c0 = .int .i64 W := by simpa using hz0
  obtain ⟨sx, hz3, _⟩ := DataW.trod_int Try.underlying3 t3
  obtain rfl : c3 = .int .i64 sx := by simpa using hz3
  obtain ⟨sy, hz4, _⟩ := DataW.trod_int Try.underlying3 t4
  obtain rfl : c4 = .int .i64 sy := by simpa using hz4
  obtain ⟨hn, zs, fa, hi⟩ := ints_came8 t1
  obtain ⟨hm, ts, ft, ht⟩ := tiles_came t2
  have hl := hi.1
  subst hl
  exact ⟨A, c, T, d, ⟨W, zs, m, ts, sx, sy⟩, rfl, hn, hm, fa, ft, hi, ht⟩
theorem twoL {α : Type} (l : List α) (h : l.length = 2) : ∃ c0 c1, l = [c0, c1] := by
  match l, h with
  | [c0, c1], _ => exact ⟨c0, c1, rfl⟩
set_option maxRecDepth 100000 in
theorem scn_in {r : Reach} {b0 : Nat} {v : Value} {dd : DataW H} {p : List MemPlace} (hv : Value.okWide Try.prog w r b0 68 v) (h : DataW.Trod enc Try.prog w base (fun _ => true) held 68 v dd p) :
    ∃ A c T d O e F S, v = sv F A c T d S O e ∧ InScn w A T O F S := by
  obtain ⟨cs, rfl, hsz⟩ := okWide_struct Try.underlying68 hv
  have hC : Try.prog.cellsOf 68 = 6 := by kernel_rfl
  have kF : Try.prog.cellsOf 60 = 5 := by kernel_rfl
  have kO : Try.prog.cellsOf 66 = 1 := by kernel_rfl
  obtain ⟨l⟩ := cs
  obtain ⟨c0, c1, c2, c3, c4, c5, rfl⟩ := sixL l (by rw [hC] at hsz; simpa using hsz)
  obtain ⟨fuel, hf⟩ := h
  obtain ⟨xs, n0, _, _, _, hlen, hff⟩ := DataW.trod_struct Try.underlying68 hf
  obtain ⟨y0, y1, rfl⟩ := twoL xs hlen
  have t0 : DataW.trod enc Try.prog w base (fun _ => true) held n0 60 [c0, c1, c2, c3, c4] = some y0 := by simpa [Value.cells, kF] using hff 0 _ rfl
  have t1 : DataW.trod enc Try.prog w base (fun _ => true) held n0 66 [c5] = some y1 := by simpa [Value.cells, kO] using hff 1 _ rfl
  obtain ⟨A, c, T, d, F, he, hF⟩ := fld_came rfl t0
  injection he with e0 he
  injection he with e1 he
  injection he with e2 he
  injection he with e3 he
  injection he with e4 _
  subst e0 e1 e2 e3 e4
  have e5 : ∃ O k e, c5 = .slice O k e := by
    rcases Go.Deep.open_slice Try.underlying66 t1 with ⟨hcs, _⟩ | ⟨a, len, cap, mm, n, D, Pl, hcs, _⟩
    · exact ⟨_, _, _, by simpa using hcs⟩
    · exact ⟨_, _, _, by simpa using hcs⟩
  obtain ⟨O, k, e, rfl⟩ := e5
  obtain ⟨S, hk, fo, hS⟩ := sprs_came t1
  have hl := hS.1
  subst hl
  obtain ⟨hn, hm, fa, ft, hFH⟩ := hF
  exact ⟨A, c, T, d, O, e, F, S, rfl, hn, hm, hk, fa, ft, fo, hFH, hS⟩
end
end Go.Proofs.Ytacebhncecninaa
