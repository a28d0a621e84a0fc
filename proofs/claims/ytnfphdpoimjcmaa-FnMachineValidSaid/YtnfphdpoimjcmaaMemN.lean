/- Contracts of the program's functions on memory (chapter 2): a new memory. -/
import Derived.Test.YtnfphdpoimjcmaaMemC
namespace Go.Proofs.Ytnfphdpoimjcmaa
open Go.ChangeShapes Go.WideShapes Go.ChangeAt Go.RowKit

theorem make256 (W : World) : (Instr.makeSlice 23 (.int .i64 256) (.int .i64 256)).run Try.prog W = .ok (.slice (some ⟨W.heap.size, 0, none⟩) 256 256) (W.alloc (.cells (madeCells #[.int .i64 0] 256) 3)) :=
  Go.run_make_row' (P := Try.prog) 23 3 (.int .i64 0) 8 Try.underlying23 infoInt rfl .i64 .i64 256 (by omega) (by omega) W
theorem zeros_ints {w : World} {g : Nat} (h : w.rowIs g 3 256 (fun _ => .int .i64 0)) : Ints w (some ⟨g, 0, none⟩) 256 zeros [g] :=
  ints_of_row h (fun i hi => by rw [zeros_at i hi]) zeros_len (by omega)
theorem memZ_new {w w' : World} (b : Below w.heap.size w w') : MemNew memZ w (.returned (.agg #[.slice none 0 0, .slice none 0 0, .int .i64 0])) w' :=
  ⟨none, 0, 0, none, 0, 0, [], [], rfl, Nat.le_refl _, Nat.le_refl _, .nil _ _, .nil _ _, by simpa using New.nil _ _, b⟩
/-- A memory in new memory, handed on through the result's own block q. -/
theorem mem_handed {w w2 : World} {M : Mem} {A : Option Addr} {n c : Nat} {R : Option Addr} {k d : Nat} {fa fr : List Nat} {L q : Nat} {u v x : Value} (i : Ints w2 A n M.ram fa) (g : Grid w2 R k M.rom fr) (nw : New L w2 (fa ++ fr)) (hc : n ≤ c) (hd : k ≤ d) (b : Below w.heap.size w w2) (hq : w.heap.size ≤ q ∧ q < L) :
    MemNew M w (.returned (.agg #[.slice A n c, .slice R k d, .int .i64 M.bank])) (((w2.setCell ⟨q, 0, none⟩ u).setCell ⟨q, 1, none⟩ v).setCell ⟨q, 2, none⟩ x) := by
  have o : Only [q] w2 (((w2.setCell ⟨q, 0, none⟩ u).setCell ⟨q, 1, none⟩ v).setCell ⟨q, 2, none⟩ x) := (((Only.refl _ w2).setCell (.inl (by simp)) _).setCell (.inl (by simp)) _).setCell (.inl (by simp)) _
  have dd : ∀ y ∈ fa ++ fr, y ∉ [q] := fun y hy hs => by have := (nw.lt y hy).1; simp at hs; omega
  have s : Same (fa ++ fr) w2 (((w2.setCell ⟨q, 0, none⟩ u).setCell ⟨q, 1, none⟩ v).setCell ⟨q, 2, none⟩ x) := .of_only o dd
  exact ⟨A, n, c, R, k, d, fa, fr, rfl, hc, hd, i.keep (s.sub fun y hy => List.mem_append_left _ hy), g.keep (s.sub fun y hy => List.mem_append_right _ hy), (nw.mono (by omega)).keep s, ((b.setCell (by simp; omega) _).setCell (by simp; omega) _).setCell (by simp; omega) _⟩
end Go.Proofs.Ytnfphdpoimjcmaa
