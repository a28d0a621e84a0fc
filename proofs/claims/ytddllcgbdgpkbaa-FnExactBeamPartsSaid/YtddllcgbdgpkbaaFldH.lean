/- The program's ShiftField. -/
import Derived.Test.YtddllcgbdgpkbaaFldG
namespace Go.Proofs.Ytddllcgbdgpkbaa
open Go.ChangeShapes Go.WideShapes Go.ChangeAt Go.RowKit
set_option linter.unusedVariables false

theorem fld_info : (Try.prog.info? 33).map (·.size) = some 5 := by kernel_rfl
/-- The cells of a background. -/
abbrev fcs (W : Int) (A : Option Addr) (n c : Nat) (T : Option Addr) (m d : Nat) (sx sy : Int) : List Value := [.int .i64 W, .slice A n c, .slice T m d, .int .i64 sx, .int .i64 sy]
/-- What a function with one background for its result hands back. -/
theorem fld_ret {fn : Func} {p : Tmp} {tmps : Array Value} {w : World} {b : Nat} {t : TypeId} {W : Int} {A : Option Addr} {n c : Nat} {T : Option Addr} {m d : Nat} {sx sy : Int} (hr : fn.results = #[.cell p 33]) (hp : tmps.getD p undef = .pointer (some ⟨b, 0, none⟩)) (hb : Box w b t (fcs W A n c T m d sx sy)) : (results fn tmps).run Try.prog w = .ok (fldV W A n c T m d sx sy) w :=
  results_cell_row hr tmps w b t (fcs W A n c T m d sx sy).toArray (0, 0) _ hp hb Try.underlying33 rfl fld_info
/-- A new background as a result. -/
def FNew (F : Fld) (w : World) (e : Ending) (w' : World) : Prop :=
  ∃ (A : Option Addr) (c : Nat) (T : Option Addr) (d : Nat) (fa ft : List Nat), e = .returned (fv F A c T d) ∧ F.xs.length ≤ c ∧ F.nt ≤ d ∧ FHas w' A T F fa ft ∧ New w.heap.size w' (fa ++ ft) ∧ Below w.heap.size w w'
section
variable {ops : Array Oper} {rest : List Oper} {o : Oper} {a : Act} {w : World} {Q : Exit → Act → World → Prop} {W : Int} {A : Option Addr} {n c : Nat} {T : Option Addr} {m d : Nat} {sx sy : Int}
theorem fs_load {t : TypeId} (hw : Region.wanted o (yielded ops a.tmps) = true) (x : Operand) (ho : o.op = .load 33 x) (b : Nat) (hx : a.eval x = .pointer (some ⟨b, 0, none⟩)) (hb : Box w b t (fcs W A n c T m d sx sy))
    (h : wpList Try.prog ops Q rest (a.put o.dst (fldV W A n c T m d sx sy)) w) : wpList Try.prog ops Q (o :: rest) a w :=
  wpList_step fun K hK => by
    rw [if_pos hw]
    exact wp_load_row _ x ho b hx t (fcs W A n c T m d sx sy).toArray (0, 0) _ hb Try.underlying33 rfl fld_info (hK _ _ h)
theorem fs_store {t : TypeId} (hw : Region.wanted o (yielded ops a.tmps) = true) (x y : Operand) (ho : o.op = .store 33 x y) (b : Nat) (hx : a.eval x = .pointer (some ⟨b, 0, none⟩)) (hy : a.eval y = fldV W A n c T m d sx sy) (cs : List Value) (hb : Box w b t cs) (hc : cs.length = 5)
    (h : wpList Try.prog ops Q rest (a.put o.dst undef) (w.setRow b (fcs W A n c T m d sx sy).toArray)) : wpList Try.prog ops Q (o :: rest) a w :=
  wpList_step fun K hK => by
    rw [if_pos hw]
    exact wp_store_row _ x y ho b (fcs W A n c T m d sx sy).toArray hx hy t cs.toArray hb fld_info (by simpa using hc) (by simp [Value.oneCell']) (hK _ _ h)
end
/-- Two slices, made one after the other, and what changes beside them. -/
theorem fnew_of {w w1 w2 w3 w4 : World} {S : List Nat} {A2 A3 : Option Addr} {f2 f3 : List Nat} {xs zs : List Int} {n m : Nat} (n2 : New w1.heap.size w2 f2) (n3 : New w2.heap.size w3 f3) (h1 : w.heap.size ≤ w1.heap.size) (b12 : w1.heap.size ≤ w2.heap.size) (b3 : Below w2.heap.size w2 w3) (i2 : Ints w2 A2 n xs f2) (i3 : Ints w3 A3 m zs f3) (ho : Only S w3 w4) (hS : ∀ b ∈ S, b < w1.heap.size) :
    Ints w4 A2 n xs f2 ∧ Ints w4 A3 m zs f3 ∧ New w.heap.size w4 (f2 ++ f3) := by
  have s2 : Same f2 w3 w4 := .of_only ho fun b hb hs => by have := (n2.lt b hb).1; have := hS b hs; omega
  have s3 : Same f3 w3 w4 := .of_only ho fun b hb hs => by have := (n3.lt b hb).1; have := hS b hs; omega
  exact ⟨(i2.below b3).keep s2, i3.keep s3, (((n2.mono h1).keep (.of_below b3)).keep s2).append ((n3.mono (by omega)).keep s3) fun b hb hc => by have := (n2.lt b hb).2; have := (n3.lt b hc).1; omega⟩
theorem wrap_small (x : Int) (h0 : -1000000 ≤ x) (h1 : x ≤ 1000000) : IntKind.i64.wrap x = x := by
  simp [IntKind.wrap, IntKind.bits, IntKind.signed]
  omega
theorem fnew_zero {w w' : World} (b : Below w.heap.size w w') : FNew Fld.zero w (.returned (fldV 0 none 0 0 none 0 0 0 0)) w' :=
  ⟨none, 0, none, 0, [], [], rfl, Nat.le_refl _, Nat.le_refl _, ⟨.nil _ _, .nil _ _⟩, .nil _ _, b⟩
end Go.Proofs.Ytddllcgbdgpkbaa
