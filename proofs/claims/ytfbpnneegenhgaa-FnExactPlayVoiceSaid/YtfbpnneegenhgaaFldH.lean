/- The program's ShiftField. -/
import Derived.Test.YtfbpnneegenhgaaFldG
namespace Go.Proofs.Ytfbpnneegenhgaa
open Go.ChangeShapes Go.WideShapes Go.ChangeAt Go.RowKit
set_option linter.unusedVariables false

/-- The cells of a background. -/
abbrev fcs (W : Int) (A : Option Addr) (n c : Nat) (T : Option Addr) (m d : Nat) (sx sy : Int) : List Value := [.int .i64 W, .slice A n c, .slice T m d, .int .i64 sx, .int .i64 sy]
/-- A new background as a result. -/
def FNew (F : Fld) (w : World) (e : Ending) (w' : World) : Prop :=
  ∃ (A : Option Addr) (c : Nat) (T : Option Addr) (d : Nat) (fa ft : List Nat), e = .returned (fv F A c T d) ∧ F.xs.length ≤ c ∧ F.nt ≤ d ∧ FHas w' A T F fa ft ∧ New w.heap.size w' (fa ++ ft) ∧ Below w.heap.size w w'
section
variable {ops : Array Oper} {rest : List Oper} {o : Oper} {a : Act} {w : World} {Q : Exit → Act → World → Prop} {W : Int} {A : Option Addr} {n c : Nat} {T : Option Addr} {m d : Nat} {sx sy : Int}
end
/-- Two slices, made one after the other, and what changes beside them. -/
theorem fnew_of {w w1 w2 w3 w4 : World} {S : List Nat} {A2 A3 : Option Addr} {f2 f3 : List Nat} {xs zs : List Int} {n m : Nat} (n2 : New w1.heap.size w2 f2) (n3 : New w2.heap.size w3 f3) (h1 : w.heap.size ≤ w1.heap.size) (b12 : w1.heap.size ≤ w2.heap.size) (b3 : Below w2.heap.size w2 w3) (i2 : Ints w2 A2 n xs f2) (i3 : Ints w3 A3 m zs f3) (ho : Only S w3 w4) (hS : ∀ b ∈ S, b < w1.heap.size) :
    Ints w4 A2 n xs f2 ∧ Ints w4 A3 m zs f3 ∧ New w.heap.size w4 (f2 ++ f3) := by
  have s2 : Same f2 w3 w4 := .of_only ho fun b hb hs => by have := (n2.lt b hb).1; have := hS b hs; omega
  have s3 : Same f3 w3 w4 := .of_only ho fun b hb hs => by have := (n3.lt b hb).1; have := hS b hs; omega
  exact ⟨(i2.below b3).keep s2, i3.keep s3, (((n2.mono h1).keep (.of_below b3)).keep s2).append ((n3.mono (by omega)).keep s3) fun b hb hc => by have := (n2.lt b hb).2; have := (n3.lt b hc).1; omega⟩
theorem wrap_small (x : Int) (h0 : -1000000 ≤ x) (h1 : x ≤ 1000000) : IntKind.i64.wrap x = x := by
  simp [IntKind.wrap, IntKind.bits, IntKind.signed]
  omega
theorem fnew_zero {w w' : World} (b : Below w.heap.size w w') : FNew Fld.zero w (.returned (fldV 0 none 0 0 none 0 0 0 0)) w' :=
  ⟨none, 0, none, 0, [], [], rfl, Nat.le_refl _, Nat.le_refl _, ⟨.nil _ _, .nil _ _⟩, .nil _ _, b⟩
end Go.Proofs.Ytfbpnneegenhgaa
