/- Scenes in memory: their values, loads of a whole one and of its background. -/
import Derived.Test.YtacebhncecninaaScnM
import Derived.Test.YtacebhncecninaaGB
import Derived.Test.YtacebhncecninaaGD
namespace Go.Proofs.Ytacebhncecninaa
open Go.ChangeShapes Go.WideShapes Go.ChangeAt Go.RowKit
set_option linter.unusedVariables false

theorem sc_info : (Try.prog.info? 41).map (·.size) = some 6 := by kernel_rfl
/-- The cells of a scene, its value. -/
abbrev ccs (W : Int) (A : Option Addr) (n c : Nat) (T : Option Addr) (m d : Nat) (sx sy : Int) (O : Option Addr) (k e : Nat) : List Value := [.int .i64 W, .slice A n c, .slice T m d, .int .i64 sx, .int .i64 sy, .slice O k e]
abbrev scV (W : Int) (A : Option Addr) (n c : Nat) (T : Option Addr) (m d : Nat) (sx sy : Int) (O : Option Addr) (k e : Nat) : Value := .agg #[.int .i64 W, .slice A n c, .slice T m d, .int .i64 sx, .int .i64 sy, .slice O k e]
abbrev sv (F : Fld) (A : Option Addr) (c : Nat) (T : Option Addr) (d : Nat) (S : List Spr) (O : Option Addr) (e : Nat) : Value := scV F.w A F.xs.length c T F.nt d F.sx F.sy O S.length e
def SHas (w : World) (A T O : Option Addr) (F : Fld) (S : List Spr) (fa ft fo : List Nat) : Prop := FHas w A T F fa ft ∧ Sprs w O S.length S fo
theorem SHas.below {w w' : World} {A T O : Option Addr} {F : Fld} {S : List Spr} {fa ft fo : List Nat} (h : SHas w A T O F S fa ft fo) (k : Below w.heap.size w w') : SHas w' A T O F S fa ft fo := ⟨h.1.below k, h.2.below k⟩
def SSmall (F : Fld) (S : List Spr) : Prop := FSmall F ∧ S.length ≤ 1000000000
/-- The background's part of a scene's cells. -/
theorem sc_part {w : World} {b : Nat} {t : TypeId} {W : Int} {A : Option Addr} {n c : Nat} {T : Option Addr} {m d : Nat} {sx sy : Int} {O : Option Addr} {k e : Nat} (h : Box w b t (ccs W A n c T m d sx sy O k e)) : w.rangeAt b 0 (fcs W A n c T m d sx sy) := by
  intro j v hv
  rw [Nat.zero_add, h.cell j]
  match j, hv with
  | 0, hv => exact hv
  | 1, hv => exact hv
  | 2, hv => exact hv
  | 3, hv => exact hv
  | 4, hv => exact hv
  | j + 5, hv => simp at hv
section
variable {ops : Array Oper} {rest : List Oper} {o : Oper} {a : Act} {w : World} {Q : Exit → Act → World → Prop} {W : Int} {A : Option Addr} {n c : Nat} {T : Option Addr} {m d : Nat} {sx sy : Int} {O : Option Addr} {k e : Nat}
theorem sc_load {t : TypeId} (hw : Region.wanted o (yielded ops a.tmps) = true) (x : Operand) (ho : o.op = .load 41 x) (b : Nat) (hx : a.eval x = .pointer (some ⟨b, 0, none⟩)) (hb : Box w b t (ccs W A n c T m d sx sy O k e))
    (h : wpList Try.prog ops Q rest (a.put o.dst (scV W A n c T m d sx sy O k e)) w) : wpList Try.prog ops Q (o :: rest) a w :=
  wpList_step fun K hK => by
    rw [if_pos hw]
    exact wp_load_row _ x ho b hx t (ccs W A n c T m d sx sy O k e).toArray (0, 0) _ hb Try.underlying41 rfl sc_info (hK _ _ h)
theorem sc_back {t : TypeId} (hw : Region.wanted o (yielded ops a.tmps) = true) (x : Operand) (ho : o.op = .load 26 x) (b : Nat) (hx : a.eval x = .pointer (some ⟨b, 0, none⟩)) (hb : Box w b t (ccs W A n c T m d sx sy O k e))
    (h : wpList Try.prog ops Q rest (a.put o.dst (fldV W A n c T m d sx sy)) w) : wpList Try.prog ops Q (o :: rest) a w :=
  wpList_step fun K hK => by
    rw [if_pos hw]
    exact wp_load_mid _ x ho b 0 hx (fcs W A n c T m d sx sy) _ (sc_part hb) Try.underlying26 rfl fld_info (hK _ _ h)
end
end Go.Proofs.Ytacebhncecninaa
