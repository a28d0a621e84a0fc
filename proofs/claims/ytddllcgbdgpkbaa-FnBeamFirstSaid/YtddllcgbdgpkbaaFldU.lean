/- What the laws of chapter 10 draw. -/
import Derived.Test.YtddllcgbdgpkbaaFldT
namespace Go.Proofs.Ytddllcgbdgpkbaa
open Go.ChangeShapes Go.WideShapes Go.ChangeAt Go.RowKit
set_option linter.unusedVariables false

/-- A background that a law got. -/
def FldGot (w : World) (e : Ending) (w' : World) : Prop := ∃ (F : Fld) (A : Option Addr) (c : Nat) (T : Option Addr) (d : Nat) (fa ft : List Nat), e = .returned (fv F A c T d) ∧ F.xs.length ≤ 1000 ∧ F.nt ≤ 1000 ∧ F.xs.length ≤ c ∧ F.nt ≤ d ∧ FHas w' A T F fa ft ∧ Below w.heap.size w w'
/-- A background and numbers that a law got. -/
def FldGot1 (w : World) (e : Ending) (w' : World) : Prop := ∃ (F : Fld) (A : Option Addr) (c : Nat) (T : Option Addr) (d : Nat) (fa ft : List Nat) (y : Int), e = .returned (.tuple #[fv F A c T d, .int .i64 y]) ∧ (-1 ≤ y ∧ y ≤ 1000) ∧ F.xs.length ≤ 1000 ∧ F.nt ≤ 1000 ∧ F.xs.length ≤ c ∧ F.nt ≤ d ∧ FHas w' A T F fa ft ∧ Below w.heap.size w w'
def FldGot2 (w : World) (e : Ending) (w' : World) : Prop := ∃ (F : Fld) (A : Option Addr) (c : Nat) (T : Option Addr) (d : Nat) (fa ft : List Nat) (x y : Int), e = .returned (.tuple #[fv F A c T d, .int .i64 x, .int .i64 y]) ∧ (-1000 ≤ x ∧ x ≤ 1000) ∧ (-1000 ≤ y ∧ y ≤ 1000) ∧ F.xs.length ≤ 1000 ∧ F.nt ≤ 1000 ∧ F.xs.length ≤ c ∧ F.nt ≤ d ∧ FHas w' A T F fa ft ∧ Below w.heap.size w w'
/-- A background stays where another block changes. -/
theorem FHas.row {w : World} {A T : Option Addr} {F : Fld} {fa ft : List Nat} (h : FHas w A T F fa ft) {b : Nat} (hb : b ∉ fa ++ ft) (cs : Array Value) : FHas (w.setRow b cs) A T F fa ft := by
  have o : Only [b] w (w.setRow b cs) := (Only.refl _ _).row (.inl (by simp)) _
  have s : Same (fa ++ ft) w (w.setRow b cs) := .of_only o fun x hx hs => by
    simp at hs; subst hs; exact hb hx
  exact ⟨h.1.keep (s.sub fun x hx => List.mem_append_left _ hx), h.2.keep (s.sub fun x hx => List.mem_append_right _ hx)⟩
/-- A background stays where only older blocks change. -/
theorem FHas.stay {w0 w w' : World} {A T : Option Addr} {F : Fld} {fa ft : List Nat} {L : Nat} {S : List Nat} (h : FHas w A T F fa ft) (n : New L w0 (fa ++ ft)) (o : Only S w w') (hS : ∀ b ∈ S, b < L) : FHas w' A T F fa ft := by
  have s : Same (fa ++ ft) w w' := .of_only o fun x hx hs => by
    have h1 := (n.lt x hx).1
    have h2 := hS x hs
    omega
  exact ⟨h.1.keep (s.sub fun x hx => List.mem_append_left _ hx), h.2.keep (s.sub fun x hx => List.mem_append_right _ hx)⟩
theorem exec_loadF (ρ : Operand → Value) (o : Oper) (x : Operand) (w : World) (b : Nat) {t : TypeId} {W : Int} {A : Option Addr} {n c : Nat} {Tt : Option Addr} {m d : Nat} {sx sy : Int} (hop : o.op = .load 33 x) (hx : ρ x = .pointer (some ⟨b, 0, none⟩)) (hb : Box w b t (fcs W A n c Tt m d sx sy)) :
    (execOp ρ o).run Try.prog w = .ok (.value (fldV W A n c Tt m d sx sy)) w := by
  have hl := run_loadVar_row (P := Try.prog) w b t 33 (fcs W A n c Tt m d sx sy).toArray (0, 0) _ hb Try.underlying33 rfl fld_info
  unfold execOp
  simp only [hop, hx, Instr.loadAt, Instr.sureAddr, Sem.run_bind, Sem.run_pure, Result.andThen_ok, hl]
/-- What a function with a background and one or two values for its results hands back. -/
theorem fld_ret2 {fn : Func} {p u : Tmp} {tmps : Array Value} {w : World} {b : Nat} {t : TypeId} {W : Int} {A : Option Addr} {n c : Nat} {T : Option Addr} {m d : Nat} {sx sy : Int} (hr : fn.results = #[.cell p 33, .tmp u]) (hp : tmps.getD p undef = .pointer (some ⟨b, 0, none⟩)) (hb : Box w b t (fcs W A n c T m d sx sy)) (x : Value) (hx : tmps.getD u undef = x) : (results fn tmps).run Try.prog w = .ok (.tuple #[fldV W A n c T m d sx sy, x]) w := by
  subst hx
  have hp' : tmps[p]?.getD undef = .pointer (some ⟨b, 0, none⟩) := by simpa using hp
  have h1 := run_loadVar_row (P := Try.prog) w b t 33 (fcs W A n c T m d sx sy).toArray (0, 0) _ hb Try.underlying33 rfl fld_info
  simp only [results, hr]
  simp [hp', asAddr, h1, Result.andThen]
theorem fld_ret3 {fn : Func} {p u v : Tmp} {tmps : Array Value} {w : World} {b : Nat} {t : TypeId} {W : Int} {A : Option Addr} {n c : Nat} {T : Option Addr} {m d : Nat} {sx sy : Int} (hr : fn.results = #[.cell p 33, .tmp u, .tmp v]) (hp : tmps.getD p undef = .pointer (some ⟨b, 0, none⟩)) (hb : Box w b t (fcs W A n c T m d sx sy)) (x y : Value) (hx : tmps.getD u undef = x) (hy : tmps.getD v undef = y) : (results fn tmps).run Try.prog w = .ok (.tuple #[fldV W A n c T m d sx sy, x, y]) w := by
  subst hx hy
  have hp' : tmps[p]?.getD undef = .pointer (some ⟨b, 0, none⟩) := by simpa using hp
  have h1 := run_loadVar_row (P := Try.prog) w b t 33 (fcs W A n c T m d sx sy).toArray (0, 0) _ hb Try.underlying33 rfl fld_info
  simp only [results, hr]
  simp [hp', asAddr, h1, Result.andThen]
theorem setAll_fld {b : Nat} {t : TypeId} : ∀ (vs pre cs : List Value) (w : World), Box w b t (pre ++ cs) → cs.length = vs.length → setAll w b pre.length vs = w.setRow b (pre ++ vs).toArray
  | [], pre, cs, w, h, hl => by
    obtain rfl : cs = [] := List.length_eq_zero_iff.1 hl
    show w = _
    simpa using (setRow_self w b pre.toArray t (0, 0) (by simpa [Box] using h)).symm
  | v :: r, pre, cs, w, h, hl => by
    match cs, hl with
    | c :: cs', hl =>
      have h1 := h.set pre.length v
      rw [List.set_append_right _ _ (Nat.le_refl _), Nat.sub_self, List.set_cons_zero] at h1
      have h2 := setAll_fld r (pre ++ [v]) cs' _ (by simpa using h1) (by simpa using hl)
      have h3 := setCell_eq_setRow w b pre.length (pre ++ c :: cs').toArray t (0, 0) v h
      simp only [setAll]
      rw [show pre.length + 1 = (pre ++ [v]).length by simp, h2, h3, setRow_setRow]
      simp
theorem plain_fcs {W : Int} {A : Option Addr} {n c : Nat} {T : Option Addr} {m d : Nat} {sx sy : Int} : ∀ v ∈ fcs W A n c T m d sx sy, plainV v := by
  intro v hv z
  simp [fcs] at hv
  rcases hv with rfl | rfl | rfl | rfl | rfl <;> simp
end Go.Proofs.Ytddllcgbdgpkbaa
