/- Arrays of numbers held by value: loads, stores and indexes as one step each, at any place of a block. -/
import Derived.Test.YtkglocdmpfjafaaTilB
import Derived.Lib.Tables
namespace Go.Proofs.Ytkglocdmpfjafaa
open Go.ChangeShapes Go.WideShapes Go.ChangeAt Go.RowKit
set_option linter.unusedVariables false

theorem add_none (b o j : Nat) : (⟨b, o, none⟩ : Addr).add j = ⟨b, o + j, none⟩ := by unfold Addr.add; split <;> simp_all
def aggD : TypeDesc → Bool
  | .struct _ => true
  | .array _ _ => true
  | _ => false
section
variable {P : Program}
/-- A whole array or struct out of a place of a block. -/
theorem run_loadVar_part (w : World) (g off : Nat) (t ty : TypeId) (cs ds : List Value) (d : TypeDesc) (hg : Box w g t cs)
    (hu : P.underlying ty = some d) (hd : aggD d = true) (hi : (P.info? ty).map (·.size) = some ds.length)
    (hs : ∀ j v, ds[j]? = some v → cs[off + j]? = some v) :
    (loadVar ty ⟨g, off, none⟩).run P w = .ok (.agg ds.toArray) w := by
  have hl : (loadCells ⟨g, off, none⟩ ds.length).run P w = .ok ds.toArray w :=
    run_loadCells_list (P := P) w ⟨g, off, none⟩ ds (fun j v hv => by
      rw [add_none, hg.cell]
      exact hs j v hv)
  cases hq : P.info? ty with
  | none => simp [hq] at hi
  | some i =>
    have hsz : i.size = ds.length := by simpa [hq] using hi
    have hagg : (isAgg ty).run P w = .ok true w := by
      unfold isAgg
      rw [Sem.run_bind, run_underlying hu w]
      cases d <;> simp_all [go_sem, aggD]
    have hso : (sizeOf ty).run P w = .ok ds.length w := by simp [sizeOf, typeInfo, hq, hsz]
    simp [loadVar, Sem.run_bind, hagg, hso, hl]
/-- An entry of an array by value. -/
theorem run_index_row (w : World) (t e : TypeId) (n : Nat) (cs : Array Value) (k : IntKind) (i : Nat) (v : Value) (hu : P.underlying t = some (.array n e)) (he : ∀ w, (isAgg e).run P w = .ok false w) (hz : (P.info? e).map (·.size) = some 1)
    (hi : i < n) (hc : cs[i]? = some v) : (Instr.index t (.agg cs) (.int k (i : Int))).run P w = .ok v w := by
  have hso : (sizeOf e).run P w = .ok 1 w := by
    cases hq : P.info? e with
    | none => simp [hq] at hz
    | some q => simp [hq] at hz; simp [sizeOf, typeInfo, hq, hz]
  have hlt : 0 ≤ (i : Int) ∧ (i : Int) < n := by omega
  have hni : ¬ n ≤ i := by omega
  simp [Instr.index, run_underlying hu, asIntOf, hlt, hso, part, he, hc, hni, go_sem]
/-- An entry of an array of arrays by value: a part of the cells. -/
theorem run_index_rows (w : World) (t e : TypeId) (n m : Nat) (cs : Array Value) (k : IntKind) (i : Nat) (hu : P.underlying t = some (.array n e)) (he : ∀ w, (isAgg e).run P w = .ok true w) (hz : (P.info? e).map (·.size) = some m)
    (hi : i < n) : (Instr.index t (.agg cs) (.int k (i : Int))).run P w = .ok (.agg (cs.extract (i * m) (i * m + m))) w := by
  have hso : (sizeOf e).run P w = .ok m w := by
    cases hq : P.info? e with
    | none => simp [hq] at hz
    | some q => simp [hq] at hz; simp [sizeOf, typeInfo, hq, hz]
  have hlt : 0 ≤ (i : Int) ∧ (i : Int) < n := by omega
  have hni : ¬ n ≤ i := by omega
  simp [Instr.index, run_underlying hu, asIntOf, hlt, hso, part, he, hni, go_sem]
end
/-- The type of n cells that are held by value. -/
structure ArrTy (ty : TypeId) (n : Nat) : Prop where
  agg : ∃ d, Try.prog.underlying ty = some d ∧ aggD d = true
  info : (Try.prog.info? ty).map (·.size) = some n
section
variable {ops : Array Oper} {rest : List Oper} {o : Oper} {a : Act} {w : World} {Q : Exit → Act → World → Prop} {ty : TypeId} {n : Nat}
theorem sa_load (A : ArrTy ty n) (hw : Region.wanted o (yielded ops a.tmps) = true) (x : Operand) (ho : o.op = .load ty x) (b off : Nat) (hx : a.eval x = .pointer (some ⟨b, off, none⟩)) (t : TypeId) (cs ds : List Value) (hb : Box w b t cs) (hl : ds.length = n)
    (hs : ∀ j v, ds[j]? = some v → cs[off + j]? = some v) (h : wpList Try.prog ops Q rest (a.put o.dst (.agg ds.toArray)) w) : wpList Try.prog ops Q (o :: rest) a w :=
  wpList_step fun K hK => by
    rw [if_pos hw]
    obtain ⟨d, hu, hd⟩ := A.agg
    unfold Oper.wp execOp
    simp only [ho, hx, Instr.loadAt, Instr.sureAddr, Sem.run_bind, Sem.run_pure, Result.andThen_ok, run_loadVar_part w b off t ty cs ds d hb hu hd (by rw [hl]; exact A.info) hs]
    exact hK _ _ h
theorem sa_store (A : ArrTy ty n) (hw : Region.wanted o (yielded ops a.tmps) = true) (x y : Operand) (ho : o.op = .store ty x y) (b : Nat) (hx : a.eval x = .pointer (some ⟨b, 0, none⟩)) (t : TypeId) (cs ds : List Value) (hy : a.eval y = .agg ds.toArray) (hb : Box w b t cs) (hc : cs.length = n) (hl : ds.length = n) (h1 : ds.toArray.all (·.oneCell') = true)
    (h : wpList Try.prog ops Q rest (a.put o.dst undef) (w.setRow b ds.toArray)) : wpList Try.prog ops Q (o :: rest) a w :=
  wpList_step fun K hK => by
    rw [if_pos hw]
    exact wp_store_row _ x y ho b ds.toArray hx hy t cs.toArray hb (by rw [List.size_toArray, hl]; exact A.info) (by simp [hc, hl]) h1 (hK _ _ h)
end
/-- What a function with one array for its result hands back. -/
theorem arr_ret {ty : TypeId} {n : Nat} (A : ArrTy ty n) {fn : Func} {p : Tmp} {tmps : Array Value} {w : World} {b : Nat} {t : TypeId} {cs : List Value} (hr : fn.results = #[.cell p ty]) (hp : tmps.getD p undef = .pointer (some ⟨b, 0, none⟩)) (hb : Box w b t cs) (hl : cs.length = n) : (results fn tmps).run Try.prog w = .ok (.agg cs.toArray) w := by
  obtain ⟨d, hu, hd⟩ := A.agg
  exact results_cell_row hr tmps w b t cs.toArray (0, 0) d hp hb hu (by cases d <;> first | rfl | (simp [aggD] at hd)) (by rw [List.size_toArray, hl]; exact A.info)
theorem int_none (w : World) : (isAgg 3).run Try.prog w = .ok false w := by
  have h : Try.prog.underlying 3 = some (.int .i64) := by kernel_rfl
  unfold isAgg
  rw [Sem.run_bind, run_underlying h w]; rfl
theorem int_size : (Try.prog.info? 3).map (·.size) = some 1 := by kernel_rfl
end Go.Proofs.Ytkglocdmpfjafaa
