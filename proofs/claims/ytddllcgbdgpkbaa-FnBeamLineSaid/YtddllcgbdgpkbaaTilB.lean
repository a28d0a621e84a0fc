/- Whole tiles loaded, stored, made and handed back: one step each. -/
import Derived.Test.YtddllcgbdgpkbaaTilA
import Derived.ChangeKeysEq
namespace Go.Proofs.Ytddllcgbdgpkbaa
open Go.ChangeShapes Go.WideShapes Go.ChangeAt Go.RowKit
set_option linter.unusedVariables false

/-- The tile of zeros. -/
def z64 : List Int := List.replicate 64 0
theorem z64_len : z64.length = 64 := by simp [z64]
theorem z64_get (i : Nat) : z64.getD i 0 = 0 := by
  unfold z64
  rw [List.getD_eq_getElem?_getD, List.getElem?_replicate]
  split <;> rfl
theorem z64_valid : tilB z64 = true := by rw [tilB_iff]; intro i _; rw [z64_get]; rfl
theorem til_info : (Try.prog.info? 74).map (·.size) = some 64 := by kernel_rfl
theorem iv_len (px : List Int) (hp : px.length = 64) : (iv px).toArray.size = 64 := by simp [hp]
theorem iv_all (px : List Int) : (iv px).toArray.all (·.oneCell') = true := by
  rw [Array.all_eq_true_iff_forall_mem]
  intro x hx
  exact iv_one px x (by simpa using hx)
theorem Box.row {w : World} {b : Nat} {t : TypeId} {cs ds : List Value} (h : Box w b t cs) : Box (w.setRow b ds.toArray) b t ds := by
  have := setRow_heap w b cs.toArray ds.toArray t (0, 0) h
  simpa [Box] using this
theorem Box.rowFar {w : World} {b g : Nat} {t : TypeId} {cs : List Value} {ds : Array Value} (h : Box w b t cs) (hb : b ≠ g) : Box (w.setRow g ds) b t cs := (setRow_other w g b ds hb).trans h
theorem below_row {B : Nat} {a w : World} (h : Below B a w) {g : Nat} (hg : B ≤ g) (cs : Array Value) : Below B a (w.setRow g cs) :=
  ⟨h.os, h.tape, h.output, by simpa using h.size, fun k hk => (setRow_other w g k cs (by omega)).trans (h.block k hk)⟩
theorem Only.row {S : List Nat} {a w : World} (h : Only S a w) {g : Nat} (hg : g ∈ S ∨ a.heap.size ≤ g) (cs : Array Value) : Only S a (w.setRow g cs) :=
  ⟨h.os, h.tape, h.output, by simpa using h.size, fun k hk hn => (setRow_other w g k cs (by rcases hg with hg | hg; · intro e; subst e; exact hn hg
                                                                                            · omega)).trans (h.block k hk hn)⟩
section
variable {ops : Array Oper} {rest : List Oper} {o : Oper} {a : Act} {w : World} {Q : Exit → Act → World → Prop}
theorem st_load {t : TypeId} (hw : Region.wanted o (yielded ops a.tmps) = true) (x : Operand) (ho : o.op = .load 74 x) (b : Nat) (hx : a.eval x = .pointer (some ⟨b, 0, none⟩)) (px : List Int) (hp : px.length = 64) (hb : Box w b t (iv px))
    (h : wpList Try.prog ops Q rest (a.put o.dst (tilV px)) w) : wpList Try.prog ops Q (o :: rest) a w :=
  wpList_step fun K hK => by
    rw [if_pos hw]
    exact wp_load_row _ x ho b hx t (iv px).toArray (0, 0) _ hb Try.underlying74 rfl (by rw [iv_len px hp]; exact til_info) (hK _ _ h)
theorem st_store {t : TypeId} (hw : Region.wanted o (yielded ops a.tmps) = true) (x y : Operand) (ho : o.op = .store 74 x y) (b : Nat) (hx : a.eval x = .pointer (some ⟨b, 0, none⟩)) (px : List Int) (hy : a.eval y = tilV px) (hp : px.length = 64) (cs : List Value) (hb : Box w b t cs) (hc : cs.length = 64)
    (h : wpList Try.prog ops Q rest (a.put o.dst undef) (w.setRow b (iv px).toArray)) : wpList Try.prog ops Q (o :: rest) a w :=
  wpList_step fun K hK => by
    rw [if_pos hw]
    exact wp_store_row _ x y ho b (iv px).toArray hx hy t cs.toArray hb (by rw [iv_len px hp]; exact til_info) (by rw [iv_len px hp]; simpa using hc) (iv_all px) (hK _ _ h)
theorem til_built : Try.prog.built 74 [] = some (iv z64).toArray := by kernel_rfl
theorem st_build (hw : Region.wanted o (yielded ops a.tmps) = true) (ho : o.op = .build 74 #[])
    (h : wpList Try.prog ops Q rest (a.put o.dst (tilV z64)) w) : wpList Try.prog ops Q (o :: rest) a w :=
  wpList_step fun K hK => by
    rw [if_pos hw]
    have e : Try.prog.built 74 ((#[] : Array (Nat × Operand)).map fun (i, x) => (i, a.eval x)).toList = some (iv z64).toArray := by rw [Array.map_empty]; exact til_built
    exact wp_build _ #[] ho (by rw [e]; rfl) (by rw [e]; exact hK _ _ h)
theorem run_allocTil (w : World) : (Instr.alloc 74 true (.tuple #[])).run Try.prog w = .ok (.pointer (some ⟨w.heap.size, 0, none⟩)) (w.alloc (.cells (iv z64).toArray 74)) := by
  have e : (iv z64).toArray = #[.int .i64 0, .int .i64 0, .int .i64 0, .int .i64 0, .int .i64 0, .int .i64 0, .int .i64 0, .int .i64 0, .int .i64 0, .int .i64 0, .int .i64 0, .int .i64 0, .int .i64 0, .int .i64 0, .int .i64 0, .int .i64 0, .int .i64 0, .int .i64 0, .int .i64 0, .int .i64 0, .int .i64 0, .int .i64 0, .int .i64 0, .int .i64 0, .int .i64 0, .int .i64 0, .int .i64 0, .int .i64 0, .int .i64 0, .int .i64 0, .int .i64 0, .int .i64 0, .int .i64 0, .int .i64 0, .int .i64 0, .int .i64 0, .int .i64 0, .int .i64 0, .int .i64 0, .int .i64 0, .int .i64 0, .int .i64 0, .int .i64 0, .int .i64 0, .int .i64 0, .int .i64 0, .int .i64 0, .int .i64 0, .int .i64 0, .int .i64 0, .int .i64 0, .int .i64 0, .int .i64 0, .int .i64 0, .int .i64 0, .int .i64 0, .int .i64 0, .int .i64 0, .int .i64 0, .int .i64 0, .int .i64 0, .int .i64 0, .int .i64 0, .int .i64 0] := by kernel_rfl
  rw [e]
  go_simp
theorem st_alloc (hw : Region.wanted o (yielded ops a.tmps) = true) (ho : o.op = .alloc 74)
    (h : wpList Try.prog ops Q rest (a.put o.dst (.pointer (some ⟨w.heap.size, 0, none⟩))) (w.alloc (.cells (iv z64).toArray 74))) : wpList Try.prog ops Q (o :: rest) a w :=
  wpList_step fun K hK => by
    rw [if_pos hw]
    unfold Oper.wp execOp
    simp only [ho, Sem.run_bind, run_allocTil, Result.andThen_ok, Sem.run_pure]
    exact hK _ _ h
end
/-- What a function with one tile for its result hands back. -/
theorem til_ret {fn : Func} {p : Tmp} {tmps : Array Value} {w : World} {b : Nat} {t : TypeId} {px : List Int} (hr : fn.results = #[.cell p 74]) (hp : tmps.getD p undef = .pointer (some ⟨b, 0, none⟩)) (hb : Box w b t (iv px)) (hl : px.length = 64) : (results fn tmps).run Try.prog w = .ok (tilV px) w :=
  results_cell_row hr tmps w b t (iv px).toArray (0, 0) _ hp hb Try.underlying74 rfl (by rw [iv_len px hl]; exact til_info)
end Go.Proofs.Ytddllcgbdgpkbaa
