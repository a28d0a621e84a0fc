/- Tiles compared. -/
import Derived.Test.YtlppmcflgbeolaaTilB
import Derived.ChangeKeysEq
import Derived.Laws.StructEq
namespace Go.Proofs.Ytlppmcflgbeolaa
open Go.ChangeShapes Go.WideShapes Go.ChangeAt Go.RowKit
set_option linter.unusedVariables false

/-- Whether two lists agree at these places. -/
def sameAt (xs ys : List Int) (is : List Nat) : Bool := is.all fun i => xs.getD i 0 == ys.getD i 0
theorem sameAt_64 {xs ys : List Int} (hx : xs.length = 64) (hy : ys.length = 64) : sameAt xs ys (List.range 64) = decide (xs = ys) := by
  rw [Bool.eq_iff_iff, decide_eq_true_eq]
  unfold sameAt
  rw [List.all_eq_true]
  constructor
  · intro h
    apply List.ext_getElem (by omega)
    intro i h1 h2
    have := h i (by simp; omega)
    simpa [List.getD_eq_getElem?_getD, List.getElem?_eq_getElem h1, List.getElem?_eq_getElem h2] using this
  · rintro rfl i _
    simp
theorem int_keys : Try.prog.plainKey 3 = true := by kernel_rfl
theorem int_cells : Try.prog.cellsOf 3 = 1 := by kernel_rfl
theorem int_info : ∃ i, Try.prog.info? 3 = some i := by
  have h : (Try.prog.info? 3).isSome = true := by kernel_rfl
  exact Option.isSome_iff_exists.1 h
theorem part_int (xs : List Int) (i : Nat) (hi : i < xs.length) (w : World) : (part 3 (iv xs).toArray (i * 1)).run Try.prog w = .ok (.int .i64 (xs.getD i 0)) w :=
  run_part_plain w int_keys (by rw [Nat.mul_one]; simpa using iv_at xs i hi)
theorem items_ints (d : Nat) (xs ys : List Int) (w : World) : ∀ is : List Nat, (∀ i ∈ is, i < xs.length ∧ i < ys.length) → (Op.eqItems (d + 1) 3 1 (iv xs).toArray (iv ys).toArray is).run Try.prog w = .ok (sameAt xs ys is) w
  | [], _ => by simp [Op.eqItems, sameAt]
  | i :: is, h => by
    obtain ⟨h1, h2⟩ := h i (by simp)
    have ih := items_ints d xs ys w is fun j hj => h j (by simp [hj])
    simp only [Op.eqItems, Sem.run_bind, part_int xs i h1, part_int ys i h2, Result.andThen_ok, run_equalIn_int w d 3 .i64 .i64 _ _ Try.underlying3]
    have e : sameAt xs ys (i :: is) = ((xs.getD i 0 == ys.getD i 0) && sameAt xs ys is) := by simp [sameAt]
    rw [e]
    cases hb : (xs.getD i 0 == ys.getD i 0)
    · simp
    · simpa using ih
theorem equal_arr (d : Nat) (xs ys : List Int) (hx : xs.length = 64) (hy : ys.length = 64) (w : World) : (Op.equalIn (d + 2) 40 (.agg (iv xs).toArray) (.agg (iv ys).toArray)).run Try.prog w = .ok (decide (xs = ys)) w := by
  obtain ⟨i, hi⟩ := int_info
  rw [run_equalIn_array w (d + 1) _ _ Try.underlying40 hi, int_cells, items_ints d xs ys w _ (by simp; omega), sameAt_64 hx hy]
theorem part_til (xs : List Int) (hx : xs.length = 64) (w : World) : (part 40 (iv xs).toArray 0).run Try.prog w = .ok (.agg (iv xs).toArray) w := by
  have h : ((iv xs).toArray.extract 0 (0 + 64)) = (iv xs).toArray := by
    rw [Nat.zero_add, ← iv_len xs hx, Array.extract_size]
  unfold part
  simp only [Sem.run_bind, Try.isAgg40, Try.sizeOf40, Result.andThen_ok, if_true, h, Sem.run_pure]
theorem til_fields : ∃ f : Field, (Try.prog.fieldsOf 42).toList = [f] ∧ f.name ≠ "_" ∧ f.type = 40 ∧ f.offset = 0 := by
  have h : (match (Try.prog.fieldsOf 42).toList with | [f] => f.name != "_" && (f.type == 40 && f.offset == 0) | _ => false) = true := by kernel_rfl
  match e : (Try.prog.fieldsOf 42).toList, h with
  | [f], h =>
    simp only [Bool.and_eq_true, bne_iff_ne, beq_iff_eq] at h
    exact ⟨f, rfl, h.1, h.2.1, h.2.2⟩
theorem equal_til (d : Nat) (xs ys : List Int) (hx : xs.length = 64) (hy : ys.length = 64) (w : World) : (Op.equalIn (d + 3) 42 (tilV xs) (tilV ys)).run Try.prog w = .ok (decide (xs = ys)) w := by
  obtain ⟨f, hf, h1, h2, h3⟩ := til_fields
  rw [run_equalIn_agg w (d + 2) _ _ _ (by kernel_rfl) (by kernel_rfl), hf]
  simp only [Op.eqFields]
  rw [if_pos h1, h2, h3]
  simp only [Sem.run_bind, part_til xs hx, part_til ys hy, Result.andThen_ok, equal_arr d xs ys hx hy]
  cases decide (xs = ys) <;> simp
section
variable {ops : Array Oper} {rest : List Oper} {o : Oper} {a : Act} {w : World} {Q : Exit → Act → World → Prop}
theorem exec_tilEql (ρ : Operand → Value) (o : Oper) (x y : Operand) (ty : TypeId) (xs ys : List Int) (hx : xs.length = 64) (hy : ys.length = 64) (ho : o.op = .binOp .eql 42 x y ty) (h1 : ρ x = tilV xs) (h2 : ρ y = tilV ys) (w : World) : (execOp ρ o).run Try.prog w = .ok (.value (.bool (decide (xs = ys)))) w := by
  have hg := run_eqGuard_agg (P := Try.prog) w .eql 42 x y (iv xs).toArray (iv ys).toArray (by kernel_rfl)
  have he := run_eql_struct (P := Try.prog) w 42 (iv xs).toArray (iv ys).toArray
  have hv := equal_til 9997 xs ys hx hy w
  unfold execOp
  simp only [ho, h1, h2, Sem.run_bind, hg, he, hv, Result.andThen_ok, Sem.run_pure]
theorem exec_tilNeq (ρ : Operand → Value) (o : Oper) (x y : Operand) (ty : TypeId) (xs ys : List Int) (hx : xs.length = 64) (hy : ys.length = 64) (ho : o.op = .binOp .neq 42 x y ty) (h1 : ρ x = tilV xs) (h2 : ρ y = tilV ys) (w : World) : (execOp ρ o).run Try.prog w = .ok (.value (.bool (!decide (xs = ys)))) w := by
  have hg := run_eqGuard_agg (P := Try.prog) w .neq 42 x y (iv xs).toArray (iv ys).toArray (by kernel_rfl)
  have he := run_neq_struct (P := Try.prog) w 42 (iv xs).toArray (iv ys).toArray
  have hv := equal_til 9997 xs ys hx hy w
  unfold execOp
  simp only [ho, h1, h2, Sem.run_bind, hg, he, hv, Result.andThen_ok, Sem.run_pure]
theorem st_eql (hw : Region.wanted o (yielded ops a.tmps) = true) (x y : Operand) (ty : TypeId) (ho : o.op = .binOp .eql 42 x y ty) (xs ys : List Int) (h1 : a.eval x = tilV xs) (h2 : a.eval y = tilV ys) (hx : xs.length = 64) (hy : ys.length = 64) (r : Bool) (hr : decide (xs = ys) = r)
    (h : wpList Try.prog ops Q rest (a.put o.dst (.bool r)) w) : wpList Try.prog ops Q (o :: rest) a w :=
  wpList_step fun K hK => by
    rw [if_pos hw]
    unfold Oper.wp
    rw [exec_tilEql a.eval o x y ty xs ys hx hy ho h1 h2 w, hr]
    exact hK _ _ h
theorem st_neq (hw : Region.wanted o (yielded ops a.tmps) = true) (x y : Operand) (ty : TypeId) (ho : o.op = .binOp .neq 42 x y ty) (xs ys : List Int) (h1 : a.eval x = tilV xs) (h2 : a.eval y = tilV ys) (hx : xs.length = 64) (hy : ys.length = 64) (r : Bool) (hr : (!decide (xs = ys)) = r)
    (h : wpList Try.prog ops Q rest (a.put o.dst (.bool r)) w) : wpList Try.prog ops Q (o :: rest) a w :=
  wpList_step fun K hK => by
    rw [if_pos hw]
    unfold Oper.wp
    rw [exec_tilNeq a.eval o x y ty xs ys hx hy ho h1 h2 w, hr]
    exact hK _ _ h
end
end Go.Proofs.Ytlppmcflgbeolaa
