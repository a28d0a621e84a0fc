import Derived.Test.YtacebhncecninaaGB
import Derived.Laws.Bits64
import Derived.Test.YtacebhncecninaaGD
import Derived.Test.YtacebhncecninaaGF
import Derived.Laws.CopyRow
import Derived.Test.YtacebhncecninaaGC

section
/- The model's turned tiles and used values. -/
namespace Go.Proofs.Ytacebhncecninaa
open Go.ChangeShapes Go.WideShapes Go.ChangeAt Go.RowKit
set_option linter.unusedVariables false

/-- The place that a turn takes pixel i from; the place to which it brings pixel k. -/
def turnG (i : Nat) : Nat := 8 * (7 - i % 8) + i / 8
def turnP (k : Nat) : Nat := k % 8 * 8 + (7 - k / 8)
theorem turnG_iff (k i : Nat) (hk : k < 64) (hi : i < 64) : turnG i = k ↔ i = turnP k := by unfold turnG turnP; omega
theorem turnP_lt (k : Nat) (hk : k < 64) : turnP k < 64 := by unfold turnP; omega
theorem turnG_lt (k : Nat) (hk : k < 64) : turnG k < 64 := by unfold turnG; omega
def turnT (px : List Int) : List Int := if tilB px = true then mkT turnG (fun i => px.getD (turnG i) 0) 64 else z64
end Go.Proofs.Ytacebhncecninaa
end

section
/- Which values a tile uses: the model's function. -/
namespace Go.Proofs.Ytacebhncecninaa
open Go.ChangeShapes Go.WideShapes Go.ChangeAt Go.RowKit
set_option linter.unusedVariables false

/-- The values of the first k pixels, as digits. -/
def usedU (px : List Int) : Nat → Nat
  | 0 => 0
  | k + 1 => usedU px k ||| 2 ^ (px.getD k 0).toNat
def usedT (px : List Int) : Int := if tilB px = true then (usedU px 64 : Int) else 0
theorem til_px {px : List Int} (hp : px.length = 64) (hv : tilB px = true) (k : Nat) (hk : k < 64) : 0 ≤ px.getD k 0 ∧ px.getD k 0 ≤ 3 := betB_yes (tilB_iff.1 hv k (by omega))
theorem usedU_lt {px : List Int} (hp : px.length = 64) (hv : tilB px = true) : ∀ k, k ≤ 64 → usedU px k < 16
  | 0, _ => by simp [usedU]
  | k + 1, h => by
    have ih := usedU_lt hp hv k (by omega)
    obtain ⟨x0, x1⟩ := til_px hp hv k (by omega)
    have h2 : 2 ^ (px.getD k 0).toNat < 2 ^ 4 := Nat.pow_lt_pow_right (by omega) (by omega)
    exact Nat.or_lt_two_pow (n := 4) ih h2
theorem or_64 (a b : Nat) (ha : a < 9223372036854775808) (hb : b < 9223372036854775808) : bits .or .i64 (a : Int) (b : Int) = ((a ||| b : Nat) : Int) := by
  have e : ∀ x : Nat, x < 9223372036854775808 → (BitVec.ofInt 64 (x : Int)).toNat = x := fun x hx => by
    rw [BitVec.ofInt_natCast, BitVec.toNat_ofNat]; exact Nat.mod_eq_of_lt (by omega)
  have hx : a ||| b < 2 ^ 63 := Nat.or_lt_two_pow (by omega) (by omega)
  show IntKind.i64.wrap ((BitVec.ofInt 64 (a : Int) ||| BitVec.ofInt 64 (b : Int)).toNat : Int) = _
  rw [BitVec.toNat_or, e a ha, e b hb, IntKind.wrap_i64]
  omega
end Go.Proofs.Ytacebhncecninaa
end

section
/- A tile's bytes: the model's function. -/
namespace Go.Proofs.Ytacebhncecninaa
open Go.ChangeShapes Go.WideShapes Go.ChangeAt Go.RowKit
set_option linter.unusedVariables false

theorem lone_cell (w : World) (u : Int) : Ints (w.alloc (.cells #[.int .i64 u] 3)) (some ⟨w.heap.size, 0, none⟩) 1 [u] [w.heap.size] := by
  refine ⟨rfl, .inr ⟨by omega, w.heap.size, 0, rfl, rfl, by simp, fun i hi => ?_⟩⟩
  obtain rfl : i = 0 := by omega
  rw [World.cell?_alloc_new]
  rfl
/-- The first x digits of the k-th byte of a tile. -/
def plane (px : List Int) (k : Nat) : Nat → Int
  | 0 => 0
  | x + 1 => 2 * plane px k x + px.getD (k % 8 * 8 + x) 0 / 2 ^ (k / 8) % 2
theorem plane_bd (px : List Int) (k : Nat) : ∀ x, 0 ≤ plane px k x ∧ plane px k x < 2 ^ x
  | 0 => by simp [plane]
  | x + 1 => by
    have ih := plane_bd px k x
    have e : (2 : Int) ^ (x + 1) = 2 * 2 ^ x := by rw [Int.pow_succ]; omega
    unfold plane
    omega
theorem plane_255 (px : List Int) (k x : Nat) (hx : x ≤ 8) : 0 ≤ plane px k x ∧ plane px k x ≤ 255 := by
  obtain ⟨h0, h1⟩ := plane_bd px k x
  have h2 : (2 : Int) ^ x ≤ 2 ^ 8 := by
    have := Nat.pow_le_pow_right (show 0 < 2 by omega) hx
    exact_mod_cast this
  omega
def bytT (px : List Int) : List Int := (List.range 16).map fun k => plane px k 8
theorem bytT_len (px : List Int) : (bytT px).length = 16 := by simp [bytT]
theorem bytT_get (px : List Int) (k : Nat) (hk : k < 16) : (bytT px).getD k 0 = plane px k 8 := by
  unfold bytT
  rw [List.getD_eq_getElem?_getD, List.getElem?_map, List.getElem?_range hk]
  rfl
theorem bytT_take (px : List Int) (k : Nat) (hk : k < 16) : (bytT px).take (k + 1) = (bytT px).take k ++ [plane px k 8] := by
  rw [List.take_succ_eq_append_getElem (by rw [bytT_len]; exact hk)]
  congr 2
  have := bytT_get px k hk
  rwa [List.getD_eq_getElem?_getD, List.getElem?_eq_getElem (by rw [bytT_len]; exact hk)] at this
/-- The bytes of a valid tile; none of another. -/
def bytesT (px : List Int) : List Int := if tilB px = true then bytT px else []
end Go.Proofs.Ytacebhncecninaa
end

section
/- Tiles that the laws draw. -/
namespace Go.Proofs.Ytacebhncecninaa
open Go.ChangeShapes Go.WideShapes Go.ChangeAt Go.RowKit
set_option linter.unusedVariables false

theorem setAll_row {b : Nat} {t : TypeId} : ∀ (vs pre cs : List Value) (w : World), Box w b t (pre ++ cs) → cs.length = vs.length → setAll w b pre.length vs = w.setRow b (pre ++ vs).toArray
  | [], pre, cs, w, h, hl => by
    obtain rfl : cs = [] := List.length_eq_zero_iff.1 hl
    show w = _
    simpa using (setRow_self w b pre.toArray t (0, 0) (by simpa [Box] using h)).symm
  | v :: r, pre, cs, w, h, hl => by
    match cs, hl with
    | c :: cs', hl =>
      have h1 := h.set pre.length v
      rw [List.set_append_right _ _ (Nat.le_refl _), Nat.sub_self, List.set_cons_zero] at h1
      have h2 := setAll_row r (pre ++ [v]) cs' _ (by simpa using h1) (by simpa using hl)
      have h3 := setCell_eq_setRow w b pre.length (pre ++ c :: cs').toArray t (0, 0) v h
      simp only [setAll]
      rw [show pre.length + 1 = (pre ++ [v]).length by simp, h2, h3, setRow_setRow]
      simp
theorem exec_tilLoad {w : World} {b : Nat} {t : TypeId} {px : List Int} (hp : px.length = 64) (hb : Box w b t (iv px)) : (Instr.loadAt 57 (.pointer (some ⟨b, 0, none⟩))).run Try.prog w = .ok (tilV px) w := by
  simp only [Instr.loadAt, Instr.sureAddr, Sem.run_bind, Sem.run_pure, Result.andThen_ok]
  exact run_loadVar_row w b t _ (iv px).toArray (0, 0) _ hb Try.underlying57 rfl (by rw [iv_len px hp]; exact til_info)
theorem exec_tilStore {w : World} {b : Nat} {t : TypeId} {px : List Int} {cs : List Value} (hp : px.length = 64) (hb : Box w b t cs) (hc : cs.length = 64) : (Instr.storeAt 57 (.pointer (some ⟨b, 0, none⟩)) (tilV px)).run Try.prog w = .ok () (w.setRow b (iv px).toArray) := by
  simp only [Instr.storeAt, Instr.sureAddr, Sem.run_bind, Sem.run_pure, Result.andThen_ok]
  exact run_storeVar_row w b t _ cs.toArray (iv px).toArray hb (by rw [iv_len px hp]; exact til_info) (by rw [iv_len px hp]; simpa using hc) (iv_all px)
/-- What a function with a tile and two values for its results hands back. -/
theorem til_ret3 {fn : Func} {p u v : Tmp} {tmps : Array Value} {w : World} {b : Nat} {t : TypeId} {px : List Int} (hr : fn.results = #[.cell p 57, .tmp u, .tmp v]) (hp : tmps.getD p undef = .pointer (some ⟨b, 0, none⟩)) (hb : Box w b t (iv px)) (hl : px.length = 64) (x y : Value) (hx : tmps.getD u undef = x) (hy : tmps.getD v undef = y) : (results fn tmps).run Try.prog w = .ok (.tuple #[tilV px, x, y]) w := by
  subst hx hy
  have hp' : tmps[p]?.getD undef = .pointer (some ⟨b, 0, none⟩) := by simpa using hp
  have h1 := run_loadVar_row (P := Try.prog) w b t 57 (iv px).toArray (0, 0) _ hb Try.underlying57 rfl (by rw [iv_len px hl]; exact til_info)
  simp only [results, hr]
  simp [hp', asAddr, h1, Result.andThen]
theorem til_ret2 {fn : Func} {p u : Tmp} {tmps : Array Value} {w : World} {b : Nat} {t : TypeId} {px : List Int} (hr : fn.results = #[.cell p 57, .tmp u]) (hp : tmps.getD p undef = .pointer (some ⟨b, 0, none⟩)) (hb : Box w b t (iv px)) (hl : px.length = 64) (x : Value) (hx : tmps.getD u undef = x) : (results fn tmps).run Try.prog w = .ok (.tuple #[tilV px, x]) w := by
  subst hx
  have hp' : tmps[p]?.getD undef = .pointer (some ⟨b, 0, none⟩) := by simpa using hp
  have h1 := run_loadVar_row (P := Try.prog) w b t 57 (iv px).toArray (0, 0) _ hb Try.underlying57 rfl (by rw [iv_len px hl]; exact til_info)
  simp only [results, hr]
  simp [hp', asAddr, h1, Result.andThen]
theorem plain_iv (px : List Int) : ∀ v ∈ iv px, plainV v := by
  intro v hv z e
  obtain ⟨x, _, rfl⟩ := List.mem_map.1 hv
  cases e
/-- A tile that a law got; with two values. -/
def TilGot (w : World) (e : Ending) (w' : World) : Prop := ∃ px, PxIn (-1) 4 px ∧ e = .returned (tilV px) ∧ Below w.heap.size w w'
def TilGot3 (w : World) (e : Ending) (w' : World) : Prop := ∃ px a d, PxIn (-1) 4 px ∧ e = .returned (.tuple #[tilV px, .bool a, .bool d]) ∧ Below w.heap.size w w'
end Go.Proofs.Ytacebhncecninaa
end

section
/- Typed regions over any class of worlds: what holds all along (J), what holds on once it has come (D). -/
namespace Go.Proofs.Ytacebhncecninaa
open Go.ChangeShapes Go.WideShapes Go.ChangeAt Go.RowKit

theorem only_cell {S : List Nat} {w w' : World} (h : Only S w w') {p : Addr} {v : Value} (hc : w.cell? p = some v) (hp : p.block ∉ S) : w'.cell? p = some v := by
  rw [World.cell?_of_block (a := p) (w := w) (h.block p.block (World.block_lt_of_cell? _ _ hc) hp)]
  exact hc
def ClJ (J : World → Prop) (_ : Nat) (w : World) : Prop := J w
def RlJ (D : World → Prop) (w w' : World) : Prop := D w → D w'
theorem stabJ_v (D : World → Prop) (x : Value) : Stab (RlJ D) (TV x) := fun _ _ _ _ h => h
theorem stabJ_d (D : World → Prop) : Stab (RlJ D) (fun _ w => D w) := fun _ _ _ hR h => hR h
section
variable {P : Program} {ops : Array Oper} {Q : Exit → Act → World → Prop} {T : Nat → Value → World → Prop} {a0 : Act} {J D : World → Prop} {i : Nat} {o : Oper}
theorem lj_gen (hw : ∀ (ρ : Operand → Value) w, PreR ops T ρ w o.after.toList → wantV ops (slotR ρ) o = true)
    (h : ∀ (ρ : Operand → Value) w, J w → (∀ v, ρ (.const v) = v) → (∀ f, ρ (.func f) = .func (.func f) #[] #[]) → (∀ n, (ops.toList.all fun o => o.dst != some n) = true → ρ (.tmp n) = a0.eval (.tmp n)) → PreR ops T ρ w o.after.toList →
      UponT P (fun v w' => (D w → D w') ∧ J w' ∧ T i (dstV o v) w') ((execOp ρ o).run P w)) : Ob P ops Q (ClJ J) (RlJ D) T a0 i o := by
  intro k a w _ hI hF hp
  have hp' := pre_eq _ hp
  have hwt := hw a.eval w hp'
  rw [slots_eq]
  refine ⟨fun _ => ?_, fun hn => by rw [hwt] at hn; cases hn⟩
  have h1 := h a.eval w hI (fun _ => rfl) (fun _ => rfl) (fun n hn => fr_eval hF n hn) hp'
  unfold Oper.wp
  exact upon_of_T (K := fun v w' => RlJ D w w' ∧ ClJ J (k + 1) w' ∧ T i (dstV o v) w') h1
theorem lj_val (v : Value) (hw : ∀ (ρ : Operand → Value) w, PreR ops T ρ w o.after.toList → wantV ops (slotR ρ) o = true)
    (h : ∀ (ρ : Operand → Value) w, J w → (∀ v, ρ (.const v) = v) → (∀ n, (ops.toList.all fun o => o.dst != some n) = true → ρ (.tmp n) = a0.eval (.tmp n)) → PreR ops T ρ w o.after.toList → (execOp ρ o).run P w = .ok (.value v) w ∧ T i (dstV o v) w) :
    Ob P ops Q (ClJ J) (RlJ D) T a0 i o :=
  lj_gen hw fun ρ w hj hc _ hx hp => by
    obtain ⟨e, ht⟩ := h ρ w hj hc hx hp
    rw [e]
    exact ⟨id, hj, ht⟩
/-- move, assign -/
theorem lj_move (x : Operand) (hop : o.op = .move x ∨ o.op = .assign x) (hw : ∀ (ρ : Operand → Value) w, PreR ops T ρ w o.after.toList → wantV ops (slotR ρ) o = true)
    (h : ∀ (ρ : Operand → Value) w, (∀ v, ρ (.const v) = v) → (∀ n, (ops.toList.all fun o => o.dst != some n) = true → ρ (.tmp n) = a0.eval (.tmp n)) → PreR ops T ρ w o.after.toList → T i (dstV o (ρ x)) w) : Ob P ops Q (ClJ J) (RlJ D) T a0 i o :=
  lj_gen hw fun ρ w hj hc _ hx hp => by
    have e : (execOp ρ o).run P w = .ok (.value (ρ x)) w := by
      rcases hop with h | h <;> (unfold execOp; rw [h]; rfl)
    rw [e]
    exact ⟨id, hj, h ρ w hc hx hp⟩
/-- A store. -/
theorem lj_put (hw : ∀ (ρ : Operand → Value) w, PreR ops T ρ w o.after.toList → wantV ops (slotR ρ) o = true)
    (h : ∀ (ρ : Operand → Value) w, J w → (∀ n, (ops.toList.all fun o => o.dst != some n) = true → ρ (.tmp n) = a0.eval (.tmp n)) → PreR ops T ρ w o.after.toList → ∃ w', (execOp ρ o).run P w = .ok .skip w' ∧ (D w → D w') ∧ J w' ∧ T i undef w') :
    Ob P ops Q (ClJ J) (RlJ D) T a0 i o :=
  lj_gen hw fun ρ w hj _ _ hx hp => by
    obtain ⟨w', e, h1, h2, h3⟩ := h ρ w hj hx hp
    rw [e, UponT_skip]
    refine ⟨h1, h2, ?_⟩
    have e2 : dstV o undef = undef := by unfold dstV; cases o.dst <;> rfl
    rw [e2]
    exact h3
end
end Go.Proofs.Ytacebhncecninaa
end

section
/- A tile out of its bytes: the model's function. -/
namespace Go.Proofs.Ytacebhncecninaa
open Go.ChangeShapes Go.WideShapes Go.ChangeAt Go.RowKit
set_option linter.unusedVariables false

/-- A list of sixteen bytes. -/
def sixB (xs : List Int) : Bool := bytesB xs && decide (xs.length = 16)
theorem sixB_iff {xs : List Int} : sixB xs = true ↔ bytesB xs = true ∧ xs.length = 16 := by simp [sixB]
/-- Pixel k of the tile that has these bytes. -/
def readP (xs : List Int) (k : Nat) : Int := xs.getD (k / 8) 0 / 2 ^ (7 - k % 8) % 2 + 2 * (xs.getD (8 + k / 8) 0 / 2 ^ (7 - k % 8) % 2)
def readT (xs : List Int) : List Int := if sixB xs = true then mkT id (readP xs) 64 else z64
theorem six_px {xs : List Int} (h : sixB xs = true) (i : Nat) (hi : i < 16) : 0 ≤ xs.getD i 0 ∧ xs.getD i 0 ≤ 255 := by
  obtain ⟨h1, h2⟩ := sixB_iff.1 h
  exact byteB_yes ((bytesB_iff xs).1 h1 i (by omega))
/-- What reading a tile hands back. -/
def ReadGot (xs : List Int) (w : World) (e : Ending) (w' : World) : Prop := e = .returned (.tuple #[tilV (readT xs), .bool (sixB xs)]) ∧ Below w.heap.size w w'
/-- What holds in the round that lays pixel k. -/
def RoundJ (b k : Nat) (z : Int) (ys : List Int) (w wx : World) : Prop := Only [b] w wx ∧ ∃ xs, xs.length = 64 ∧ xs.set k z = ys ∧ Box wx b 57 (iv xs)
end Go.Proofs.Ytacebhncecninaa
end

section
/- What the laws of chapter 8 ask, of 64 numbers and sixteen bytes. -/
namespace Go.Proofs.Ytacebhncecninaa
open Go.ChangeShapes Go.WideShapes Go.ChangeAt Go.RowKit
set_option linter.unusedVariables false

theorem mkT_at (g : Nat → Nat) (hg : ∀ i, i < 64 → g i < 64) (f : Nat → Int) (i : Nat) (hi : i < 64) : (mkT g f 64).getD i 0 = f i := by
  rw [mkT_get _ _ _ _ hi, if_pos (hg i hi)]
theorem flip_len (px : List Int) (a d : Bool) : (flipT px a d).length = 64 := by
  unfold flipT; split
  · exact mkT_len _ _ _
  · exact z64_len
theorem turn_len (px : List Int) : (turnT px).length = 64 := by
  unfold turnT; split
  · exact mkT_len _ _ _
  · exact z64_len
theorem read_len (xs : List Int) : (readT xs).length = 64 := by
  unfold readT; split
  · exact mkT_len _ _ _
  · exact z64_len
theorem flip_get {px : List Int} (hv : tilB px = true) (a d : Bool) (i : Nat) (hi : i < 64) : (flipT px a d).getD i 0 = px.getD (flipP a d i) 0 := by
  unfold flipT
  rw [if_pos hv, mkT_at id (fun i h => h) _ i hi]
theorem turn_get {px : List Int} (hv : tilB px = true) (i : Nat) (hi : i < 64) : (turnT px).getD i 0 = px.getD (turnG i) 0 := by
  unfold turnT
  rw [if_pos hv, mkT_at turnG turnG_lt _ i hi]
theorem flip_valid {px : List Int} (hp : px.length = 64) (hv : tilB px = true) (a d : Bool) : tilB (flipT px a d) = true := by
  rw [tilB_iff, flip_len]
  intro i hi
  rw [flip_get hv a d i hi]
  exact tilB_iff.1 hv _ (by rw [hp]; exact flipP_lt a d i hi)
theorem turn_valid {px : List Int} (hp : px.length = 64) (hv : tilB px = true) : tilB (turnT px) = true := by
  rw [tilB_iff, turn_len]
  intro i hi
  rw [turn_get hv i hi]
  exact tilB_iff.1 hv _ (by rw [hp]; exact turnG_lt i hi)
theorem flipP_two (a d : Bool) (i : Nat) (hi : i < 64) : flipP a d (flipP a d i) = i := by
  cases a <;> cases d <;> simp [flipP] <;> omega
/-- Flipping again in the same way. -/
theorem flip_two {px : List Int} (hp : px.length = 64) (hv : tilB px = true) (a d : Bool) : flipT (flipT px a d) a d = px :=
  mkT_ext (flip_len _ _ _) hp fun i hi => by
    rw [flip_get (flip_valid hp hv a d) a d i hi, flip_get hv a d _ (flipP_lt a d i hi), flipP_two a d i hi]
/-- Flipping across and down is turning twice. -/
theorem flip_turn {px : List Int} (hp : px.length = 64) (hv : tilB px = true) : flipT px true true = turnT (turnT px) :=
  mkT_ext (flip_len _ _ _) (turn_len _) fun i hi => by
    rw [flip_get hv _ _ i hi, turn_get (turn_valid hp hv) i hi, turn_get hv _ (turnG_lt i hi)]
    congr 1
    simp [flipP, turnG]; omega
theorem flip_none {px : List Int} (hp : px.length = 64) (hv : tilB px = true) : flipT px false false = px :=
  mkT_ext (flip_len _ _ _) hp fun i hi => by
    rw [flip_get hv _ _ i hi]
    congr 1
    simp [flipP]; omega
/-- Four turns. -/
theorem turn_four {px : List Int} (hp : px.length = 64) (hv : tilB px = true) : turnT (turnT (turnT (turnT px))) = px := by
  have v1 := turn_valid hp hv
  have v2 := turn_valid (turn_len px) v1
  have v3 := turn_valid (turn_len _) v2
  refine mkT_ext (turn_len _) hp fun i hi => ?_
  rw [turn_get v3 i hi, turn_get v2 _ (turnG_lt i hi), turn_get v1 _ (turnG_lt _ (turnG_lt i hi)), turn_get hv _ (turnG_lt _ (turnG_lt _ (turnG_lt i hi)))]
  congr 1
  unfold turnG; omega
theorem tf_id : ∀ i : Fin 64, flipP true false (turnG (flipP true false (turnG i.val))) = i.val := by decide +kernel
/-- Flipping across and turning, twice. -/
theorem turn_flip {px : List Int} (hp : px.length = 64) (hv : tilB px = true) : turnT (flipT (turnT (flipT px true false)) true false) = px := by
  have v1 := flip_valid hp hv true false
  have v2 := turn_valid (flip_len px true false) v1
  have v3 := flip_valid (turn_len _) v2 true false
  refine mkT_ext (turn_len _) hp fun i hi => ?_
  rw [turn_get v3 i hi, flip_get v2 _ _ _ (turnG_lt i hi), turn_get v1 _ (flipP_lt _ _ _ (turnG_lt i hi)), flip_get hv _ _ _ (turnG_lt _ (flipP_lt _ _ _ (turnG_lt i hi)))]
  congr 1
  exact tf_id ⟨i, hi⟩
/-- The first row of a turned tile. -/
theorem turn_row {px : List Int} (hv : tilB px = true) (k : Nat) (hk : k < 8) : (turnT px).getD k 0 = px.getD (8 * (7 - k)) 0 := by
  rw [turn_get hv k (by omega)]
  congr 1
  unfold turnG; omega
theorem used_bit (px : List Int) (v : Nat) : ∀ k, (usedU px k).testBit v = true ↔ ∃ i, i < k ∧ (px.getD i 0).toNat = v
  | 0 => by simp [usedU]
  | k + 1 => by
    rw [usedU, Nat.testBit_or, Bool.or_eq_true, used_bit px v k, Nat.testBit_two_pow]
    simp only [decide_eq_true_eq]
    constructor
    · rintro (⟨i, hi, h⟩ | h)
      · exact ⟨i, by omega, h⟩
      · exact ⟨k, by omega, h⟩
    · rintro ⟨i, hi, h⟩
      by_cases e : i = k
      · subst e; exact .inr h
      · exact .inl ⟨i, by omega, h⟩
/-- Turning changes no used value. -/
theorem used_turn {px : List Int} (hp : px.length = 64) (hv : tilB px = true) : usedT (turnT px) = usedT px := by
  unfold usedT
  rw [if_pos hv, if_pos (turn_valid hp hv)]
  congr 1
  refine Nat.eq_of_testBit_eq fun v => ?_
  rw [Bool.eq_iff_iff, used_bit, used_bit]
  constructor
  · rintro ⟨i, hi, h⟩
    rw [turn_get hv i hi] at h
    exact ⟨turnG i, turnG_lt i hi, h⟩
  · rintro ⟨i, hi, h⟩
    refine ⟨turnP i, turnP_lt i hi, ?_⟩
    rw [turn_get hv _ (turnP_lt i hi), (turnG_iff i (turnP i) hi (turnP_lt i hi)).2 rfl]
    exact h
theorem used_has {px : List Int} (hp : px.length = 64) (hv : tilB px = true) (k : Nat) (hk : k < 64) : usedU px 64 / 2 ^ (px.getD k 0).toNat % 2 = 1 := by
  have h := (used_bit px (px.getD k 0).toNat 64).2 ⟨k, hk, rfl⟩
  rw [Nat.testBit_eq_decide_div_mod_eq] at h
  simpa using h
theorem used_bd {px : List Int} (hp : px.length = 64) (hv : tilB px = true) : 1 ≤ usedU px 64 ∧ usedU px 64 ≤ 15 := by
  refine ⟨?_, by have := usedU_lt hp hv 64 (by omega); omega⟩
  have h := used_has hp hv 0 (by omega)
  rcases Nat.eq_zero_or_pos (usedU px 64) with e | e
  · rw [e] at h; simp at h
  · exact e
/-- A tile of one value. -/
def flatT (x : Int) : List Int := List.replicate 64 x
theorem flat_len (x : Int) : (flatT x).length = 64 := by simp [flatT]
theorem flat_get (x : Int) (i : Nat) (hi : i < 64) : (flatT x).getD i 0 = x := by
  unfold flatT
  rw [List.getD_eq_getElem?_getD, List.getElem?_replicate, if_pos hi]
  rfl
theorem flat_valid (x : Int) (h0 : 0 ≤ x) (h1 : x ≤ 3) : tilB (flatT x) = true := by
  rw [tilB_iff, flat_len]
  intro i hi
  rw [flat_get x i hi]
  simp [betB, h0, h1]
theorem used_flat (x : Int) (h0 : 0 ≤ x) (h1 : x ≤ 3) : usedT (flatT x) = ((2 ^ x.toNat : Nat) : Int) := by
  unfold usedT
  rw [if_pos (flat_valid x h0 h1)]
  congr 1
  refine Nat.eq_of_testBit_eq fun v => ?_
  rw [Bool.eq_iff_iff, used_bit, Nat.testBit_two_pow]
  simp only [decide_eq_true_eq]
  constructor
  · rintro ⟨i, hi, h⟩
    rwa [flat_get x i hi] at h
  · intro h
    exact ⟨0, by omega, by rw [flat_get x 0 (by omega)]; exact h⟩
theorem plane_8 (px : List Int) (k : Nat) (b : Nat → Int) (hb : ∀ x, x < 8 → px.getD (k % 8 * 8 + x) 0 / 2 ^ (k / 8) % 2 = b x) : plane px k 8 = 128 * b 0 + 64 * b 1 + 32 * b 2 + 16 * b 3 + 8 * b 4 + 4 * b 5 + 2 * b 6 + b 7 := by
  have h0 := hb 0 (by omega); have h1 := hb 1 (by omega); have h2 := hb 2 (by omega); have h3 := hb 3 (by omega)
  have h4 := hb 4 (by omega); have h5 := hb 5 (by omega); have h6 := hb 6 (by omega); have h7 := hb 7 (by omega)
  simp only [plane, h0, h1, h2, h3, h4, h5, h6, h7]
  omega
/-- A digit of a tile's byte. -/
theorem plane_digit (px : List Int) (k x : Nat) (hx : x < 8) : plane px k 8 / 2 ^ (7 - x) % 2 = px.getD (k % 8 * 8 + x) 0 / 2 ^ (k / 8) % 2 := by
  obtain ⟨b, hb⟩ : ∃ b : Nat → Int, b = fun x => px.getD (k % 8 * 8 + x) 0 / 2 ^ (k / 8) % 2 := ⟨_, rfl⟩
  have hd : ∀ x, 0 ≤ b x ∧ b x ≤ 1 := fun x => by rw [hb]; simp only; omega
  rw [show px.getD (k % 8 * 8 + x) 0 / 2 ^ (k / 8) % 2 = b x by rw [hb], plane_8 px k b (fun x _ => by rw [hb])]
  have d0 := hd 0; have d1 := hd 1; have d2 := hd 2; have d3 := hd 3; have d4 := hd 4; have d5 := hd 5; have d6 := hd 6; have d7 := hd 7
  have h8 : x = 0 ∨ x = 1 ∨ x = 2 ∨ x = 3 ∨ x = 4 ∨ x = 5 ∨ x = 6 ∨ x = 7 := by omega
  rcases h8 with rfl | rfl | rfl | rfl | rfl | rfl | rfl | rfl <;> simp <;> omega
theorem bytT_six (px : List Int) : sixB (bytT px) = true := by
  rw [sixB_iff]
  refine ⟨(bytesB_iff _).2 fun i hi => ?_, bytT_len px⟩
  rw [bytT_len] at hi
  rw [bytT_get px i hi]
  obtain ⟨h0, h1⟩ := plane_255 px i 8 (by omega)
  exact byteB_mk h0 h1
/-- Reading back a tile's bytes. -/
theorem read_bytes {px : List Int} (hp : px.length = 64) (hv : tilB px = true) : readT (bytT px) = px := by
  unfold readT
  rw [if_pos (bytT_six px)]
  refine mkT_ext (mkT_len _ _ _) hp fun i hi => ?_
  rw [mkT_at id (fun i h => h) _ i hi]
  unfold readP
  rw [bytT_get px _ (by omega), bytT_get px _ (by omega), plane_digit px _ _ (by omega), plane_digit px _ _ (by omega)]
  obtain ⟨h0, h1⟩ := til_px hp hv i hi
  have e1 : i / 8 % 8 * 8 + i % 8 = i := by omega
  have e2 : (8 + i / 8) % 8 * 8 + i % 8 = i := by omega
  have e3 : i / 8 / 8 = 0 := by omega
  have e4 : (8 + i / 8) / 8 = 1 := by omega
  rw [e1, e2, e3, e4]
  generalize px.getD i 0 = p at h0 h1
  simp
  omega
theorem readP_bd {xs : List Int} (i : Nat) : 0 ≤ readP xs i ∧ readP xs i ≤ 3 := by unfold readP; omega
theorem read_get {xs : List Int} (h : sixB xs = true) (i : Nat) (hi : i < 64) : (readT xs).getD i 0 = readP xs i := by
  unfold readT
  rw [if_pos h, mkT_at id (fun i h => h) _ i hi]
theorem read_valid {xs : List Int} (h : sixB xs = true) : tilB (readT xs) = true := by
  rw [tilB_iff, read_len]
  intro i hi
  rw [read_get h i hi]
  obtain ⟨h0, h1⟩ := readP_bd (xs := xs) i
  simp [betB, h0, h1]
/-- A tile that was read has these bytes. -/
theorem bytes_read {xs : List Int} (h : sixB xs = true) : bytT (readT xs) = xs := by
  have hl := (sixB_iff.1 h).2
  apply List.ext_getElem (by rw [bytT_len]; omega)
  intro k h1 h2
  have hk : k < 16 := by omega
  have e := bytT_get (readT xs) k hk
  rw [List.getD_eq_getElem?_getD, List.getElem?_eq_getElem h1] at e
  simp only [Option.getD_some] at e
  rw [e]
  have hx : xs.getD k 0 = xs[k] := by rw [List.getD_eq_getElem?_getD, List.getElem?_eq_getElem h2]; rfl
  obtain ⟨x0, x1⟩ := six_px h k hk
  rw [hx] at x0 x1
  have hb : ∀ x, x < 8 → (readT xs).getD (k % 8 * 8 + x) 0 / 2 ^ (k / 8) % 2 = xs[k] / 2 ^ (7 - x) % 2 := by
    intro x hx8
    rw [read_get h _ (by omega)]
    unfold readP
    rw [show (k % 8 * 8 + x) / 8 = k % 8 by omega, show (k % 8 * 8 + x) % 8 = x by omega]
    by_cases h8 : k < 8
    · rw [show k % 8 = k by omega, show k / 8 = 0 by omega, hx]
      generalize xs[k] / 2 ^ (7 - x) = u
      generalize xs.getD (8 + k) 0 / 2 ^ (7 - x) = v
      simp only [Int.pow_zero, Int.ediv_one]
      omega
    · rw [show 8 + k % 8 = k by omega, show k / 8 = 1 by omega, hx]
      generalize xs[k] / 2 ^ (7 - x) = u
      generalize xs.getD (k % 8) 0 / 2 ^ (7 - x) = v
      simp only [Int.pow_one]
      omega
  rw [plane_8 (readT xs) k _ hb]
  simp
  omega
end Go.Proofs.Ytacebhncecninaa
end

section
/- A line into which sprites are drawn, one after another, the last one first. -/
namespace Go.Proofs.Ytacebhncecninaa
open Go.ChangeShapes Go.WideShapes Go.ChangeAt Go.RowKit
set_option linter.unusedVariables false

/-- 64 numbers, two a column. -/
def LineIs (L : List Int) (f : Nat → Int × Int) : Prop := L.length = 64 ∧ ∀ x, x < 32 → L.getD (2 * x) 0 = (f x).1 ∧ L.getD (2 * x + 1) 0 = (f x).2
/-- The first of some sprites with a pixel. -/
def dotF (S : List Spr) (zs : List Int) (y : Int) (l : List Nat) (x : Nat) : Int × Int := atR S zs x y (l.find? fun k => decide (valF (S.getD k .zero) zs x y ≠ 0))
theorem dotF_nil (S : List Spr) (zs : List Int) (y : Int) (x : Nat) : dotF S zs y [] x = (-1, 0) := rfl
theorem dotF_cons (S : List Spr) (zs : List Int) (y : Int) (k : Nat) (l : List Nat) (x : Nat) : dotF S zs y (k :: l) x = if valF (S.getD k .zero) zs x y ≠ 0 then ((k : Int), valF (S.getD k .zero) zs x y) else dotF S zs y l x := by
  unfold dotF
  by_cases h : valF (S.getD k .zero) zs x y = 0
  · rw [List.find?_cons_of_neg (by rw [h]; simp), if_neg (by rw [h]; simp)]
  · rw [List.find?_cons_of_pos (by rw [decide_eq_true_eq]; exact h), if_pos h]
    rfl
theorem dotF_on (S : List Spr) (zs : List Int) (y : Int) (x : Nat) : dotF S zs y (onF S y) x = atR S zs x y (atF S zs x y) := rfl
/-- A row drawn up to column c. -/
def drawK (k : Int) (sx : Int) (xs : List Int) (f : Nat → Int × Int) (c : Nat) (x : Nat) : Int × Int :=
  if 0 ≤ (x : Int) - sx ∧ (x : Int) - sx < c ∧ xs.getD ((x : Int) - sx).toNat 0 ≠ 0 then (k, xs.getD ((x : Int) - sx).toNat 0) else f x
theorem drawK_zero (k sx : Int) (xs : List Int) (f : Nat → Int × Int) : drawK k sx xs f 0 = f := by
  funext x
  unfold drawK
  rw [if_neg (by omega)]
theorem drawK_far {k sx : Int} {xs : List Int} {f : Nat → Int × Int} {c x : Nat} (h : (x : Int) ≠ sx + c) : drawK k sx xs f (c + 1) x = drawK k sx xs f c x := by
  unfold drawK
  by_cases h0 : 0 ≤ (x : Int) - sx ∧ (x : Int) - sx < c ∧ xs.getD ((x : Int) - sx).toNat 0 ≠ 0
  · rw [if_pos h0, if_pos ⟨h0.1, by omega, h0.2.2⟩]
  · rw [if_neg h0, if_neg (fun h1 => h0 ⟨h1.1, by omega, h1.2.2⟩)]
theorem drawK_zeroP {k sx : Int} {xs : List Int} {f : Nat → Int × Int} {c : Nat} (h : xs.getD c 0 = 0) (x : Nat) : drawK k sx xs f (c + 1) x = drawK k sx xs f c x := by
  by_cases e : (x : Int) = sx + c
  · unfold drawK
    have e2 : ((x : Int) - sx).toNat = c := by omega
    rw [e2, h, if_neg (by simp), if_neg (by simp)]
  · exact drawK_far e
theorem drawK_at {k sx : Int} {xs : List Int} {f : Nat → Int × Int} {c x : Nat} (h : xs.getD c 0 ≠ 0) (e : (x : Int) = sx + c) : drawK k sx xs f (c + 1) x = (k, xs.getD c 0) := by
  unfold drawK
  have e2 : ((x : Int) - sx).toNat = c := by omega
  rw [e2, if_pos ⟨by omega, by omega, h⟩]
theorem getD_set2 (L : List Int) (i j : Nat) (v : Int) (h : i < L.length) : (L.set i v).getD j 0 = if i = j then v else L.getD j 0 := by
  rw [List.getD_eq_getElem?_getD, List.getElem?_set]
  by_cases e : i = j
  · subst e; rw [if_pos rfl, if_pos h, if_pos rfl]; rfl
  · rw [if_neg e, if_neg e, List.getD_eq_getElem?_getD]
/-- One column drawn. -/
theorem line_step {L : List Int} {k sx : Int} {xs : List Int} {f : Nat → Int × Int} {c X : Nat} (h : LineIs L (drawK k sx xs f c)) (hp : xs.getD c 0 ≠ 0) (hX : (X : Int) = sx + c) (hb : X < 32) :
    LineIs ((L.set (2 * X) k).set (2 * X + 1) (xs.getD c 0)) (drawK k sx xs f (c + 1)) := by
  refine ⟨by simp [h.1], fun x hx => ?_⟩
  rw [getD_set2 _ _ _ _ (by simp [h.1]; omega), getD_set2 _ _ _ _ (by simp [h.1]; omega), getD_set2 _ _ _ _ (by simp [h.1]; omega), getD_set2 _ _ _ _ (by simp [h.1]; omega)]
  by_cases e : X = x
  · subst e
    rw [if_neg (by omega), if_pos rfl, if_pos rfl, drawK_at hp hX]
    exact ⟨rfl, rfl⟩
  · rw [if_neg (by omega), if_neg (by omega), if_neg (by omega), if_neg (by omega), drawK_far (by omega)]
    exact h.2 x hx
theorem line_same {L : List Int} {k sx : Int} {xs : List Int} {f : Nat → Int × Int} {c : Nat} (h : LineIs L (drawK k sx xs f c)) (hp : xs.getD c 0 = 0 ∨ sx + c < 0 ∨ 31 < sx + c) : LineIs L (drawK k sx xs f (c + 1)) := by
  refine ⟨h.1, fun x hx => ?_⟩
  rcases hp with hp | hp
  · rw [drawK_zeroP hp]; exact h.2 x hx
  · rw [drawK_far (by omega)]; exact h.2 x hx
/-- A sprite's row on a line that it covers. -/
def rowF (s : Spr) (zs : List Int) (y : Int) : List Int := ((flipT (tl zs s.n.toNat) s.ac s.dn).drop (8 * (y - s.y).toNat)).take 8
theorem rowF_len {s : Spr} {zs : List Int} {y : Int} (hy : 0 ≤ y - s.y ∧ y - s.y ≤ 7) : (rowF s zs y).length = 8 := by
  unfold rowF
  rw [List.length_take, List.length_drop, flip_len]
  omega
theorem rowF_get {s : Spr} {nt : Nat} {zs : List Int} {y : Int} (hz : zs.length = 64 * nt) (ht : tilB zs = true) (hs : sprOk nt s = true) (hy : 0 ≤ y - s.y ∧ y - s.y ≤ 7) (c : Nat) (hc : c < 8) : (rowF s zs y).getD c 0 = valF s zs (s.x + c) y := by
  unfold sprOk at hs
  simp only [Bool.and_eq_true] at hs
  have hn := betB_iff.1 hs.2
  unfold valF rowF
  rw [if_pos (by rw [Bool.and_eq_true, betB_iff, betB_iff]; omega)]
  obtain ⟨j, hj⟩ : ∃ j : Nat, y - s.y = j := ⟨(y - s.y).toNat, by omega⟩
  obtain ⟨n, hn'⟩ : ∃ n : Nat, s.n = n := ⟨s.n.toNat, by omega⟩
  rw [hj] at hy ⊢
  rw [hn'] at hn ⊢
  have htl : tilB (tl zs n) = true := by
    rw [tilB_iff]
    intro i hi
    have hl := tl_len hz (k := n) (by omega)
    rw [tl_get _ _ _ (by omega)]
    exact tilB_iff.1 ht _ (by omega)
  rw [List.getD_eq_getElem?_getD, List.getElem?_take, if_pos hc, List.getElem?_drop, ← List.getD_eq_getElem?_getD, Int.toNat_natCast, Int.toNat_natCast, flip_get htl _ _ _ (by omega), tl_get _ _ _ (flipP_lt _ _ _ (by omega))]
  congr 1
  have e1 : (8 * j + c) / 8 = j := by omega
  have e2 : (8 * j + c) % 8 = c := by omega
  have e3 : s.x + (c : Int) - s.x = c := by omega
  unfold flipP offI
  rw [e1, e2, e3]
  cases s.ac <;> cases s.dn <;> simp <;> omega
theorem valF_out {s : Spr} {zs : List Int} {x y : Int} (h : ¬ (0 ≤ x - s.x ∧ x - s.x ≤ 7)) : valF s zs x y = 0 := by
  unfold valF
  rw [if_neg]
  rw [Bool.and_eq_true, betB_iff]
  exact fun k => h k.1
/-- A whole sprite drawn. -/
theorem line_drawn {L : List Int} {S : List Spr} {nt : Nat} {zs : List Int} {y : Int} {k : Nat} {l : List Nat} (hz : zs.length = 64 * nt) (ht : tilB zs = true) (hs : sprOk nt (S.getD k .zero) = true) (hy : 0 ≤ y - (S.getD k .zero).y ∧ y - (S.getD k .zero).y ≤ 7)
    (h : LineIs L (drawK k (S.getD k .zero).x (rowF (S.getD k .zero) zs y) (dotF S zs y l) 8)) : LineIs L (dotF S zs y (k :: l)) := by
  refine ⟨h.1, fun x hx => ?_⟩
  have h1 := h.2 x hx
  have e : drawK k (S.getD k .zero).x (rowF (S.getD k .zero) zs y) (dotF S zs y l) 8 x = dotF S zs y (k :: l) x := by
    rw [dotF_cons]
    unfold drawK
    by_cases hc : 0 ≤ (x : Int) - (S.getD k .zero).x ∧ (x : Int) - (S.getD k .zero).x ≤ 7
    · obtain ⟨c, hcc⟩ : ∃ c : Nat, (x : Int) - (S.getD k .zero).x = c := ⟨((x : Int) - (S.getD k .zero).x).toNat, by omega⟩
      have hr := rowF_get hz ht hs hy c (by omega)
      rw [show (S.getD k .zero).x + (c : Int) = x by omega] at hr
      rw [hcc, Int.toNat_natCast, hr]
      by_cases hv : valF (S.getD k .zero) zs x y = 0
      · rw [hv, if_neg (by simp), if_neg (by simp)]
      · rw [if_pos ⟨by omega, by omega, hv⟩, if_pos hv]
    · rw [valF_out hc, if_neg (by omega), if_neg (by simp)]
  rw [e] at h1
  exact h1
/-- The empty line, filled up to column c. -/
def emptyK (c : Nat) (x : Nat) : Int × Int := if x < c then (-1, 0) else (0, 0)
theorem emptyK_lt {c x : Nat} (h : x < c) : emptyK c x = (-1, 0) := if_pos h
theorem emptyK_ge {c x : Nat} (h : c ≤ x) : emptyK c x = (0, 0) := if_neg (by omega)
theorem empty_zero : LineIs z64 (emptyK 0) := ⟨z64_len, fun x _ => by rw [emptyK_ge (Nat.zero_le x)]; exact ⟨z64_get _, z64_get _⟩⟩
theorem empty_step {L : List Int} {c : Nat} (h : LineIs L (emptyK c)) (hc : c < 32) : LineIs (L.set (2 * c) (-1)) (emptyK (c + 1)) := by
  refine ⟨by simp [h.1], fun x hx => ?_⟩
  have h1 : (L.set (2 * c) (-1)).getD (2 * x) 0 = if 2 * c = 2 * x then -1 else L.getD (2 * x) 0 := getD_set2 _ _ _ _ (by rw [h.1]; omega)
  have h2 : (L.set (2 * c) (-1)).getD (2 * x + 1) 0 = if 2 * c = 2 * x + 1 then -1 else L.getD (2 * x + 1) 0 := getD_set2 _ _ _ _ (by rw [h.1]; omega)
  rw [if_neg (by omega)] at h2
  rw [h1, h2]
  have h3 := h.2 x hx
  by_cases e : c = x
  · rw [if_pos (by omega), emptyK_lt (by omega)]
    rw [emptyK_ge (by omega)] at h3
    exact ⟨rfl, h3.2⟩
  · rw [if_neg (by omega)]
    by_cases hx2 : x < c
    · rw [emptyK_lt (by omega)]; rw [emptyK_lt hx2] at h3; exact h3
    · rw [emptyK_ge (by omega)]; rw [emptyK_ge (by omega)] at h3; exact h3
theorem empty_all {L : List Int} (h : LineIs L (emptyK 32)) (S : List Spr) (zs : List Int) (y : Int) : LineIs L (dotF S zs y []) := by
  refine ⟨h.1, fun x hx => ?_⟩
  have := h.2 x hx
  rw [emptyK_lt hx] at this
  rw [dotF_nil]
  exact this
end Go.Proofs.Ytacebhncecninaa
end
