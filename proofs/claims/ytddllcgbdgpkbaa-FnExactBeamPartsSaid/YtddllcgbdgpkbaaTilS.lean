/- Whole tiles of the laws' own type and whole arrays: one step each; the laws' own functions on them; a tile that came in. -/
import Derived.Test.YtddllcgbdgpkbaaTilC
import Derived.ChangeSame
import Derived.Deep.DeepCutAuto
import Derived.Lib.SmallJoins
namespace Go.Proofs.Ytddllcgbdgpkbaa
open Go.ChangeShapes Go.WideShapes Go.ChangeAt Go.RowKit
set_option linter.unusedVariables false

theorem til_infoL : (Try.prog.info? 94).map (·.size) = some 64 := by kernel_rfl
theorem til_infoA : (Try.prog.info? 72).map (·.size) = some 64 := by kernel_rfl
section
variable {ops : Array Oper} {rest : List Oper} {o : Oper} {a : Act} {w : World} {Q : Exit → Act → World → Prop}
theorem st_loadL {t : TypeId} (hw : Region.wanted o (yielded ops a.tmps) = true) (x : Operand) (ho : o.op = .load 94 x) (b : Nat) (hx : a.eval x = .pointer (some ⟨b, 0, none⟩)) (px : List Int) (hp : px.length = 64) (hb : Box w b t (iv px))
    (h : wpList Try.prog ops Q rest (a.put o.dst (tilV px)) w) : wpList Try.prog ops Q (o :: rest) a w :=
  wpList_step fun K hK => by
    rw [if_pos hw]
    exact wp_load_row _ x ho b hx t (iv px).toArray (0, 0) _ hb Try.underlying94 rfl (by rw [iv_len px hp]; exact til_infoL) (hK _ _ h)
theorem st_loadA {t : TypeId} (hw : Region.wanted o (yielded ops a.tmps) = true) (x : Operand) (ho : o.op = .load 72 x) (b : Nat) (hx : a.eval x = .pointer (some ⟨b, 0, none⟩)) (px : List Int) (hp : px.length = 64) (hb : Box w b t (iv px))
    (h : wpList Try.prog ops Q rest (a.put o.dst (tilV px)) w) : wpList Try.prog ops Q (o :: rest) a w :=
  wpList_step fun K hK => by
    rw [if_pos hw]
    exact wp_load_row _ x ho b hx t (iv px).toArray (0, 0) _ hb Try.underlying72 rfl (by rw [iv_len px hp]; exact til_infoA) (hK _ _ h)
theorem st_storeA {t : TypeId} (hw : Region.wanted o (yielded ops a.tmps) = true) (x y : Operand) (ho : o.op = .store 72 x y) (b : Nat) (hx : a.eval x = .pointer (some ⟨b, 0, none⟩)) (px : List Int) (hy : a.eval y = tilV px) (hp : px.length = 64) (cs : List Value) (hb : Box w b t cs) (hc : cs.length = 64)
    (h : wpList Try.prog ops Q rest (a.put o.dst undef) (w.setRow b (iv px).toArray)) : wpList Try.prog ops Q (o :: rest) a w :=
  wpList_step fun K hK => by
    rw [if_pos hw]
    exact wp_store_row _ x y ho b (iv px).toArray hx hy t cs.toArray hb (by rw [iv_len px hp]; exact til_infoA) (by rw [iv_len px hp]; simpa using hc) (iv_all px) (hK _ _ h)
theorem run_allocTilA (w : World) : (Instr.alloc 72 true (.tuple #[])).run Try.prog w = .ok (.pointer (some ⟨w.heap.size, 0, none⟩)) (w.alloc (.cells (iv z64).toArray 72)) := by
  have e : (iv z64).toArray = #[.int .i64 0, .int .i64 0, .int .i64 0, .int .i64 0, .int .i64 0, .int .i64 0, .int .i64 0, .int .i64 0, .int .i64 0, .int .i64 0, .int .i64 0, .int .i64 0, .int .i64 0, .int .i64 0, .int .i64 0, .int .i64 0, .int .i64 0, .int .i64 0, .int .i64 0, .int .i64 0, .int .i64 0, .int .i64 0, .int .i64 0, .int .i64 0, .int .i64 0, .int .i64 0, .int .i64 0, .int .i64 0, .int .i64 0, .int .i64 0, .int .i64 0, .int .i64 0, .int .i64 0, .int .i64 0, .int .i64 0, .int .i64 0, .int .i64 0, .int .i64 0, .int .i64 0, .int .i64 0, .int .i64 0, .int .i64 0, .int .i64 0, .int .i64 0, .int .i64 0, .int .i64 0, .int .i64 0, .int .i64 0, .int .i64 0, .int .i64 0, .int .i64 0, .int .i64 0, .int .i64 0, .int .i64 0, .int .i64 0, .int .i64 0, .int .i64 0, .int .i64 0, .int .i64 0, .int .i64 0, .int .i64 0, .int .i64 0, .int .i64 0, .int .i64 0] := by kernel_rfl
  rw [e]
  go_simp
theorem st_allocA (hw : Region.wanted o (yielded ops a.tmps) = true) (ho : o.op = .alloc 72)
    (h : wpList Try.prog ops Q rest (a.put o.dst (.pointer (some ⟨w.heap.size, 0, none⟩))) (w.alloc (.cells (iv z64).toArray 72))) : wpList Try.prog ops Q (o :: rest) a w :=
  wpList_step fun K hK => by
    rw [if_pos hw]
    unfold Oper.wp execOp
    simp only [ho, Sem.run_bind, run_allocTilA, Result.andThen_ok, Sem.run_pure]
    exact hK _ _ h
end
theorem til_retA {fn : Func} {p : Tmp} {tmps : Array Value} {w : World} {b : Nat} {t : TypeId} {px : List Int} (hr : fn.results = #[.cell p 72]) (hp : tmps.getD p undef = .pointer (some ⟨b, 0, none⟩)) (hb : Box w b t (iv px)) (hl : px.length = 64) : (results fn tmps).run Try.prog w = .ok (tilV px) w :=
  results_cell_row hr tmps w b t (iv px).toArray (0, 0) _ hp hb Try.underlying72 rfl (by rw [iv_len px hl]; exact til_infoA)

set_option maxHeartbeats 2000000 in
theorem to_arr (px : List Int) (hp : px.length = 64) (w : World) : Calls Try.prog 74 #[tilV px] w fun e w' => e = .returned (tilV px) ∧ Below w.heap.size w w' := by
  go_enter Try.func74, Try.ntmps74
  go_wp2_with (first | (refine st_allocA (by rfl) rfl ?_))
  obtain ⟨w1, hw1⟩ : ∃ w1, w1 = (((w.alloc (.cells (iv px).toArray 72)).alloc (.cells (iv z64).toArray 72)).alloc (.cells (iv z64).toArray 72)) := ⟨_, rfl⟩
  have X1 : Hid (Box w1 w.heap.size 72 (iv px)) := by rw [hw1]; exact ((Box.new w _ _).alloc _).alloc _
  have R1 : Hid (Box w1 (w.heap.size + 1) 72 (iv z64)) := by rw [hw1]; exact (Box.new_at _ _ _ _ (by simp)).alloc _
  have Y1 : Hid (Box w1 (w.heap.size + 1 + 1) 72 (iv z64)) := by rw [hw1]; exact Box.new_at _ _ _ _ (by simp)
  have B1 : Hid (Below w.heap.size w w1) := by rw [hw1]; exact below3 w _ _ _
  rw [← hw1]
  clear hw1
  have HL : Hid (w.heap.size ≤ w.heap.size + 1 ∧ w.heap.size ≤ w.heap.size + 1 + 1) := ⟨by omega, by omega⟩
  obtain ⟨f, hf⟩ : ∃ f : Nat → Int, f = fun i => px.getD i 0 := ⟨_, rfl⟩
  have HF := Lib.hid hf
  have HR : Hid (mkT id f 64 = px) := mkT_ext (mkT_len _ _ _) hp fun i hi => by rw [mkT_get _ _ _ _ hi, if_pos (show id i < 64 from hi), hf]
  clear hf
  go_loopw [4] (fun i wr => ∃ k : Nat, k ≤ 64 ∧ i = .int .i64 k ∧ Box wr w.heap.size 72 (iv px) ∧ Box wr (w.heap.size + 1) 72 (iv z64) ∧ Box wr (w.heap.size + 1 + 1) 72 (iv (mkT id f k)) ∧ Below w.heap.size w wr) (fun i _ => 64 - (intOf i).toNat)
  case atStart => exact ⟨0, by omega, rfl, X1.out, R1.out, by rw [mkT_zero]; exact Y1.out, B1.out⟩
  case round =>
    obtain ⟨k, hk, rfl, hx, hr, hy, hb⟩ := hrel
    have XR := Lib.hid hx
    have RR := Lib.hid hr
    have YR := Lib.hid hy
    have BR := Lib.hid hb
    clear hx hr hy hb X1 R1 Y1 B1
    by_cases h64 : k < 64
    · have i64' : (k : Int) < 64 := by omega
      have k0 : 0 ≤ (k : Int) := by omega
      obtain ⟨x, hx⟩ : ∃ x, f k = x := ⟨_, rfl⟩
      have c0 := til_cell XR.out k (by omega)
      rw [show px.getD k 0 = x by rw [← hx, HF.out]] at c0
      have HX := Lib.hid hx
      clear hx
      have y0 := til_cell YR.out k (by rw [mkT_len]; exact h64)
      rw [mkT_get _ _ _ _ h64, id, if_neg (by omega)] at y0
      have g0 := YR.out.frozen k
      go_wp2_with fail
      go_roundw
      case rel => exact ⟨k + 1, by omega, by go_num, XR.out.far (by omega) _, RR.out.far (by omega) _, by rw [← mkT_set id f k k h64 (fun i _ => Iff.rfl), ← iv_set, HX.out]; exact YR.out.set k (.int .i64 x), BR.out.setCell HL.out.2 _⟩
      case measure => simp [intOf]; omega
    · obtain rfl : k = 64 := by omega
      rw [HR.out] at YR
      go_wp2_with (first | (refine st_loadA (by rfl) _ rfl _ rfl px hp YR.out ?_) | (refine st_storeA (by rfl) _ _ rfl _ rfl px rfl hp (iv z64) RR.out (by simp [z64_len]) ?_))
      have RF : Hid (Box (wr.setRow (w.heap.size + 1) (iv px).toArray) (w.heap.size + 1) 72 (iv px)) := Box.row RR.out
      exact bodyPost_ret (v := tilV px) (til_retA rfl rfl RF.out hp) rfl ⟨rfl, below_row BR.out (by omega) _⟩
theorem to_til (px : List Int) (hp : px.length = 64) (w : World) : Calls Try.prog 68 #[tilV px] w fun e w' => e = .returned (tilV px) ∧ Below w.heap.size w w' := by
  go_enter Try.func68, Try.ntmps68
  go_upto_region 2 with (first | (refine st_alloc (by rfl) rfl ?_))
  obtain ⟨w1, hw1⟩ : ∃ w1, w1 = (((w.alloc (.cells (iv px).toArray 94)).alloc (.cells (iv z64).toArray 74)).alloc (.cells (iv z64).toArray 74)) := ⟨_, rfl⟩
  have X1 : Hid (Box w1 w.heap.size 94 (iv px)) := by rw [hw1]; exact ((Box.new w _ _).alloc _).alloc _
  have R1 : Hid (Box w1 (w.heap.size + 1) 74 (iv z64)) := by rw [hw1]; exact (Box.new_at _ _ _ _ (by simp)).alloc _
  have Y1 : Hid (Box w1 (w.heap.size + 1 + 1) 74 (iv z64)) := by rw [hw1]; exact Box.new_at _ _ _ _ (by simp)
  have B1 : Hid (Below w.heap.size w w1) := by rw [hw1]; exact below3 w _ _ _
  rw [← hw1]
  clear hw1
  go_wp2_with (first | (refine st_loadA (by rfl) _ rfl _ rfl px hp X1.out ?_))
  refine (to_arr px hp _).mono ?_; rintro e w2 ⟨rfl, b2⟩
  have R2 := Lib.hid (R1.out.below b2)
  have Y2 := Lib.hid (Y1.out.below b2)
  have B2 := Lib.hid (below_then B1.out b2)
  clear b2 X1 R1 Y1 B1
  have Y3 : Hid (Box (w2.setRow (w.heap.size + 1 + 1) (iv px).toArray) (w.heap.size + 1 + 1) 74 (iv px)) := Box.row Y2.out
  have R3 : Hid (Box (w2.setRow (w.heap.size + 1 + 1) (iv px).toArray) (w.heap.size + 1) 74 (iv z64)) := R2.out.rowFar (by omega)
  have B3 : Hid (Below w.heap.size w (w2.setRow (w.heap.size + 1 + 1) (iv px).toArray)) := below_row B2.out (by omega) _
  go_wp2_with (first | (refine st_storeA (by rfl) _ _ rfl _ rfl px rfl hp (iv z64) Y2.out (by simp [z64_len]) ?_) | (refine st_load (by rfl) _ rfl _ rfl px hp Y3.out ?_) | (refine st_store (by rfl) _ _ rfl _ rfl px rfl hp (iv z64) R3.out (by simp [z64_len]) ?_))
  generalize w2.setRow (w.heap.size + 1 + 1) (iv px).toArray = w3 at R3 B3 ⊢
  have RF : Hid (Box (w3.setRow (w.heap.size + 1) (iv px).toArray) (w.heap.size + 1) 74 (iv px)) := Box.row R3.out
  exact bodyPost_ret (v := tilV px) (til_ret rfl rfl RF.out hp) rfl ⟨rfl, below_row B3.out (by omega) _⟩
theorem eq_arr (px : List Int) (hp : px.length = 64) (w : World) : Calls Try.prog 75 #[tilV px, tilV px] w fun e w' => e = .returned (.bool true) ∧ Below w.heap.size w w' := by
  go_enter Try.func75, Try.ntmps75
  go_wp2_with fail
  obtain ⟨w1, hw1⟩ : ∃ w1, w1 = ((w.alloc (.cells (iv px).toArray 72)).alloc (.cells (iv px).toArray 72)) := ⟨_, rfl⟩
  have X1 : Hid (Box w1 w.heap.size 72 (iv px)) := by rw [hw1]; exact (Box.new w _ _).alloc _
  have Y1 : Hid (Box w1 (w.heap.size + 1) 72 (iv px)) := by rw [hw1]; exact Box.new_at _ _ _ _ (by simp)
  have B1 : Hid (Below w.heap.size w w1) := by rw [hw1]; exact below2 w _ _
  rw [← hw1]
  clear hw1
  go_loopw [5] (fun i wr => ∃ k m : Nat, k ≤ 64 ∧ i = .int .i64 k ∧ wr = w1.drewN m) (fun i _ => 64 - (intOf i).toNat)
  case atStart => exact ⟨0, 0, by omega, rfl, rfl⟩
  case round =>
    obtain ⟨k, m, hk, rfl, rfl⟩ := hrel
    by_cases h64 : k < 64
    · have i64' : (k : Int) < 64 := by omega
      have k0 : 0 ≤ (k : Int) := by omega
      have c0 := til_cell X1.out k (by omega)
      have c1 := til_cell Y1.out k (by omega)
      generalize px.getD k 0 = x at c0 c1
      go_wp2_with fail
      go_quiet (fail)
      go_wp2_with fail
      go_roundw
      case rel => exact ⟨k + 1, _, by omega, by go_num, rfl⟩
      case measure => simp [intOf]; omega
    · obtain rfl : k = 64 := by omega
      go_wp2_with fail
      go_ret
      exact ⟨rfl, below_drewN B1.out m⟩
theorem eq_til (px : List Int) (hp : px.length = 64) (w : World) : Calls Try.prog 69 #[tilV px, tilV px] w fun e w' => e = .returned (.bool true) ∧ Below w.heap.size w w' := by
  go_enter Try.func69, Try.ntmps69
  go_upto_region 1 with (fail)
  obtain ⟨w1, hw1⟩ : ∃ w1, w1 = ((w.alloc (.cells (iv px).toArray 74)).alloc (.cells (iv px).toArray 74)) := ⟨_, rfl⟩
  have X1 : Hid (Box w1 w.heap.size 74 (iv px)) := by rw [hw1]; exact (Box.new w _ _).alloc _
  have Y1 : Hid (Box w1 (w.heap.size + 1) 74 (iv px)) := by rw [hw1]; exact Box.new_at _ _ _ _ (by simp)
  have B1 : Hid (Below w.heap.size w w1) := by rw [hw1]; exact below2 w _ _
  rw [← hw1]
  clear hw1
  go_wp2_with (first | (refine st_loadA (by rfl) _ rfl _ rfl px hp X1.out ?_) | (refine st_loadA (by rfl) _ rfl _ rfl px hp Y1.out ?_))
  refine (eq_arr px hp _).mono ?_; rintro e w2 ⟨rfl, b2⟩
  go_wp2_with fail
  go_ret
  exact ⟨rfl, below_then B1.out b2⟩

theorem take_getD8 (zs : List Int) (n i : Nat) (h : i < n) : (zs.take n).getD i 0 = zs.getD i 0 := by
  simp only [List.getD_eq_getElem?_getD, List.getElem?_take, if_pos h]
theorem ints_in8 {w : World} {A : Option Addr} {L C : Nat} {Z : List Int} (hl : L ≤ C) (hz : Z.length = C) (h0 : A = none → C = 0) (hc : ∀ a', A = some a' → ∀ c, c < C → w.cell? (a'.add c) = some (.int .i64 (Z.getD c 0))) :
    Ints w A L (Z.take L) (if L = 0 then [] else [(A.elim 0 (·.block))]) := by
  refine ⟨by rw [List.length_take]; omega, ?_⟩
  by_cases h : L = 0
  · exact .inl ⟨h, if_pos h⟩
  · right
    rcases A with _ | a
    · have := h0 rfl; omega
    · obtain ⟨b, o, rfl, hb⟩ := ints_at (zs := Z) (fun i hi => hc a rfl i (by omega)) (by omega)
      refine ⟨by omega, b, o, rfl, by rw [if_neg h]; rfl, World.block_lt_of_cell? _ _ (hb 0 (by omega)), fun i hi => ?_⟩
      rw [hb i (by omega), take_getD8 Z L i hi]
/-- A list of cells that are all integers. -/
theorem ints_list : ∀ l : List Value, (∀ i, i < l.length → ∃ z, l[i]? = some (.int .i64 z)) → ∃ px : List Int, px.length = l.length ∧ l = iv px
  | [], _ => ⟨[], rfl, rfl⟩
  | v :: l, h => by
    obtain ⟨z, hz⟩ := h 0 (by simp)
    obtain rfl : v = .int .i64 z := by simpa using hz
    obtain ⟨px, h1, h2⟩ := ints_list l fun i hi => by simpa using h (i + 1) (by simpa using hi)
    exact ⟨z :: px, by simp [h1], by rw [h2]; rfl⟩
section
variable {H : Type} {enc : TypeId × Value → H} {w : World} {base : Nat} {held : Bool}
set_option maxRecDepth 100000 in
theorem tile_in {r : Reach} {b0 : Nat} {v : Value} {dd : DataW H} {p : List MemPlace} (hv : Value.okWide Try.prog w r b0 94 v) (h : DataW.Trod enc Try.prog w base (fun _ => true) held 94 v dd p) : ∃ px : List Int, px.length = 64 ∧ v = tilV px := by
  obtain ⟨cs, rfl, hsz⟩ := okWide_struct Try.underlying94 hv
  have hc : Try.prog.cellsOf 94 = 64 := by kernel_rfl
  have ha : Try.prog.cellsOf 72 = 64 := by kernel_rfl
  have h1 : Try.prog.cellsOf 3 = 1 := by kernel_rfl
  rw [hc] at hsz
  obtain ⟨fuel, hf⟩ := h
  obtain ⟨xs, n, _, hx, hl, hlen, hfs⟩ := DataW.trod_struct Try.underlying94 hf
  have h0 : DataW.trod enc Try.prog w base (fun _ => true) held n 72 ((cs.toList.drop 0).take (Try.prog.cellsOf 72)) = xs[0]? := hfs 0 _ rfl
  have hx0 : ∃ y, xs[0]? = some y := ⟨xs[0]'(by rw [hlen]; decide), List.getElem?_eq_getElem _⟩
  obtain ⟨y, hy⟩ := hx0
  rw [hy, ha, List.drop_zero, List.take_of_length_le (by simp [hsz])] at h0
  obtain ⟨ys, m, _, _, _, hyl, hys⟩ := DataW.trod_array Try.underlying72 h0
  obtain ⟨px, e1, e2⟩ := ints_list cs.toList fun i hi => by
    have hi64 : i < 64 := by simpa [hsz] using hi
    have hq := hys i hi64
    rw [h1, Nat.mul_one, List.getElem?_eq_getElem (by omega : i < ys.length)] at hq
    have ht : (cs.toList.drop i).take 1 = [cs.toList[i]'hi] := by
      rw [List.drop_eq_getElem_cons hi]; rfl
    rw [ht] at hq
    obtain ⟨z, hz, _⟩ := DataW.trod_int Try.underlying3 hq
    refine ⟨z, ?_⟩
    rw [List.getElem?_eq_getElem hi]
    simpa using hz
  refine ⟨px, by rw [e1]; simpa using hsz, ?_⟩
  have : cs = (iv px).toArray := by rw [← e2]
  rw [this]
theorem ints_came8 {fuel : Nat} {A : Option Addr} {n c : Nat} {x : DataW H × List MemPlace} (h : DataW.trod enc Try.prog w base (fun _ => true) held fuel 30 [.slice A n c] = some x) : n ≤ 9223372036854775807 ∧ ∃ xs fa, Ints w A n xs fa := by
  rcases open_ints Try.underlying30 Try.underlying3 (by kernel_rfl) h with ⟨hcs, _⟩ | ⟨a, len, cap, zs, hcs, _, hl, hm, hz, _, hcell, _⟩
  · simp at hcs
    obtain ⟨rfl, rfl, _⟩ := hcs
    exact ⟨by omega, [], [], .nil _ _⟩
  · simp at hcs
    obtain ⟨rfl, rfl, rfl⟩ := hcs
    simp only [if_true] at hz
    unfold maxLen at hm
    exact ⟨by omega, _, _, ints_in8 hl hz (by simp) (fun a' e i hi => by injection e with e; subst e; exact hcell i (by omega))⟩
end
end Go.Proofs.Ytddllcgbdgpkbaa
