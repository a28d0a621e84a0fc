import Derived.Test.YtacebhncecninaaGB
import Derived.Lib.Tables
import Derived.Test.YtacebhncecninaaGA
import Derived.Deep.MidRow
import Derived.Deep.Slices
import Derived.Laws.Slices
import Derived.Test.YtacebhncecninaaGC
import Derived.Deep.RegionHeld3
import Derived.Deep.Cut
import Derived.Deep.RegionLaw
import Derived.ChangeSame
import Derived.Deep.DeepCutAuto
import Derived.Lib.SmallJoins

section
/- Arrays of numbers held by value: loads, stores and indexes as one step each, at any place of a block. -/
namespace Go.Proofs.Ytacebhncecninaa
open Go.ChangeShapes Go.WideShapes Go.ChangeAt Go.RowKit
set_option linter.unusedVariables false

theorem add_none (b o j : Nat) : (⟨b, o, none⟩ : Addr).add j = ⟨b, o + j, none⟩ := by unfold Addr.add; split <;> simp_all
def aggD : TypeDesc → Bool
  | .struct _ => true
  | .array _ _ => true
  | _ => false
section
variable {P : Program}
/-- A whole array or struct out of a place of a block. -/
theorem run_loadVar_part (w : World) (g off : Nat) (t ty : TypeId) (cs ds : List Value) (d : TypeDesc) (hg : Box w g t cs)
    (hu : P.underlying ty = some d) (hd : aggD d = true) (hi : (P.info? ty).map (·.size) = some ds.length)
    (hs : ∀ j v, ds[j]? = some v → cs[off + j]? = some v) :
    (loadVar ty ⟨g, off, none⟩).run P w = .ok (.agg ds.toArray) w := by
  have hl : (loadCells ⟨g, off, none⟩ ds.length).run P w = .ok ds.toArray w :=
    run_loadCells_list (P := P) w ⟨g, off, none⟩ ds (fun j v hv => by
      rw [add_none, hg.cell]
      exact hs j v hv)
  cases hq : P.info? ty with
  | none => simp [hq] at hi
  | some i =>
    have hsz : i.size = ds.length := by simpa [hq] using hi
    have hagg : (isAgg ty).run P w = .ok true w := by
      unfold isAgg
      rw [Sem.run_bind, run_underlying hu w]
      cases d <;> simp_all [go_sem, aggD]
    have hso : (sizeOf ty).run P w = .ok ds.length w := by simp [sizeOf, typeInfo, hq, hsz]
    simp [loadVar, Sem.run_bind, hagg, hso, hl]
/-- An entry of an array by value. -/
theorem run_index_row (w : World) (t e : TypeId) (n : Nat) (cs : Array Value) (k : IntKind) (i : Nat) (v : Value) (hu : P.underlying t = some (.array n e)) (he : ∀ w, (isAgg e).run P w = .ok false w) (hz : (P.info? e).map (·.size) = some 1)
    (hi : i < n) (hc : cs[i]? = some v) : (Instr.index t (.agg cs) (.int k (i : Int))).run P w = .ok v w := by
  have hso : (sizeOf e).run P w = .ok 1 w := by
    cases hq : P.info? e with
    | none => simp [hq] at hz
    | some q => simp [hq] at hz; simp [sizeOf, typeInfo, hq, hz]
  have hlt : 0 ≤ (i : Int) ∧ (i : Int) < n := by omega
  have hni : ¬ n ≤ i := by omega
  simp [Instr.index, run_underlying hu, asIntOf, hlt, hso, part, he, hc, hni, go_sem]
/-- An entry of an array of arrays by value: a part of the cells. -/
theorem run_index_rows (w : World) (t e : TypeId) (n m : Nat) (cs : Array Value) (k : IntKind) (i : Nat) (hu : P.underlying t = some (.array n e)) (he : ∀ w, (isAgg e).run P w = .ok true w) (hz : (P.info? e).map (·.size) = some m)
    (hi : i < n) : (Instr.index t (.agg cs) (.int k (i : Int))).run P w = .ok (.agg (cs.extract (i * m) (i * m + m))) w := by
  have hso : (sizeOf e).run P w = .ok m w := by
    cases hq : P.info? e with
    | none => simp [hq] at hz
    | some q => simp [hq] at hz; simp [sizeOf, typeInfo, hq, hz]
  have hlt : 0 ≤ (i : Int) ∧ (i : Int) < n := by omega
  have hni : ¬ n ≤ i := by omega
  simp [Instr.index, run_underlying hu, asIntOf, hlt, hso, part, he, hni, go_sem]
end
/-- The type of n cells that are held by value. -/
structure ArrTy (ty : TypeId) (n : Nat) : Prop where
  agg : ∃ d, Try.prog.underlying ty = some d ∧ aggD d = true
  info : (Try.prog.info? ty).map (·.size) = some n
theorem ty_pixels : ArrTy 55 64 := ⟨⟨_, Try.underlying55, rfl⟩, by kernel_rfl⟩
theorem ty_tile : ArrTy 57 64 := ⟨⟨_, Try.underlying57, rfl⟩, til_info⟩
section
variable {ops : Array Oper} {rest : List Oper} {o : Oper} {a : Act} {w : World} {Q : Exit → Act → World → Prop} {ty : TypeId} {n : Nat}
theorem sa_load (A : ArrTy ty n) (hw : Region.wanted o (yielded ops a.tmps) = true) (x : Operand) (ho : o.op = .load ty x) (b off : Nat) (hx : a.eval x = .pointer (some ⟨b, off, none⟩)) (t : TypeId) (cs ds : List Value) (hb : Box w b t cs) (hl : ds.length = n)
    (hs : ∀ j v, ds[j]? = some v → cs[off + j]? = some v) (h : wpList Try.prog ops Q rest (a.put o.dst (.agg ds.toArray)) w) : wpList Try.prog ops Q (o :: rest) a w :=
  wpList_step fun K hK => by
    rw [if_pos hw]
    obtain ⟨d, hu, hd⟩ := A.agg
    unfold Oper.wp execOp
    simp only [ho, hx, Instr.loadAt, Instr.sureAddr, Sem.run_bind, Sem.run_pure, Result.andThen_ok, run_loadVar_part w b off t ty cs ds d hb hu hd (by rw [hl]; exact A.info) hs]
    exact hK _ _ h
theorem sa_store (A : ArrTy ty n) (hw : Region.wanted o (yielded ops a.tmps) = true) (x y : Operand) (ho : o.op = .store ty x y) (b : Nat) (hx : a.eval x = .pointer (some ⟨b, 0, none⟩)) (t : TypeId) (cs ds : List Value) (hy : a.eval y = .agg ds.toArray) (hb : Box w b t cs) (hc : cs.length = n) (hl : ds.length = n) (h1 : ds.toArray.all (·.oneCell') = true)
    (h : wpList Try.prog ops Q rest (a.put o.dst undef) (w.setRow b ds.toArray)) : wpList Try.prog ops Q (o :: rest) a w :=
  wpList_step fun K hK => by
    rw [if_pos hw]
    exact wp_store_row _ x y ho b ds.toArray hx hy t cs.toArray hb (by rw [List.size_toArray, hl]; exact A.info) (by simp [hc, hl]) h1 (hK _ _ h)
end
/-- What a function with one array for its result hands back. -/
theorem arr_ret {ty : TypeId} {n : Nat} (A : ArrTy ty n) {fn : Func} {p : Tmp} {tmps : Array Value} {w : World} {b : Nat} {t : TypeId} {cs : List Value} (hr : fn.results = #[.cell p ty]) (hp : tmps.getD p undef = .pointer (some ⟨b, 0, none⟩)) (hb : Box w b t cs) (hl : cs.length = n) : (results fn tmps).run Try.prog w = .ok (.agg cs.toArray) w := by
  obtain ⟨d, hu, hd⟩ := A.agg
  exact results_cell_row hr tmps w b t cs.toArray (0, 0) d hp hb hu (by cases d <;> first | rfl | (simp [aggD] at hd)) (by rw [List.size_toArray, hl]; exact A.info)
theorem int_none (w : World) : (isAgg 3).run Try.prog w = .ok false w := by
  have h : Try.prog.underlying 3 = some (.int .i64) := by kernel_rfl
  unfold isAgg
  rw [Sem.run_bind, run_underlying h w]; rfl
theorem int_size : (Try.prog.info? 3).map (·.size) = some 1 := by kernel_rfl
theorem run_index_pixels (w : World) (xs : List Int) (h : xs.length = 64) (i : Nat) (hi : i < 64) : (Instr.index 55 (tilV xs) (.int .i64 (i : Int))).run Try.prog w = .ok (.int .i64 (xs.getD i 0)) w :=
  run_index_row w _ _ 64 _ _ i _ Try.underlying55 int_none int_size hi (by have := iv_at xs i (by omega); simpa using this)
end Go.Proofs.Ytacebhncecninaa
end

section
/- The program's TileValid. -/
namespace Go.Proofs.Ytacebhncecninaa
open Go.ChangeShapes Go.WideShapes Go.ChangeAt Go.RowKit
set_option linter.unusedVariables false

set_option maxHeartbeats 2000000 in
theorem im_valid (px : List Int) (hp : px.length = 64) (w : World) : Calls Try.prog 101 #[tilV px] w fun e w' => e = .returned (.bool (tilB px)) ∧ Below w.heap.size w w' := by
  go_enter Try.func101, Try.ntmps101
  go_wp2_with (refine sa_load ty_pixels (by rfl) _ rfl w.heap.size 0 rfl _ (iv px) (iv px) (Box.new w _ _) (by simp [hp]) (fun j v h => by simpa using h) ?_)
  have BB := Lib.hid (below1 w (.cells (iv px).toArray 57))
  generalize w.alloc (.cells (iv px).toArray 57) = w1 at BB ⊢
  go_loopw [7] (fun i wr => ∃ k : Nat, k ≤ 64 ∧ i = .int .i64 k ∧ wr = w1 ∧ ∀ j, j < k → betB (px.getD j 0) 0 3 = true) (fun i _ => 64 - (intOf i).toNat)
  case atStart => exact ⟨0, by omega, rfl, rfl, fun j hj => by omega⟩
  case round =>
    obtain ⟨k, hk, rfl, rfl, hall⟩ := hrel
    have HA := Lib.hid hall
    clear hall
    by_cases h64 : k < 64
    · have i64' : (k : Int) < 64 := by omega
      have k0 : 0 ≤ (k : Int) := by omega
      obtain ⟨x, hx⟩ : ∃ x, px.getD k 0 = x := ⟨_, rfl⟩
      have hI : ∀ wq, (Instr.index 55 (tilV px) (.int .i64 (k : Int))).run Try.prog wq = .ok (.int .i64 x) wq := fun wq => by rw [← hx]; exact run_index_pixels wq px hp k h64
      have HX := Lib.hid hx
      clear hx
      by_cases hb : betB x 0 3 = true
      · have HB := Lib.hid hb
        obtain ⟨x0, x3⟩ := betB_yes hb
        have nx0 : ¬ x < 0 := by omega
        have nx3 : ¬ 3 < x := by omega
        clear hb
        go_wp2_with fail
        go_roundw
        case rel => exact ⟨k + 1, by omega, by go_num, trivial, fun j hj => by
          by_cases e : j = k
          · subst e; rw [HX.out]; exact HB.out
          · exact HA.out j (by omega)⟩
        case measure => simp [intOf]; omega
      · have hb' : betB x 0 3 = false := by simpa using hb
        have HF := Lib.hid (tilB_no (px := px) k (by omega) (by rw [HX.out]; exact hb'))
        have hx : x < 0 ∨ ¬ x < 0 ∧ 3 < x := by
          have : ¬ (0 ≤ x ∧ x ≤ 3) := fun ⟨h0, h3⟩ => hb (by simp [betB, h0, h3])
          omega
        clear hb hb'
        rcases hx with hx | ⟨hx, hy⟩
        all_goals
          go_wp2_with fail
          go_ret
          exact ⟨ret_bool HF.out.symm, BB.out⟩
    · obtain rfl : k = 64 := by omega
      have HF := Lib.hid (tilB_iff.2 fun j hj => HA.out j (by omega))
      go_wp2_with fail
      go_ret
      exact ⟨ret_bool HF.out.symm, BB.out⟩
end Go.Proofs.Ytacebhncecninaa
end

section
/- A slice of slices that grows by one row after the other. -/
namespace Go.Proofs.Ytacebhncecninaa
open Go.ChangeShapes Go.WideShapes Go.ChangeAt Go.RowKit

/-- The rows that have been appended so far: the value v owns their slices; each row is new memory from block L on. -/
structure Grow (w : World) (L : Nat) (rs : List (List Int)) (j : Nat) (v : Value) (D : List Row) : Prop where
  len : D.length = j
  xs : D.map Row.xs = rs.take j
  own : w.ownsRow L 23 1 v j (D.map Row.val)
  ok : ∀ r ∈ D, RowOk w r
  new : New L w (D.flatMap Row.fp)
  off : ∀ b ∈ D.flatMap Row.fp, v.ownBlock ≠ some b
theorem own_lt {w : World} {base : Nat} {e : TypeId} {v : Value} {n : Nat} {xs : List Value} (h : w.ownsRow base e 1 v n xs) : ∀ g, v.ownBlock = some g → base ≤ g ∧ g < w.heap.size := by
  intro g hg
  rcases h.2 with ⟨rfl, _⟩ | ⟨g', cap, cur, rfl, hb, hh, _⟩
  · simp [Value.ownBlock] at hg
  · have e : some g' = some g := hg
    injection e with e
    subst e
    refine ⟨hb, ?_⟩
    by_cases hl : g' < w.heap.size
    · exact hl
    · rw [Array.getElem?_eq_none (by omega)] at hh; cases hh
theorem own_keep {w w' : World} {base : Nat} {e : TypeId} {v : Value} {n : Nat} {xs : List Value} (h : w.ownsRow base e 1 v n xs) (k : Below w.heap.size w w') : w'.ownsRow base e 1 v n xs := by
  rcases h with ⟨hl, h | ⟨g, cap, cur, rfl, hb, hh, hr⟩⟩
  · exact ⟨hl, .inl h⟩
  · have hg : g < w.heap.size := by
      by_cases hl : g < w.heap.size
      · exact hl
      · rw [Array.getElem?_eq_none (by omega)] at hh; cases hh
    exact ⟨hl, .inr ⟨g, cap, cur, rfl, hb, (k.block g hg).trans hh, hr⟩⟩
theorem own_only {S : List Nat} {w w' : World} {base : Nat} {e : TypeId} {v : Value} {n : Nat} {xs : List Value} (h : w.ownsRow base e 1 v n xs) (k : Only S w w') (hS : ∀ b ∈ S, v.ownBlock ≠ some b) : w'.ownsRow base e 1 v n xs := by
  rcases h with ⟨hl, h | ⟨g, cap, cur, rfl, hb, hh, hr⟩⟩
  · exact ⟨hl, .inl h⟩
  · have hg : g < w.heap.size := by
      by_cases hl : g < w.heap.size
      · exact hl
      · rw [Array.getElem?_eq_none (by omega)] at hh; cases hh
    exact ⟨hl, .inr ⟨g, cap, cur, rfl, hb, (k.block g hg (fun hs => hS g hs rfl)).trans hh, hr⟩⟩
theorem Grow.none_ (w : World) (L : Nat) (rs : List (List Int)) : Grow w L rs 0 (.slice none 0 0) [] :=
  ⟨rfl, by simp, ⟨by simp, .inl ⟨rfl, rfl⟩⟩, by simp, by simpa using New.nil _ _, by simp⟩
theorem Grow.below {w w' : World} {L : Nat} {rs : List (List Int)} {j : Nat} {v : Value} {D : List Row} (h : Grow w L rs j v D) (k : Below w.heap.size w w') : Grow w' L rs j v D :=
  ⟨h.len, h.xs, own_keep h.own k, fun r hr => ⟨(h.ok r hr).1, (h.ok r hr).2.below k⟩, h.new.keep (.of_below k), h.off⟩
theorem Grow.only {S : List Nat} {w w' : World} {L : Nat} {rs : List (List Int)} {j : Nat} {v : Value} {D : List Row} (h : Grow w L rs j v D) (k : Only S w w') (hS : ∀ b ∈ S, b < L) : Grow w' L rs j v D := by
  have d : ∀ x ∈ D.flatMap Row.fp, x ∉ S := fun x hx hs => by have := hS x hs; have := (h.new.lt x hx).1; omega
  exact ⟨h.len, h.xs, own_only h.own k (fun b hb e => by have := hS b hb; have := (own_lt h.own b e).1; omega), fun r hr => ⟨(h.ok r hr).1, (h.ok r hr).2.keep (.of_only k fun x hx => d x (List.mem_flatMap.2 ⟨r, hr, hx⟩))⟩, h.new.keep (.of_only k d), h.off⟩
theorem grown_only {w w' : World} {row : Option Nat} (h : w.grownBy w' row) {S : List Nat} (hS : ∀ b, row = some b → b ∈ S) : Only S w w' :=
  ⟨h.os, h.tape, h.output, h.size, fun k hk hn => h.block k hk (fun e => hn (hS k e.symm))⟩
/-- One row more: w1 is the world in which the row lies, W the one ahead of the append, w2 the one behind it. -/
theorem Grow.next {w w1 W w2 : World} {L : Nat} {rs : List (List Int)} {j : Nat} {v : Value} {D : List Row} (h : Grow w L rs j v D) (hL : L ≤ w.heap.size) (hj : j < rs.length) (b1 : Below w.heap.size w w1) {A : Option Addr} {m c : Nat} {fp : List Nat} (hm : m ≤ c) (hi : Ints w1 A m (rs.getD j []) fp) (hw : New w.heap.size w1 fp)
    (bW : Below w1.heap.size w1 W) {g cap : Nat} (own2 : w2.ownsRow L 23 1 (.slice (some ⟨g, 0, none⟩) (j + 1) cap) (j + 1) (D.map Row.val ++ [.slice A m c])) (gr : W.grownBy w2 v.ownBlock) (hat : v.ownBlock = some g ∨ g = W.heap.size) :
    Grow w2 L rs (j + 1) (.slice (some ⟨g, 0, none⟩) (j + 1) cap) (D ++ [⟨A, m, c, rs.getD j [], fp⟩]) := by
  have hW := (h.below b1).below bW
  have gl := own_lt h.own
  have wW : w.heap.size ≤ W.heap.size := Nat.le_trans b1.size bW.size
  obtain ⟨S, hS1, hS2⟩ : ∃ S : List Nat, (∀ b, v.ownBlock = some b → b ∈ S) ∧ ∀ b ∈ S, v.ownBlock = some b := by
    rcases hv : v.ownBlock with _ | b
    · exact ⟨[], by simp, by simp⟩
    · exact ⟨[b], by simp, by simp⟩
  have o2 : Only S W w2 := grown_only gr hS1
  have d1 : ∀ x ∈ D.flatMap Row.fp, x ∉ S := fun x hx hs => h.off x hx (hS2 x hs)
  have d2 : ∀ x ∈ fp, x ∉ S := fun x hx hs => by have := (gl x (hS2 x hs)).2; have := (hw.lt x hx).1; omega
  refine ⟨by simp [h.len], ?_, ?_, fun r hr => ?_, ?_, fun b hb e => ?_⟩
  · rw [List.map_append, h.xs, List.take_succ_eq_append_getElem hj]
    simp [List.getD, List.getElem?_eq_getElem hj]
  · rw [List.map_append]; exact own2
  · rcases List.mem_append.1 hr with hr | hr
    · exact ⟨(hW.ok r hr).1, (hW.ok r hr).2.keep (.of_only o2 fun x hx => d1 x (List.mem_flatMap.2 ⟨r, hr, hx⟩))⟩
    · simp at hr; subst hr
      exact ⟨hm, (hi.below bW).keep (.of_only o2 d2)⟩
  · rw [List.flatMap_append]
    simp only [List.flatMap_cons, List.flatMap_nil, List.append_nil]
    exact (hW.new.keep (.of_only o2 d1)).append (((hw.mono hL).keep (.of_below bW)).keep (.of_only o2 d2)) (fun x hx hy => by
      have := (h.new.lt x hx).2
      have := (hw.lt x hy).1
      omega)
  · have e1 : some g = some b := e
    injection e1 with e1
    subst e1
    rw [List.flatMap_append] at hb
    simp only [List.flatMap_cons, List.flatMap_nil, List.append_nil] at hb
    rcases List.mem_append.1 hb with hb | hb
    · rcases hat with hat | hat
      · exact h.off g hb hat
      · have := (h.new.lt g hb).2; omega
    · rcases hat with hat | hat
      · have := (gl g hat).2; have := (hw.lt g hb).1; omega
      · have := (hw.lt g hb).2; have := bW.size; omega
/-- All rows. -/
theorem Grow.grid {w : World} {L : Nat} {rs : List (List Int)} {n : Nat} {v : Value} {D : List Row} (h : Grow w L rs n v D) (hl : rs.length = n) : ∃ R d fr, v = .slice R n d ∧ n ≤ d ∧ Grid w R n rs fr ∧ New L w fr := by
  have hx : D.map Row.xs = rs := by rw [h.xs, List.take_of_length_le (by omega)]
  rcases h.own.2 with ⟨rfl, h0⟩ | ⟨g, cap, cur, rfl, hb, hh, hnc, _, hsz, hcur⟩
  · subst h0
    have hD : D = [] := List.eq_nil_of_length_eq_zero h.len
    subst hD
    obtain rfl : rs = [] := List.eq_nil_of_length_eq_zero hl
    exact ⟨none, 0, [], rfl, Nat.le_refl _, .nil _ _, .nil _ _⟩
  · by_cases h0 : n = 0
    · subst h0
      obtain rfl : rs = [] := List.eq_nil_of_length_eq_zero hl
      exact ⟨_, cap, [], rfl, hnc, .nil _ _, .nil _ _⟩
    · have hlt := (own_lt h.own g rfl).2
      refine ⟨_, cap, g :: D.flatMap Row.fp, rfl, hnc, ⟨D, hx, h.len, h.ok, .inr ⟨by omega, g, 0, rfl, rfl, hlt, fun i r hi => ?_⟩⟩, ?_⟩
      · have hi' : i < n := by have := (List.getElem?_eq_some_iff.1 hi).1; have := h.len; omega
        rw [cell_of_row w g (0 + i) cur _ (0, 0) hh, Nat.zero_add]
        have e : (cur.toList.take (n * 1))[i]? = (D.map Row.val)[i]? := by rw [hcur]
        rw [List.getElem?_take, if_pos (by omega), List.getElem?_map, hi] at e
        simpa using e
      · exact (New.one hb hlt (fun o => by simp [World.frozen?, hh])).append h.new (fun b hb' hx' => by simp at hb'; subst hb'; exact h.off _ hx' rfl)
end Go.Proofs.Ytacebhncecninaa
end

section
/- The program's tests of backgrounds. -/
namespace Go.Proofs.Ytacebhncecninaa
open Go.ChangeShapes Go.WideShapes Go.ChangeAt Go.RowKit
set_option linter.unusedVariables false

/-- A background's value. -/
abbrev fldV (W : Int) (A : Option Addr) (n c : Nat) (T : Option Addr) (m d : Nat) (sx sy : Int) : Value := .agg #[.int .i64 W, .slice A n c, .slice T m d, .int .i64 sx, .int .i64 sy]
theorem im_rows (W : Int) (A : Option Addr) (n c : Nat) (T : Option Addr) (m d : Nat) (sx sy : Int) (w : World) (h1 : 1 ≤ W) (h8 : W ≤ 8) (hn : n ≤ 1000000000) :
    Calls Try.prog 100 #[fldV W A n c T m d sx sy] w fun e w' => e = .returned (.int .i64 ((n : Int) / W)) ∧ Below w.heap.size w w' := by
  have n0 : (0 : Int) ≤ n := by omega
  have w0 : W ≠ 0 := by omega
  have q0 : 0 ≤ (n : Int) / W := Int.ediv_nonneg (by omega) (by omega)
  have q1 : (n : Int) / W ≤ 1000000000 := Int.le_trans (Int.ediv_le_self _ (by omega)) (by omega)
  go_enter Try.func100, Try.ntmps100
  go_wp2_with fail
  go_ret
  exact ⟨rfl, below1 w _⟩
theorem im_width (W : Int) (A : Option Addr) (n c : Nat) (T : Option Addr) (m d : Nat) (sx sy : Int) (w : World) (h1 : 1 ≤ W) (h8 : W ≤ 8) :
    Calls Try.prog 65 #[fldV W A n c T m d sx sy] w fun e w' => e = .returned (.int .i64 (8 * W)) ∧ Below w.heap.size w w' := by
  go_enter Try.func65, Try.ntmps65
  go_wp2_with fail
  go_ret
  exact ⟨ret_int (Int.mul_comm W 8), below1 w _⟩
theorem im_height (W : Int) (A : Option Addr) (n c : Nat) (T : Option Addr) (m d : Nat) (sx sy : Int) (w : World) (h1 : 1 ≤ W) (h8 : W ≤ 8) (hn : n ≤ 1000000000) :
    Calls Try.prog 66 #[fldV W A n c T m d sx sy] w fun e w' => e = .returned (.int .i64 (8 * ((n : Int) / W))) ∧ Below w.heap.size w w' := by
  have n0 : (0 : Int) ≤ n := by omega
  have q0 : 0 ≤ (n : Int) / W := Int.ediv_nonneg (by omega) (by omega)
  have q1 : (n : Int) / W ≤ 1000000000 := Int.le_trans (Int.ediv_le_self _ (by omega)) (by omega)
  obtain ⟨R, hR⟩ : ∃ R, R = (n : Int) / W := ⟨_, rfl⟩
  go_enter Try.func66, Try.ntmps66
  go_wp2_with fail
  refine (im_rows W A n c T m d sx sy _ h1 h8 hn).mono ?_; rintro e w1 ⟨rfl, b1⟩
  rw [← hR] at q0 q1 ⊢
  have BB := Lib.hid (below_then (below1 w _) b1)
  have HR := Lib.hid hR
  clear b1 hR
  go_wp2_with fail
  go_ret
  exact ⟨ret_int (by rw [← HR.out, Int.mul_comm]), BB.out⟩
set_option maxHeartbeats 1000000 in
theorem im_table (W : Int) (A : Option Addr) (n c : Nat) (T : Option Addr) (m d : Nat) (sx sy : Int) (w : World) (hn : n ≤ 1000000000) :
    Calls Try.prog 68 #[fldV W A n c T m d sx sy] w fun e w' => e = .returned (.bool (tblB W n)) ∧ Below w.heap.size w w' := by
  have n0 : (0 : Int) ≤ n := by omega
  have B1 := Lib.hid (below1 w (.cells #[.int .i64 W, .slice A n c, .slice T m d, .int .i64 sx, .int .i64 sy] 26))
  by_cases h1 : W < 1
  · have HF : Hid (tblB W n = false) := Lib.hid (by simp [tblB, betB]; omega)
    go_enter Try.func68, Try.ntmps68
    go_wp2_with fail
    go_ret
    exact ⟨ret_bool HF.out.symm, by first | exact B1.out | (rw [hbb]; exact B1.out)⟩
  by_cases h8 : 8 < W
  · have HF : Hid (tblB W n = false) := Lib.hid (by simp [tblB, betB]; omega)
    go_enter Try.func68, Try.ntmps68
    go_wp2_with fail
    go_ret
    exact ⟨ret_bool HF.out.symm, by first | exact B1.out | (rw [hbb]; exact B1.out)⟩
  have w0 : W ≠ 0 := by omega
  by_cases hr : (n : Int) % W = 0
  · have q0 : 0 ≤ (n : Int) / W := Int.ediv_nonneg (by omega) (by omega)
    have q1 : (n : Int) / W ≤ 1000000000 := Int.le_trans (Int.ediv_le_self _ (by omega)) (by omega)
    obtain ⟨R, hR⟩ : ∃ R, R = (n : Int) / W := ⟨_, rfl⟩
    have HT : Hid (tblB W n = betB R 1 8) := Lib.hid (by
      unfold tblB
      rw [← hR, show betB W 1 8 = true from betB_iff.2 ⟨by omega, by omega⟩, hr]
      rfl)
    rw [← hR] at q0 q1
    go_enter Try.func68, Try.ntmps68
    go_wp2_with fail
    refine (im_rows W A n c T m d sx sy _ (by omega) (by omega) hn).mono ?_; rintro e w1 ⟨rfl, b1⟩
    rw [← hR]
    have X1 := Lib.hid ((Box.new w #[.int .i64 W, .slice A n c, .slice T m d, .int .i64 sx, .int .i64 sy] 26).below b1)
    have B2 := Lib.hid (below_then B1.out b1)
    clear b1 B1
    by_cases r1 : 1 ≤ R
    · have c0 := X1.out.cell 0
      have c1 := X1.out.cell 1
      have c2 := X1.out.cell 2
      have c3 := X1.out.cell 3
      have c4 := X1.out.cell 4
      go_wp2_with fail
      refine (im_rows W A n c T m d sx sy _ (by omega) (by omega) hn).mono ?_; rintro e w2 ⟨rfl, b2⟩
      rw [← hR]
      have B3 := Lib.hid (below_then B2.out b2)
      clear b2 B2 hR
      by_cases r8 : R ≤ 8
      · have HF : Hid (betB R 1 8 = true) := Lib.hid (betB_iff.2 ⟨r1, r8⟩)
        go_wp2_with fail
        go_ret
        exact ⟨ret_bool (by rw [HT.out, HF.out]), B3.out⟩
      · have HF : Hid (betB R 1 8 = false) := Lib.hid (by simp [betB]; omega)
        have hd : decide (R ≤ 8) = false := by simp; omega
        clear r8
        go_wp2_with fail
        go_ret
        exact ⟨ret_bool (by rw [HT.out, HF.out]), B3.out⟩
    · have HF : Hid (betB R 1 8 = false) := Lib.hid (by simp [betB]; omega)
      have hd : decide (1 ≤ R) = false := by simp; omega
      clear hR r1
      go_wp2_with fail
      go_ret
      exact ⟨ret_bool (by rw [HT.out, HF.out]), B2.out⟩
  · have HF : Hid (tblB W n = false) := Lib.hid (by simp [tblB, hr])
    go_enter Try.func68, Try.ntmps68
    go_wp2_with fail
    go_ret
    exact ⟨ret_bool HF.out.symm, by first | exact B1.out | (rw [hbb]; exact B1.out)⟩
theorem im_isShift (x : Int) (w : World) : Calls Try.prog 67 #[.int .i64 x] w fun e w' => e = .returned (.bool (betB x 0 255)) ∧ w = w' := by
  by_cases h0 : 0 ≤ x
  · by_cases h1 : x ≤ 255
    · have HB := Lib.hid (betB_iff.2 ⟨h0, h1⟩)
      go_enter Try.func67, Try.ntmps67
      go_wp2_with fail
      go_ret
      exact ⟨ret_bool HB.out.symm, rfl⟩
    · have HB : Hid (betB x 0 255 = false) := Lib.hid (by simp [betB]; omega)
      have hd : decide (x ≤ 255) = false := by simp; omega
      clear h1
      go_enter Try.func67, Try.ntmps67
      go_wp2_with fail
      go_ret
      exact ⟨ret_bool HB.out.symm, rfl⟩
  · have HB : Hid (betB x 0 255 = false) := Lib.hid (by simp [betB]; omega)
    have hd : decide (0 ≤ x) = false := by simp; omega
    clear h0
    go_enter Try.func67, Try.ntmps67
    go_wp2_with fail
    go_ret
    exact ⟨ret_bool HB.out.symm, rfl⟩
set_option maxHeartbeats 1000000 in
theorem im_known (W : Int) (A : Option Addr) (n c : Nat) (T : Option Addr) (m d : Nat) (sx sy : Int) (xs : List Int) (fa : List Nat) (w : World) (ha : Ints w A n xs fa) (hn : n ≤ 1000000000) (hm : m ≤ 1000000000) :
    Calls Try.prog 69 #[fldV W A n c T m d sx sy] w fun e w' => e = .returned (.bool (knownB m xs)) ∧ Below w.heap.size w w' := by
  have B1 := Lib.hid (below1 w (.cells #[.int .i64 W, .slice A n c, .slice T m d, .int .i64 sx, .int .i64 sy] 26))
  have X1 := Lib.hid (Box.new w #[.int .i64 W, .slice A n c, .slice T m d, .int .i64 sx, .int .i64 sy] 26)
  have HA := Lib.hid (ha.below (below1 w (.cells #[.int .i64 W, .slice A n c, .slice T m d, .int .i64 sx, .int .i64 sy] 26)))
  have HL := Lib.hid ha.1
  clear ha
  go_enter Try.func69, Try.ntmps69
  go_wp2_with fail
  generalize w.alloc (.cells #[.int .i64 W, .slice A n c, .slice T m d, .int .i64 sx, .int .i64 sy] 26) = w1 at X1 B1 HA ⊢
  generalize hbb : w.heap.size = bb at X1 B1 ⊢
  go_loopw [8] (fun i wr => ∃ k : Nat, k ≤ n ∧ i = .int .i64 k ∧ wr = w1 ∧ ∀ j, j < k → betB (xs.getD j 0) 0 ((m : Int) - 1) = true) (fun i _ => n - (intOf i).toNat)
  case atStart => exact ⟨0, by omega, rfl, rfl, fun j hj => by omega⟩
  case round =>
    obtain ⟨k, hk, rfl, rfl, hall⟩ := hrel
    have HK := Lib.hid hall
    clear hall
    by_cases hlt : k < n
    · obtain ⟨p, o, rfl, _, _, hc⟩ := HA.out.at_ (by omega)
      have c1 := hc k hlt
      clear hc
      have c2 : wr.cell? ⟨bb, 2, none⟩ = some (.slice T m d) := X1.out.cell 2
      obtain ⟨x, hx⟩ : ∃ x, xs.getD k 0 = x := ⟨_, rfl⟩
      rw [hx] at c1
      have HX := Lib.hid hx
      clear hx
      by_cases h0 : x < 0
      · have HF := Lib.hid (knownB_no (n := m) (xs := xs) k (by rw [HL.out]; exact hlt) (by rw [HX.out]; simp [betB]; omega))
        go_wp2_with fail
        go_ret
        exact ⟨ret_bool HF.out.symm, by first | exact B1.out | (rw [hbb]; exact B1.out)⟩
      by_cases h1 : (m : Int) ≤ x
      · have HF := Lib.hid (knownB_no (n := m) (xs := xs) k (by rw [HL.out]; exact hlt) (by rw [HX.out]; simp [betB]; omega))
        go_wp2_with fail
        go_ret
        exact ⟨ret_bool HF.out.symm, by first | exact B1.out | (rw [hbb]; exact B1.out)⟩
      have HB : Hid (betB x 0 ((m : Int) - 1) = true) := Lib.hid (betB_iff.2 ⟨by omega, by omega⟩)
      have hd : decide ((m : Int) ≤ x) = false := by simp; omega
      clear h1
      go_wp2_with fail
      go_roundw
      case rel => exact ⟨k + 1, by omega, by go_num, trivial, fun j hj => by
        by_cases e : j = k
        · subst e; rw [HX.out]; exact HB.out
        · exact HK.out j (by omega)⟩
      case measure => simp [intOf]; omega
    · have HF := Lib.hid (knownB_iff (n := m) (xs := xs) |>.2 fun j hj => HK.out j (by rw [HL.out] at hj; omega))
      go_wp2_with fail
      go_ret
      exact ⟨ret_bool HF.out.symm, by first | exact B1.out | (rw [hbb]; exact B1.out)⟩
end Go.Proofs.Ytacebhncecninaa
end

section
/- Columns and lines: the program's two tests. -/
namespace Go.Proofs.Ytacebhncecninaa
open Go.ChangeShapes Go.WideShapes Go.ChangeAt Go.RowKit
set_option linter.unusedVariables false

theorem betB_no {a l h : Int} (k : ¬ (l ≤ a ∧ a ≤ h)) : betB a l h = false := by
  cases e : betB a l h
  · rfl
  · exact absurd (betB_iff.1 e) k
theorem im_isColumn (x : Int) (w : World) : Calls Try.prog 60 #[.int .i64 x] w fun e w' => e = .returned (.bool (betB x 0 31)) ∧ w = w' := by
  by_cases h0 : 0 ≤ x
  · by_cases h1 : x < 32
    · have HB := Lib.hid (betB_iff.2 (show 0 ≤ x ∧ x ≤ 31 by omega))
      go_enter Try.func60, Try.ntmps60
      go_wp2_with fail
      go_ret
      exact ⟨ret_bool HB.out.symm, rfl⟩
    · have HB := Lib.hid (betB_no (show ¬ (0 ≤ x ∧ x ≤ 31) by omega))
      have hd : decide (x < 32) = false := by simp; omega
      clear h1
      go_enter Try.func60, Try.ntmps60
      go_wp2_with fail
      go_ret
      exact ⟨ret_bool HB.out.symm, rfl⟩
  · have HB := Lib.hid (betB_no (show ¬ (0 ≤ x ∧ x ≤ 31) by omega))
    have hd : decide (0 ≤ x) = false := by simp; omega
    clear h0
    go_enter Try.func60, Try.ntmps60
    go_wp2_with fail
    go_ret
    exact ⟨ret_bool HB.out.symm, rfl⟩
theorem im_isLine (x : Int) (w : World) : Calls Try.prog 54 #[.int .i64 x] w fun e w' => e = .returned (.bool (betB x 0 15)) ∧ w = w' := by
  by_cases h0 : 0 ≤ x
  · by_cases h1 : x < 16
    · have HB := Lib.hid (betB_iff.2 (show 0 ≤ x ∧ x ≤ 15 by omega))
      go_enter Try.func54, Try.ntmps54
      go_wp2_with fail
      go_ret
      exact ⟨ret_bool HB.out.symm, rfl⟩
    · have HB := Lib.hid (betB_no (show ¬ (0 ≤ x ∧ x ≤ 15) by omega))
      have hd : decide (x < 16) = false := by simp; omega
      clear h1
      go_enter Try.func54, Try.ntmps54
      go_wp2_with fail
      go_ret
      exact ⟨ret_bool HB.out.symm, rfl⟩
  · have HB := Lib.hid (betB_no (show ¬ (0 ≤ x ∧ x ≤ 15) by omega))
    have hd : decide (0 ≤ x) = false := by simp; omega
    clear h0
    go_enter Try.func54, Try.ntmps54
    go_wp2_with fail
    go_ret
    exact ⟨ret_bool HB.out.symm, rfl⟩
/-- A part of a tile's own pixels. -/
theorem run_slice_pixels (w : World) (q k g h : Nat) (hg : g ≤ h) (h64 : h ≤ 64) (g64 : g < 64) :
    (Instr.sliceAt 55 (.pointer (some ⟨q, k, none⟩)) (some (.int .i64 (g : Int))) (some (.int .i64 (h : Int))) none).run Try.prog w = .ok (.slice (some ⟨q, k + g, none⟩) (h - g) (64 - g)) w := by
  have ha : Try.prog.arrayLen 55 = 64 := by kernel_rfl
  have he : Try.prog.elem 55 = 3 := by kernel_rfl
  have ht : Try.prog.underlying 55 = some (.array (Try.prog.arrayLen 55) (Try.prog.elem 55)) := by rw [ha, he]; exact Try.underlying55
  have hso : (sizeOf 3).run Try.prog w = .ok 1 w := by
    have hz := int_size
    cases hq : Try.prog.info? 3 with
    | none => simp [hq] at hz
    | some q => simp [hq] at hz; simp [sizeOf, typeInfo, hq, hz]
  rw [run_sliceAt_array_lh w _ _ ht .i64 .i64 (g : Int) (h : Int) (by omega) (by omega) (by rw [ha]; omega), ha, he, hso]
  have hne : ¬ 64 = g := by omega
  simp only [Result.andThen_ok, slicedAt, Int.toNat_natCast, if_neg hne, Nat.mul_one, add_none]
end Go.Proofs.Ytacebhncecninaa
end

section
/- The program's FieldValid. -/
namespace Go.Proofs.Ytacebhncecninaa
open Go.ChangeShapes Go.WideShapes Go.ChangeAt Go.RowKit
set_option linter.unusedVariables false

theorem below_tile (w : World) (px : List Int) (hp : px.length = 64) : Below w.heap.size w ((w.alloc (.cells (iv z64).toArray 57)).setRow w.heap.size (iv px).toArray) := below_row (below1 w _) (Nat.le_refl _) _
set_option maxHeartbeats 1000000 in
theorem im_tiles (T : Option Addr) (m d : Nat) (zs : List Int) (ft : List Nat) (w : World) (ht : Ints w T (64 * m) zs ft) (hm : m ≤ 1000000000) :
    Calls Try.prog 70 #[.slice T m d] w fun e w' => e = .returned (.bool (decide (m ≤ 16) && tilB zs)) ∧ Below w.heap.size w w' := by
  by_cases h16 : m ≤ 16
  · have HD : Hid (decide (m ≤ 16) = true) := Lib.hid (by simpa using h16)
    have HT := Lib.hid ht
    have HZ := Lib.hid ht.1
    clear ht
    go_enter Try.func70, Try.ntmps70
    go_wp2_with fail
    go_loopw [10] (fun i wr => ∃ k : Nat, k ≤ m ∧ i = .int .i64 k ∧ Below w.heap.size w wr ∧ ∀ j, j < k → tilB (tl zs j) = true) (fun i _ => m - (intOf i).toNat)
    case atStart => exact ⟨0, by omega, rfl, Below.refl _ _, fun j hj => by omega⟩
    case round =>
      obtain ⟨k, hk, rfl, hb, hall⟩ := hrel
      have HK := Lib.hid hall
      have HB := Lib.hid hb
      clear hall hb
      by_cases hlt : k < m
      · obtain ⟨p, o, rfl, _, _, hc⟩ := HT.out.at_ (by omega)
        clear hc
        have RG := Lib.hid (til_range (HT.out.below HB.out) hlt)
        have h64 := Lib.hid (tl_len HZ.out hlt)
        obtain ⟨px, hpx⟩ : ∃ px, tl zs k = px := ⟨_, rfl⟩
        rw [hpx] at RG h64
        have HP := Lib.hid hpx
        clear hpx
        go_wp2_with (first | (refine st_loadm (by rfl) _ rfl _ _ rfl px h64.out RG.out ?_) | (refine st_alloc (by rfl) rfl ?_) | (refine st_store (by rfl) _ _ rfl _ rfl px rfl h64.out (iv z64) (Box.new _ _ _) (by simp [z64_len]) ?_) | (refine st_load (by rfl) _ rfl _ rfl px h64.out (Box.row (cs := iv z64) (Box.new _ _ _)) ?_))
        refine (im_valid px h64.out _).mono ?_; rintro e w2 ⟨rfl, b2⟩
        have B2 := Lib.hid (below_then (below_then HB.out (below_tile wr px h64.out)) b2)
        clear b2
        cases hv : tilB px
        · have HF := Lib.hid (tls_no HZ.out k hlt (by rw [HP.out]; exact hv))
          go_wp2_with fail
          go_ret
          exact ⟨ret_bool (by rw [HD.out, HF.out]; rfl), B2.out⟩
        · have HV := Lib.hid hv
          clear hv
          go_wp2_with fail
          go_roundw
          case rel => exact ⟨k + 1, by omega, by go_num, B2.out, fun j hj => by
            by_cases e : j = k
            · subst e; rw [HP.out]; exact HV.out
            · exact HK.out j (by omega)⟩
          case measure => simp [intOf]; omega
      · have HF := Lib.hid (tls_yes HZ.out fun j hj => HK.out j (by omega))
        go_wp2_with fail
        go_ret
        exact ⟨ret_bool (by rw [HD.out, HF.out]; rfl), HB.out⟩
  · have HD : Hid (decide (m ≤ 16) = false) := Lib.hid (by simpa using h16)
    go_enter Try.func70, Try.ntmps70
    go_wp2_with fail
    go_ret
    exact ⟨ret_bool (by rw [HD.out]; rfl), Below.refl _ _⟩
/-- A background in memory: its table and its tiles. -/
def FHas (w : World) (A T : Option Addr) (F : Fld) (fa ft : List Nat) : Prop := Ints w A F.xs.length F.xs fa ∧ Ints w T (64 * F.nt) F.zs ft
theorem FHas.below {w w' : World} {A T : Option Addr} {F : Fld} {fa ft : List Nat} (h : FHas w A T F fa ft) (k : Below w.heap.size w w') : FHas w' A T F fa ft := ⟨h.1.below k, h.2.below k⟩
/-- A background's value. -/
abbrev fv (F : Fld) (A : Option Addr) (c : Nat) (T : Option Addr) (d : Nat) : Value := fldV F.w A F.xs.length c T F.nt d F.sx F.sy
def FSmall (F : Fld) : Prop := F.xs.length ≤ 1000000000 ∧ F.nt ≤ 1000000000
set_option maxHeartbeats 1000000 in
theorem im_fieldValid (F : Fld) (A : Option Addr) (c : Nat) (T : Option Addr) (d : Nat) (fa ft : List Nat) (w : World) (hF : FHas w A T F fa ft) (hs : FSmall F) :
    Calls Try.prog 25 #[fv F A c T d] w fun e w' => e = .returned (.bool (fldB F)) ∧ Below w.heap.size w w' := by
  have HE := Lib.hid (fldB_prog F)
  obtain ⟨W, xs, m, zs, sx, sy⟩ := F
  obtain ⟨hF1, hF2⟩ := hF
  obtain ⟨hs1, hs2⟩ := hs
  simp only at hs1 hs2 hF1 hF2
  obtain ⟨n, hn⟩ : ∃ n, n = xs.length := ⟨_, rfl⟩
  show Calls Try.prog 25 #[fldV W A xs.length c T m d sx sy] w fun e w' => e = .returned (.bool (fldB ⟨W, xs, m, zs, sx, sy⟩)) ∧ Below w.heap.size w w'
  simp only at HE
  rw [← hn] at hs1 hF1 HE ⊢
  have B1 := Lib.hid (below1 w (.cells #[.int .i64 W, .slice A n c, .slice T m d, .int .i64 sx, .int .i64 sy] 26))
  have X1 := Lib.hid (Box.new w #[.int .i64 W, .slice A n c, .slice T m d, .int .i64 sx, .int .i64 sy] 26)
  have HA := Lib.hid (hF1.below B1.out)
  have HT := Lib.hid (hF2.below B1.out)
  clear hF1 hF2 hn
  generalize fldB ⟨W, xs, m, zs, sx, sy⟩ = R at HE ⊢
  go_enter Try.func25, Try.ntmps25
  go_wp2_with fail
  generalize w.alloc (.cells #[.int .i64 W, .slice A n c, .slice T m d, .int .i64 sx, .int .i64 sy] 26) = w1 at X1 B1 HA HT ⊢
  generalize hbb : w.heap.size = bb at X1 B1 ⊢
  refine (im_isShift sx _).mono ?_; rintro e w2 ⟨rfl, rfl⟩
  cases hx : betB sx 0 255
  · rw [hx] at HE
    go_wp2_with fail
    go_ret
    exact ⟨ret_bool HE.out.symm, by first | exact B1.out | (rw [hbb]; exact B1.out)⟩
  rw [hx] at HE
  clear hx
  have c4 : w1.cell? ⟨bb, 4, none⟩ = some (.int .i64 sy) := X1.out.cell 4
  go_wp2_with fail
  refine (im_isShift sy _).mono ?_; rintro e w2 ⟨rfl, rfl⟩
  cases hx : betB sy 0 255
  · rw [hx] at HE
    go_wp2_with fail
    go_ret
    exact ⟨ret_bool HE.out.symm, by first | exact B1.out | (rw [hbb]; exact B1.out)⟩
  rw [hx] at HE
  clear hx c4
  have k0 := X1.out.cell 0
  have k1 := X1.out.cell 1
  have k2 := X1.out.cell 2
  have k3 := X1.out.cell 3
  have k4 := X1.out.cell 4
  go_wp2_with fail
  clear k0 k1 k2 k3 k4
  refine (im_table W A n c T m d sx sy _ hs1).mono ?_; rintro e w2 ⟨rfl, b2⟩
  have X2 := Lib.hid (X1.out.below b2)
  have B2 : Hid (Below bb w w2) := Lib.hid (B1.out.trans (b2.mono (by have := B1.out.size; have := X1.out.lt; omega)))
  have HA2 := Lib.hid (HA.out.below b2)
  have HT2 := Lib.hid (HT.out.below b2)
  clear b2 X1 B1 HA HT
  cases hx : tblB W n
  · rw [hx] at HE
    go_wp2_with fail
    go_ret
    exact ⟨ret_bool HE.out.symm, by first | exact B2.out | (rw [hbb]; exact B2.out)⟩
  rw [hx] at HE
  clear hx
  have k0 := X2.out.cell 0
  have k1 := X2.out.cell 1
  have k2 := X2.out.cell 2
  have k3 := X2.out.cell 3
  have k4 := X2.out.cell 4
  go_wp2_with fail
  clear k0 k1 k2 k3 k4
  refine (im_known W A n c T m d sx sy xs fa _ HA2.out hs1 hs2).mono ?_; rintro e w3 ⟨rfl, b3⟩
  have X3 := Lib.hid (X2.out.below b3)
  have B3 : Hid (Below bb w w3) := Lib.hid (B2.out.trans (b3.mono (by have := B2.out.size; have := X2.out.lt; omega)))
  have HT3 := Lib.hid (HT2.out.below b3)
  clear b3 X2 B2 HA2 HT2
  cases hx : knownB m xs
  · rw [hx] at HE
    go_wp2_with fail
    go_ret
    exact ⟨ret_bool HE.out.symm, by first | exact B3.out | (rw [hbb]; exact B3.out)⟩
  rw [hx] at HE
  clear hx
  have k2 : w3.cell? ⟨bb, 2, none⟩ = some (.slice T m d) := X3.out.cell 2
  go_wp2_with fail
  clear k2
  refine (im_tiles T m d zs ft _ HT3.out hs2).mono ?_; rintro e w4 ⟨rfl, b4⟩
  have B4 : Hid (Below bb w w4) := Lib.hid (B3.out.trans (b4.mono (by have := B3.out.size; have := X3.out.lt; omega)))
  clear b4
  go_wp2_with fail
  go_ret
  exact ⟨ret_bool (by rw [HE.out]; rfl), by first | exact B4.out | (rw [hbb]; exact B4.out)⟩
end Go.Proofs.Ytacebhncecninaa
end

section
/- The program's pixels: a run of them, a line, FieldPixel, FieldLine. -/
namespace Go.Proofs.Ytacebhncecninaa
open Go.ChangeShapes Go.WideShapes Go.ChangeAt Go.RowKit
set_option linter.unusedVariables false

/-- What a run leaves: a slice of a tile's own memory. -/
def RunGot (F : Fld) (x y : Int) (ft : List Nat) (w : World) (e : Ending) (w' : World) : Prop :=
  ∃ A c, e = .returned (.slice A (runN F x) c) ∧ runN F x ≤ c ∧ Ints w' A (runN F x) (runF F x y) ft ∧ Below w.heap.size w w'
theorem run_lies {F : Fld} (h : FOk F) {w : World} {b o : Nat} {ft : List Nat} (ht : Ints w (some ⟨b, o, none⟩) (64 * F.nt) F.zs ft) (x y : Int) (s : Nat) (hs : (64 * tileN F x y + partN F x y : Int) = s) : Ints w (some ⟨b, o + s, none⟩) (runN F x) (runF F x y) ft := by
  obtain ⟨a, c⟩ := tileN_b h x y
  obtain ⟨b', o', he, rfl, hb, hc⟩ := ht.at_ (by omega)
  injection he with he
  injection he with e1 e2 _
  subst e1 e2
  have hr := runN_b F x
  refine ⟨runF_len _ _ _, .inr ⟨by omega, b, o + s, rfl, rfl, hb, fun i hi => ?_⟩⟩
  have hi' : atX F x % 8 + i < 8 := by unfold runN at hi; omega
  obtain ⟨p0, p1⟩ := partN_b h x y
  have hp : partN F x y % 8 + i < 8 := by unfold partN; omega
  rw [Nat.add_assoc, hc (s + i) (by omega), runF_get _ _ _ _ hi, pix_right h x y i hi', hs]
  congr 4
set_option maxHeartbeats 4000000 in
theorem run_raw (W : Int) (p o n c q o2 m d : Nat) (sx sy x y i j : Int) (s t : Nat) (w : World) (h1 : 1 ≤ W) (h8 : W ≤ 8) (hn : n ≤ 64) (hi : (x + sx) % (8 * W) = i) (i0 : 0 ≤ i) (i1 : i < 64) (hj : (y + sy) % (8 * ((n : Int) / W)) = j) (j0 : 0 ≤ j) (j1 : j < 64)
    (x0 : 0 ≤ x + sx) (x1 : x + sx ≤ 300) (y0 : 0 ≤ y + sy) (y1 : y + sy ≤ 300) (r1 : 1 ≤ (n : Int) / W) (r8 : (n : Int) / W ≤ 8) (hs : j / 8 * W + i / 8 = s) (s1 : s < n) (hp : p < w.heap.size) (hc : w.cell? ⟨p, o + s, none⟩ = some (.int .i64 (t : Int))) (t1 : t < m) (m1 : m ≤ 16) :
    Calls Try.prog 61 #[fldV W (some ⟨p, o, none⟩) n c (some ⟨q, o2, none⟩) m d sx sy, .int .i64 x, .int .i64 y] w fun e w' => e = .returned (.slice (some ⟨q, o2 + t * 64 + (j % 8 * 8 + i % 8).toNat, none⟩) (8 - i % 8).toNat (64 - (j % 8 * 8 + i % 8)).toNat) ∧ Below w.heap.size w w' := by
  have B1 := Lib.hid (below1 w (.cells #[.int .i64 W, .slice (some ⟨p, o, none⟩) n c, .slice (some ⟨q, o2, none⟩) m d, .int .i64 sx, .int .i64 sy] 26))
  have X1 := Lib.hid (Box.new w #[.int .i64 W, .slice (some ⟨p, o, none⟩) n c, .slice (some ⟨q, o2, none⟩) m d, .int .i64 sx, .int .i64 sy] 26)
  have HC := Lib.hid ((B1.out.cell (p := ⟨p, o + s, none⟩) hp).trans hc)
  clear hc
  obtain ⟨R, hR⟩ : ∃ R, R = (n : Int) / W := ⟨_, rfl⟩
  have HR := Lib.hid hR
  rw [← hR] at hj r1 r8
  clear hR
  go_enter Try.func61, Try.ntmps61
  go_upto_region 1 with (fail)
  generalize w.alloc (.cells #[.int .i64 W, .slice (some ⟨p, o, none⟩) n c, .slice (some ⟨q, o2, none⟩) m d, .int .i64 sx, .int .i64 sy] 26) = w1 at X1 B1 HC ⊢
  generalize hbb : w.heap.size = bb at X1 B1 ⊢
  have c0 : ∀ u : Later w1, u.now.cell? ⟨bb, 0, none⟩ = some (.int .i64 W) := later_cell (X1.out.cell 0)
  have c1 : ∀ u : Later w1, u.now.cell? ⟨bb, 1, none⟩ = some (.slice (some ⟨p, o, none⟩) n c) := later_cell (X1.out.cell 1)
  have c2 : ∀ u : Later w1, u.now.cell? ⟨bb, 2, none⟩ = some (.slice (some ⟨q, o2, none⟩) m d) := later_cell (X1.out.cell 2)
  have c3 : ∀ u : Later w1, u.now.cell? ⟨bb, 3, none⟩ = some (.int .i64 sx) := later_cell (X1.out.cell 3)
  have c4 : ∀ u : Later w1, u.now.cell? ⟨bb, 4, none⟩ = some (.int .i64 sy) := later_cell (X1.out.cell 4)
  have V1 : Hid (∀ u : Later w1, Calls Try.prog 65 #[fldV W (some ⟨p, o, none⟩) n c (some ⟨q, o2, none⟩) m d sx sy] u.now fun e w' => e = .returned (.int .i64 (8 * W)) ∧ Below u.now.heap.size u.now w') := Lib.hid fun u => im_width W _ n c _ m d sx sy _ h1 h8
  have V2 : Hid (∀ u : Later w1, Calls Try.prog 66 #[fldV W (some ⟨p, o, none⟩) n c (some ⟨q, o2, none⟩) m d sx sy] u.now fun e w' => e = .returned (.int .i64 (8 * R)) ∧ Below u.now.heap.size u.now w') := Lib.hid fun u => by rw [HR.out]; exact im_height W _ n c _ m d sx sy _ h1 h8 (by omega)
  have hw0 : 8 * W ≠ 0 := by omega
  have hr0 : 8 * R ≠ 0 := by omega
  refine wp_region_later (by kernel_rfl) (by kernel_rfl) ?_
  repeat (go_big_quiet_step ((first
    | (go_at_call 65; exact Calls.later (V1.out _))
    | (go_at_call 66; exact Calls.later (V2.out _)))))
  refine wpQuiet_nil ?_
  rintro _ ⟨u, rfl⟩
  have d0 := c0 u
  have d1 := c1 u
  have d2 := c2 u
  have d3 := c3 u
  have d4 := c4 u
  have e1 := later_cell HC.out u
  have BU : Hid (Below bb w u.now) := Lib.hid (B1.out.trans (u.below.mono (by have := B1.out.size; have := X1.out.lt; omega)))
  clear c0 c1 c2 c3 c4 V1 V2 HC X1 B1
  generalize u.now = w2 at d0 d1 d2 d3 d4 e1 BU ⊢
  clear u
  rw [hi, hj]
  have p0 : 0 ≤ j / 8 * W := Int.mul_nonneg (by omega) (by omega)
  have p1 : j / 8 * W ≤ 64 := by omega
  obtain ⟨jq, hjq⟩ : ∃ jq, j / 8 = jq := ⟨_, rfl⟩
  rw [hjq] at p0 p1 hs
  obtain ⟨pw, hpw⟩ : ∃ pw, jq * W = pw := ⟨_, rfl⟩
  rw [hpw] at p0 p1 hs
  obtain ⟨iq, hiq⟩ : ∃ iq, i / 8 = iq := ⟨_, rfl⟩
  rw [hiq] at hs
  obtain ⟨f, hf⟩ : ∃ f : Nat, j % 8 * 8 = f := ⟨(j % 8 * 8).toNat, by omega⟩
  obtain ⟨jr, hjr⟩ : ∃ jr, j % 8 = jr := ⟨_, rfl⟩
  rw [hjr] at hf
  have f1 : f ≤ 56 := by omega
  obtain ⟨g, hg⟩ : ∃ g : Nat, f + i % 8 = g := ⟨(f + i % 8).toNat, by omega⟩
  obtain ⟨ir, hir⟩ : ∃ ir, i % 8 = ir := ⟨_, rfl⟩
  have ir1 : 0 ≤ ir ∧ ir < 8 := by omega
  rw [hir] at hg
  have g1 : g ≤ 63 ∧ f ≤ g := by omega
  have HE : Hid (j % 8 * 8 + i % 8 = g ∧ i % 8 = g - f) := Lib.hid ⟨by omega, by omega⟩
  clear HR hi hj
  obtain ⟨g1, g2⟩ := g1
  have hsl : ∀ wq, (Instr.sliceAt 55 (.pointer (some ⟨q, o2 + t * 64, none⟩)) (some (.int .i64 (g : Int))) (some (.int .i64 ((f : Int) + 8))) none).run Try.prog wq = .ok (.slice (some ⟨q, o2 + t * 64 + g, none⟩) (f + 8 - g) (64 - g)) wq := fun wq => run_slice_pixels wq q (o2 + t * 64) g (f + 8) (by omega) (by omega) (by omega)
  go_wp2_with fail
  go_ret
  refine ⟨?_, by first | exact BU.out | (rw [hbb]; exact BU.out)⟩
  rw [HE.out.1, HE.out.2, Int.toNat_natCast, show (8 - ((g : Int) - f)).toNat = f + 8 - g by omega, show (64 - (g : Int)).toNat = 64 - g by omega]
  rfl
theorem im_run (F : Fld) (A : Option Addr) (c : Nat) (T : Option Addr) (d : Nat) (fa ft : List Nat) (x y : Int) (w : World) (hF : FHas w A T F fa ft) (h : FOk F) (x0 : 0 ≤ x) (x1 : x ≤ 31) (y0 : 0 ≤ y) (y1 : y ≤ 15) :
    Calls Try.prog 61 #[fv F A c T d, .int .i64 x, .int .i64 y] w (RunGot F x y ft w) := by
  obtain ⟨a0, a1⟩ := atX_b h x
  obtain ⟨b0, b1⟩ := atY_b h y
  obtain ⟨k0, k1⟩ := cellN_b h x y
  obtain ⟨t0, t1⟩ := tileN_b h x y
  obtain ⟨p0, p1⟩ := partN_b h x y
  obtain ⟨hrw, r1, r8⟩ := h.rows
  have w1 := h.w1
  have w8 := h.w8
  have n16 := h.n16
  have sx0 := h.x0
  have sx1 := h.x1
  have sy0 := h.y0
  have sy1 := h.y1
  have hn : F.xs.length ≤ 64 := by
    have := mul8 (F.rw_ - 1) F.w (by omega) 8 (by omega) (by omega)
    have e : F.rw_ * F.w = (F.rw_ - 1) * F.w + F.w := by rw [Int.sub_mul]; omega
    omega
  obtain ⟨p, o, hA, rfl, hp, hc⟩ := hF.1.at_ (by omega)
  obtain ⟨q, o2, hT, rfl, hq, _⟩ := hF.2.at_ (by omega)
  have HT := hF.2
  rw [hT] at HT
  obtain ⟨s, hs⟩ := Int.eq_ofNat_of_zero_le k0
  obtain ⟨t, ht⟩ := Int.eq_ofNat_of_zero_le t0
  have c1 := hc s (by omega)
  have ex : F.xs.getD s 0 = (t : Int) := by
    rw [← ht]; unfold tileN; rw [hs]; rfl
  rw [ex] at c1
  subst hA hT
  refine (run_raw F.w p o F.xs.length c q o2 F.nt d F.sx F.sy x y (atX F x) (atY F y) s t w w1 w8 hn rfl a0 (by omega) rfl b0 (by omega) (by omega) (by omega) (by omega) (by omega) r1 r8 hs (by omega) hp c1 (by omega) n16).mono ?_
  rintro e w' ⟨rfl, b⟩
  have he : (8 - atX F x % 8).toNat = runN F x := rfl
  have hpt : atY F y % 8 * 8 + atX F x % 8 = partN F x y := rfl
  rw [he, hpt]
  refine ⟨_, _, rfl, ?_, ?_, b⟩
  · unfold runN; omega
  · have := run_lies h HT x y (64 * t + (partN F x y).toNat) (by rw [ht]; omega)
    rw [show o2 + t * 64 + (partN F x y).toNat = o2 + (64 * t + (partN F x y).toNat) by omega]
    exact this.below b
/-- A row in which the pixels from a up to k stand, the rest as it was. -/
def fillK (F : Fld) (y : Int) (cur : List Int) (a k : Nat) : List Int := (List.range 32).map fun j : Nat => if a ≤ j ∧ j < k then pixF F j y else cur.getD j 0
theorem fillK_len (F : Fld) (y : Int) (cur : List Int) (a k : Nat) : (fillK F y cur a k).length = 32 := by simp [fillK]
theorem fillK_get (F : Fld) (y : Int) (cur : List Int) (a k i : Nat) (h : i < 32) : (fillK F y cur a k)[i]? = some (if a ≤ i ∧ i < k then pixF F i y else cur.getD i 0) := by
  unfold fillK
  rw [List.getElem?_map, List.getElem?_range h]
  rfl
theorem fillK_zero (F : Fld) (y : Int) (cur : List Int) (a : Nat) (hl : cur.length = 32) : fillK F y cur a a = cur := by
  apply List.ext_getElem?
  intro i
  by_cases h : i < 32
  · rw [fillK_get _ _ _ _ _ _ h, if_neg (by omega), List.getD_eq_getElem?_getD, List.getElem?_eq_getElem (by omega)]; rfl
  · rw [List.getElem?_eq_none (by rw [fillK_len]; omega), List.getElem?_eq_none (by omega)]
theorem fillK_all (F : Fld) (y : Int) (cur : List Int) : fillK F y cur 0 32 = lineF F y := by
  unfold fillK lineF
  apply List.map_congr_left
  intro j hj
  rw [if_pos ⟨by omega, List.mem_range.1 hj⟩]
theorem fillK_step (F : Fld) (y : Int) (cur : List Int) (a k c : Nat) (ha : a ≤ k) (hc : c ≤ runN F k) (hk : k + c ≤ 32) : (fillK F y cur a k).take k ++ (runF F k y).take c ++ (fillK F y cur a k).drop (k + c) = fillK F y cur a (k + c) := by
  have l1 : ((fillK F y cur a k).take k).length = k := by rw [List.length_take, fillK_len]; omega
  have l2 : ((runF F k y).take c).length = c := by rw [List.length_take, runF_len]; omega
  apply List.ext_getElem?
  intro i
  by_cases h : i < 32
  · rw [fillK_get _ _ _ _ _ _ h]
    by_cases h1 : i < k
    · rw [List.getElem?_append_left (by rw [List.length_append]; omega), List.getElem?_append_left (by omega), List.getElem?_take, if_pos h1, fillK_get _ _ _ _ _ _ h]
      by_cases h3 : a ≤ i
      · rw [if_pos ⟨h3, h1⟩, if_pos ⟨h3, by omega⟩]
      · rw [if_neg (by omega), if_neg (by omega)]
    · by_cases h2 : i < k + c
      · rw [List.getElem?_append_left (by rw [List.length_append]; omega), List.getElem?_append_right (by omega), l1, List.getElem?_take, if_pos (by omega), if_pos ⟨by omega, h2⟩]
        have := runF_get F k y (i - k) (by omega)
        rw [List.getD_eq_getElem?_getD, List.getElem?_eq_getElem (by rw [runF_len]; omega)] at this
        rw [List.getElem?_eq_getElem (by rw [runF_len]; omega)]
        simp only [Option.getD_some] at this
        rw [this, show (k : Int) + ((i - k : Nat) : Int) = (i : Int) by omega]
      · rw [List.getElem?_append_right (by rw [List.length_append]; omega), List.getElem?_drop, List.length_append, l1, l2, show k + c + (i - (k + c)) = i by omega, fillK_get _ _ _ _ _ _ h, if_neg (by omega), if_neg (by omega)]
  · rw [List.getElem?_eq_none (by simp only [List.length_append, l1, l2, List.length_drop, fillK_len]; omega), List.getElem?_eq_none (by rw [fillK_len]; omega)]
theorem ints_aside {w w' : World} {A : Option Addr} {n g : Nat} {xs : List Int} {fp : List Nat} (h : Ints w A n xs fp) (k : Only [g] w w') (hb : ∀ b ∈ fp, b ≠ g) : Ints w' A n xs fp :=
  h.keep (.of_only k fun b hb' he => hb b hb' (by simpa using he))
def z32 : List Int := List.replicate 32 0
/-- copy into a row of the call's own, as one step of a region. -/
theorem step_copy {ops : Array Oper} {o : Oper} {a : Act} {w : World} {K : Act → World → Prop} {Q : Exit → Act → World → Prop} {E : Prop} (hg : o.guard = none) (d s : Operand)
    (ho : o.op = .call { callee := .builtin .copy, args := #[d, s], argTypes := #[23, 23] }) (g off dLen dCap : Nat) (ad : Addr) (sLen sCap : Nat) (hd : a.eval d = .slice (some ⟨g, off, none⟩) dLen dCap) (hs : a.eval s = .slice (some ad) sLen sCap)
    (cur : List Int) (t : TypeId) (hb : Box w g t (iv cur)) (cs : List Int) (m : Nat) (hm : cs.length = m) (hn : m = Nat.min sLen dLen) (hsrc : ∀ j v, (iv cs)[j]? = some v → w.cell? (ad.add j) = some v) (hfit : off + m ≤ cur.length) (res : List Int) (hres : cur.take off ++ cs ++ cur.drop (off + m) = res)
    (h : K (a.put o.dst (.int .i64 (m : Int))) (w.setRow g (iv res).toArray)) :
    if Region.wanted o (yielded ops a.tmps) = true then Oper.wp Try.prog o a w K Q else E := by
  subst hm hres
  have hw : Region.wanted o (yielded ops a.tmps) = true := by simp [Region.wanted, hg]
  rw [if_pos hw]
  have hrun := Go.run_copy_row (P := Try.prog) w 23 23 o.type 3 g off dLen dCap ad sLen sCap (iv cur).toArray t (iv cs) Try.underlying23 int_size hb (by simpa using hn) hsrc (by simpa using hfit) (iv_one cs)
  have e : ((iv cur).toArray.toList.take off ++ iv cs ++ (iv cur).toArray.toList.drop (off + (iv cs).length)).toArray = (iv (cur.take off ++ cs ++ cur.drop (off + cs.length))).toArray := by
    simp [List.map_append, List.map_take, List.map_drop]
  have el : (iv cs).length = cs.length := by simp
  rw [e, el] at hrun
  unfold Oper.wp execOp
  simp only [ho, resolve, invoke, builtin, Sem.run_bind, Sem.run_pure, Result.andThen_ok, List.map_toArray, List.map_cons, List.map_nil, hs, hd, hrun]
  exact h
theorem ints_head {w : World} {ad : Addr} {n m : Nat} {ys : List Int} {fp : List Nat} (h : Ints w (some ad) n ys fp) (hm : m ≤ n) : ∀ j u, (iv (ys.take m))[j]? = some u → w.cell? (ad.add j) = some u := by
  intro j u hu
  refine ints_news h j u ?_
  rw [← hu]
  have hj : j < m := by have := (List.getElem?_eq_some_iff.1 hu).1; simp at this; omega
  rw [List.getElem?_map, List.getElem?_map, List.getElem?_take, if_pos hj]
theorem fitN (r k m : Nat) (hr : 1 ≤ r) (hk : k < m) : ∃ cc, cc ≤ r ∧ k + cc ≤ m ∧ 1 ≤ cc ∧ cc = Nat.min r (m - k) :=
  ⟨min r (m - k), by omega, by omega, by omega, rfl⟩
theorem made32 : madeCells #[.int .i64 0] 32 = (iv (z32)).toArray := by kernel_rfl
theorem run_make32 (w : World) : (Instr.makeSlice 23 (.int .i64 32) (.int .i64 32)).run Try.prog w = .ok (.slice (some ⟨w.heap.size, 0, none⟩) 32 32) (w.alloc (.cells (iv (z32)).toArray 3)) := by
  have h := Go.run_make_row' (P := Try.prog) 23 3 (.int .i64 0) 8 Try.underlying23 infoInt rfl .i64 .i64 32 (by omega) (by omega) w
  rw [made32] at h
  exact h
theorem copied_box {w w' : World} {n g : Nat} {t : TypeId} {xs : List Int} (h : Box w' g t (iv xs)) (hl : xs.length = n) (hg : w.heap.size ≤ g) (hb : Below w.heap.size w w') : Copied xs n w (.returned (.slice (some ⟨g, 0, none⟩) n n)) w' := by
  by_cases h0 : n = 0
  · subst h0
    have : xs = [] := List.eq_nil_of_length_eq_zero hl
    subst this
    exact ⟨_, _, [], rfl, Nat.le_refl _, .nil _ _, .nil _ _, hb⟩
  · refine ⟨_, _, [g], rfl, Nat.le_refl _, ⟨hl, .inr ⟨by omega, g, 0, rfl, rfl, h.lt, fun i hi => ?_⟩⟩, .one hg h.lt h.frozen, hb⟩
    rw [Nat.zero_add, h.cell i]
    exact iv_at xs i (by omega)
set_option maxHeartbeats 4000000 in
theorem im_fill (F : Fld) (A : Option Addr) (c : Nat) (T : Option Addr) (d : Nat) (fa ft : List Nat) (g a m : Nat) (cur : List Int) (y : Int) (w : World) (hF : FHas w A T F fa ft) (h : FOk F) (y0 : 0 ≤ y) (y1 : y ≤ 15) (hg : Box w g 3 (iv cur)) (hl : cur.length = 32) (ham : a ≤ m) (hm : m ≤ 32) (hfa : ∀ b ∈ fa, b ≠ g) (hft : ∀ b ∈ ft, b ≠ g) :
    Calls Try.prog 94 #[fv F A c T d, .slice (some ⟨g, 0, none⟩) m 32, .int .i64 a, .int .i64 y] w fun e w' => (∃ v, e = .returned v) ∧ Box w' g 3 (iv (fillK F y cur a m)) ∧ Only [g] w w' := by
  have HO := Lib.hid h
  have HF := Lib.hid hF
  have HFA := Lib.hid hfa
  have HFT := Lib.hid hft
  have HGL := Lib.hid hg.lt
  have X1 : Hid (Box (w.alloc (.cells #[.int .i64 F.w, .slice A F.xs.length c, .slice T F.nt d, .int .i64 F.sx, .int .i64 F.sy] 26)) w.heap.size 26 [.int .i64 F.w, .slice A F.xs.length c, .slice T F.nt d, .int .i64 F.sx, .int .i64 F.sy]) := Lib.hid (Box.new w _ _)
  have Y1 : Hid (Box (w.alloc (.cells #[.int .i64 F.w, .slice A F.xs.length c, .slice T F.nt d, .int .i64 F.sx, .int .i64 F.sy] 26)) g 3 (iv (fillK F y cur a a))) := Lib.hid (by rw [fillK_zero _ _ _ _ hl]; exact hg.alloc _)
  have B1 : Hid (Only [g] w (w.alloc (.cells #[.int .i64 F.w, .slice A F.xs.length c, .slice T F.nt d, .int .i64 F.sx, .int .i64 F.sy] 26))) := Lib.hid (.of_below (below1 w _))
  clear hF h hfa hft hg hl
  obtain ⟨bb, hbb⟩ : ∃ bb, w.heap.size = bb := ⟨_, rfl⟩
  have HBB := Lib.hid hbb
  go_enter Try.func94, Try.ntmps94
  go_wp2_with fail
  rw [hbb] at X1 HGL
  try rw [hbb]
  generalize w.alloc (.cells #[.int .i64 F.w, .slice A F.xs.length c, .slice T F.nt d, .int .i64 F.sx, .int .i64 F.sy] 26) = w1 at X1 Y1 B1 ⊢
  clear hbb
  have HGB := Lib.hid HGL.out
  go_loopw [8] (fun i wr => ∃ k : Nat, a ≤ k ∧ k ≤ m ∧ i = .int .i64 k ∧ Box wr bb 26 [.int .i64 F.w, .slice A F.xs.length c, .slice T F.nt d, .int .i64 F.sx, .int .i64 F.sy] ∧ Box wr g 3 (iv (fillK F y cur a k)) ∧ Only [g] w wr) (fun i _ => m - (intOf i).toNat)
  case atStart => exact ⟨a, Nat.le_refl _, ham, rfl, X1.out, Y1.out, B1.out⟩
  case round =>
    obtain ⟨k, hak, hk, rfl, hx, hy, hb⟩ := hrel
    have XR := Lib.hid hx
    have YR := Lib.hid hy
    have BR := Lib.hid hb
    have XD : Hid (Box wr.drew bb 26 [.int .i64 F.w, .slice A F.xs.length c, .slice T F.nt d, .int .i64 F.sx, .int .i64 F.sy]) := Lib.hid hx
    have YD : Hid (Box wr.drew g 3 (iv (fillK F y cur a k))) := Lib.hid hy
    have BD : Hid (Only [g] w wr.drew) := Lib.hid ⟨hb.os, hb.tape, hb.output, hb.size, hb.block⟩
    clear hx hy hb X1 Y1 B1
    by_cases h32 : k < m
    · have i32 : (k : Int) < m := by omega
      have c0 := XR.out.cell 0
      have c1 := XR.out.cell 1
      have c2 := XR.out.cell 2
      have c3 := XR.out.cell 3
      have c4 := XR.out.cell 4
      go_wp2_with fail
      have HN := Lib.hid (runN_b F k)
      obtain ⟨cc, hcc⟩ := fitN (runN F k) k m HN.out.1 h32
      have HC := Lib.hid hcc
      have c32 : cc ≤ 32 := by have := HC.out.2.1; omega
      have i33 : (k : Int) ≤ 32 := by omega
      have im : (k : Int) ≤ m := by omega
      have m32 : (m : Int) ≤ 32 := by omega
      have k32 : (k : Int) + cc ≤ 32 := by have := HC.out.2.1; omega
      have hne : ¬ 32 = k := by omega
      have HS := Lib.hid (fillK_step F y cur a k cc hak HC.out.1 (by have := HC.out.2.1; omega))
      clear hcc
      go_region_law (first
        | (go_simp; go_at_call 61; refine (im_run F A c T d fa ft (k : Int) y _ ⟨ints_aside HF.out.1 BD.out HFA.out, ints_aside HF.out.2 BD.out HFT.out⟩ HO.out (by omega) (by omega) y0 y1).mono ?_; rintro e w2 ⟨Ar, cr, rfl, hcr, hi, b2⟩; obtain ⟨p, o, rfl, _, hp, hc⟩ := hi.at_ (by have := HN.out.1; omega); have HI := Lib.hid hi; have X2 := Lib.hid (XD.out.below b2); have Y2 := Lib.hid (YD.out.below b2); have B2 := Lib.hid (BD.out.trans (.of_below b2)); clear hc hi b2)
        | (refine step_copy rfl _ _ rfl g k (m - k) (32 - k) ⟨p, o, none⟩ (runN F k) cr rfl rfl (fillK F y cur a k) _ Y2.out ((runF F k y).take cc) cc (by rw [List.length_take, runF_len]; exact Nat.min_eq_left HC.out.1) HC.out.2.2.2 (ints_head HI.out HC.out.1) (by rw [fillK_len]; have := HC.out.2.1; omega) (fillK F y cur a (k + cc)) HS.out ?_))
      have cc1 : 1 ≤ cc := HC.out.2.2.1
      have hkw : IntKind.i64.wrap ((k : Int) + cc) = (k + cc : Nat) := by
        rw [← Int.natCast_add]
        have k33 : ((k + cc : Nat) : Int) ≤ 32 := by omega
        generalize k + cc = kc at k33
        simp [IntKind.wrap, IntKind.bits, IntKind.signed]
        omega
      simp only [List.getElem_toArray, List.getElem_cons_succ, List.getElem_cons_zero, Act.put, List.setIfInBounds_toArray, List.set_cons_succ, List.set_cons_zero, hkw]
      go_roundw
      case rel => first | exact ⟨_, _, _, _, _, _, _, _, _, _, _, _, _, ⟨k + cc, by omega, HC.out.2.1, rfl, X2.out.rowFar (by have := HGB.out; omega), Box.row Y2.out, Only.row B2.out (.inl (by simp)) _⟩, rfl⟩ | exact ⟨_, _, _, _, _, _, _, _, _, _, _, _, _, _, ⟨k + cc, by omega, HC.out.2.1, rfl, X2.out.rowFar (by have := HGB.out; omega), Box.row Y2.out, Only.row B2.out (.inl (by simp)) _⟩, rfl⟩ | exact ⟨_, _, _, _, _, _, _, _, _, _, _, _, _, _, _, ⟨k + cc, by omega, HC.out.2.1, rfl, X2.out.rowFar (by have := HGB.out; omega), Box.row Y2.out, Only.row B2.out (.inl (by simp)) _⟩, rfl⟩ | exact ⟨_, _, _, _, _, _, _, _, _, _, _, _, _, _, _, _, ⟨k + cc, by omega, HC.out.2.1, rfl, X2.out.rowFar (by have := HGB.out; omega), Box.row Y2.out, Only.row B2.out (.inl (by simp)) _⟩, rfl⟩ | exact ⟨_, _, _, _, _, _, _, _, _, _, _, _, _, _, _, _, _, ⟨k + cc, by omega, HC.out.2.1, rfl, X2.out.rowFar (by have := HGB.out; omega), Box.row Y2.out, Only.row B2.out (.inl (by simp)) _⟩, rfl⟩
      case measure => have := HC.out.2.1; simp [intOf]; omega
    · have i32 : ¬ (k : Int) < m := by omega
      have HK : Hid (k = m) := Lib.hid (by omega)
      have HY : Hid (Box wr g 3 (iv (fillK F y cur a m))) := Lib.hid (by rw [← HK.out]; exact YR.out)
      go_wp2_with fail
      go_end0
      exact ⟨⟨_, rfl⟩, HY.out, BR.out⟩
set_option maxHeartbeats 4000000 in
theorem im_lineB (F : Fld) (A : Option Addr) (c : Nat) (T : Option Addr) (d : Nat) (fa ft : List Nat) (y : Int) (w : World) (hF : FHas w A T F fa ft) (h : FOk F) (y0 : 0 ≤ y) (y1 : y ≤ 15) :
    Calls Try.prog 55 #[fv F A c T d, .int .i64 y] w fun e w' => ∃ g, e = .returned (.slice (some ⟨g, 0, none⟩) 32 32) ∧ w.heap.size ≤ g ∧ Box w' g 3 (iv (lineF F y)) ∧ Below w.heap.size w w' := by
  have hmk := run_make32
  have HO := Lib.hid h
  have HF := Lib.hid hF
  have HZ := Lib.hid (fillK_all F y z32)
  clear hF h
  go_enter Try.func55, Try.ntmps55
  go_wp2_with fail
  obtain ⟨w1, hw1⟩ : ∃ w1, w1 = (w.alloc (.cells #[.int .i64 F.w, .slice A F.xs.length c, .slice T F.nt d, .int .i64 F.sx, .int .i64 F.sy] 26)).alloc (.cells (iv (z32)).toArray 3) := ⟨_, rfl⟩
  have X1 : Hid (Box w1 w.heap.size 26 [.int .i64 F.w, .slice A F.xs.length c, .slice T F.nt d, .int .i64 F.sx, .int .i64 F.sy]) := by rw [hw1]; exact (Box.new w _ _).alloc _
  have Y1 : Hid (Box w1 (w.heap.size + 1) 3 (iv z32)) := by rw [hw1]; exact Box.new_at _ _ _ _ (by simp)
  have B1 : Hid (Below w.heap.size w w1) := by rw [hw1]; exact below2 w _ _
  rw [← hw1]
  clear hw1 hmk
  have c0 := X1.out.cell 0
  have c1 := X1.out.cell 1
  have c2 := X1.out.cell 2
  have c3 := X1.out.cell 3
  have c4 := X1.out.cell 4
  go_wp2_with fail
  refine (im_fill F A c T d fa ft (w.heap.size + 1) 0 32 z32 y _ ⟨HF.out.1.below B1.out, HF.out.2.below B1.out⟩ HO.out y0 y1 Y1.out (by simp [z32]) (by omega) (by omega) (fun b hb => by have := HF.out.1.lt b hb; omega) (fun b hb => by have := HF.out.2.lt b hb; omega)).mono ?_
  rintro e w2 ⟨⟨v, rfl⟩, hy, b2⟩
  have Y2 := Lib.hid hy
  have B2 : Hid (Below w.heap.size w w2) := Lib.hid (B1.out.trans (b2.below (by simp) B1.out.size))
  clear hy b2
  go_wp2_with fail
  go_ret
  exact ⟨_, rfl, by omega, by rw [← HZ.out]; exact Y2.out, B2.out⟩
theorem im_line (F : Fld) (A : Option Addr) (c : Nat) (T : Option Addr) (d : Nat) (fa ft : List Nat) (y : Int) (w : World) (hF : FHas w A T F fa ft) (h : FOk F) (y0 : 0 ≤ y) (y1 : y ≤ 15) :
    Calls Try.prog 55 #[fv F A c T d, .int .i64 y] w (Copied (lineF F y) 32 w) :=
  (im_lineB F A c T d fa ft y w hF h y0 y1).mono fun _ _ ⟨_, he, hg, hb, bl⟩ => he ▸ copied_box hb (lineF_len F y) hg bl
theorem and_last {a b c : Bool} (h : b = c) : (a && b) = (a && c) := by rw [h]
set_option maxHeartbeats 1000000 in
theorem im_fieldLine (F : Fld) (A : Option Addr) (c : Nat) (T : Option Addr) (d : Nat) (fa ft : List Nat) (y : Int) (w : World) (hF : FHas w A T F fa ft) (hs : FSmall F) :
    Calls Try.prog 16 #[fv F A c T d, .int .i64 y] w (Copied (lineT F y) (lineT F y).length w) := by
  have BB := Lib.hid (below1 w (.cells #[.int .i64 F.w, .slice A F.xs.length c, .slice T F.nt d, .int .i64 F.sx, .int .i64 F.sy] 26))
  have X1 := Lib.hid (Box.new w #[.int .i64 F.w, .slice A F.xs.length c, .slice T F.nt d, .int .i64 F.sx, .int .i64 F.sy] 26)
  have HF := Lib.hid (FHas.below hF BB.out)
  have HS := Lib.hid hs
  clear hF hs
  go_enter Try.func16, Try.ntmps16
  go_wp2_with fail
  generalize w.alloc (.cells #[.int .i64 F.w, .slice A F.xs.length c, .slice T F.nt d, .int .i64 F.sx, .int .i64 F.sy] 26) = w1 at X1 BB HF ⊢
  generalize hbb : w.heap.size = bb at X1 ⊢
  have HBB := Lib.hid hbb
  clear hbb
  refine (im_isLine y _).mono ?_; rintro e w2 ⟨rfl, rfl⟩
  cases hy : betB y 0 15
  · have HT : Hid (lineT F y = []) := Lib.hid (by unfold lineT; rw [hy]; simp)
    clear hy
    go_wp2_with fail
    go_ret
    rw [HT.out]
    exact ⟨none, 0, [], rfl, Nat.le_refl _, .nil _ _, .nil _ _, BB.out⟩
  · have HY := Lib.hid hy
    clear hy
    have k0 := X1.out.cell 0
    have k1 := X1.out.cell 1
    have k2 := X1.out.cell 2
    have k3 := X1.out.cell 3
    have k4 := X1.out.cell 4
    go_wp2_with fail
    clear k0 k1 k2 k3 k4
    refine (im_fieldValid F A c T d fa ft _ HF.out HS.out).mono ?_; rintro e w2 ⟨rfl, b2⟩
    have X2 := Lib.hid (X1.out.below b2)
    have B2 := Lib.hid (below_then BB.out b2)
    have HF2 := Lib.hid (HF.out.below b2)
    clear b2
    cases hv : fldB F
    · have HT : Hid (lineT F y = []) := Lib.hid (by unfold lineT; rw [hv]; simp)
      clear hv
      go_wp2_with fail
      go_ret
      rw [HT.out]
      exact ⟨none, 0, [], rfl, Nat.le_refl _, .nil _ _, .nil _ _, B2.out⟩
    · have HV := Lib.hid (fldB_iff.1 hv)
      have HT := Lib.hid (lineT_yes hv HY.out)
      clear hv
      have k0 := X2.out.cell 0
      have k1 := X2.out.cell 1
      have k2 := X2.out.cell 2
      have k3 := X2.out.cell 3
      have k4 := X2.out.cell 4
      go_wp2_with fail
      clear k0 k1 k2 k3 k4
      have hy := betB_iff.1 HY.out
      refine (im_line F A c T d fa ft y _ HF2.out HV.out hy.1 hy.2).mono ?_; rintro e w3 ⟨R, cc, fr, rfl, hcc, hi, hn, b3⟩
      have B3 := Lib.hid (below_then B2.out b3)
      have HI := Lib.hid hi
      have HN := Lib.hid (hn.mono B2.out.size)
      clear hi hn b3 hy
      go_wp2_with fail
      go_ret
      rw [HT.out, lineF_len]
      exact ⟨R, cc, fr, rfl, hcc, HI.out, HN.out, B3.out⟩
set_option maxHeartbeats 1000000 in
theorem im_fieldPixel (F : Fld) (A : Option Addr) (c : Nat) (T : Option Addr) (d : Nat) (fa ft : List Nat) (x y : Int) (w : World) (hF : FHas w A T F fa ft) (hs : FSmall F) :
    Calls Try.prog 20 #[fv F A c T d, .int .i64 x, .int .i64 y] w fun e w' => e = .returned (.int .i64 (pixT F x y)) ∧ Below w.heap.size w w' := by
  have BB := Lib.hid (below1 w (.cells #[.int .i64 F.w, .slice A F.xs.length c, .slice T F.nt d, .int .i64 F.sx, .int .i64 F.sy] 26))
  have X1 := Lib.hid (Box.new w #[.int .i64 F.w, .slice A F.xs.length c, .slice T F.nt d, .int .i64 F.sx, .int .i64 F.sy] 26)
  have HF := Lib.hid (FHas.below hF BB.out)
  have HS := Lib.hid hs
  clear hF hs
  go_enter Try.func20, Try.ntmps20
  go_wp2_with fail
  generalize w.alloc (.cells #[.int .i64 F.w, .slice A F.xs.length c, .slice T F.nt d, .int .i64 F.sx, .int .i64 F.sy] 26) = w1 at X1 BB HF ⊢
  generalize hbb : w.heap.size = bb at X1 ⊢
  have HBB := Lib.hid hbb
  clear hbb
  refine (im_isColumn x _).mono ?_; rintro e w2 ⟨rfl, rfl⟩
  cases hx : betB x 0 31
  · have HT : Hid (pixT F x y = -1) := Lib.hid (by unfold pixT; rw [hx]; simp)
    clear hx
    go_wp2_with fail
    go_ret
    exact ⟨ret_int HT.out.symm, BB.out⟩
  · have HX := Lib.hid hx
    clear hx
    go_wp2_with fail
    refine (im_isLine y _).mono ?_; rintro e w2 ⟨rfl, rfl⟩
    cases hy : betB y 0 15
    · have HT : Hid (pixT F x y = -1) := Lib.hid (by unfold pixT; rw [hy]; simp)
      clear hy
      go_wp2_with fail
      go_ret
      exact ⟨ret_int HT.out.symm, BB.out⟩
    · have HY := Lib.hid hy
      clear hy
      have k0 := X1.out.cell 0
      have k1 := X1.out.cell 1
      have k2 := X1.out.cell 2
      have k3 := X1.out.cell 3
      have k4 := X1.out.cell 4
      go_wp2_with fail
      clear k0 k1 k2 k3 k4
      refine (im_fieldValid F A c T d fa ft _ HF.out HS.out).mono ?_; rintro e w2 ⟨rfl, b2⟩
      have X2 := Lib.hid (X1.out.below b2)
      have B2 := Lib.hid (below_then BB.out b2)
      have HF2 := Lib.hid (HF.out.below b2)
      clear b2
      cases hv : fldB F
      · have HT : Hid (pixT F x y = -1) := Lib.hid (by unfold pixT; rw [hv]; simp)
        clear hv
        go_wp2_with fail
        go_ret
        exact ⟨ret_int HT.out.symm, B2.out⟩
      · have HV := Lib.hid (fldB_iff.1 hv)
        have HT := Lib.hid (pixT_yes hv HX.out HY.out)
        clear hv
        have k0 := X2.out.cell 0
        have k1 := X2.out.cell 1
        have k2 := X2.out.cell 2
        have k3 := X2.out.cell 3
        have k4 := X2.out.cell 4
        go_wp2_with fail
        clear k0 k1 k2 k3 k4
        have hy := betB_iff.1 HY.out
        have hx := betB_iff.1 HX.out
        refine (im_run F A c T d fa ft x y _ HF2.out HV.out hx.1 hx.2 hy.1 hy.2).mono ?_; rintro e w3 ⟨R, cc, rfl, hcc, hi, b3⟩
        have B3 := Lib.hid (below_then B2.out b3)
        have hr := runN_b F x
        obtain ⟨p, o, rfl, _, _, hc⟩ := hi.at_ (by omega)
        have c0 := hc 0 (by omega)
        rw [runF_get _ _ _ _ (by omega), show x + ((0 : Nat) : Int) = x by omega, Nat.add_zero] at c0
        have hr0 : 0 < runN F x := by omega
        have hr1 : (0 : Int) < runN F x := by omega
        have hr2 : runN F x ≠ 0 := by omega
        clear hi hc b3 hx hy
        go_wp2_with fail
        go_ret
        exact ⟨ret_int HT.out.symm, B3.out⟩
end Go.Proofs.Ytacebhncecninaa
end

section
/- The program's shifted backgrounds: copies of tables and of tiles, ShiftField. -/
namespace Go.Proofs.Ytacebhncecninaa
open Go.ChangeShapes Go.WideShapes Go.ChangeAt Go.RowKit
set_option linter.unusedVariables false

theorem clone_tiles (A : Option Addr) (m c : Nat) (zs : List Int) (fa : List Nat) (w : World) (ha : Ints w A (64 * m) zs fa) (hn : m ≤ 1000000000) :
    Calls Try.prog 99 #[.slice A m c] w (CopiedT zs m w) := by
  have HA := Lib.hid ha
  rcases A with _ | ad
  · have hx : zs = [] ∧ m = 0 := by
      obtain ⟨hl, ⟨h, _⟩ | ⟨_, b, o, h, _⟩⟩ := ha
      · exact ⟨List.eq_nil_of_length_eq_zero (by omega), by omega⟩
      · cases h
    obtain ⟨rfl, rfl⟩ := hx
    clear ha
    have hq := fun W => Lib.run_eql_slice_nil (P := Try.prog) W 24 57 none 0 c 0 0 Try.underlying24
    go_enter Try.func99, Try.ntmps99
    go_wp2
    go_ret
    exact ⟨none, 0, [], rfl, Nat.le_refl _, .nil _ _, .nil _ _, Below.refl _ _⟩
  · clear ha
    have hq := fun W => Lib.run_eql_slice_nil (P := Try.prog) W 24 57 (some ad) m c 0 0 Try.underlying24
    go_enter Try.func99, Try.ntmps99
    go_wp2_with (at_builtin; refine wpList_append_tiles rfl _ _ rfl w.heap.size _ 0 [] rfl (own_empty64 w _ _ (Nat.le_refl _)) _ _ _ zs fa rfl (HA.out.below (below1 w _)) (by omega) (by simp) ?_; intro v' w1 hown hgrow hat)
    have HO : Hid (w1.ownsRow w.heap.size 57 64 v' m (iv zs)) := by
      simp only [Nat.zero_add, List.nil_append] at hown
      exact hown
    have HB := Lib.hid (below_grown (below1 w _) hgrow (by simp) (fun k hk => by have h : some w.heap.size = some k := hk; injection h; omega))
    clear hown hgrow hat hq
    go_wp2
    go_ret
    obtain ⟨A2, c2, fp, rfl, hc, hi, hn, _⟩ := own_tiles HO.out
    exact ⟨A2, c2, fp, rfl, hc, hi, hn, HB.out⟩
end Go.Proofs.Ytacebhncecninaa
end

section
/- The program's ShiftField. -/
namespace Go.Proofs.Ytacebhncecninaa
open Go.ChangeShapes Go.WideShapes Go.ChangeAt Go.RowKit
set_option linter.unusedVariables false

theorem fld_info : (Try.prog.info? 26).map (·.size) = some 5 := by kernel_rfl
/-- The cells of a background. -/
abbrev fcs (W : Int) (A : Option Addr) (n c : Nat) (T : Option Addr) (m d : Nat) (sx sy : Int) : List Value := [.int .i64 W, .slice A n c, .slice T m d, .int .i64 sx, .int .i64 sy]
/-- What a function with one background for its result hands back. -/
theorem fld_ret {fn : Func} {p : Tmp} {tmps : Array Value} {w : World} {b : Nat} {t : TypeId} {W : Int} {A : Option Addr} {n c : Nat} {T : Option Addr} {m d : Nat} {sx sy : Int} (hr : fn.results = #[.cell p 26]) (hp : tmps.getD p undef = .pointer (some ⟨b, 0, none⟩)) (hb : Box w b t (fcs W A n c T m d sx sy)) : (results fn tmps).run Try.prog w = .ok (fldV W A n c T m d sx sy) w :=
  results_cell_row hr tmps w b t (fcs W A n c T m d sx sy).toArray (0, 0) _ hp hb Try.underlying26 rfl fld_info
/-- A new background as a result. -/
def FNew (F : Fld) (w : World) (e : Ending) (w' : World) : Prop :=
  ∃ (A : Option Addr) (c : Nat) (T : Option Addr) (d : Nat) (fa ft : List Nat), e = .returned (fv F A c T d) ∧ F.xs.length ≤ c ∧ F.nt ≤ d ∧ FHas w' A T F fa ft ∧ New w.heap.size w' (fa ++ ft) ∧ Below w.heap.size w w'
section
variable {ops : Array Oper} {rest : List Oper} {o : Oper} {a : Act} {w : World} {Q : Exit → Act → World → Prop} {W : Int} {A : Option Addr} {n c : Nat} {T : Option Addr} {m d : Nat} {sx sy : Int}
theorem fs_load {t : TypeId} (hw : Region.wanted o (yielded ops a.tmps) = true) (x : Operand) (ho : o.op = .load 26 x) (b : Nat) (hx : a.eval x = .pointer (some ⟨b, 0, none⟩)) (hb : Box w b t (fcs W A n c T m d sx sy))
    (h : wpList Try.prog ops Q rest (a.put o.dst (fldV W A n c T m d sx sy)) w) : wpList Try.prog ops Q (o :: rest) a w :=
  wpList_step fun K hK => by
    rw [if_pos hw]
    exact wp_load_row _ x ho b hx t (fcs W A n c T m d sx sy).toArray (0, 0) _ hb Try.underlying26 rfl fld_info (hK _ _ h)
theorem fs_store {t : TypeId} (hw : Region.wanted o (yielded ops a.tmps) = true) (x y : Operand) (ho : o.op = .store 26 x y) (b : Nat) (hx : a.eval x = .pointer (some ⟨b, 0, none⟩)) (hy : a.eval y = fldV W A n c T m d sx sy) (cs : List Value) (hb : Box w b t cs) (hc : cs.length = 5)
    (h : wpList Try.prog ops Q rest (a.put o.dst undef) (w.setRow b (fcs W A n c T m d sx sy).toArray)) : wpList Try.prog ops Q (o :: rest) a w :=
  wpList_step fun K hK => by
    rw [if_pos hw]
    exact wp_store_row _ x y ho b (fcs W A n c T m d sx sy).toArray hx hy t cs.toArray hb fld_info (by simpa using hc) (by simp [Value.oneCell']) (hK _ _ h)
end
/-- Two slices, made one after the other, and what changes beside them. -/
theorem fnew_of {w w1 w2 w3 w4 : World} {S : List Nat} {A2 A3 : Option Addr} {f2 f3 : List Nat} {xs zs : List Int} {n m : Nat} (n2 : New w1.heap.size w2 f2) (n3 : New w2.heap.size w3 f3) (h1 : w.heap.size ≤ w1.heap.size) (b12 : w1.heap.size ≤ w2.heap.size) (b3 : Below w2.heap.size w2 w3) (i2 : Ints w2 A2 n xs f2) (i3 : Ints w3 A3 m zs f3) (ho : Only S w3 w4) (hS : ∀ b ∈ S, b < w1.heap.size) :
    Ints w4 A2 n xs f2 ∧ Ints w4 A3 m zs f3 ∧ New w.heap.size w4 (f2 ++ f3) := by
  have s2 : Same f2 w3 w4 := .of_only ho fun b hb hs => by have := (n2.lt b hb).1; have := hS b hs; omega
  have s3 : Same f3 w3 w4 := .of_only ho fun b hb hs => by have := (n3.lt b hb).1; have := hS b hs; omega
  exact ⟨(i2.below b3).keep s2, i3.keep s3, (((n2.mono h1).keep (.of_below b3)).keep s2).append ((n3.mono (by omega)).keep s3) fun b hb hc => by have := (n2.lt b hb).2; have := (n3.lt b hc).1; omega⟩
theorem im_wrap (a m : Int) (w : World) (hm : 1 ≤ m) (hm2 : m ≤ 64) (h0 : -1000 ≤ a) (h1 : a ≤ 1000) :
    Calls Try.prog 64 #[.int .i64 a, .int .i64 m] w fun e w' => e = .returned (.int .i64 (a % m)) ∧ w = w' := by
  have hw := wrap_mod a m (by omega)
  have b1 : -m < a.tmod m ∧ a.tmod m < m := by
    have h2 := Int.emod_nonneg a (show m ≠ 0 by omega)
    have h3 := Int.emod_lt_of_pos a (show 0 < m by omega)
    rw [Int.tmod_eq_emod]
    split <;> omega
  obtain ⟨r, hr⟩ : ∃ r, a.tmod m = r := ⟨_, rfl⟩
  rw [hr] at hw b1
  obtain ⟨b1, b2⟩ := b1
  obtain ⟨q, hq⟩ : ∃ q, (r + m).tmod m = q := ⟨_, rfl⟩
  have hm0 : m ≠ 0 := by omega
  have q0 : 0 ≤ r + m := by omega
  have hq2 : (r + m) % m = q := by rw [← hq]; exact (Int.tmod_eq_emod_of_nonneg q0).symm
  have HW := Lib.hid hw
  have HQ := Lib.hid hq
  clear hw hq
  go_enter Try.func64, Try.ntmps64
  go_wp2_with fail
  go_ret
  exact ⟨ret_int (by rw [← HW.out, HQ.out]; exact hq2), rfl⟩
set_option maxHeartbeats 2000000 in
theorem im_cloneField (F : Fld) (A : Option Addr) (c : Nat) (T : Option Addr) (d : Nat) (fa ft : List Nat) (w : World) (hF : FHas w A T F fa ft) (hs : FSmall F) :
    Calls Try.prog 63 #[fv F A c T d] w (FNew F w) := by
  obtain ⟨w1, hw1⟩ : ∃ w1, w1 = (w.alloc (.cells #[.int .i64 F.w, .slice A F.xs.length c, .slice T F.nt d, .int .i64 F.sx, .int .i64 F.sy] 26)).alloc (.cells #[.int .i64 0, .slice none 0 0, .slice none 0 0, .int .i64 0, .int .i64 0] 26) := ⟨_, rfl⟩
  have X1 : Hid (Box w1.drew w.heap.size 26 (fcs F.w A F.xs.length c T F.nt d F.sx F.sy)) := by rw [hw1]; exact (Box.new w _ _).alloc _
  have Y1 : Hid (Box w1.drew (w.heap.size + 1) 26 (fcs 0 none 0 0 none 0 0 0 0)) := by rw [hw1]; exact Box.new_at _ _ _ _ (by simp)
  have B1 : Hid (Below w.heap.size w w1.drew) := by rw [hw1]; exact (below2 w _ _).drew
  have HF := Lib.hid (FHas.below hF B1.out)
  have HS := Lib.hid hs
  clear hF hs
  have x0 : w1.cell? ⟨w.heap.size, 0, none⟩ = some (.int .i64 F.w) := X1.out.cell 0
  have x1 : w1.cell? ⟨w.heap.size, 1, none⟩ = some (.slice A F.xs.length c) := X1.out.cell 1
  have x2 : w1.cell? ⟨w.heap.size, 2, none⟩ = some (.slice T F.nt d) := X1.out.cell 2
  have x3 : w1.cell? ⟨w.heap.size, 3, none⟩ = some (.int .i64 F.sx) := X1.out.cell 3
  have x4 : w1.cell? ⟨w.heap.size, 4, none⟩ = some (.int .i64 F.sy) := X1.out.cell 4
  go_enter Try.func63, Try.ntmps63
  go_upto_region 1 with (fail)
  rw [← hw1]
  clear hw1
  go_region_law (first
    | (go_simp; go_at_call 98; refine (clone_ints A F.xs.length c F.xs fa _ HF.out.1 HS.out.1).mono ?_; rintro e w2 ⟨A2, c2, f2, rfl, hc2, i2, n2, b2⟩; have HC2 := Lib.hid hc2; have I2 := Lib.hid i2; have N2 := Lib.hid n2; have X2 := Lib.hid (X1.out.below b2); have Y2 := Lib.hid (Y1.out.below b2); have HT2 := Lib.hid (HF.out.2.below b2); have B2 := Lib.hid (below_then B1.out b2); have HL2 := Lib.hid b2.size; have z2 : w2.cell? ⟨w.heap.size, 2, none⟩ = some (.slice T F.nt d) := X2.out.cell 2; clear hc2 i2 n2 b2)
    | (go_simp; go_at_call 99; refine (clone_tiles T F.nt d F.zs ft _ HT2.out HS.out.2).mono ?_; rintro e w3 ⟨A3, c3, f3, rfl, hc3, i3, n3, b3⟩; have HC3 := Lib.hid hc3; have Q3 := Lib.hid b3; have I3 := Lib.hid i3; have N3 := Lib.hid n3; have X3 := Lib.hid (X2.out.below b3); have Y3 := Lib.hid (Y2.out.below b3); have B3 := Lib.hid (below_then B2.out b3); have J3 := Lib.hid (I2.out.below b3); have M3 := Lib.hid (N2.out.keep (.of_below b3)); have y1 := X3.out.cell 1; have y2 := X3.out.cell 2; have u1 := X3.out.frozen 1; have u2 := X3.out.frozen 2; clear hc3 i3 n3 b3))
  all_goals
    have X4 := Lib.hid ((X3.out.set 1 (.slice A2 F.xs.length c2)).set 2 (.slice A3 F.nt c3))
    have Y4 := Lib.hid ((Y3.out.far (b' := w.heap.size) (i := 1) (by omega) (.slice A2 F.xs.length c2)).far (b' := w.heap.size) (i := 2) (by omega) (.slice A3 F.nt c3))
    have O4 := Lib.hid (((Only.refl [w.heap.size, w.heap.size + 1] w3).setCell (q := w.heap.size) (j := 1) (.inl (by simp)) (.slice A2 F.xs.length c2)).setCell (q := w.heap.size) (j := 2) (.inl (by simp)) (.slice A3 F.nt c3))
    have B4 := Lib.hid ((B3.out.setCell (p := ⟨w.heap.size, 1, none⟩) (Nat.le_refl _) (.slice A2 F.xs.length c2)).setCell (p := ⟨w.heap.size, 2, none⟩) (Nat.le_refl _) (.slice A3 F.nt c3))
    generalize (w3.setCell ⟨w.heap.size, 1, none⟩ (.slice A2 F.xs.length c2)).setCell ⟨w.heap.size, 2, none⟩ (.slice A3 F.nt c3) = w4 at X4 Y4 O4 B4 ⊢
    have HK := Lib.hid (show w.heap.size ≤ w1.drew.heap.size ∧ ∀ b ∈ [w.heap.size, w.heap.size + 1], b < w1.drew.heap.size from ⟨B1.out.size, by have := Y1.out.lt; simp only [List.mem_cons, List.mem_nil_iff, or_false]; rintro b (rfl | rfl) <;> omega⟩)
    clear x0 x1 x2 x3 x4 y1 y2 u1 u2
    go_wp2_with (first | (refine fs_load (by rfl) _ rfl w.heap.size rfl X4.out ?_) | (refine fs_store (by rfl) _ _ rfl (w.heap.size + 1) rfl rfl _ Y4.out rfl ?_))
    refine bodyPost_ret (v := fv F A2 c2 A3 c3) (fld_ret rfl rfl (Box.row Y4.out)) rfl ?_
    have hfn := fnew_of (w := w) N2.out N3.out HK.out.1 HL2.out Q3.out I2.out I3.out (O4.out.row (g := w.heap.size + 1) (.inl (by simp)) (fcs F.w A2 F.xs.length c2 A3 F.nt c3 F.sx F.sy).toArray) HK.out.2
    exact ⟨A2, c2, A3, c3, f2, f3, rfl, HC2.out, HC3.out, ⟨hfn.1, hfn.2.1⟩, hfn.2.2, below_row B4.out (by omega) _⟩
theorem im_isShiftChange (x : Int) (w : World) : Calls Try.prog 62 #[.int .i64 x] w fun e w' => e = .returned (.bool (betB x (-255) 255)) ∧ w = w' := by
  by_cases h0 : -255 ≤ x
  · by_cases h1 : x ≤ 255
    · have HB := Lib.hid (betB_iff.2 ⟨h0, h1⟩)
      go_enter Try.func62, Try.ntmps62
      go_wp2_with fail
      go_ret
      exact ⟨ret_bool HB.out.symm, rfl⟩
    · have HB := Lib.hid (betB_no (show ¬ (-255 ≤ x ∧ x ≤ 255) by omega))
      have hd : decide (x ≤ 255) = false := by simp; omega
      clear h1
      go_enter Try.func62, Try.ntmps62
      go_wp2_with fail
      go_ret
      exact ⟨ret_bool HB.out.symm, rfl⟩
  · have HB := Lib.hid (betB_no (show ¬ (-255 ≤ x ∧ x ≤ 255) by omega))
    have hd : decide (-255 ≤ x) = false := by simp; omega
    clear h0
    go_enter Try.func62, Try.ntmps62
    go_wp2_with fail
    go_ret
    exact ⟨ret_bool HB.out.symm, rfl⟩
theorem wrap_small (x : Int) (h0 : -1000000 ≤ x) (h1 : x ≤ 1000000) : IntKind.i64.wrap x = x := by
  simp [IntKind.wrap, IntKind.bits, IntKind.signed]
  omega
theorem fnew_zero {w w' : World} (b : Below w.heap.size w w') : FNew Fld.zero w (.returned (fldV 0 none 0 0 none 0 0 0 0)) w' :=
  ⟨none, 0, none, 0, [], [], rfl, Nat.le_refl _, Nat.le_refl _, ⟨.nil _ _, .nil _ _⟩, .nil _ _, b⟩
set_option maxHeartbeats 4000000 in
theorem im_shiftField (F : Fld) (A : Option Addr) (c : Nat) (T : Option Addr) (d : Nat) (fa ft : List Nat) (dx dy : Int) (w : World) (hF : FHas w A T F fa ft) (hs : FSmall F) :
    Calls Try.prog 22 #[fv F A c T d, .int .i64 dx, .int .i64 dy] w (FNew (shT F dx dy) w) := by
  obtain ⟨w1, hw1⟩ : ∃ w1, w1 = (w.alloc (.cells #[.int .i64 F.w, .slice A F.xs.length c, .slice T F.nt d, .int .i64 F.sx, .int .i64 F.sy] 26)).alloc (.cells #[.int .i64 0, .slice none 0 0, .slice none 0 0, .int .i64 0, .int .i64 0] 26) := ⟨_, rfl⟩
  have X1 : Hid (Box w1 w.heap.size 26 (fcs F.w A F.xs.length c T F.nt d F.sx F.sy)) := by rw [hw1]; exact (Box.new w _ _).alloc _
  have Y1 : Hid (Box w1 (w.heap.size + 1) 26 (fcs 0 none 0 0 none 0 0 0 0)) := by rw [hw1]; exact Box.new_at _ _ _ _ (by simp)
  have B1 : Hid (Below w.heap.size w w1) := by rw [hw1]; exact below2 w _ _
  have HF := Lib.hid (FHas.below hF B1.out)
  have HS := Lib.hid hs
  clear hF hs
  go_enter Try.func22, Try.ntmps22
  go_wp2_with fail
  rw [← hw1]
  clear hw1
  generalize hb0 : w.heap.size = b0 at X1 Y1 B1 ⊢
  generalize hb1 : b0 + 1 = b1 at Y1 ⊢
  have HB0 := Lib.hid hb0
  have HB1 := Lib.hid hb1
  clear hb0 hb1
  refine (im_isShiftChange dx _).mono ?_; rintro e w2 ⟨rfl, rfl⟩
  cases hx : betB dx (-255) 255
  · have HT : Hid (shT F dx dy = Fld.zero) := Lib.hid (by unfold shT; rw [hx]; simp)
    clear hx
    go_wp2_with (first | (refine fs_store (by rfl) _ _ rfl b1 rfl rfl _ Y1.out rfl ?_))
    refine bodyPost_ret (v := fldV 0 none 0 0 none 0 0 0 0) (fld_ret rfl rfl (Box.row Y1.out)) rfl ?_
    rw [HT.out]
    exact fnew_zero (by rw [HB0.out]; exact below_row B1.out (by have := HB1.out; omega) _)
  have HX := Lib.hid hx
  clear hx
  go_wp2_with fail
  refine (im_isShiftChange dy _).mono ?_; rintro e w2 ⟨rfl, rfl⟩
  cases hx : betB dy (-255) 255
  · have HT : Hid (shT F dx dy = Fld.zero) := Lib.hid (by unfold shT; rw [hx]; simp)
    clear hx
    go_wp2_with (first | (refine fs_store (by rfl) _ _ rfl b1 rfl rfl _ Y1.out rfl ?_))
    refine bodyPost_ret (v := fldV 0 none 0 0 none 0 0 0 0) (fld_ret rfl rfl (Box.row Y1.out)) rfl ?_
    rw [HT.out]
    exact fnew_zero (by rw [HB0.out]; exact below_row B1.out (by have := HB1.out; omega) _)
  have HY := Lib.hid hx
  clear hx
  go_wp2_with (first | (refine fs_load (by rfl) _ rfl b0 rfl X1.out ?_))
  refine (im_fieldValid F A c T d fa ft _ HF.out HS.out).mono ?_; rintro e w2 ⟨rfl, b2⟩
  have X2 := Lib.hid (X1.out.below b2)
  have Y2 := Lib.hid (Y1.out.below b2)
  have HF2 := Lib.hid (HF.out.below b2)
  have B2 : Hid (Below b0 w w2) := Lib.hid (B1.out.trans (b2.mono (by have := X1.out.lt; omega)))
  clear b2 X1 Y1 HF B1
  cases hx : fldB F
  · have HT : Hid (shT F dx dy = Fld.zero) := Lib.hid (by unfold shT; rw [hx]; simp)
    clear hx
    go_wp2_with (first | (refine fs_store (by rfl) _ _ rfl b1 rfl rfl _ Y2.out rfl ?_))
    refine bodyPost_ret (v := fldV 0 none 0 0 none 0 0 0 0) (fld_ret rfl rfl (Box.row Y2.out)) rfl ?_
    rw [HT.out]
    exact fnew_zero (by rw [HB0.out]; exact below_row B2.out (by have := HB1.out; omega) _)
  have HT := Lib.hid (shT_yes hx HX.out HY.out)
  have HV := Lib.hid (fldB_iff.1 hx)
  clear hx
  go_wp2_with (first | (refine fs_load (by rfl) _ rfl b0 rfl X2.out ?_))
  refine (im_cloneField F A c T d fa ft _ HF2.out HS.out).mono ?_; rintro e w3 ⟨A3, c3, T3, d3, fa3, ft3, rfl, hc3, hd3, hf3, hn3, b3⟩
  have X3 := Lib.hid (X2.out.below b3)
  have Y3 := Lib.hid (Y2.out.below b3)
  have HF3 := Lib.hid hf3
  have HN3 := Lib.hid (hn3.mono (show b0 ≤ w2.heap.size by have := X2.out.lt; omega))
  have HX3 := Lib.hid (fun b hb => (hn3.lt b hb).1)
  have HQ3 := Lib.hid b3.size
  have HC3 := Lib.hid (And.intro hc3 hd3)
  have B3 : Hid (Below b0 w w3) := Lib.hid (B2.out.trans (b3.mono (by have := X2.out.lt; omega)))
  have HL := Lib.hid (And.intro X2.out.lt Y2.out.lt)
  clear hf3 hn3 hc3 hd3 b3 X2 Y2 HF2 B2
  go_wp2_with fail
  obtain ⟨w4, hw4⟩ : ∃ w4, w4 = w3.alloc (.cells #[.int .i64 F.w, .slice A3 F.xs.length c3, .slice T3 F.nt d3, .int .i64 F.sx, .int .i64 F.sy] 26) := ⟨_, rfl⟩
  obtain ⟨g, hg⟩ : ∃ g, g = w3.heap.size := ⟨_, rfl⟩
  have X4 : Hid (Box w4 b0 26 (fcs F.w A F.xs.length c T F.nt d F.sx F.sy)) := by rw [hw4]; exact X3.out.alloc _
  have Y4 : Hid (Box w4 b1 26 (fcs 0 none 0 0 none 0 0 0 0)) := by rw [hw4]; exact Y3.out.alloc _
  have Z4 : Hid (Box w4 g 26 (fcs F.w A3 F.xs.length c3 T3 F.nt d3 F.sx F.sy)) := by rw [hw4, hg]; exact Box.new _ _ _
  have B4 : Hid (Below b0 w w4) := by rw [hw4]; exact B3.out.alloc (by have := X3.out.lt; omega) _
  have O4 : Hid (Only [g, b1] w3 w4) := by rw [hw4]; exact (Only.refl _ _).alloc _
  rw [← hw4, ← hg]
  have HG : Hid (b0 < b1 ∧ b1 < w2.heap.size ∧ w2.heap.size ≤ w3.heap.size ∧ g = w3.heap.size) := Lib.hid ⟨by have := HB1.out; omega, HL.out.2, by
    have := HC3.out
    exact HQ3.out, hg⟩
  clear hw4 hg
  have n0 : (0 : Int) ≤ F.xs.length := by omega
  obtain ⟨v1, v8⟩ := And.intro HV.out.w1 HV.out.w8
  have sx0 := HV.out.x0
  have sx1 := HV.out.x1
  have sy0 := HV.out.y0
  have sy1 := HV.out.y1
  obtain ⟨r1, r8⟩ := HV.out.rows.2
  have dx1 := (betB_iff.1 HX.out).1
  have dx2 := (betB_iff.1 HX.out).2
  have dy1 := (betB_iff.1 HY.out).1
  have dy2 := (betB_iff.1 HY.out).2
  have X4d : Hid (Box w4.drew b0 26 (fcs F.w A F.xs.length c T F.nt d F.sx F.sy)) := Lib.hid X4.out
  have Y4d : Hid (Box w4.drew b1 26 (fcs 0 none 0 0 none 0 0 0 0)) := Lib.hid Y4.out
  have Z4d : Hid (Box w4.drew g 26 (fcs F.w A3 F.xs.length c3 T3 F.nt d3 F.sx F.sy)) := Lib.hid Z4.out
  have B4d : Hid (Below b0 w w4.drew) := Lib.hid B4.out.drew
  have O4d : Hid (Only [g, b1] w3 w4.drew) := Lib.hid (O4.out.drewN 1)
  have x0 : w4.cell? ⟨b0, 0, none⟩ = some (.int .i64 F.w) := X4.out.cell 0
  have x1 : w4.cell? ⟨b0, 1, none⟩ = some (.slice A F.xs.length c) := X4.out.cell 1
  have x2 : w4.cell? ⟨b0, 2, none⟩ = some (.slice T F.nt d) := X4.out.cell 2
  have x3 : w4.cell? ⟨b0, 3, none⟩ = some (.int .i64 F.sx) := X4.out.cell 3
  have x4 : w4.cell? ⟨b0, 4, none⟩ = some (.int .i64 F.sy) := X4.out.cell 4
  have hwx := wrap_small (F.sx + dx) (by omega) (by omega)
  clear X4 Y4 Z4 B4 O4 X3 Y3 B3
  go_region_law (first
    | (go_simp; go_at_call 65; refine (im_width F.w A F.xs.length c T F.nt d F.sx F.sy _ v1 v8).mono ?_; rintro e w5 ⟨rfl, b5⟩; have X5 := Lib.hid (X4d.out.below b5); have Y5 := Lib.hid (Y4d.out.below b5); have Z5 := Lib.hid (Z4d.out.below b5); have B5 : Hid (Below b0 w w5) := Lib.hid (B4d.out.trans (b5.mono (by have := X4d.out.lt; omega))); have O5 := Lib.hid (O4d.out.trans (Only.of_below b5)); have y3 := X5.out.cell 3; have z3 := Z5.out.cell 3; have u3 := Z5.out.frozen 3; clear b5)
    | (go_simp; go_at_call 64; refine (im_wrap (F.sx + dx) (8 * F.w) _ (by omega) (by omega) (by omega) (by omega)).mono ?_; rintro e w6 ⟨rfl, rfl⟩))
  all_goals
    obtain ⟨nx, hnx⟩ : ∃ nx, (F.sx + dx) % (8 * F.w) = nx := ⟨_, rfl⟩
    have HNX := Lib.hid hnx
    rw [hnx]
    clear hnx
    have X6 : Hid (Box (w5.setCell ⟨g, 3, none⟩ (.int .i64 nx)).drew b0 26 (fcs F.w A F.xs.length c T F.nt d F.sx F.sy)) := Lib.hid (X5.out.far (b' := g) (i := 3) (by have := HG.out; omega) _)
    have Y6 : Hid (Box (w5.setCell ⟨g, 3, none⟩ (.int .i64 nx)).drew b1 26 (fcs 0 none 0 0 none 0 0 0 0)) := Lib.hid (Y5.out.far (b' := g) (i := 3) (by have := HG.out; omega) _)
    have Z6 : Hid (Box (w5.setCell ⟨g, 3, none⟩ (.int .i64 nx)).drew g 26 (fcs F.w A3 F.xs.length c3 T3 F.nt d3 nx F.sy)) := Lib.hid (Z5.out.set 3 (.int .i64 nx))
    have B6 : Hid (Below b0 w (w5.setCell ⟨g, 3, none⟩ (.int .i64 nx)).drew) := Lib.hid (B5.out.setCell (p := ⟨g, 3, none⟩) (show b0 ≤ g by have := HG.out; omega) _).drew
    have O6 : Hid (Only [g, b1] w3 (w5.setCell ⟨g, 3, none⟩ (.int .i64 nx)).drew) := Lib.hid ((O5.out.setCell (q := g) (j := 3) (.inl (by simp)) _).drewN 1)
    clear X4d Y4d Z4d B4d O4d X5 Y5 Z5 B5 O5 x0 x1 x2 x3 x4 y3 z3 u3 hwx
    generalize w5.setCell ⟨g, 3, none⟩ (.int .i64 nx) = w6 at X6 Y6 Z6 B6 O6 ⊢
    have x0 : w6.cell? ⟨b0, 0, none⟩ = some (.int .i64 F.w) := X6.out.cell 0
    have x1 : w6.cell? ⟨b0, 1, none⟩ = some (.slice A F.xs.length c) := X6.out.cell 1
    have x2 : w6.cell? ⟨b0, 2, none⟩ = some (.slice T F.nt d) := X6.out.cell 2
    have x3 : w6.cell? ⟨b0, 3, none⟩ = some (.int .i64 F.sx) := X6.out.cell 3
    have x4 : w6.cell? ⟨b0, 4, none⟩ = some (.int .i64 F.sy) := X6.out.cell 4
    have hwy := wrap_small (F.sy + dy) (by omega) (by omega)
    have HH : Hid (∀ W : World, Calls Try.prog 66 #[fldV F.w A F.xs.length c T F.nt d F.sx F.sy] W fun e w' => e = .returned (.int .i64 (8 * F.rw_)) ∧ Below W.heap.size W w') := Lib.hid fun W => im_height F.w A F.xs.length c T F.nt d F.sx F.sy W v1 v8 HS.out.1
    go_wp2_with fail
    go_region_law (first
      | (go_simp; go_at_call 66; refine (HH.out _).mono ?_; rintro e w7 ⟨rfl, b7⟩; have X7 := Lib.hid (X6.out.below b7); have Y7 := Lib.hid (Y6.out.below b7); have Z7 := Lib.hid (Z6.out.below b7); have B7 : Hid (Below b0 w w7) := Lib.hid (B6.out.trans (b7.mono (by have := X6.out.lt; omega))); have O7 := Lib.hid (O6.out.trans (Only.of_below b7)); have y4 := X7.out.cell 4; have z4 := Z7.out.cell 4; have u4 := Z7.out.frozen 4; clear b7)
      | (go_simp; go_at_call 64; refine (im_wrap (F.sy + dy) (8 * F.rw_) _ (by omega) (by omega) (by omega) (by omega)).mono ?_; rintro e w8 ⟨rfl, rfl⟩))
    all_goals
      obtain ⟨ny, hny⟩ : ∃ ny, (F.sy + dy) % (8 * F.rw_) = ny := ⟨_, rfl⟩
      have HNY := Lib.hid hny
      rw [hny]
      clear hny
      have Y8 := Lib.hid (Y7.out.far (b' := g) (i := 4) (by have := HG.out; omega) (.int .i64 ny))
      have Z8 : Hid (Box (w7.setCell ⟨g, 4, none⟩ (.int .i64 ny)) g 26 (fcs F.w A3 F.xs.length c3 T3 F.nt d3 nx ny)) := Lib.hid (Z7.out.set 4 (.int .i64 ny))
      have B8 := Lib.hid (B7.out.setCell (p := ⟨g, 4, none⟩) (show b0 ≤ g by have := HG.out; omega) (.int .i64 ny))
      have O8 := Lib.hid (O7.out.setCell (q := g) (j := 4) (.inl (by simp)) (.int .i64 ny))
      clear X6 Y6 Z6 B6 O6 X7 Y7 Z7 B7 O7 x0 x1 x2 x3 x4 y4 z4 u4 hwy HH
      generalize w7.setCell ⟨g, 4, none⟩ (.int .i64 ny) = w9 at Y8 Z8 B8 O8 ⊢
      go_wp2_with (first | (refine fs_load (by rfl) _ rfl g rfl Z8.out ?_) | (refine fs_store (by rfl) _ _ rfl b1 rfl rfl _ Y8.out rfl ?_))
      refine bodyPost_ret (v := fldV F.w A3 F.xs.length c3 T3 F.nt d3 nx ny) (fld_ret rfl rfl (Box.row Y8.out)) rfl ?_
      have O9 := O8.out.row (g := b1) (.inl (by simp)) (fcs F.w A3 F.xs.length c3 T3 F.nt d3 nx ny).toArray
      have hno : ∀ b ∈ fa3 ++ ft3, b ∉ [g, b1] := fun b hb hs => by
        have h1 := HX3.out b hb
        have h2 := (HN3.out.lt b hb).2
        have h3 := HG.out
        simp only [List.mem_cons, List.mem_nil_iff, or_false] at hs
        omega
      have s9 : Same (fa3 ++ ft3) w3 _ := .of_only O9 hno
      rw [HT.out]
      have e : fldV F.w A3 F.xs.length c3 T3 F.nt d3 nx ny = fv (shF F dx dy) A3 c3 T3 d3 := by rw [← HNX.out, ← HNY.out]; rfl
      rw [e]
      refine ⟨A3, c3, T3, d3, fa3, ft3, rfl, HC3.out.1, HC3.out.2, ⟨HF3.out.1.keep (s9.sub fun b hb => List.mem_append_left _ hb), HF3.out.2.keep (s9.sub fun b hb => List.mem_append_right _ hb)⟩, (HN3.out.keep s9).mono (by rw [HB0.out]; omega), ?_⟩
      rw [HB0.out]
      exact below_row B8.out (by have := HG.out; omega) _
end Go.Proofs.Ytacebhncecninaa
end

section
/- Typed regions with whole backgrounds: loads, stores, new backgrounds, fresh appends. -/
namespace Go.Proofs.Ytacebhncecninaa
open Go.ChangeShapes Go.WideShapes Go.ChangeAt Go.RowKit
set_option linter.unusedVariables false

theorem FNew.parts {F : Fld} {w w' : World} {e : Ending} (h : FNew F w e w') : ∃ v, e = .returned v := by
  obtain ⟨A, c, T, d, _, _, rfl, _⟩ := h
  exact ⟨_, rfl⟩
/-- A background whose memory is new from block L on. -/
def TFld (L : Nat) (F : Fld) : Value → World → Prop := fun v w => ∃ (A : Option Addr) (c : Nat) (T : Option Addr) (d : Nat) (fa ft : List Nat), v = fv F A c T d ∧ F.xs.length ≤ c ∧ F.nt ≤ d ∧ FHas w A T F fa ft ∧ New L w (fa ++ ft)
theorem stabB_fld (L : Nat) (F : Fld) : Stab RlB (TFld L F) := fun _ w w' (hR : Below w.heap.size w w') ⟨A, c, T, d, fa, ft, hv, h1, h2, h3, h4⟩ => ⟨A, c, T, d, fa, ft, hv, h1, h2, h3.below hR, h4.keep (.of_below hR)⟩
theorem fnew_fld {F : Fld} {w w' : World} {v : Value} {L : Nat} (h : FNew F w (.returned v) w') (hL : L ≤ w.heap.size) : Below w.heap.size w w' ∧ TFld L F v w' := by
  obtain ⟨A, c, T, d, fa, ft, he, h1, h2, h3, h4, h5⟩ := h
  injection he with he
  exact ⟨h5, A, c, T, d, fa, ft, he, h1, h2, h3, h4.mono hL⟩
/-- A slice of integers of the call's own; of tiles. -/
def TOwnI (L n : Nat) (xs : List Int) : Value → World → Prop := fun v w => w.ownsRow L 3 1 v n (iv xs)
def TOwnT (L m : Nat) (zs : List Int) : Value → World → Prop := fun v w => w.ownsRow L 57 64 v m (iv zs)
theorem own_keep_any {w w' : World} {base : Nat} {e : TypeId} {s : Nat} {v : Value} {n : Nat} {xs : List Value} (h : w.ownsRow base e s v n xs) (k : Below w.heap.size w w') : w'.ownsRow base e s v n xs := by
  rcases h with ⟨hl, h | ⟨g, cap, cur, rfl, hb, hh, hr⟩⟩
  · exact ⟨hl, .inl h⟩
  · have hg : g < w.heap.size := by
      by_cases hl : g < w.heap.size
      · exact hl
      · rw [Array.getElem?_eq_none (by omega)] at hh; cases hh
    exact ⟨hl, .inr ⟨g, cap, cur, rfl, hb, (k.block g hg).trans hh, hr⟩⟩
theorem stabB_ownI (L n : Nat) (xs : List Int) : Stab RlB (TOwnI L n xs) := fun _ w w' hR h => own_keep_any h hR
theorem stabB_ownT (L n : Nat) (xs : List Int) : Stab RlB (TOwnT L n xs) := fun _ w w' hR h => own_keep_any h hR
/-- An empty slice. -/
def TEmp : Value → World → Prop := fun v _ => ∃ b, v = .slice (some b) 0 0
theorem stabB_emp : Stab RlB TEmp := fun _ _ _ _ h => h
set_option maxRecDepth 100000 in
theorem append_fresh (t e : TypeId) (size bytes : Nat) (i : TypeInfo) (z : Value) (ht : Try.prog.underlying t = some (.slice e)) (hi : Try.prog.info? e = some i) (hz : i.zero = some z) (hsize : i.size = size) (hby : i.bytes = bytes) (hzs : z.cells.size = size) (w : World) (ty : TypeId) (b0 a : Addr) (m c : Nat) (news : List Value) (hl : news.length = m * size) (hnews : ∀ j u, news[j]? = some u → w.cell? (a.add j) = some u) (h0 : 0 < m) (hm : m ≤ 1000000000) (hb : m * bytes ≤ 140737488355328) :
    ∃ v' w', (Builtin.append_ #[t, t] ty #[.slice (some b0) 0 0, .slice (some a) m c]).run Try.prog w = .ok v' w' ∧ w'.ownsRow w.heap.size e size v' m news ∧ Below w.heap.size w w' := by
  subst hsize hby
  have hr := run_append_grow (P := Try.prog) w t ty e i z ht hi hz b0 0 0 [] (by simp) (by intro j v hj; simp at hj) a m c news hl hnews (by omega) (by omega) (growslice_fits (by omega) (by simpa using hb))
  simp only [Nat.zero_add] at hr
  have hge := grownCap_ge w m 0 e
  have hcm : grownCap w m 0 e ≤ maxLen := grownCap_le_maxLen w m 0 e (by unfold maxLen; omega)
  refine ⟨_, _, hr, ⟨hl, .inr ⟨w.heap.size, _, _, rfl, Nat.le_refl _, heap_alloc_new w.drew _, hge, hcm, ?_, ?_⟩⟩, ((Below.refl _ w).drew).alloc (Nat.le_refl _) _⟩
  · simp only [Array.size_append, List.size_toArray, size_zeroCells, hzs, List.length_nil, hl, Nat.zero_add]
    rw [← Nat.add_mul]
    congr 1
    omega
  · simp only [Array.toList_append, List.nil_append]
    rw [← hl]
    exact List.take_left
section
variable {ops : Array Oper} {Q : Exit → Act → World → Prop} {T : Nat → Value → World → Prop} {a0 : Act} {w0 : World} {i : Nat} {o : Oper}
/-- A whole background is loaded. -/
theorem lb_fld (x : Operand) (b : Nat) {t : TypeId} {W : Int} {A : Option Addr} {n c : Nat} {Tt : Option Addr} {m d : Nat} {sx sy : Int} (hop : o.op = .load 26 x) (hb : Box w0 b t (fcs W A n c Tt m d sx sy)) (hw : ∀ (ρ : Operand → Value) w, PreR ops T ρ w o.after.toList → wantV ops (slotR ρ) o = true)
    (h : ∀ (ρ : Operand → Value) w, (∀ n, (ops.toList.all fun o => o.dst != some n) = true → ρ (.tmp n) = a0.eval (.tmp n)) → PreR ops T ρ w o.after.toList → ρ x = .pointer (some ⟨b, 0, none⟩) ∧ T i (dstV o (fldV W A n c Tt m d sx sy)) w) : Ob Try.prog ops Q (ClB w0) RlB T a0 i o :=
  lb_val (fldV W A n c Tt m d sx sy) hw fun ρ w hbl _ hx hp => by
    obtain ⟨h1, h2⟩ := h ρ w hx hp
    refine ⟨?_, h2⟩
    have hl := run_loadVar_row (P := Try.prog) w b t 26 (fcs W A n c Tt m d sx sy).toArray (0, 0) _ (hb.below hbl) Try.underlying26 rfl fld_info
    unfold execOp
    simp only [hop, h1, Instr.loadAt, Instr.sureAddr, Sem.run_bind, Sem.run_pure, Result.andThen_ok, hl]
/-- An operation that yields a value of which this is known and leaves the world alone. -/
theorem lb_some (hw : ∀ (ρ : Operand → Value) w, PreR ops T ρ w o.after.toList → wantV ops (slotR ρ) o = true)
    (h : ∀ (ρ : Operand → Value) w, Below w0.heap.size w0 w → (∀ v, ρ (.const v) = v) → (∀ n, (ops.toList.all fun o => o.dst != some n) = true → ρ (.tmp n) = a0.eval (.tmp n)) → PreR ops T ρ w o.after.toList → ∃ v, (execOp ρ o).run Try.prog w = .ok (.value v) w ∧ T i (dstV o v) w) : Ob Try.prog ops Q (ClB w0) RlB T a0 i o :=
  lb_gen hw fun ρ w hbl hc _ hx hp => by
    obtain ⟨v, e, ht⟩ := h ρ w hbl hc hx hp
    rw [e]
    exact ⟨Below.refl _ _, ht⟩
/-- An empty literal of a slice. -/
theorem lb_emp (t e : TypeId) (hop : o.op = .buildSlice t 0 #[]) (hw : ∀ (ρ : Operand → Value) w, PreR ops T ρ w o.after.toList → wantV ops (slotR ρ) o = true)
    (hrun : ∀ (ρ : Operand → Value) w, (execOp ρ o).run Try.prog w = .ok (.value (.slice (some ⟨w.heap.size, 0, none⟩) 0 0)) (w.alloc (.cells #[] e)))
    (hT : ∀ v w, TEmp v w → T i (dstV o v) w) : Ob Try.prog ops Q (ClB w0) RlB T a0 i o :=
  lb_gen hw fun ρ w hb _ _ _ _ => by
    rw [hrun ρ w]
    exact ⟨below1 w _, hT _ _ ⟨_, rfl⟩⟩
/-- Integers, and tiles, appended to an empty literal. -/
theorem lb_appI (s x : Operand) (hop : o.op = .call { callee := .builtin .append, args := #[s, x], argTypes := #[23, 23] }) (hw : ∀ (ρ : Operand → Value) w, PreR ops T ρ w o.after.toList → wantV ops (slotR ρ) o = true) {A : Option Addr} {n c : Nat} {xs : List Int} {fa : List Nat} (ha : Ints w0 A n xs fa) (h0 : 0 < n) (hn : n ≤ 1000000000)
    (h : ∀ (ρ : Operand → Value) w, (∀ n, (ops.toList.all fun o => o.dst != some n) = true → ρ (.tmp n) = a0.eval (.tmp n)) → PreR ops T ρ w o.after.toList → (∃ b, ρ s = .slice (some b) 0 0) ∧ ρ x = .slice A n c) (hT : ∀ v w, TOwnI w0.heap.size n xs v w → T i (dstV o v) w) : Ob Try.prog ops Q (ClB w0) RlB T a0 i o :=
  lb_gen hw fun ρ w hbl _ _ hx hp => by
    obtain ⟨⟨b, h1⟩, h2⟩ := h ρ w hx hp
    obtain ⟨i0, hi0, hz0, hz1, hz2⟩ := info_parts infoInt
    have hA := ha.below hbl
    obtain ⟨p, q, rfl, _, _, _⟩ := hA.at_ h0
    obtain ⟨v', w', hr, ho, hB⟩ := append_fresh 23 3 1 8 i0 (.int .i64 0) Try.underlying23 hi0 hz0 hz1 hz2 rfl w o.type b ⟨p, q, none⟩ n c (iv xs) (by simp [hA.1]) (ints_news hA) h0 hn (by omega)
    unfold execOp
    simp only [hop, resolve, invoke, builtin, Sem.run_bind, Sem.run_pure, Result.andThen_ok, List.map_toArray, List.map_cons, List.map_nil, h1, h2, hr]
    exact ⟨hB, hT _ _ (own_down ho hbl.size)⟩
theorem lb_appT (s x : Operand) (hop : o.op = .call { callee := .builtin .append, args := #[s, x], argTypes := #[24, 24] }) (hw : ∀ (ρ : Operand → Value) w, PreR ops T ρ w o.after.toList → wantV ops (slotR ρ) o = true) {A : Option Addr} {n c : Nat} {xs : List Int} {fa : List Nat} (ha : Ints w0 A (64 * n) xs fa) (h0 : 0 < n) (hn : n ≤ 1000000000)
    (h : ∀ (ρ : Operand → Value) w, (∀ n, (ops.toList.all fun o => o.dst != some n) = true → ρ (.tmp n) = a0.eval (.tmp n)) → PreR ops T ρ w o.after.toList → (∃ b, ρ s = .slice (some b) 0 0) ∧ ρ x = .slice A n c) (hT : ∀ v w, TOwnT w0.heap.size n xs v w → T i (dstV o v) w) : Ob Try.prog ops Q (ClB w0) RlB T a0 i o :=
  lb_gen hw fun ρ w hbl _ _ hx hp => by
    obtain ⟨⟨b, h1⟩, h2⟩ := h ρ w hx hp
    obtain ⟨i0, hi0, hz0, hz1, hz2⟩ := tile_parts
    have hA := ha.below hbl
    obtain ⟨p, q, rfl, _, _, _⟩ := hA.at_ (by omega)
    obtain ⟨v', w', hr, ho, hB⟩ := append_fresh 24 57 64 512 i0 (.agg (iv z64).toArray) Try.underlying24 hi0 hz0 hz1 hz2 (by show (iv z64).toArray.size = 64; simp [z64_len]) w o.type b ⟨p, q, none⟩ n c (iv xs) (by simp [hA.1]; omega) (ints_news hA) h0 hn (by omega)
    unfold execOp
    simp only [hop, resolve, invoke, builtin, Sem.run_bind, Sem.run_pure, Result.andThen_ok, List.map_toArray, List.map_cons, List.map_nil, h1, h2, hr]
    exact ⟨hB, hT _ _ (own_down ho hbl.size)⟩
end
/-- A background is stored. -/
theorem exec_storeF (ρ : Operand → Value) (o : Oper) (p x : Operand) (w : World) (b : Nat) {t : TypeId} {cs : List Value} {W : Int} {A : Option Addr} {n c : Nat} {Tt : Option Addr} {m d : Nat} {sx sy : Int} (hop : o.op = .store 26 p x) (hp : ρ p = .pointer (some ⟨b, 0, none⟩)) (hx : ρ x = fldV W A n c Tt m d sx sy) (hb : Box w b t cs) (hc : cs.length = 5) :
    (execOp ρ o).run Try.prog w = .ok .skip (w.setRow b (fcs W A n c Tt m d sx sy).toArray) := by
  have hs := run_storeVar_row (P := Try.prog) w b t 26 cs.toArray (fcs W A n c Tt m d sx sy).toArray hb fld_info (by simpa using hc) (by simp [Value.oneCell'])
  unfold execOp
  simp only [hop, hp, hx, Instr.storeAt, Instr.sureAddr, Sem.run_bind, Sem.run_pure, Result.andThen_ok, hs]
/-- The blocks hold no background. -/
def OffF (w : World) (fp : List Nat) : Prop := ∀ b ∈ fp, ∃ cs t, w.heap[b]? = some (.cells cs t (0, 0)) ∧ t ≠ 26
theorem OffF.below {w w' : World} {fp : List Nat} (h : OffF w fp) (k : Below w.heap.size w w') : OffF w' fp := fun b hb => by
  obtain ⟨cs, t, h1, h2⟩ := h b hb
  have hl : b < w.heap.size := by
    by_cases hl : b < w.heap.size
    · exact hl
    · rw [Array.getElem?_eq_none (by omega)] at h1; cases h1
  exact ⟨cs, t, (k.block b hl).trans h1, h2⟩
theorem OffF.box {w : World} {fp : List Nat} {g : Nat} {cs : List Value} (h : OffF w fp) (hb : Box w g 26 cs) : g ∉ fp := fun hg => by
  obtain ⟨ds, t, h1, h2⟩ := h g hg
  unfold Box at hb
  rw [hb] at h1
  simp only [Option.some.injEq, Obj.cells.injEq] at h1
  exact h2 h1.2.1.symm
def TFldO (L : Nat) (F : Fld) : Value → World → Prop := fun v w => ∃ (A : Option Addr) (c : Nat) (T : Option Addr) (d : Nat) (fa ft : List Nat), v = fv F A c T d ∧ F.xs.length ≤ c ∧ F.nt ≤ d ∧ FHas w A T F fa ft ∧ New L w (fa ++ ft) ∧ OffF w (fa ++ ft)
theorem stabB_fldO (L : Nat) (F : Fld) : Stab RlB (TFldO L F) := fun _ w w' (hR : Below w.heap.size w w') ⟨A, c, T, d, fa, ft, hv, h1, h2, h3, h4, h5⟩ => ⟨A, c, T, d, fa, ft, hv, h1, h2, h3.below hR, h4.keep (.of_below hR), h5.below hR⟩
/-- Two slices of the call's own lie apart: their blocks are of two types. -/
theorem own_two {w : World} {L n m : Nat} {v u : Value} {xs zs : List Int} (h : TOwnI L n xs v w) (k : TOwnT L m zs u w) : ∃ A c T d fa ft, v = .slice A n c ∧ n ≤ c ∧ u = .slice T m d ∧ m ≤ d ∧ Ints w A n xs fa ∧ Ints w T (64 * m) zs ft ∧ New L w (fa ++ ft) ∧ OffF w (fa ++ ft) := by
  obtain ⟨A, c, fa, hv, hc, _, hi, hn, h1⟩ := own_ints h
  obtain ⟨T, d, ft, hu, hd, hz, hm, h2⟩ := own_tiles k
  have ti : ∀ b ∈ fa, ∃ cs, w.heap[b]? = some (.cells cs 3 (0, 0)) := fun b hb => by
    have e1 := h1 b hb
    rcases h.2 with ⟨h3, _⟩ | ⟨g, cap, cur, h3, _, hh, _⟩
    · rw [h3] at e1; simp [Value.ownBlock] at e1
    · rw [h3] at e1
      have g1 : some g = some b := e1
      injection g1 with g1
      subst g1
      exact ⟨cur, hh⟩
  have tt : ∀ b ∈ ft, ∃ cs, w.heap[b]? = some (.cells cs 57 (0, 0)) := fun b hb => by
    have e1 := h2 b hb
    rcases k.2 with ⟨h3, _⟩ | ⟨g, cap, cur, h3, _, hh, _⟩
    · rw [h3] at e1; simp [Value.ownBlock] at e1
    · rw [h3] at e1
      have g1 : some g = some b := e1
      injection g1 with g1
      subst g1
      exact ⟨cur, hh⟩
  refine ⟨A, c, T, d, fa, ft, hv, hc, hu, hd, hi, hz, hn.append hm fun b hb hb2 => ?_, fun b hb => ?_⟩
  · obtain ⟨c1, e1⟩ := ti b hb
    obtain ⟨c2, e2⟩ := tt b hb2
    rw [e1] at e2
    simp at e2
  · rcases List.mem_append.1 hb with hb | hb
    · obtain ⟨c1, e1⟩ := ti b hb
      exact ⟨c1, _, e1, by decide⟩
    · obtain ⟨c1, e1⟩ := tt b hb
      exact ⟨c1, _, e1, by decide⟩
theorem wrap_parts (a m : Int) (hm : 1 ≤ m) : ∃ r q, a.tmod m = r ∧ -m < r ∧ r < m ∧ (r + m) % m = q ∧ q = a % m := by
  have hw := wrap_mod a m (by omega)
  have h2 := Int.emod_nonneg a (show m ≠ 0 by omega)
  have h3 := Int.emod_lt_of_pos a (show 0 < m by omega)
  have b1 : -m < a.tmod m ∧ a.tmod m < m := by
    rw [Int.tmod_eq_emod]
    split <;> omega
  refine ⟨a.tmod m, (a.tmod m + m) % m, rfl, b1.1, b1.2, rfl, ?_⟩
  exact (Int.tmod_eq_emod_of_nonneg (show 0 ≤ a.tmod m + m by omega)).symm.trans hw
end Go.Proofs.Ytacebhncecninaa
end

section
/- Whole tiles of the laws' own type and whole arrays: one step each; the laws' own functions on them; a tile that came in. -/
namespace Go.Proofs.Ytacebhncecninaa
open Go.ChangeShapes Go.WideShapes Go.ChangeAt Go.RowKit
set_option linter.unusedVariables false

theorem til_infoL : (Try.prog.info? 127).map (·.size) = some 64 := by kernel_rfl
theorem til_infoA : (Try.prog.info? 55).map (·.size) = some 64 := by kernel_rfl
section
variable {ops : Array Oper} {rest : List Oper} {o : Oper} {a : Act} {w : World} {Q : Exit → Act → World → Prop}
theorem st_loadL {t : TypeId} (hw : Region.wanted o (yielded ops a.tmps) = true) (x : Operand) (ho : o.op = .load 127 x) (b : Nat) (hx : a.eval x = .pointer (some ⟨b, 0, none⟩)) (px : List Int) (hp : px.length = 64) (hb : Box w b t (iv px))
    (h : wpList Try.prog ops Q rest (a.put o.dst (tilV px)) w) : wpList Try.prog ops Q (o :: rest) a w :=
  wpList_step fun K hK => by
    rw [if_pos hw]
    exact wp_load_row _ x ho b hx t (iv px).toArray (0, 0) _ hb Try.underlying127 rfl (by rw [iv_len px hp]; exact til_infoL) (hK _ _ h)
theorem st_loadA {t : TypeId} (hw : Region.wanted o (yielded ops a.tmps) = true) (x : Operand) (ho : o.op = .load 55 x) (b : Nat) (hx : a.eval x = .pointer (some ⟨b, 0, none⟩)) (px : List Int) (hp : px.length = 64) (hb : Box w b t (iv px))
    (h : wpList Try.prog ops Q rest (a.put o.dst (tilV px)) w) : wpList Try.prog ops Q (o :: rest) a w :=
  wpList_step fun K hK => by
    rw [if_pos hw]
    exact wp_load_row _ x ho b hx t (iv px).toArray (0, 0) _ hb Try.underlying55 rfl (by rw [iv_len px hp]; exact til_infoA) (hK _ _ h)
theorem st_storeA {t : TypeId} (hw : Region.wanted o (yielded ops a.tmps) = true) (x y : Operand) (ho : o.op = .store 55 x y) (b : Nat) (hx : a.eval x = .pointer (some ⟨b, 0, none⟩)) (px : List Int) (hy : a.eval y = tilV px) (hp : px.length = 64) (cs : List Value) (hb : Box w b t cs) (hc : cs.length = 64)
    (h : wpList Try.prog ops Q rest (a.put o.dst undef) (w.setRow b (iv px).toArray)) : wpList Try.prog ops Q (o :: rest) a w :=
  wpList_step fun K hK => by
    rw [if_pos hw]
    exact wp_store_row _ x y ho b (iv px).toArray hx hy t cs.toArray hb (by rw [iv_len px hp]; exact til_infoA) (by rw [iv_len px hp]; simpa using hc) (iv_all px) (hK _ _ h)
theorem run_allocTilA (w : World) : (Instr.alloc 55 true (.tuple #[])).run Try.prog w = .ok (.pointer (some ⟨w.heap.size, 0, none⟩)) (w.alloc (.cells (iv z64).toArray 55)) := by
  have e : (iv z64).toArray = #[.int .i64 0, .int .i64 0, .int .i64 0, .int .i64 0, .int .i64 0, .int .i64 0, .int .i64 0, .int .i64 0, .int .i64 0, .int .i64 0, .int .i64 0, .int .i64 0, .int .i64 0, .int .i64 0, .int .i64 0, .int .i64 0, .int .i64 0, .int .i64 0, .int .i64 0, .int .i64 0, .int .i64 0, .int .i64 0, .int .i64 0, .int .i64 0, .int .i64 0, .int .i64 0, .int .i64 0, .int .i64 0, .int .i64 0, .int .i64 0, .int .i64 0, .int .i64 0, .int .i64 0, .int .i64 0, .int .i64 0, .int .i64 0, .int .i64 0, .int .i64 0, .int .i64 0, .int .i64 0, .int .i64 0, .int .i64 0, .int .i64 0, .int .i64 0, .int .i64 0, .int .i64 0, .int .i64 0, .int .i64 0, .int .i64 0, .int .i64 0, .int .i64 0, .int .i64 0, .int .i64 0, .int .i64 0, .int .i64 0, .int .i64 0, .int .i64 0, .int .i64 0, .int .i64 0, .int .i64 0, .int .i64 0, .int .i64 0, .int .i64 0, .int .i64 0] := by kernel_rfl
  rw [e]
  go_simp
theorem st_allocA (hw : Region.wanted o (yielded ops a.tmps) = true) (ho : o.op = .alloc 55)
    (h : wpList Try.prog ops Q rest (a.put o.dst (.pointer (some ⟨w.heap.size, 0, none⟩))) (w.alloc (.cells (iv z64).toArray 55))) : wpList Try.prog ops Q (o :: rest) a w :=
  wpList_step fun K hK => by
    rw [if_pos hw]
    unfold Oper.wp execOp
    simp only [ho, Sem.run_bind, run_allocTilA, Result.andThen_ok, Sem.run_pure]
    exact hK _ _ h
end
theorem til_retA {fn : Func} {p : Tmp} {tmps : Array Value} {w : World} {b : Nat} {t : TypeId} {px : List Int} (hr : fn.results = #[.cell p 55]) (hp : tmps.getD p undef = .pointer (some ⟨b, 0, none⟩)) (hb : Box w b t (iv px)) (hl : px.length = 64) : (results fn tmps).run Try.prog w = .ok (tilV px) w :=
  results_cell_row hr tmps w b t (iv px).toArray (0, 0) _ hp hb Try.underlying55 rfl (by rw [iv_len px hl]; exact til_infoA)

set_option maxHeartbeats 2000000 in
theorem to_arr (px : List Int) (hp : px.length = 64) (w : World) : Calls Try.prog 120 #[tilV px] w fun e w' => e = .returned (tilV px) ∧ Below w.heap.size w w' := by
  go_enter Try.func120, Try.ntmps120
  go_wp2_with (first | (refine st_allocA (by rfl) rfl ?_))
  obtain ⟨w1, hw1⟩ : ∃ w1, w1 = (((w.alloc (.cells (iv px).toArray 55)).alloc (.cells (iv z64).toArray 55)).alloc (.cells (iv z64).toArray 55)) := ⟨_, rfl⟩
  have X1 : Hid (Box w1 w.heap.size 55 (iv px)) := by rw [hw1]; exact ((Box.new w _ _).alloc _).alloc _
  have R1 : Hid (Box w1 (w.heap.size + 1) 55 (iv z64)) := by rw [hw1]; exact (Box.new_at _ _ _ _ (by simp)).alloc _
  have Y1 : Hid (Box w1 (w.heap.size + 1 + 1) 55 (iv z64)) := by rw [hw1]; exact Box.new_at _ _ _ _ (by simp)
  have B1 : Hid (Below w.heap.size w w1) := by rw [hw1]; exact below3 w _ _ _
  rw [← hw1]
  clear hw1
  have HL : Hid (w.heap.size ≤ w.heap.size + 1 ∧ w.heap.size ≤ w.heap.size + 1 + 1) := ⟨by omega, by omega⟩
  obtain ⟨f, hf⟩ : ∃ f : Nat → Int, f = fun i => px.getD i 0 := ⟨_, rfl⟩
  have HF := Lib.hid hf
  have HR : Hid (mkT id f 64 = px) := mkT_ext (mkT_len _ _ _) hp fun i hi => by rw [mkT_get _ _ _ _ hi, if_pos (show id i < 64 from hi), hf]
  clear hf
  go_loopw [4] (fun i wr => ∃ k : Nat, k ≤ 64 ∧ i = .int .i64 k ∧ Box wr w.heap.size 55 (iv px) ∧ Box wr (w.heap.size + 1) 55 (iv z64) ∧ Box wr (w.heap.size + 1 + 1) 55 (iv (mkT id f k)) ∧ Below w.heap.size w wr) (fun i _ => 64 - (intOf i).toNat)
  case atStart => exact ⟨0, by omega, rfl, X1.out, R1.out, by rw [mkT_zero]; exact Y1.out, B1.out⟩
  case round =>
    obtain ⟨k, hk, rfl, hx, hr, hy, hb⟩ := hrel
    have XR := Lib.hid hx
    have RR := Lib.hid hr
    have YR := Lib.hid hy
    have BR := Lib.hid hb
    clear hx hr hy hb X1 R1 Y1 B1
    by_cases h64 : k < 64
    · have i64' : (k : Int) < 64 := by omega
      have k0 : 0 ≤ (k : Int) := by omega
      obtain ⟨x, hx⟩ : ∃ x, f k = x := ⟨_, rfl⟩
      have c0 := til_cell XR.out k (by omega)
      rw [show px.getD k 0 = x by rw [← hx, HF.out]] at c0
      have HX := Lib.hid hx
      clear hx
      have y0 := til_cell YR.out k (by rw [mkT_len]; exact h64)
      rw [mkT_get _ _ _ _ h64, id, if_neg (by omega)] at y0
      have g0 := YR.out.frozen k
      go_wp2_with fail
      go_roundw
      case rel => exact ⟨k + 1, by omega, by go_num, XR.out.far (by omega) _, RR.out.far (by omega) _, by rw [← mkT_set id f k k h64 (fun i _ => Iff.rfl), ← iv_set, HX.out]; exact YR.out.set k (.int .i64 x), BR.out.setCell HL.out.2 _⟩
      case measure => simp [intOf]; omega
    · obtain rfl : k = 64 := by omega
      rw [HR.out] at YR
      go_wp2_with (first | (refine st_loadA (by rfl) _ rfl _ rfl px hp YR.out ?_) | (refine st_storeA (by rfl) _ _ rfl _ rfl px rfl hp (iv z64) RR.out (by simp [z64_len]) ?_))
      have RF : Hid (Box (wr.setRow (w.heap.size + 1) (iv px).toArray) (w.heap.size + 1) 55 (iv px)) := Box.row RR.out
      exact bodyPost_ret (v := tilV px) (til_retA rfl rfl RF.out hp) rfl ⟨rfl, below_row BR.out (by omega) _⟩
theorem to_til (px : List Int) (hp : px.length = 64) (w : World) : Calls Try.prog 112 #[tilV px] w fun e w' => e = .returned (tilV px) ∧ Below w.heap.size w w' := by
  go_enter Try.func112, Try.ntmps112
  go_upto_region 2 with (first | (refine st_alloc (by rfl) rfl ?_))
  obtain ⟨w1, hw1⟩ : ∃ w1, w1 = (((w.alloc (.cells (iv px).toArray 127)).alloc (.cells (iv z64).toArray 57)).alloc (.cells (iv z64).toArray 57)) := ⟨_, rfl⟩
  have X1 : Hid (Box w1 w.heap.size 127 (iv px)) := by rw [hw1]; exact ((Box.new w _ _).alloc _).alloc _
  have R1 : Hid (Box w1 (w.heap.size + 1) 57 (iv z64)) := by rw [hw1]; exact (Box.new_at _ _ _ _ (by simp)).alloc _
  have Y1 : Hid (Box w1 (w.heap.size + 1 + 1) 57 (iv z64)) := by rw [hw1]; exact Box.new_at _ _ _ _ (by simp)
  have B1 : Hid (Below w.heap.size w w1) := by rw [hw1]; exact below3 w _ _ _
  rw [← hw1]
  clear hw1
  go_wp2_with (first | (refine st_loadA (by rfl) _ rfl _ rfl px hp X1.out ?_))
  refine (to_arr px hp _).mono ?_; rintro e w2 ⟨rfl, b2⟩
  have R2 := Lib.hid (R1.out.below b2)
  have Y2 := Lib.hid (Y1.out.below b2)
  have B2 := Lib.hid (below_then B1.out b2)
  clear b2 X1 R1 Y1 B1
  have Y3 : Hid (Box (w2.setRow (w.heap.size + 1 + 1) (iv px).toArray) (w.heap.size + 1 + 1) 57 (iv px)) := Box.row Y2.out
  have R3 : Hid (Box (w2.setRow (w.heap.size + 1 + 1) (iv px).toArray) (w.heap.size + 1) 57 (iv z64)) := R2.out.rowFar (by omega)
  have B3 : Hid (Below w.heap.size w (w2.setRow (w.heap.size + 1 + 1) (iv px).toArray)) := below_row B2.out (by omega) _
  go_wp2_with (first | (refine st_storeA (by rfl) _ _ rfl _ rfl px rfl hp (iv z64) Y2.out (by simp [z64_len]) ?_) | (refine st_load (by rfl) _ rfl _ rfl px hp Y3.out ?_) | (refine st_store (by rfl) _ _ rfl _ rfl px rfl hp (iv z64) R3.out (by simp [z64_len]) ?_))
  generalize w2.setRow (w.heap.size + 1 + 1) (iv px).toArray = w3 at R3 B3 ⊢
  have RF : Hid (Box (w3.setRow (w.heap.size + 1) (iv px).toArray) (w.heap.size + 1) 57 (iv px)) := Box.row R3.out
  exact bodyPost_ret (v := tilV px) (til_ret rfl rfl RF.out hp) rfl ⟨rfl, below_row B3.out (by omega) _⟩
theorem eq_arr (px : List Int) (hp : px.length = 64) (w : World) : Calls Try.prog 121 #[tilV px, tilV px] w fun e w' => e = .returned (.bool true) ∧ Below w.heap.size w w' := by
  go_enter Try.func121, Try.ntmps121
  go_wp2_with fail
  obtain ⟨w1, hw1⟩ : ∃ w1, w1 = ((w.alloc (.cells (iv px).toArray 55)).alloc (.cells (iv px).toArray 55)) := ⟨_, rfl⟩
  have X1 : Hid (Box w1 w.heap.size 55 (iv px)) := by rw [hw1]; exact (Box.new w _ _).alloc _
  have Y1 : Hid (Box w1 (w.heap.size + 1) 55 (iv px)) := by rw [hw1]; exact Box.new_at _ _ _ _ (by simp)
  have B1 : Hid (Below w.heap.size w w1) := by rw [hw1]; exact below2 w _ _
  rw [← hw1]
  clear hw1
  go_loopw [5] (fun i wr => ∃ k m : Nat, k ≤ 64 ∧ i = .int .i64 k ∧ wr = w1.drewN m) (fun i _ => 64 - (intOf i).toNat)
  case atStart => exact ⟨0, 0, by omega, rfl, rfl⟩
  case round =>
    obtain ⟨k, m, hk, rfl, rfl⟩ := hrel
    by_cases h64 : k < 64
    · have i64' : (k : Int) < 64 := by omega
      have k0 : 0 ≤ (k : Int) := by omega
      have c0 := til_cell X1.out k (by omega)
      have c1 := til_cell Y1.out k (by omega)
      generalize px.getD k 0 = x at c0 c1
      go_wp2_with fail
      go_quiet (fail)
      go_wp2_with fail
      go_roundw
      case rel => exact ⟨k + 1, _, by omega, by go_num, rfl⟩
      case measure => simp [intOf]; omega
    · obtain rfl : k = 64 := by omega
      go_wp2_with fail
      go_ret
      exact ⟨rfl, below_drewN B1.out m⟩
theorem eq_til (px : List Int) (hp : px.length = 64) (w : World) : Calls Try.prog 113 #[tilV px, tilV px] w fun e w' => e = .returned (.bool true) ∧ Below w.heap.size w w' := by
  go_enter Try.func113, Try.ntmps113
  go_upto_region 1 with (fail)
  obtain ⟨w1, hw1⟩ : ∃ w1, w1 = ((w.alloc (.cells (iv px).toArray 57)).alloc (.cells (iv px).toArray 57)) := ⟨_, rfl⟩
  have X1 : Hid (Box w1 w.heap.size 57 (iv px)) := by rw [hw1]; exact (Box.new w _ _).alloc _
  have Y1 : Hid (Box w1 (w.heap.size + 1) 57 (iv px)) := by rw [hw1]; exact Box.new_at _ _ _ _ (by simp)
  have B1 : Hid (Below w.heap.size w w1) := by rw [hw1]; exact below2 w _ _
  rw [← hw1]
  clear hw1
  go_wp2_with (first | (refine st_loadA (by rfl) _ rfl _ rfl px hp X1.out ?_) | (refine st_loadA (by rfl) _ rfl _ rfl px hp Y1.out ?_))
  refine (eq_arr px hp _).mono ?_; rintro e w2 ⟨rfl, b2⟩
  go_wp2_with fail
  go_ret
  exact ⟨rfl, below_then B1.out b2⟩

theorem take_getD8 (zs : List Int) (n i : Nat) (h : i < n) : (zs.take n).getD i 0 = zs.getD i 0 := by
  simp only [List.getD_eq_getElem?_getD, List.getElem?_take, if_pos h]
theorem ints_in8 {w : World} {A : Option Addr} {L C : Nat} {Z : List Int} (hl : L ≤ C) (hz : Z.length = C) (h0 : A = none → C = 0) (hc : ∀ a', A = some a' → ∀ c, c < C → w.cell? (a'.add c) = some (.int .i64 (Z.getD c 0))) :
    Ints w A L (Z.take L) (if L = 0 then [] else [(A.elim 0 (·.block))]) := by
  refine ⟨by rw [List.length_take]; omega, ?_⟩
  by_cases h : L = 0
  · exact .inl ⟨h, if_pos h⟩
  · right
    rcases A with _ | a
    · have := h0 rfl; omega
    · obtain ⟨b, o, rfl, hb⟩ := ints_at (zs := Z) (fun i hi => hc a rfl i (by omega)) (by omega)
      refine ⟨by omega, b, o, rfl, by rw [if_neg h]; rfl, World.block_lt_of_cell? _ _ (hb 0 (by omega)), fun i hi => ?_⟩
      rw [hb i (by omega), take_getD8 Z L i hi]
/-- A list of cells that are all integers. -/
theorem ints_list : ∀ l : List Value, (∀ i, i < l.length → ∃ z, l[i]? = some (.int .i64 z)) → ∃ px : List Int, px.length = l.length ∧ l = iv px
  | [], _ => ⟨[], rfl, rfl⟩
  | v :: l, h => by
    obtain ⟨z, hz⟩ := h 0 (by simp)
    obtain rfl : v = .int .i64 z := by simpa using hz
    obtain ⟨px, h1, h2⟩ := ints_list l fun i hi => by simpa using h (i + 1) (by simpa using hi)
    exact ⟨z :: px, by simp [h1], by rw [h2]; rfl⟩
section
variable {H : Type} {enc : TypeId × Value → H} {w : World} {base : Nat} {held : Bool}
set_option maxRecDepth 100000 in
theorem tile_in {r : Reach} {b0 : Nat} {v : Value} {dd : DataW H} {p : List MemPlace} (hv : Value.okWide Try.prog w r b0 127 v) (h : DataW.Trod enc Try.prog w base (fun _ => true) held 127 v dd p) : ∃ px : List Int, px.length = 64 ∧ v = tilV px := by
  obtain ⟨cs, rfl, hsz⟩ := okWide_struct Try.underlying127 hv
  have hc : Try.prog.cellsOf 127 = 64 := by kernel_rfl
  have ha : Try.prog.cellsOf 55 = 64 := by kernel_rfl
  have h1 : Try.prog.cellsOf 3 = 1 := by kernel_rfl
  rw [hc] at hsz
  obtain ⟨fuel, hf⟩ := h
  obtain ⟨xs, n, _, hx, hl, hlen, hfs⟩ := DataW.trod_struct Try.underlying127 hf
  have h0 : DataW.trod enc Try.prog w base (fun _ => true) held n 55 ((cs.toList.drop 0).take (Try.prog.cellsOf 55)) = xs[0]? := hfs 0 _ rfl
  have hx0 : ∃ y, xs[0]? = some y := ⟨xs[0]'(by rw [hlen]; decide), List.getElem?_eq_getElem _⟩
  obtain ⟨y, hy⟩ := hx0
  rw [hy, ha, List.drop_zero, List.take_of_length_le (by simp [hsz])] at h0
  obtain ⟨ys, m, _, _, _, hyl, hys⟩ := DataW.trod_array Try.underlying55 h0
  obtain ⟨px, e1, e2⟩ := ints_list cs.toList fun i hi => by
    have hi64 : i < 64 := by simpa [hsz] using hi
    have hq := hys i hi64
    rw [h1, Nat.mul_one, List.getElem?_eq_getElem (by omega : i < ys.length)] at hq
    have ht : (cs.toList.drop i).take 1 = [cs.toList[i]'hi] := by
      rw [List.drop_eq_getElem_cons hi]; rfl
    rw [ht] at hq
    obtain ⟨z, hz, _⟩ := DataW.trod_int Try.underlying3 hq
    refine ⟨z, ?_⟩
    rw [List.getElem?_eq_getElem hi]
    simpa using hz
  refine ⟨px, by rw [e1]; simpa using hsz, ?_⟩
  have : cs = (iv px).toArray := by rw [← e2]
  rw [this]
theorem ints_came8 {fuel : Nat} {A : Option Addr} {n c : Nat} {x : DataW H × List MemPlace} (h : DataW.trod enc Try.prog w base (fun _ => true) held fuel 23 [.slice A n c] = some x) : n ≤ 9223372036854775807 ∧ ∃ xs fa, Ints w A n xs fa := by
  rcases open_ints Try.underlying23 Try.underlying3 (by kernel_rfl) h with ⟨hcs, _⟩ | ⟨a, len, cap, zs, hcs, _, hl, hm, hz, _, hcell, _⟩
  · simp at hcs
    obtain ⟨rfl, rfl, _⟩ := hcs
    exact ⟨by omega, [], [], .nil _ _⟩
  · simp at hcs
    obtain ⟨rfl, rfl, rfl⟩ := hcs
    simp only [if_true] at hz
    unfold maxLen at hm
    exact ⟨by omega, _, _, ints_in8 hl hz (by simp) (fun a' e i hi => by injection e with e; subst e; exact hcell i (by omega))⟩
end
end Go.Proofs.Ytacebhncecninaa
end

section
/- The laws' own functions on slices of tiles, and on backgrounds. -/
namespace Go.Proofs.Ytacebhncecninaa
open Go.ChangeShapes Go.WideShapes Go.ChangeAt Go.RowKit
set_option linter.unusedVariables false

section
variable {ops : Array Oper} {Q : Exit → Act → World → Prop} {T : Nat → Value → World → Prop} {a0 : Act} {w0 : World} {i : Nat} {o : Oper}
/-- A tile is loaded out of the middle of a block. -/
theorem lb_tilm (x : Operand) (b k : Nat) (px : List Int) (hop : o.op = .load 57 x) (hp : px.length = 64) (hr : ∀ w, Below w0.heap.size w0 w → w.rangeAt b k (iv px)) (hw : ∀ (ρ : Operand → Value) w, PreR ops T ρ w o.after.toList → wantV ops (slotR ρ) o = true)
    (h : ∀ (ρ : Operand → Value) w, (∀ n, (ops.toList.all fun o => o.dst != some n) = true → ρ (.tmp n) = a0.eval (.tmp n)) → PreR ops T ρ w o.after.toList → ρ x = .pointer (some ⟨b, k, none⟩) ∧ T i (dstV o (tilV px)) w) : Ob Try.prog ops Q (ClB w0) RlB T a0 i o :=
  lb_val (tilV px) hw fun ρ w hbl _ hx hp' => by
    obtain ⟨h1, h2⟩ := h ρ w hx hp'
    refine ⟨?_, h2⟩
    have hl := run_loadAt_mid (P := Try.prog) w b k 57 (iv px) _ (hr w hbl) Try.underlying57 rfl (by rw [til_info]; simp [hp])
    unfold execOp
    simp only [hop, h1]
    simp only [Sem.run_bind, hl, Result.andThen_ok, Sem.run_pure]
end
section
variable {ops : Array Oper} {rest : List Oper} {o : Oper} {a : Act} {w : World} {Q : Exit → Act → World → Prop}
theorem st_loadmL (hw : Region.wanted o (yielded ops a.tmps) = true) (x : Operand) (ho : o.op = .load 127 x) (b k : Nat) (hx : a.eval x = .pointer (some ⟨b, k, none⟩)) (px : List Int) (hp : px.length = 64) (hb : w.rangeAt b k (iv px))
    (h : wpList Try.prog ops Q rest (a.put o.dst (tilV px)) w) : wpList Try.prog ops Q (o :: rest) a w :=
  wpList_step fun K hK => by
    rw [if_pos hw]
    exact wp_load_mid _ x ho b k hx (iv px) _ hb Try.underlying127 rfl (by rw [til_infoL]; simp [hp]) (hK _ _ h)
/-- A tile is stored into the middle of a row of the call's own. -/
theorem st_storem (hw : Region.wanted o (yielded ops a.tmps) = true) (x y : Operand) (ho : o.op = .store 57 x y) (g k : Nat) (hx : a.eval x = .pointer (some ⟨g, k, none⟩)) (px : List Int) (hy : a.eval y = tilV px) (hp : px.length = 64) (t : TypeId) (cur : List Int) (hb : Box w g t (iv cur)) (hfit : k + 64 ≤ cur.length) (res : List Int) (hres : cur.take k ++ px ++ cur.drop (k + 64) = res)
    (h : wpList Try.prog ops Q rest (a.put o.dst undef) (w.setRow g (iv res).toArray)) : wpList Try.prog ops Q (o :: rest) a w :=
  wpList_step fun K hK => by
    rw [if_pos hw]
    have hst := run_storeCells_at Try.prog g k t (iv px) 0 (iv cur).toArray w hb (by simp [hp]; omega) (iv_one px)
    have e : ((iv cur).toArray.toList.take (k + 0) ++ iv px ++ (iv cur).toArray.toList.drop (k + 0 + (iv px).length)).toArray = (iv res).toArray := by
      rw [← hres]
      simp [hp, List.map_append, List.map_take, List.map_drop]
    rw [e] at hst
    have hsv : (storeVar 57 ⟨g, k, none⟩ (tilV px)).run Try.prog w = .ok () (w.setRow g (iv res).toArray) := by
      have hi := til_info
      cases hq : Try.prog.info? 57 with
      | none => simp [hq] at hi
      | some i =>
        have hs : i.size = 64 := by simpa [hq] using hi
        have hcs : (iv px).toArray.size = i.size := by simp [hp, hs]
        simp [storeVar, sizeOf, typeInfo, hq, Value.cells, hp, hs, hst]
    unfold Oper.wp execOp
    simp only [ho, hx, hy, Instr.storeAt, Instr.sureAddr, Sem.run_bind, Sem.run_pure, Result.andThen_ok, hsv]
    exact hK _ _ h
end
/-- A row of m tiles of which k stand. -/
def tkZ (zs : List Int) (k m : Nat) : List Int := zs.take (64 * k) ++ List.replicate (64 * m - 64 * k) 0
theorem tkZ_len {zs : List Int} {k m : Nat} (h : zs.length = 64 * m) (hk : k ≤ m) : (tkZ zs k m).length = 64 * m := by
  unfold tkZ; rw [List.length_append, List.length_take, List.length_replicate]; omega
theorem tkZ_all {zs : List Int} {m : Nat} (h : zs.length = 64 * m) : tkZ zs m m = zs := by
  unfold tkZ; rw [Nat.sub_self, List.replicate_zero, List.append_nil, List.take_of_length_le (by omega)]
theorem tkZ_step {zs : List Int} {k m : Nat} (h : zs.length = 64 * m) (hk : k < m) : (tkZ zs k m).take (k * 64) ++ tl zs k ++ (tkZ zs k m).drop (k * 64 + 64) = tkZ zs (k + 1) m := by
  have l1 : (zs.take (64 * k)).length = k * 64 := by rw [List.length_take]; omega
  have e1 : (tkZ zs k m).take (k * 64) = zs.take (64 * k) := by
    unfold tkZ
    rw [← l1, List.take_left]
  have e2 : (tkZ zs k m).drop (k * 64 + 64) = List.replicate (64 * m - 64 * (k + 1)) 0 := by
    unfold tkZ
    rw [← List.drop_drop, ← l1, List.drop_left, List.drop_replicate]
    congr 1
  rw [e1, e2]
  unfold tkZ tl
  congr 1
  rw [show 64 * (k + 1) = 64 * k + 64 by omega, List.take_add]
theorem rep_at (n q : Nat) (v : Value) (h : q < n) : (List.replicate n v).toArray[q]! = v := by simp [h]
theorem made_tiles (n : Nat) : madeCells (Value.agg (iv z64).toArray).cells (n * 64) = (iv (List.replicate (64 * n) 0)).toArray := by
  apply Array.ext
  · rw [size_madeCells]; simp; omega
  · intro j h1 h2
    simp only [madeCells, Value.cells, Array.getElem_map, Array.getElem_range]
    have h3 : j % (iv z64).toArray.size < 64 := by
      have : (iv z64).toArray.size = 64 := by simp [z64_len]
      rw [this]; omega
    generalize j % (iv z64).toArray.size = q at h3
    have h4 : (iv z64).toArray[q]! = .int .i64 0 := by
      simp only [iv, z64, List.map_replicate]
      exact rep_at 64 q _ h3
    rw [h4]
    simp
theorem run_make_tiles (n : Nat) (hn : n ≤ 1000000000) (w : World) : (Instr.makeSlice 24 (.int .i64 (n : Int)) (.int .i64 (n : Int))).run Try.prog w = .ok (.slice (some ⟨w.heap.size, 0, none⟩) n n) (w.alloc (.cells (iv (tkZ [] 0 n)).toArray 57)) := by
  obtain ⟨i, hi, hz, hs, hb⟩ := tile_parts
  have hr := run_make (P := Try.prog) w 24 57 i (.agg (iv z64).toArray) Try.underlying24 hi hz .i64 .i64 n n (by omega) (Int.le_refl _) (by rw [hb]; omega) (by omega)
  rw [hs] at hr
  simp only [Int.toNat_natCast, made_tiles] at hr
  rw [hr]
  rfl
set_option maxHeartbeats 2000000 in
theorem to_tiles (A : Option Addr) (m c : Nat) (zs : List Int) (fa : List Nat) (w : World) (ha : Ints w A (64 * m) zs fa) (hn : m ≤ 1000000000) :
    Calls Try.prog 85 #[.slice A m c] w (CopiedT zs m w) := by
  have HA := Lib.hid ha
  have HZ := Lib.hid ha.1
  clear ha
  have hmk := run_make_tiles m hn
  have h00 : Hid (tkZ [] 0 m = tkZ zs 0 m) := Lib.hid (by simp [tkZ])
  go_enter Try.func85, Try.ntmps85
  go_wp2_with fail
  obtain ⟨w1, hw1⟩ : ∃ w1, w1 = w.alloc (.cells (iv (tkZ [] 0 m)).toArray 57) := ⟨_, rfl⟩
  have Y1 : Hid (Box w1 w.heap.size 57 (iv (tkZ zs 0 m))) := by rw [hw1, h00.out]; exact Box.new _ _ _
  have B1 : Hid (Below w.heap.size w w1) := by rw [hw1]; exact below1 w _
  rw [← hw1]
  clear hw1 hmk
  go_loopw [4] (fun i wr => ∃ k : Nat, k ≤ m ∧ i = .int .i64 k ∧ Box wr w.heap.size 57 (iv (tkZ zs k m)) ∧ Below w.heap.size w wr) (fun i _ => m - (intOf i).toNat)
  case atStart => exact ⟨0, by omega, rfl, Y1.out, B1.out⟩
  case round =>
    obtain ⟨k, hk, rfl, hy, hb⟩ := hrel
    have YR := Lib.hid hy
    have BR := Lib.hid hb
    clear hy hb Y1 B1
    by_cases hlt : k < m
    · obtain ⟨p, o, rfl, _, _, hc⟩ := HA.out.at_ (by omega)
      clear hc
      have RG := Lib.hid (til_range (HA.out.below BR.out) hlt)
      have h64 := Lib.hid (tl_len HZ.out hlt)
      have HST := Lib.hid (tkZ_step HZ.out hlt)
      have HTL := Lib.hid (tkZ_len HZ.out hk)
      generalize tl zs k = px at RG h64 HST
      go_wp2_with (first | (refine st_loadmL (by rfl) _ rfl _ _ rfl px h64.out RG.out ?_))
      refine (to_til px h64.out _).mono ?_; rintro e w2 ⟨rfl, b2⟩
      have Y2 := Lib.hid (YR.out.below b2)
      have B2 := Lib.hid (below_then BR.out b2)
      clear b2
      go_wp2_with (first | (refine st_storem (by rfl) _ _ rfl w.heap.size (k * 64) rfl px rfl h64.out _ (tkZ zs k m) Y2.out (by rw [HTL.out]; omega) (tkZ zs (k + 1) m) HST.out ?_))
      go_roundw
      case rel => exact ⟨k + 1, by omega, by go_num, Box.row Y2.out, below_row B2.out (Nat.le_refl _) _⟩
      case measure => simp [intOf]; omega
    · obtain rfl : k = m := by omega
      have HAL := Lib.hid (tkZ_all HZ.out)
      go_wp2_with fail
      go_ret
      have YF := YR.out
      rw [HAL.out] at YF
      refine ⟨_, _, if k = 0 then [] else [w.heap.size], rfl, Nat.le_refl _, ⟨HZ.out, ?_⟩, ?_, BR.out⟩
      · by_cases h0 : k = 0
        · exact .inl ⟨by omega, if_pos h0⟩
        · exact .inr ⟨by omega, w.heap.size, 0, rfl, if_neg h0, YF.lt, fun i hi => by rw [Nat.zero_add, YF.cell i]; exact iv_at zs i (by rw [HZ.out]; exact hi)⟩
      · by_cases h0 : k = 0
        · rw [if_pos h0]; exact .nil _ _
        · rw [if_neg h0]; exact .one (Nat.le_refl _) YF.lt YF.frozen
end Go.Proofs.Ytacebhncecninaa
end

section
/- The laws' own functions on slices of tiles: equal, marked, held; their sizes. -/
namespace Go.Proofs.Ytacebhncecninaa
open Go.ChangeShapes Go.WideShapes Go.ChangeAt Go.RowKit
set_option linter.unusedVariables false

set_option maxHeartbeats 2000000 in
theorem eq_tiles (A B : Option Addr) (m c d : Nat) (zs : List Int) (fa fb : List Nat) (w : World) (ha : Ints w A (64 * m) zs fa) (hb : Ints w B (64 * m) zs fb) (hn : m ≤ 1000000000) :
    Calls Try.prog 86 #[.slice A m c, .slice B m d] w fun e w' => e = .returned (.bool true) ∧ Below w.heap.size w w' := by
  have HA := Lib.hid ha
  have HB := Lib.hid hb
  have HZ := Lib.hid ha.1
  clear ha hb
  go_enter Try.func86, Try.ntmps86
  go_wp2_with fail
  go_loopw [5] (fun i wr => ∃ k : Nat, k ≤ m ∧ i = .int .i64 k ∧ Below w.heap.size w wr) (fun i _ => m - (intOf i).toNat)
  case atStart => exact ⟨0, by omega, rfl, Below.refl _ _⟩
  case round =>
    obtain ⟨k, hk, rfl, hbl⟩ := hrel
    have BR := Lib.hid hbl
    clear hbl
    by_cases hlt : k < m
    · obtain ⟨p, o, rfl, _, _, hc⟩ := HA.out.at_ (by omega)
      obtain ⟨q, u, rfl, _, _, hd⟩ := HB.out.at_ (by omega)
      clear hc hd
      have RA : Hid (∀ w', Below wr.heap.size wr w' → w'.rangeAt p (o + k * 64) (iv (tl zs k))) := Lib.hid fun w' hw' => til_range ((HA.out.below BR.out).below hw') hlt
      have RB : Hid (∀ w', Below wr.heap.size wr w' → w'.rangeAt q (u + k * 64) (iv (tl zs k))) := Lib.hid fun w' hw' => til_range ((HB.out.below BR.out).below hw') hlt
      have h64 := Lib.hid (tl_len HZ.out hlt)
      generalize tl zs k = px at RA RB h64
      have hkm : (k : Int) < m := by omega
      have hk0 : 0 ≤ (k : Int) := by omega
      go_wp2_with fail
      refine wp_region_typed (ClB wr) RlB (Ty [TV (.slice (some ⟨p, o, none⟩) m c), TV (.int .i64 k), TV (.pointer (some ⟨p, o + k * 64, none⟩)), TV (tilV px), TV (.slice (some ⟨q, u, none⟩) m d), TV (.int .i64 k), TV (.pointer (some ⟨q, u + k * 64, none⟩)), TV (tilV px), TV (.bool true), TV (.bool false)])
        (by kernel_rfl) (by kernel_rfl) (stab_ty _ ⟨stabB_k _, stabB_k _, stabB_k _, stabB_k _, stabB_k _, stabB_k _, stabB_k _, stabB_k _, stabB_k _, stabB_k _, trivial⟩) (Below.refl _ _).drew ?_ ?_
      · refine ⟨?_, ?_, ?_, ?_, ?_, ?_, ?_, ?_, ?_, ?_, trivial⟩
        · exact lb_move (.tmp 0) (.inl rfl) (fun _ _ _ => want_none rfl) fun ρ wx hc hx hp => hx 0 rfl
        · exact lb_move (.tmp 5) (.inl rfl) (fun _ _ _ => want_none rfl) fun ρ wx hc hx hp => hx 5 rfl
        · refine lb_val (.pointer (some ⟨p, o + k * 64, none⟩)) (fun _ _ _ => want_none rfl) fun ρ wx hb hc hx hp => ⟨?_, rfl⟩
          have h0 : ρ (.tmp 17) = .slice (some ⟨p, o, none⟩) m c := hp.1 rfl
          have h1 : ρ (.tmp 18) = .int .i64 k := hp.2.1 rfl
          unfold execOp
          simp only [h0, h1]
          clear h0 h1 hx hc hp hb
          go_simp
        · exact lb_tilm (.tmp 19) p (o + k * 64) px rfl h64.out RA.out (fun _ _ _ => want_none rfl) fun ρ wx hx hp => ⟨hp.1 rfl, rfl⟩
        · exact lb_move (.tmp 1) (.inl rfl) (fun _ _ _ => want_none rfl) fun ρ wx hc hx hp => hx 1 rfl
        · exact lb_move (.tmp 5) (.inl rfl) (fun _ _ _ => want_none rfl) fun ρ wx hc hx hp => hx 5 rfl
        · refine lb_val (.pointer (some ⟨q, u + k * 64, none⟩)) (fun _ _ _ => want_none rfl) fun ρ wx hb hc hx hp => ⟨?_, rfl⟩
          have h0 : ρ (.tmp 21) = .slice (some ⟨q, u, none⟩) m d := hp.1 rfl
          have h1 : ρ (.tmp 22) = .int .i64 k := hp.2.1 rfl
          unfold execOp
          simp only [h0, h1]
          clear h0 h1 hx hc hp hb
          go_simp
        · exact lb_tilm (.tmp 23) q (u + k * 64) px rfl h64.out RB.out (fun _ _ _ => want_none rfl) fun ρ wx hx hp => ⟨hp.1 rfl, rfl⟩
        · refine lb_known _ _ _ (.bool true) (fun _ _ => by simp [go_sem]) rfl (fun _ _ _ => want_none rfl) #[tilV px, tilV px] (fun w hb => eq_til px h64.out w) (fun ρ wx hc hx hp => ?_) (fun _ => rfl)
          have h0 : ρ (.tmp 20) = tilV px := hp.1 rfl
          have h1 : ρ (.tmp 24) = tilV px := hp.2.1 rfl
          simp only [List.map_toArray, List.map_cons, List.map_nil, h0, h1]
        · exact lb_unot (.tmp 25) _ true rfl (fun _ _ _ => want_none rfl) fun ρ wx hp => ⟨hp.1 rfl, rfl⟩
      intro vs wx hI hF
      obtain ⟨_, _, _, _, _, _, _, _, _, h9, _⟩ := hF
      replace h9 : vs 9 = .bool false := h9
      have HI : Hid (Below wr.heap.size wr wx) := hI
      simp only [putAll, Act.put, List.setIfInBounds_toArray, List.set_cons_zero, List.set_cons_succ, h9]
      clear hI h9
      have BX := Lib.hid (below_then BR.out HI.out)
      go_wp2_with fail
      go_roundw
      case rel => exact ⟨k + 1, by omega, by go_num, BX.out⟩
      case measure => simp [intOf]; omega
    · go_wp2_with fail
      go_ret
      exact ⟨rfl, BR.out⟩
theorem sz_tiles_yes (A : Option Addr) (n c : Nat) (left : Int) (w : World) (h : (n : Int) ≤ left) (hl : left ≤ 1000000000) :
    Calls Try.prog 83 #[.slice A n c, .int .i64 left] w fun e w' => e = .returned (.int .i64 (left - n)) ∧ w = w' := by
  go_enter Try.func83, Try.ntmps83
  go_wp2
  go_ret
  exact ⟨rfl, rfl⟩
theorem sz_tiles_no (A : Option Addr) (n c : Nat) (left : Int) (w : World) (h : left < n) (hl : -1 ≤ left) (hn : n ≤ 9223372036854775807) :
    Calls Try.prog 83 #[.slice A n c, .int .i64 left] w fun e w' => e = .returned (.int .i64 (-1)) ∧ w = w' := by
  go_enter Try.func83, Try.ntmps83
  go_wp2
  go_ret
  exact ⟨rfl, rfl⟩
set_option maxHeartbeats 2000000 in
theorem mark_tiles (A : Option Addr) (m c : Nat) (k0 : Int) (xs : List Int) (fp : List Nat) (w : World) (ha : Ints w A (64 * m) xs fp) (hf : ∀ b ∈ fp, ∀ o, w.frozen? ⟨b, o, none⟩ = false) (hn : m ≤ 100000000) (h0 : 0 ≤ k0) (h1 : k0 ≤ 10000000000) :
    Calls Try.prog 87 #[.slice A m c, .int .i64 k0] w (MarkedI A (64 * m) k0 fp w) := by
  have HA := Lib.hid ha
  have HF := Lib.hid hf
  clear ha hf
  go_enter Try.func87, Try.ntmps87
  go_wp2
  go_loopw [1, 5] (fun q i wr => ∃ (k : Nat) (cur : List Int), k ≤ m ∧ i = .int .i64 k ∧ q = .int .i64 (k0 + 64 * k) ∧ Ints wr A (64 * m) cur fp ∧ (∀ j, j < 64 * k → cur.getD j 0 = k0 + j) ∧ Only fp w wr ∧ (∀ b ∈ fp, ∀ o, wr.frozen? ⟨b, o, none⟩ = false)) (fun _ i _ => m - (intOf i).toNat)
  case atStart => exact ⟨0, xs, Nat.zero_le _, rfl, by simp, HA.out, fun j hj => by omega, Only.refl _ _, HF.out⟩
  case round =>
    obtain ⟨k, cur, hk, rfl, rfl, hr, hm, hb, hf⟩ := hrel
    have HR := Lib.hid hr
    have HM := Lib.hid hm
    have HB := Lib.hid hb
    have HG := Lib.hid hf
    clear hr hb hf hm HA HF
    by_cases hlt : k < m
    · obtain ⟨p, o, rfl, hfp, hp, hc⟩ := HR.out.at_ (by omega)
      have HP := Lib.hid hfp
      clear hc hfp hp
      obtain ⟨W0, rfl⟩ : ∃ W0, W0 = wr := ⟨wr, rfl⟩
      have hkm : (k : Int) < m := by omega
      have hk0 : 0 ≤ (k : Int) := by omega
      go_wp2_with fail
      go_loopw [1, 6] (fun q i wr => ∃ (j : Nat) (cur : List Int), j ≤ 64 ∧ i = .int .i64 j ∧ q = .int .i64 (k0 + 64 * k + j) ∧ Ints wr (some ⟨p, o, none⟩) (64 * m) cur fp ∧ (∀ x, x < 64 * k + j → cur.getD x 0 = k0 + x) ∧ Only fp w wr ∧ (∀ b ∈ fp, ∀ o, wr.frozen? ⟨b, o, none⟩ = false)) (fun _ i _ => 64 - (intOf i).toNat)
      case atStart => exact ⟨0, cur, by omega, rfl, by simp, HR.out, HM.out, HB.out, HG.out⟩
      case round =>
        obtain ⟨j, cu, hj, rfl, rfl, hr, hm, hb, hf⟩ := hrel
        have HR2 := Lib.hid hr
        have HM2 := Lib.hid hm
        have HB2 := Lib.hid hb
        have HG2 := Lib.hid hf
        clear hr hb hf hm HR HM HB HG
        by_cases hl2 : j < 64
        · obtain ⟨p', o', he, _, _, hc⟩ := HR2.out.at_ (by omega)
          injection he with he
          injection he with e1 e2 _
          subst e1 e2
          have c1 := hc (64 * k + j) (by omega)
          rw [show o + (64 * k + j) = o + k * 64 + j by omega] at c1
          have c2 := HG2.out p (by rw [HP.out]; simp) (o + k * 64 + j)
          clear hc
          generalize cu.getD (64 * k + j) 0 = x at c1
          have i64 : (j : Int) < 64 := by omega
          have j0 : 0 ≤ (j : Int) := by omega
          go_wp2_with fail
          go_roundw
          case rel =>
            have hl := HR2.out.1
            have hs := HR2.out.set (k := 64 * k + j) (by omega) (k0 + 64 * k + j)
            rw [show o + (64 * k + j) = o + k * 64 + j by omega] at hs
            refine ⟨j + 1, cu.set (64 * k + j) (k0 + 64 * k + j), by omega, by go_num, by go_num, hs, fun x hx => ?_, HB2.out.setCell (.inl (by rw [HP.out]; simp)) _, fun b hb o' => by rw [World.frozen?_setCell]; exact HG2.out b hb o'⟩
            simp only [List.getD_eq_getElem?_getD, List.getElem?_set]
            by_cases hjk : 64 * k + j = x
            · subst hjk
              rw [if_pos rfl, if_pos (by omega)]
              simp only [Option.getD_some]
              omega
            · rw [if_neg hjk, ← List.getD_eq_getElem?_getD]; exact HM2.out x (by omega)
          case measure => simp [intOf]; omega
        · obtain rfl : j = 64 := by omega
          go_wp2_with fail
          go_roundw
          case rel => exact ⟨k + 1, cu, by omega, by go_num, by go_num, HR2.out, fun x hx => HM2.out x (by omega), HB2.out, HG2.out⟩
          case measure => simp [intOf]; omega
    · obtain rfl : k = m := by omega
      go_wp2
      go_ret
      refine ⟨ret_int (by omega), HB.out, ?_, HG.out⟩
      have e : cur = upFrom k0 (64 * k) := list_ext0 _ _ (by rw [upFrom_len]; exact HR.out.1) (fun i hi => by rw [upFrom_len] at hi; rw [upFrom_at _ _ _ hi, HM.out i hi])
      rw [← e]; exact HR.out
end Go.Proofs.Ytacebhncecninaa
end

section
/- The laws' own functions on backgrounds. -/
namespace Go.Proofs.Ytacebhncecninaa
open Go.ChangeShapes Go.WideShapes Go.ChangeAt Go.RowKit
set_option linter.unusedVariables false

theorem sz_fld_yes (W : Int) (A : Option Addr) (n c : Nat) (T : Option Addr) (m d : Nat) (sx sy left : Int) (w : World) (h : (n : Int) + m ≤ left) (hl : left ≤ 1000000000) :
    Calls Try.prog 40 #[fldV W A n c T m d sx sy, .int .i64 left] w fun e w' => e = .returned (.int .i64 (left - n - m)) ∧ Below w.heap.size w w' := by
  have X1 := Lib.hid (Box.new w #[.int .i64 W, .slice A n c, .slice T m d, .int .i64 sx, .int .i64 sy] 60)
  have B1 := Lib.hid (below1 w (.cells #[.int .i64 W, .slice A n c, .slice T m d, .int .i64 sx, .int .i64 sy] 60))
  go_enter Try.func40, Try.ntmps40
  go_wp2_with fail
  refine (sz_ints_yes A n c left _ (by omega) hl).mono ?_; rintro e w1 ⟨rfl, rfl⟩
  obtain ⟨l2, hl2⟩ : ∃ l2, left - n = l2 := ⟨_, rfl⟩
  rw [hl2]
  have l0 : 0 ≤ l2 := by omega
  have l1 : (m : Int) ≤ l2 := by omega
  have l3 : l2 ≤ 1000000000 := by omega
  have HL := Lib.hid hl2
  clear hl2
  go_wp2_with fail
  refine (sz_tiles_yes T m d l2 _ l1 l3).mono ?_; rintro e w1 ⟨rfl, rfl⟩
  have l4 : 0 ≤ l2 - m := by omega
  go_wp2_with fail
  go_ret
  exact ⟨ret_int (by rw [HL.out]), B1.out⟩
theorem sz_fld_no (W : Int) (A : Option Addr) (n c : Nat) (T : Option Addr) (m d : Nat) (sx sy left : Int) (w : World) (h : left < (n : Int) + m) (h0 : 0 ≤ left) (hl : left ≤ 1000000000) (hn : n ≤ 9223372036854775807) (hm : m ≤ 9223372036854775807) :
    Calls Try.prog 40 #[fldV W A n c T m d sx sy, .int .i64 left] w fun e w' => e = .returned (.int .i64 (-1)) ∧ Below w.heap.size w w' := by
  have X1 := Lib.hid (Box.new w #[.int .i64 W, .slice A n c, .slice T m d, .int .i64 sx, .int .i64 sy] 60)
  have B1 := Lib.hid (below1 w (.cells #[.int .i64 W, .slice A n c, .slice T m d, .int .i64 sx, .int .i64 sy] 60))
  go_enter Try.func40, Try.ntmps40
  go_wp2_with fail
  by_cases hln : left < n
  · refine (sz_ints_no A n c left _ hln (by omega) hn).mono ?_; rintro e w1 ⟨rfl, rfl⟩
    go_wp2_with fail
    go_ret
    exact ⟨rfl, B1.out⟩
  · refine (sz_ints_yes A n c left _ (by omega) hl).mono ?_; rintro e w1 ⟨rfl, rfl⟩
    obtain ⟨l2, hl2⟩ : ∃ l2, left - n = l2 := ⟨_, rfl⟩
    rw [hl2]
    have l0 : 0 ≤ l2 := by omega
    have l1 : l2 < m := by omega
    clear hl2
    go_wp2_with fail
    refine (sz_tiles_no T m d l2 _ l1 (by omega) hm).mono ?_; rintro e w1 ⟨rfl, rfl⟩
    go_wp2_with fail
    go_ret
    exact ⟨rfl, B1.out⟩
set_option maxHeartbeats 2000000 in
theorem to_fld (F : Fld) (A : Option Addr) (c : Nat) (T : Option Addr) (d : Nat) (fa ft : List Nat) (w : World) (hF : FHas w A T F fa ft) (hs : FSmall F) :
    Calls Try.prog 41 #[fv F A c T d] w (FNew F w) := by
  obtain ⟨w1, hw1⟩ : ∃ w1, w1 = ((w.alloc (.cells #[.int .i64 F.w, .slice A F.xs.length c, .slice T F.nt d, .int .i64 F.sx, .int .i64 F.sy] 60)).alloc (.cells #[.int .i64 0, .slice none 0 0, .slice none 0 0, .int .i64 0, .int .i64 0] 26)).alloc (.cells #[.int .i64 0, .slice none 0 0, .slice none 0 0, .int .i64 0, .int .i64 0] 26) := ⟨_, rfl⟩
  have X1 : Hid (Box w1 w.heap.size 60 (fcs F.w A F.xs.length c T F.nt d F.sx F.sy)) := by rw [hw1]; exact ((Box.new w _ _).alloc _).alloc _
  have Y1 : Hid (Box w1 (w.heap.size + 1) 26 (fcs 0 none 0 0 none 0 0 0 0)) := by rw [hw1]; exact (Box.new_at _ _ _ _ (by simp)).alloc _
  have Z1 : Hid (Box w1 (w.heap.size + 1 + 1) 26 (fcs 0 none 0 0 none 0 0 0 0)) := by rw [hw1]; exact Box.new_at _ _ _ _ (by simp)
  have B1 : Hid (Below w.heap.size w w1) := by rw [hw1]; exact below3 w _ _ _
  have HFR : Hid (∀ W, Below w.heap.size w W → FHas W A T F fa ft) := Lib.hid fun W h => hF.below h
  have HS := Lib.hid hs
  clear hF hs
  generalize hb0 : w.heap.size = b0 at X1 Y1 Z1 B1 HFR
  generalize hb1 : b0 + 1 = b1 at Y1 Z1
  generalize hb2 : b1 + 1 = b2 at Z1
  have HBB := Lib.hid (And.intro hb0 (And.intro hb1 hb2))
  have hne : b0 ≠ b1 ∧ b0 ≠ b2 ∧ b1 ≠ b2 := by omega
  obtain ⟨n01, n02, n12⟩ := hne
  have x0 : w1.cell? ⟨b0, 0, none⟩ = some (.int .i64 F.w) := X1.out.cell 0
  have x1 : w1.cell? ⟨b0, 1, none⟩ = some (.slice A F.xs.length c) := X1.out.cell 1
  have z0 : w1.cell? ⟨b2, 0, none⟩ = some (.int .i64 0) := Z1.out.cell 0
  have z1 : w1.cell? ⟨b2, 1, none⟩ = some (.slice none 0 0) := Z1.out.cell 1
  have u0 := Z1.out.frozen 0
  have u1 := Z1.out.frozen 1
  go_enter Try.func41, Try.ntmps41
  go_upto_region 2 with (fail)
  rw [← hw1]
  clear hw1 hb0 hb1 hb2
  go_wp2_with fail
  have X2 := Lib.hid (X1.out.far (b' := b2) (i := 0) n02 (.int .i64 F.w))
  have Y2 := Lib.hid (Y1.out.far (b' := b2) (i := 0) n12 (.int .i64 F.w))
  have Z2 : Hid (Box (w1.setCell ⟨b2, 0, none⟩ (.int .i64 F.w)) b2 26 (fcs F.w none 0 0 none 0 0 0 0)) := Lib.hid (Z1.out.set 0 (.int .i64 F.w))
  have B2 := Lib.hid (B1.out.setCell (p := ⟨b2, 0, none⟩) (show b0 ≤ b2 by have := HBB.out; omega) (.int .i64 F.w))
  clear X1 Y1 Z1 B1 x0 x1 z0 z1 u0 u1
  generalize w1.setCell ⟨b2, 0, none⟩ (.int .i64 F.w) = w2 at X2 Y2 Z2 B2 ⊢
  have h2 := HFR.out _ B2.out
  refine (to_ints A F.xs.length c F.xs fa _ h2.1 HS.out.1).mono ?_; rintro e w3 ⟨A3, c3, f3, rfl, hc3, i3, n3, bl3⟩
  have X3 := Lib.hid (X2.out.below bl3)
  have Y3 := Lib.hid (Y2.out.below bl3)
  have Z3 := Lib.hid (Z2.out.below bl3)
  have L2 : b2 < w2.heap.size := Z2.out.lt
  have B3 : Hid (Below b0 w w3) := Lib.hid (B2.out.trans (bl3.mono (by have := X2.out.lt; omega)))
  have I3 := Lib.hid i3
  have N3 := Lib.hid n3
  have HC3 := Lib.hid hc3
  have x2 : w3.cell? ⟨b0, 2, none⟩ = some (.slice T F.nt d) := X3.out.cell 2
  have z1 : w3.cell? ⟨b2, 1, none⟩ = some (.slice none 0 0) := Z3.out.cell 1
  have u1 := Z3.out.frozen 1
  have L3 : w2.heap.size ≤ w3.heap.size := bl3.size
  clear h2 hc3 i3 n3 bl3
  go_wp2_with fail
  clear x2 z1 u1
  have X4 := Lib.hid (X3.out.far (b' := b2) (i := 1) n02 (.slice A3 F.xs.length c3))
  have Y4 := Lib.hid (Y3.out.far (b' := b2) (i := 1) n12 (.slice A3 F.xs.length c3))
  have Z4 : Hid (Box (w3.setCell ⟨b2, 1, none⟩ (.slice A3 F.xs.length c3)) b2 26 (fcs F.w A3 F.xs.length c3 none 0 0 0 0)) := Lib.hid (Z3.out.set 1 (.slice A3 F.xs.length c3))
  have B4 := Lib.hid (B3.out.setCell (p := ⟨b2, 1, none⟩) (show b0 ≤ b2 by have := HBB.out; omega) (.slice A3 F.xs.length c3))
  have O4 := Lib.hid ((Only.refl [b1, b2] w3).setCell (q := b2) (j := 1) (.inl (by simp)) (.slice A3 F.xs.length c3))
  have L4 : (w3.setCell ⟨b2, 1, none⟩ (.slice A3 F.xs.length c3)).heap.size = w3.heap.size := by simp
  clear X3 Y3 Z3 B3 X2 Y2 Z2 B2
  generalize w3.setCell ⟨b2, 1, none⟩ (.slice A3 F.xs.length c3) = w4 at X4 Y4 Z4 B4 O4 L4 ⊢
  have h4 := HFR.out _ B4.out
  refine (to_tiles T F.nt d F.zs ft _ h4.2 HS.out.2).mono ?_; rintro e w5 ⟨A5, c5, f5, rfl, hc5, i5, n5, bl5⟩
  have X5 := Lib.hid (X4.out.below bl5)
  have Y5 := Lib.hid (Y4.out.below bl5)
  have Z5 := Lib.hid (Z4.out.below bl5)
  have B5 : Hid (Below b0 w w5) := Lib.hid (B4.out.trans (bl5.mono (by have := X4.out.lt; omega)))
  have O5 := Lib.hid (O4.out.trans (.of_below bl5))
  have I5 := Lib.hid i5
  have N5 := Lib.hid n5
  have HC5 := Lib.hid hc5
  have x3 : w5.cell? ⟨b0, 3, none⟩ = some (.int .i64 F.sx) := X5.out.cell 3
  have x4 : w5.cell? ⟨b0, 4, none⟩ = some (.int .i64 F.sy) := X5.out.cell 4
  have z2 : w5.cell? ⟨b2, 2, none⟩ = some (.slice none 0 0) := Z5.out.cell 2
  have z3 : w5.cell? ⟨b2, 3, none⟩ = some (.int .i64 0) := Z5.out.cell 3
  have z4 : w5.cell? ⟨b2, 4, none⟩ = some (.int .i64 0) := Z5.out.cell 4
  have u2 := Z5.out.frozen 2
  have u3 := Z5.out.frozen 3
  have u4 := Z5.out.frozen 4
  have n20 : b2 ≠ b0 := by omega
  clear h4 hc5 i5 n5 bl5 X4 Y4 Z4 B4 O4
  go_upto_region 7 with (fail)
  clear x3 x4 z2 z3 z4 u2 u3 u4
  have Y6 := Lib.hid (((Y5.out.far (b' := b2) (i := 2) n12 (.slice A5 F.nt c5)).far (b' := b2) (i := 3) n12 (.int .i64 F.sx)).far (b' := b2) (i := 4) n12 (.int .i64 F.sy))
  have Z6 : Hid (Box (((w5.setCell ⟨b2, 2, none⟩ (.slice A5 F.nt c5)).setCell ⟨b2, 3, none⟩ (.int .i64 F.sx)).setCell ⟨b2, 4, none⟩ (.int .i64 F.sy)) b2 26 (fcs F.w A3 F.xs.length c3 A5 F.nt c5 F.sx F.sy)) := Lib.hid (((Z5.out.set 2 (.slice A5 F.nt c5)).set 3 (.int .i64 F.sx)).set 4 (.int .i64 F.sy))
  have hle : b0 ≤ b2 := by have := HBB.out; omega
  have B6 := Lib.hid (((B5.out.setCell (p := ⟨b2, 2, none⟩) hle (.slice A5 F.nt c5)).setCell (p := ⟨b2, 3, none⟩) hle (.int .i64 F.sx)).setCell (p := ⟨b2, 4, none⟩) hle (.int .i64 F.sy))
  have O6 := Lib.hid ((((Only.refl [b1, b2] w5).setCell (q := b2) (j := 2) (.inl (by simp)) (.slice A5 F.nt c5)).setCell (q := b2) (j := 3) (.inl (by simp)) (.int .i64 F.sx)).setCell (q := b2) (j := 4) (.inl (by simp)) (.int .i64 F.sy))
  clear Y5 Z5 B5 X5
  generalize ((w5.setCell ⟨b2, 2, none⟩ (.slice A5 F.nt c5)).setCell ⟨b2, 3, none⟩ (.int .i64 F.sx)).setCell ⟨b2, 4, none⟩ (.int .i64 F.sy) = w6 at Y6 Z6 B6 O6 ⊢
  go_wp2_with (first | (refine fs_load (by rfl) _ rfl b2 rfl Z6.out ?_) | (refine fs_store (by rfl) _ _ rfl b1 rfl rfl _ Y6.out rfl ?_))
  refine bodyPost_ret (v := fv F A3 c3 A5 c5) (fld_ret rfl rfl (Box.row Y6.out)) rfl ?_
  have O7 := O6.out.row (g := b1) (.inl (by simp)) (fcs F.w A3 F.xs.length c3 A5 F.nt c5 F.sx F.sy).toArray
  have O8 := O5.out.trans O7
  have hb := HBB.out
  have s3 : Same f3 w3 _ := .of_only O8 fun b hb3 hs => by
    have := (N3.out.lt b hb3).1
    simp only [List.mem_cons, List.mem_nil_iff, or_false] at hs
    omega
  have s5 : Same f5 w5 _ := .of_only O7 fun b hb3 hs => by
    have := (N5.out.lt b hb3).1
    simp only [List.mem_cons, List.mem_nil_iff, or_false] at hs
    omega
  refine ⟨A3, c3, A5, c5, f3, f5, rfl, HC3.out, HC5.out, ⟨I3.out.keep s3, I5.out.keep s5⟩, (((N3.out.mono (by omega)).keep s3).append ((N5.out.mono (by omega)).keep s5) fun b h3 h5 => ?_), ?_⟩
  · have := (N3.out.lt b h3).2
    have := (N5.out.lt b h5).1
    omega
  · rw [hb.1]
    exact below_row B6.out (by omega) _
set_option maxHeartbeats 2000000 in
theorem eq_fld (F : Fld) (A B : Option Addr) (c e' : Nat) (T U : Option Addr) (d f' : Nat) (fa ft ga gt : List Nat) (w : World) (hF : FHas w A T F fa ft) (hG : FHas w B U F ga gt) (hs : FSmall F) :
    Calls Try.prog 43 #[fv F A c T d, fv F B e' U f'] w fun e w' => e = .returned (.bool true) ∧ Below w.heap.size w w' := by
  obtain ⟨w1, hw1⟩ : ∃ w1, w1 = (w.alloc (.cells #[.int .i64 F.w, .slice A F.xs.length c, .slice T F.nt d, .int .i64 F.sx, .int .i64 F.sy] 26)).alloc (.cells #[.int .i64 F.w, .slice B F.xs.length e', .slice U F.nt f', .int .i64 F.sx, .int .i64 F.sy] 26) := ⟨_, rfl⟩
  have X1 : Hid (Box w1 w.heap.size 26 (fcs F.w A F.xs.length c T F.nt d F.sx F.sy)) := by rw [hw1]; exact (Box.new w _ _).alloc _
  have Y1 : Hid (Box w1 (w.heap.size + 1) 26 (fcs F.w B F.xs.length e' U F.nt f' F.sx F.sy)) := by rw [hw1]; exact Box.new_at _ _ _ _ (by simp)
  have B1 : Hid (Below w.heap.size w w1) := by rw [hw1]; exact below2 w _ _
  have HF := Lib.hid (FHas.below hF B1.out)
  have HG := Lib.hid (FHas.below hG B1.out)
  have HS := Lib.hid hs
  clear hF hG hs
  have x0 : w1.cell? ⟨w.heap.size, 0, none⟩ = some (.int .i64 F.w) := X1.out.cell 0
  have x1 : w1.cell? ⟨w.heap.size, 1, none⟩ = some (.slice A F.xs.length c) := X1.out.cell 1
  have y0 : w1.cell? ⟨w.heap.size + 1, 0, none⟩ = some (.int .i64 F.w) := Y1.out.cell 0
  have y1 : w1.cell? ⟨w.heap.size + 1, 1, none⟩ = some (.slice B F.xs.length e') := Y1.out.cell 1
  go_enter Try.func43, Try.ntmps43
  go_upto_region 1 with (fail)
  rw [← hw1]
  clear hw1
  go_wp2_with fail
  refine (eq_ints A B F.xs.length c e' F.xs fa ga _ HF.out.1 HG.out.1 HS.out.1).mono ?_; rintro e w2 ⟨rfl, q, rfl⟩
  have x2 : (w1.drewN q).cell? ⟨w.heap.size, 2, none⟩ = some (.slice T F.nt d) := X1.out.cell 2
  have y2 : (w1.drewN q).cell? ⟨w.heap.size + 1, 2, none⟩ = some (.slice U F.nt f') := Y1.out.cell 2
  have X2 : Hid (Box (w1.drewN q) w.heap.size 26 (fcs F.w A F.xs.length c T F.nt d F.sx F.sy)) := Lib.hid X1.out
  have Y2 : Hid (Box (w1.drewN q) (w.heap.size + 1) 26 (fcs F.w B F.xs.length e' U F.nt f' F.sx F.sy)) := Lib.hid Y1.out
  have B2 := Lib.hid (below_drewN B1.out q)
  have HF2 := Lib.hid (HF.out.2.below (below_drewN (Below.refl w1.heap.size w1) q))
  have HG2 := Lib.hid (HG.out.2.below (below_drewN (Below.refl w1.heap.size w1) q))
  clear x0 x1 y0 y1 X1 Y1 B1 HF HG
  generalize w1.drewN q = w2 at x2 y2 X2 Y2 B2 HF2 HG2 ⊢
  go_wp2_with fail
  refine (eq_tiles T U F.nt d f' F.zs ft gt _ HF2.out HG2.out HS.out.2).mono ?_; rintro e w3 ⟨rfl, b3⟩
  have x3 : w3.cell? ⟨w.heap.size, 3, none⟩ = some (.int .i64 F.sx) := (X2.out.below b3).cell 3
  have x4 : w3.cell? ⟨w.heap.size, 4, none⟩ = some (.int .i64 F.sy) := (X2.out.below b3).cell 4
  have y3 : w3.cell? ⟨w.heap.size + 1, 3, none⟩ = some (.int .i64 F.sx) := (Y2.out.below b3).cell 3
  have y4 : w3.cell? ⟨w.heap.size + 1, 4, none⟩ = some (.int .i64 F.sy) := (Y2.out.below b3).cell 4
  have B3 := Lib.hid (below_then B2.out b3)
  clear x2 y2 X2 Y2 B2 HF2 HG2 b3
  go_wp2_with fail
  go_ret
  exact ⟨rfl, B3.out⟩
/-- What marking a background leaves. -/
def MarkedF (F : Fld) (A T : Option Addr) (k : Int) (fa ft : List Nat) (w : World) (e : Ending) (w' : World) : Prop :=
  e = .returned (.int .i64 (k + F.xs.length + (64 * F.nt : Nat))) ∧ Only (fa ++ ft) w w' ∧ Ints w' A F.xs.length (upFrom k F.xs.length) fa ∧ Ints w' T (64 * F.nt) (upFrom (k + F.xs.length) (64 * F.nt)) ft
set_option maxHeartbeats 1000000 in
theorem mark_fld (F : Fld) (A : Option Addr) (c : Nat) (T : Option Addr) (d : Nat) (k : Int) (fa ft : List Nat) (w : World) (hF : FHas w A T F fa ft) (hn : New 0 w (fa ++ ft)) (h1 : F.xs.length ≤ 100000000) (h2 : F.nt ≤ 100000000) (k0 : 0 ≤ k) (k1 : k ≤ 1000000000) :
    Calls Try.prog 44 #[fv F A c T d, .int .i64 k] w (MarkedF F A T k fa ft w) := by
  have X1 := Lib.hid (Box.new w #[.int .i64 F.w, .slice A F.xs.length c, .slice T F.nt d, .int .i64 F.sx, .int .i64 F.sy] 26)
  have O1 := Lib.hid ((Only.refl (fa ++ ft) w).alloc (.cells #[.int .i64 F.w, .slice A F.xs.length c, .slice T F.nt d, .int .i64 F.sx, .int .i64 F.sy] 26))
  have HF := Lib.hid (FHas.below hF (below1 w (.cells #[.int .i64 F.w, .slice A F.xs.length c, .slice T F.nt d, .int .i64 F.sx, .int .i64 F.sy] 26)))
  have HN := Lib.hid (hn.keep (.of_below (below1 w (.cells #[.int .i64 F.w, .slice A F.xs.length c, .slice T F.nt d, .int .i64 F.sx, .int .i64 F.sy] 26))))
  have HL := Lib.hid (fun b hb => (hn.lt b hb).2)
  clear hF hn
  go_enter Try.func44, Try.ntmps44
  go_wp2_with fail
  generalize w.alloc (.cells #[.int .i64 F.w, .slice A F.xs.length c, .slice T F.nt d, .int .i64 F.sx, .int .i64 F.sy] 26) = w1 at X1 O1 HF HN ⊢
  have hnd := List.nodup_append.1 HN.out.once
  refine (mark_ints A F.xs.length c k F.xs fa _ HF.out.1 (fun b hb o => HN.out.free b (List.mem_append_left _ hb) o) (by omega) k0 (by omega)).mono ?_; rintro e w2 ⟨rfl, o2, i2, fr2⟩
  have hxb : w.heap.size ∉ fa := fun hb => by have := HL.out _ (List.mem_append_left _ hb); omega
  have X2 := Lib.hid (X1.out.only o2 hxb)
  have hdj : ∀ b ∈ ft, b ∉ fa := fun b hb ha => hnd.2.2 b ha b hb rfl
  have HT2 := Lib.hid (HF.out.2.keep (.of_only o2 hdj))
  have HN2 := Lib.hid (fun b (hb : b ∈ ft) o => (World.frozen?_of_block (a := ⟨b, o, none⟩) (o2.block b (HF.out.2.lt b hb) (hdj b hb))).trans (HN.out.free b (List.mem_append_right _ hb) o))
  have I2 := Lib.hid i2
  have O2 := Lib.hid (O1.out.trans (o2.mono fun b hb => List.mem_append_left _ hb))
  have HD := Lib.hid hdj
  have x2 : w2.cell? ⟨w.heap.size, 2, none⟩ = some (.slice T F.nt d) := X2.out.cell 2
  clear o2 i2 fr2 hnd X1 HF HN O1 hxb hdj
  go_wp2_with fail
  refine (mark_tiles T F.nt d (k + F.xs.length) F.zs ft _ HT2.out HN2.out h2 (by omega) (by omega)).mono ?_; rintro e w3 ⟨rfl, o3, i3, fr3⟩
  have I3 := Lib.hid i3
  have J3 := Lib.hid (I2.out.keep (.of_only o3 fun b hb ht => HD.out b ht hb))
  have O3 := Lib.hid (O2.out.trans (o3.mono fun b hb => List.mem_append_right _ hb))
  clear o3 i3 fr3 x2
  go_wp2_with fail
  go_ret
  exact ⟨rfl, O3.out, J3.out, I3.out⟩
end Go.Proofs.Ytacebhncecninaa
end

section
/- What a walk is told of an argument that is a background. -/
namespace Go.Proofs.Ytacebhncecninaa
open Go.ChangeShapes Go.WideShapes Go.ChangeAt Go.RowKit
set_option linter.unusedVariables false

/-- A background that came in. -/
def InFld (w : World) (A T : Option Addr) (F : Fld) : Prop := F.xs.length ≤ 9223372036854775807 ∧ F.nt ≤ 9223372036854775807 ∧ ∃ fa ft, FHas w A T F fa ft
section
variable {H : Type} {enc : TypeId × Value → H} {w : World} {base : Nat} {held : Bool}
set_option maxRecDepth 100000 in
/-- The cells of a tile are integers. -/
theorem tile_cells {fuel : Nat} {cs : List Value} {y : DataW H × List MemPlace} (hl : cs.length = 64) (h : DataW.trod enc Try.prog w base (fun _ => true) held fuel 127 cs = some y) : ∃ px : List Int, px.length = 64 ∧ cs = iv px := by
  have ha : Try.prog.cellsOf 55 = 64 := by kernel_rfl
  have h1 : Try.prog.cellsOf 3 = 1 := by kernel_rfl
  obtain ⟨xs, n, _, hx, hl2, hlen, hfs⟩ := DataW.trod_struct Try.underlying127 h
  have h0 : DataW.trod enc Try.prog w base (fun _ => true) held n 55 ((cs.drop 0).take (Try.prog.cellsOf 55)) = xs[0]? := hfs 0 _ rfl
  have hx0 : ∃ y, xs[0]? = some y := ⟨xs[0]'(by rw [hlen]; decide), List.getElem?_eq_getElem _⟩
  obtain ⟨y, hy⟩ := hx0
  rw [hy, ha, List.drop_zero, List.take_of_length_le (by omega)] at h0
  obtain ⟨ys, m, _, _, _, hyl, hys⟩ := DataW.trod_array Try.underlying55 h0
  obtain ⟨px, e1, e2⟩ := ints_list cs fun i hi => by
    have hi64 : i < 64 := by omega
    have hq := hys i hi64
    rw [h1, Nat.mul_one, List.getElem?_eq_getElem (by omega : i < ys.length)] at hq
    have ht : (cs.drop i).take 1 = [cs[i]'hi] := by
      rw [List.drop_eq_getElem_cons hi]; rfl
    rw [ht] at hq
    obtain ⟨z, hz, _⟩ := DataW.trod_int Try.underlying3 hq
    refine ⟨z, ?_⟩
    rw [List.getElem?_eq_getElem hi]
    simpa using hz
  exact ⟨px, by omega, e2⟩
set_option maxRecDepth 100000 in
theorem tiles_came {fuel : Nat} {T : Option Addr} {m d : Nat} {x : DataW H × List MemPlace} (h : DataW.trod enc Try.prog w base (fun _ => true) held fuel 58 [.slice T m d] = some x) : m ≤ 9223372036854775807 ∧ ∃ zs ft, Ints w T (64 * m) zs ft := by
  have hc64 : Try.prog.cellsOf 127 = 64 := by kernel_rfl
  rcases Go.Deep.open_slice Try.underlying58 h with ⟨hcs, _⟩ | ⟨a, len, cap, mm, n, D, Pl, hcs, _, hl, hm, hmm, _, hel⟩
  · simp at hcs
    obtain ⟨rfl, rfl, _⟩ := hcs
    exact ⟨by omega, [], [], .nil _ _⟩
  · simp at hcs
    obtain ⟨rfl, rfl, rfl⟩ := hcs
    simp only [if_true] at hmm
    unfold maxLen at hm
    rw [hc64] at hel
    obtain ⟨f, hf⟩ := Go.Deep.choose_lt (n := mm) (p := fun i (px : List Int) => px.length = 64 ∧ ∀ j, j < 64 → w.cell? (a.add (i * 64 + j)) = some (.int .i64 (px.getD j 0))) fun i hi => by
      obtain ⟨cs', hcs', htr⟩ := hel i hi
      obtain ⟨_, hlen, hcell⟩ := World.cells?_some hcs'
      obtain ⟨px, hp, rfl⟩ := tile_cells hlen htr
      refine ⟨px, hp, fun j hj => ?_⟩
      have := hcell j hj
      rw [Go.Deep.add_add] at this
      rw [this]
      exact iv_at px j (by omega)
    refine ⟨by omega, _, _, ints_in8 (L := 64 * m) (C := 64 * m) (Z := (List.range (64 * m)).map fun q => (f (q / 64)).getD (q % 64) 0) (Nat.le_refl _) (by simp) (by simp) fun a' e c hc => ?_⟩
    injection e with e
    subst e
    have h2 := (hf (c / 64) (by omega)).2 (c % 64) (by omega)
    rw [show c / 64 * 64 + c % 64 = c by omega] at h2
    rw [h2]
    congr 2
    have h3 : ((List.range (64 * m)).map fun q => (f (q / 64)).getD (q % 64) 0)[c]? = some ((f (c / 64)).getD (c % 64) 0) := by
      rw [List.getElem?_map, List.getElem?_range hc]
      rfl
    rw [List.getD_eq_getElem?_getD (l := (List.range (64 * m)).map fun q => (f (q / 64)).getD (q % 64) 0), h3]
    rfl
set_option maxRecDepth 100000 in
theorem fiveL {α : Type} (l : List α) (h : l.length = 5) : ∃ c0 c1 c2 c3 c4, l = [c0, c1, c2, c3, c4] := by
  match l, h with
  | [c0, c1, c2, c3, c4], _ => exact ⟨c0, c1, c2, c3, c4, rfl⟩
set_option maxRecDepth 100000 in
theorem fld_in {r : Reach} {b0 : Nat} {v : Value} {dd : DataW H} {p : List MemPlace} (hv : Value.okWide Try.prog w r b0 60 v) (h : DataW.Trod enc Try.prog w base (fun _ => true) held 60 v dd p) :
    ∃ A c T d F, v = fv F A c T d ∧ InFld w A T F := by
  obtain ⟨cs, rfl, hsz⟩ := okWide_struct Try.underlying60 hv
  have hC : Try.prog.cellsOf 60 = 5 := by kernel_rfl
  have kI : Try.prog.cellsOf 3 = 1 := by kernel_rfl
  have kS : Try.prog.cellsOf 23 = 1 := by kernel_rfl
  have kT : Try.prog.cellsOf 58 = 1 := by kernel_rfl
  obtain ⟨l⟩ := cs
  obtain ⟨c0, c1, c2, c3, c4, rfl⟩ := fiveL l (by rw [hC] at hsz; simpa using hsz)
  obtain ⟨fuel, hf⟩ := h
  obtain ⟨xs, n0, _, _, _, hlen, hff⟩ := DataW.trod_struct Try.underlying60 hf
  obtain ⟨y0, y1, y2, y3, y4, rfl⟩ := fiveL xs hlen
  have t0 : DataW.trod enc Try.prog w base (fun _ => true) held n0 3 [c0] = some y0 := by simpa [Value.cells, kI] using hff 0 _ rfl
  have t1 : DataW.trod enc Try.prog w base (fun _ => true) held n0 23 [c1] = some y1 := by simpa [Value.cells, kS] using hff 1 _ rfl
  have t2 : DataW.trod enc Try.prog w base (fun _ => true) held n0 58 [c2] = some y2 := by simpa [Value.cells, kT] using hff 2 _ rfl
  have t3 : DataW.trod enc Try.prog w base (fun _ => true) held n0 3 [c3] = some y3 := by simpa [Value.cells, kI] using hff 3 _ rfl
  have t4 : DataW.trod enc Try.prog w base (fun _ => true) held n0 3 [c4] = some y4 := by simpa [Value.cells, kI] using hff 4 _ rfl
  have e1 : ∃ A n c, c1 = .slice A n c := by
    rcases open_ints Try.underlying23 Try.underlying3 (by kernel_rfl) t1 with ⟨hcs, _⟩ | ⟨a, len, cap, zs, hcs, _⟩
    · exact ⟨_, _, _, by simpa using hcs⟩
    · exact ⟨_, _, _, by simpa using hcs⟩
  have e2 : ∃ A n c, c2 = .slice A n c := by
    rcases Go.Deep.open_slice Try.underlying58 t2 with ⟨hcs, _⟩ | ⟨a, len, cap, mm, n, D, Pl, hcs, _⟩
    · exact ⟨_, _, _, by simpa using hcs⟩
    · exact ⟨_, _, _, by simpa using hcs⟩
  obtain ⟨A, n, c, rfl⟩ := e1
  obtain ⟨T, m, d, rfl⟩ := e2
  obtain ⟨W, hz0, _⟩ := DataW.trod_int Try.underlying3 t0
  obtain rfl : c0 = .int .i64 W := by simpa using hz0
  obtain ⟨sx, hz3, _⟩ := DataW.trod_int Try.underlying3 t3
  obtain rfl : c3 = .int .i64 sx := by simpa using hz3
  obtain ⟨sy, hz4, _⟩ := DataW.trod_int Try.underlying3 t4
  obtain rfl : c4 = .int .i64 sy := by simpa using hz4
  obtain ⟨hn, zs, fa, hi⟩ := ints_came8 t1
  obtain ⟨hm, ts, ft, ht⟩ := tiles_came t2
  have hl := hi.1
  subst hl
  exact ⟨A, c, T, d, ⟨W, zs, m, ts, sx, sy⟩, rfl, hn, hm, fa, ft, hi, ht⟩
end
end Go.Proofs.Ytacebhncecninaa
end
