/- Changes in memory: three numbers a change; loads and stores of whole ones, appends. -/
import Derived.Test.YtddllcgbdgpkbaaBmU
import Derived.Test.YtddllcgbdgpkbaaTilT
namespace Go.Proofs.Ytddllcgbdgpkbaa
open Go.ChangeShapes Go.WideShapes Go.ChangeAt Go.RowKit
set_option linter.unusedVariables false

/-- A change's value. -/
abbrev chgV (c x y : Int) : Value := .agg #[.int .i64 c, .int .i64 x, .int .i64 y]
theorem chg_info : (Try.prog.info? 27).map (·.size) = some 3 := by kernel_rfl
theorem chg_range {w : World} {b o n : Nat} {L : List Int} {fp : List Nat} (h : Ints w (some ⟨b, o, none⟩) (3 * n) L fp) {k : Nat} (hk : k < n) : w.rangeAt b (o + k * 3) (iv [cC L k, cX L k, cY L k]) := by
  intro j v hv
  obtain ⟨h0, h1, h2⟩ := chg_cell h hk
  match j, hv with
  | 0, hv => rw [← hv]; exact h0
  | 1, hv => rw [← hv]; exact h1
  | 2, hv => rw [← hv]; exact h2
  | j + 3, hv => simp [iv] at hv
section
variable {ops : Array Oper} {rest : List Oper} {o : Oper} {a : Act} {w : World} {Q : Exit → Act → World → Prop}
theorem ch_load {t : TypeId} (hw : Region.wanted o (yielded ops a.tmps) = true) (x : Operand) (ho : o.op = .load 27 x) (b : Nat) (hx : a.eval x = .pointer (some ⟨b, 0, none⟩)) (u v z : Int) (hb : Box w b t (iv [u, v, z]))
    (h : wpList Try.prog ops Q rest (a.put o.dst (chgV u v z)) w) : wpList Try.prog ops Q (o :: rest) a w :=
  wpList_step fun K hK => by
    rw [if_pos hw]
    exact wp_load_row _ x ho b hx t (iv [u, v, z]).toArray (0, 0) _ hb Try.underlying27 rfl chg_info (hK _ _ h)
theorem ch_loadm (hw : Region.wanted o (yielded ops a.tmps) = true) (x : Operand) (ho : o.op = .load 27 x) (b k : Nat) (hx : a.eval x = .pointer (some ⟨b, k, none⟩)) (u v z : Int) (hb : w.rangeAt b k (iv [u, v, z]))
    (h : wpList Try.prog ops Q rest (a.put o.dst (chgV u v z)) w) : wpList Try.prog ops Q (o :: rest) a w :=
  wpList_step fun K hK => by
    rw [if_pos hw]
    exact wp_load_mid _ x ho b k hx (iv [u, v, z]) _ hb Try.underlying27 rfl chg_info (hK _ _ h)
theorem ch_store {t : TypeId} (hw : Region.wanted o (yielded ops a.tmps) = true) (x y : Operand) (ho : o.op = .store 27 x y) (b : Nat) (hx : a.eval x = .pointer (some ⟨b, 0, none⟩)) (u v z : Int) (hy : a.eval y = chgV u v z) (cs : List Value) (hb : Box w b t cs) (hc : cs.length = 3)
    (h : wpList Try.prog ops Q rest (a.put o.dst undef) (w.setRow b (iv [u, v, z]).toArray)) : wpList Try.prog ops Q (o :: rest) a w :=
  wpList_step fun K hK => by
    rw [if_pos hw]
    exact wp_store_row _ x y ho b (iv [u, v, z]).toArray hx hy t cs.toArray hb chg_info (by show cs.toArray.size = 3; simpa using hc) (by simp [iv, Value.oneCell']) (hK _ _ h)
/-- A change is stored into the middle of a row of the call's own. -/
theorem ch_storem (hw : Region.wanted o (yielded ops a.tmps) = true) (x y : Operand) (ho : o.op = .store 27 x y) (g k : Nat) (hx : a.eval x = .pointer (some ⟨g, k, none⟩)) (u v z : Int) (hy : a.eval y = chgV u v z) (t : TypeId) (cur : List Value) (hb : Box w g t cur) (hfit : k + 3 ≤ cur.length) (res : List Value) (hres : cur.take k ++ iv [u, v, z] ++ cur.drop (k + 3) = res)
    (h : wpList Try.prog ops Q rest (a.put o.dst undef) (w.setRow g res.toArray)) : wpList Try.prog ops Q (o :: rest) a w :=
  wpList_step fun K hK => by
    rw [if_pos hw]
    obtain ⟨C, hC⟩ : ∃ C, iv [u, v, z] = C := ⟨_, rfl⟩
    have h6 : C.length = 3 := by rw [← hC]; rfl
    have h1 : ∀ y ∈ C, y.oneCell' = true := by rw [← hC]; simp [iv, Value.oneCell']
    have hc2 : (chgV u v z).cells = C.toArray := by rw [← hC]; rfl
    rw [hC] at hres
    clear hC
    have hst := run_storeCells_at Try.prog g k t C 0 cur.toArray w hb (by simp [h6]; omega) h1
    have e : (cur.toArray.toList.take (k + 0) ++ C ++ cur.toArray.toList.drop (k + 0 + C.length)).toArray = res.toArray := by
      rw [← hres]
      simp [h6]
    rw [e] at hst
    have hsv : (storeVar 27 ⟨g, k, none⟩ (chgV u v z)).run Try.prog w = .ok () (w.setRow g res.toArray) := by
      have hi := chg_info
      cases hq : Try.prog.info? 27 with
      | none => simp [hq] at hi
      | some i =>
        have hs : i.size = 3 := by simpa [hq] using hi
        have hcs : C.toArray.size = i.size := by simp [h6, hs]
        simp [storeVar, sizeOf, typeInfo, hq, hc2, hs, h6, hst]
    unfold Oper.wp execOp
    simp only [ho, hx, hy, Instr.storeAt, Instr.sureAddr, Sem.run_bind, Sem.run_pure, Result.andThen_ok, hsv]
    exact hK _ _ h
end
theorem infoChg : (Try.prog.info? 27).map (fun i => (i.zero, i.size, i.bytes)) = some (some (.agg (iv [0, 0, 0]).toArray), 3, 24) := by kernel_rfl
theorem chg_parts : ∃ i, Try.prog.info? 27 = some i ∧ i.zero = some (.agg (iv [0, 0, 0]).toArray) ∧ i.size = 3 ∧ i.bytes = 24 := by
  have h := infoChg
  cases e : Try.prog.info? 27 with
  | none => rw [e] at h; cases h
  | some i =>
    rw [e] at h
    have h2 : (i.zero, i.size, i.bytes) = (some (.agg (iv [0, 0, 0]).toArray), 3, 24) := by simpa using h
    injection h2 with h3 h4
    injection h4 with h5 h6
    exact ⟨i, rfl, h3, h5, h6⟩
theorem run_append_vc (w : World) (base : Nat) (ty : TypeId) (v : Value) (n : Nat) (xs : List Value) (hown : w.ownsRow base 27 3 v n xs) (c : Nat) :
    (Builtin.append_ #[23, 23] ty #[v, .slice none 0 c]).run Try.prog w = .ok v w := by
  obtain ⟨i, hi, _, hz, _⟩ := chg_parts
  rcases hown.2 with ⟨rfl, rfl⟩ | ⟨g, cap, cur, rfl, _, _, hnc, _⟩
  · simp [Builtin.append_, run_underlying Try.underlying23, sizeOf, typeInfo, hi, Builtin.lenOf, Builtin.firstCells]
  · simp [Builtin.append_, run_underlying Try.underlying23, sizeOf, typeInfo, hi, Builtin.lenOf, Builtin.firstCells, hnc, storeCells]
/-- The run of an append of changes, whatever the source. -/
theorem run_append_chgs (w : World) (ty : TypeId) (base : Nat) (v : Value) (n : Nat) (xs : List Int) (hown : w.ownsRow base 27 3 v n (iv xs)) (A : Option Addr) (m c : Nat) (ys : List Int) (fp : List Nat) (hi : Ints w A (3 * m) ys fp) (hb : n + m ≤ 1000000000) (hbase : base ≤ w.heap.size) :
    ∃ v' w', (Builtin.append_ #[23, 23] ty #[v, .slice A m c]).run Try.prog w = .ok v' w' ∧ w'.ownsRow base 27 3 v' (n + m) (iv (xs ++ ys)) ∧ w.grownBy w' v.ownBlock ∧ (v'.ownBlock = v.ownBlock ∨ v'.ownBlock = some w.heap.size) := by
  obtain ⟨i0, hi0, hz0, hz1, hz2⟩ := chg_parts
  rcases A with _ | ad
  · have hm : m = 0 := by
      obtain ⟨_, ⟨h, _⟩ | ⟨_, b, o, h, _⟩⟩ := hi
      · omega
      · cases h
    subst hm
    have hy : ys = [] := List.eq_nil_of_length_eq_zero hi.1
    subst hy
    exact ⟨v, w, run_append_vc w base ty v n _ hown c, by simpa using hown, World.grownBy.refl w _, .inl rfl⟩
  · obtain ⟨v', w', hr, h2, h3, _, h5⟩ := run_append_own_at (P := Try.prog) w base 23 ty 27 i0 (.agg (iv [0, 0, 0]).toArray) 3 24 Try.underlying23 hi0 hz0 hz1 hz2 rfl (by decide) v n _ hown ad m c (iv ys) (by simp [iv, hi.1]; omega) (ints_news hi) (iv_one ys) (by unfold maxLen; omega) (by omega) hbase
    exact ⟨v', w', hr, by simpa [iv] using h2, h3, h5⟩
theorem wp_append_chgs {w : World} {o : Oper} {a : Act} {K : Act → World → Prop} {Q : Exit → Act → World → Prop} (s x : Operand) (ho : o.op = .call { callee := .builtin .append, args := #[s, x], argTypes := #[23, 23] })
    (base : Nat) (v : Value) (n : Nat) (xs : List Int) (hs : a.eval s = v) (hown : w.ownsRow base 27 3 v n (iv xs)) (A : Option Addr) (m c : Nat) (ys : List Int) (fp : List Nat) (hx : a.eval x = .slice A m c) (hi : Ints w A (3 * m) ys fp) (hb : n + m ≤ 1000000000) (hbase : base ≤ w.heap.size)
    (h : ∀ v' w', w'.ownsRow base 27 3 v' (n + m) (iv (xs ++ ys)) → w.grownBy w' v.ownBlock → (v'.ownBlock = v.ownBlock ∨ v'.ownBlock = some w.heap.size) → K (a.put o.dst v') w') : o.wp Try.prog a w K Q := by
  obtain ⟨v', w', hr, h2, h3, h4⟩ := run_append_chgs w o.type base v n xs hown A m c ys fp hi hb hbase
  unfold Oper.wp execOp
  simp only [ho, resolve, invoke, builtin, Sem.run_bind, Sem.run_pure, Result.andThen_ok, List.map_toArray, List.map_cons, List.map_nil, hs, hx, hr]
  exact h v' w' h2 h3 h4
theorem wpList_append_chgs {w : World} {ops : Array Oper} {rest : List Oper} {o : Oper} {a : Act} {Q : Exit → Act → World → Prop} (hgd : o.guard = none) (s x : Operand) (ho : o.op = .call { callee := .builtin .append, args := #[s, x], argTypes := #[23, 23] })
    (base : Nat) (v : Value) (n : Nat) (xs : List Int) (hs : a.eval s = v) (hown : w.ownsRow base 27 3 v n (iv xs)) (A : Option Addr) (m c : Nat) (ys : List Int) (fp : List Nat) (hx : a.eval x = .slice A m c) (hi : Ints w A (3 * m) ys fp) (hb : n + m ≤ 1000000000) (hbase : base ≤ w.heap.size)
    (h : ∀ v' w', w'.ownsRow base 27 3 v' (n + m) (iv (xs ++ ys)) → w.grownBy w' v.ownBlock → (v'.ownBlock = v.ownBlock ∨ v'.ownBlock = some w.heap.size) → wpList Try.prog ops Q rest (a.put o.dst v') w') : wpList Try.prog ops Q (o :: rest) a w :=
  wpList_plain hgd fun _ hK => wp_append_chgs s x ho base v n xs hs hown A m c ys fp hx hi hb hbase fun v' w' h2 h3 h4 => hK _ _ (h v' w' h2 h3 h4)
theorem step_append_chgs {w : World} {ops : Array Oper} {o : Oper} {a : Act} {K : Act → World → Prop} {Q : Exit → Act → World → Prop} {E : Prop} (hgd : o.guard = none) (s x : Operand) (ho : o.op = .call { callee := .builtin .append, args := #[s, x], argTypes := #[23, 23] })
    (base : Nat) (v : Value) (n : Nat) (xs : List Int) (hs : a.eval s = v) (hown : w.ownsRow base 27 3 v n (iv xs)) (A : Option Addr) (m c : Nat) (ys : List Int) (fp : List Nat) (hx : a.eval x = .slice A m c) (hi : Ints w A (3 * m) ys fp) (hb : n + m ≤ 1000000000) (hbase : base ≤ w.heap.size)
    (h : ∀ v' w', w'.ownsRow base 27 3 v' (n + m) (iv (xs ++ ys)) → w.grownBy w' v.ownBlock → (v'.ownBlock = v.ownBlock ∨ v'.ownBlock = some w.heap.size) → K (a.put o.dst v') w') :
    if Region.wanted o (yielded ops a.tmps) = true then Oper.wp Try.prog o a w K Q else E := by
  have hw : Region.wanted o (yielded ops a.tmps) = true := by simp [Region.wanted, hgd]
  rw [if_pos hw]
  exact wp_append_chgs s x ho base v n xs hs hown A m c ys fp hx hi hb hbase h
theorem own_chgs {w : World} {base : Nat} {v : Value} {n : Nat} {xs : List Int} (h : w.ownsRow base 27 3 v n (iv xs)) : ∃ A c fp, v = .slice A n c ∧ n ≤ c ∧ Ints w A (3 * n) xs fp ∧ New base w fp ∧ ∀ b ∈ fp, v.ownBlock = some b := by
  have hl : xs.length = 3 * n := by have := h.1; simp [iv] at this; omega
  rcases h.2 with ⟨rfl, h0⟩ | ⟨g, cap, cur, rfl, hb, hh, hnc, _, hsz, hcur⟩
  · subst h0
    have : xs = [] := List.eq_nil_of_length_eq_zero hl
    subst this
    exact ⟨none, 0, [], rfl, Nat.le_refl _, .nil _ _, .nil _ _, by simp⟩
  · by_cases h0 : n = 0
    · subst h0
      have : xs = [] := List.eq_nil_of_length_eq_zero hl
      subst this
      exact ⟨_, cap, [], rfl, hnc, .nil _ _, .nil _ _, by simp⟩
    · have hlt : g < w.heap.size := by
        by_cases hl : g < w.heap.size
        · exact hl
        · rw [Array.getElem?_eq_none (by omega)] at hh; cases hh
      refine ⟨_, cap, [g], rfl, hnc, ⟨hl, .inr ⟨by omega, g, 0, rfl, rfl, hlt, fun i hi => ?_⟩⟩, .one hb hlt (fun o => by simp [World.frozen?, hh]), by simp [Value.ownBlock]⟩
      rw [cell_of_row w g (0 + i) cur _ (0, 0) hh, Nat.zero_add]
      have e : (cur.toList.take (n * 3))[i]? = (iv xs)[i]? := by rw [hcur]
      rw [iv_at xs i (by omega), List.getElem?_take, if_pos (by omega)] at e
      simpa using e
/-- What a copy of changes leaves. -/
def CopiedC (zs : List Int) (m : Nat) (w : World) (e : Ending) (w' : World) : Prop :=
  ∃ (A : Option Addr) (c : Nat) (fp : List Nat), e = .returned (.slice A m c) ∧ m ≤ c ∧ Ints w' A (3 * m) zs fp ∧ New w.heap.size w' fp ∧ Below w.heap.size w w'
theorem own_empty3 (w : World) (t : TypeId) (base : Nat) (h : base ≤ w.heap.size) : (w.alloc (.cells #[] t)).ownsRow base t 3 (.slice (some ⟨w.heap.size, 0, none⟩) 0 0) 0 [] :=
  ⟨by simp, .inr ⟨w.heap.size, 0, #[], rfl, h, heap_alloc_new w _, Nat.le_refl _, by unfold maxLen; omega, by simp, by simp⟩⟩
theorem wpList_append_chgsG {w : World} {ops : Array Oper} {rest : List Oper} {o : Oper} {a : Act} {Q : Exit → Act → World → Prop} (hw : Region.wanted o (yielded ops a.tmps) = true) (s x : Operand) (ho : o.op = .call { callee := .builtin .append, args := #[s, x], argTypes := #[23, 23] })
    (base : Nat) (v : Value) (n : Nat) (xs : List Int) (hs : a.eval s = v) (hown : w.ownsRow base 27 3 v n (iv xs)) (A : Option Addr) (m c : Nat) (ys : List Int) (fp : List Nat) (hx : a.eval x = .slice A m c) (hi : Ints w A (3 * m) ys fp) (hb : n + m ≤ 1000000000) (hbase : base ≤ w.heap.size)
    (h : ∀ v' w', w'.ownsRow base 27 3 v' (n + m) (iv (xs ++ ys)) → w.grownBy w' v.ownBlock → (v'.ownBlock = v.ownBlock ∨ v'.ownBlock = some w.heap.size) → wpList Try.prog ops Q rest (a.put o.dst v') w') : wpList Try.prog ops Q (o :: rest) a w :=
  wpList_step fun K hK => by
    rw [if_pos hw]
    exact wp_append_chgs s x ho base v n xs hs hown A m c ys fp hx hi hb hbase fun v' w' h2 h3 h4 => hK _ _ (h v' w' h2 h3 h4)
theorem own_lenC {w : World} {base : Nat} {v : Value} {n : Nat} {xs : List Int} (h : w.ownsRow base 27 3 v n (iv xs)) : ∃ A c, v = .slice A n c := by
  obtain ⟨A, c, fs, rfl, _⟩ := own_chgs h
  exact ⟨_, _, rfl⟩
/-- New slices of one change, of two. -/
theorem lone_chg (w : World) (u v z : Int) : Ints (w.alloc (.cells #[.int .i64 u, .int .i64 v, .int .i64 z] 27)) (some ⟨w.heap.size, 0, none⟩) (3 * 1) [u, v, z] [w.heap.size] := by
  have X : Box (w.alloc (.cells #[.int .i64 u, .int .i64 v, .int .i64 z] 27)) w.heap.size 27 (iv [u, v, z]) := Box.new w _ _
  refine ⟨rfl, .inr ⟨by omega, w.heap.size, 0, rfl, rfl, by simp, fun k hk => ?_⟩⟩
  rw [Nat.zero_add, X.cell k]
  exact iv_at [u, v, z] k (by simp; omega)
theorem two_chgs (w : World) (u v z u' v' z' : Int) : Ints (w.alloc (.cells #[.int .i64 u, .int .i64 v, .int .i64 z, .int .i64 u', .int .i64 v', .int .i64 z'] 27)) (some ⟨w.heap.size, 0, none⟩) (3 * 2) [u, v, z, u', v', z'] [w.heap.size] := by
  have X : Box (w.alloc (.cells #[.int .i64 u, .int .i64 v, .int .i64 z, .int .i64 u', .int .i64 v', .int .i64 z'] 27)) w.heap.size 27 (iv [u, v, z, u', v', z']) := Box.new w _ _
  refine ⟨rfl, .inr ⟨by omega, w.heap.size, 0, rfl, rfl, by simp, fun k hk => ?_⟩⟩
  rw [Nat.zero_add, X.cell k]
  exact iv_at [u, v, z, u', v', z'] k (by simp; omega)
end Go.Proofs.Ytddllcgbdgpkbaa
