/- Sound channels in memory: five numbers a channel; loads and stores of whole ones and of their parts, appends. -/
import Derived.Test.YtfbpnneegenhgaaVocM
import Derived.Test.YtfbpnneegenhgaaTilT
import Derived.Test.YtfbpnneegenhgaaFldA
namespace Go.Proofs.Ytfbpnneegenhgaa
open Go.ChangeShapes Go.WideShapes Go.ChangeAt Go.RowKit
set_option linter.unusedVariables false

def vocN (x : Voc) : List Int := [x.l, x.h, x.v, x.s, x.e]
/-- A channel's value. -/
abbrev vocV (x : Voc) : Value := .agg #[.int .i64 x.l, .int .i64 x.h, .int .i64 x.v, .int .i64 x.s, .int .i64 x.e]
abbrev vcs (x : Voc) : List Value := [.int .i64 x.l, .int .i64 x.h, .int .i64 x.v, .int .i64 x.s, .int .i64 x.e]
theorem vocN_len (x : Voc) : (vocN x).length = 5 := rfl
theorem iv_vocN (x : Voc) : iv (vocN x) = vcs x := rfl
/-- Channel k of a flat list. -/
def vocK (L : List Int) (k : Nat) : Voc := ⟨L.getD (5 * k) 0, L.getD (5 * k + 1) 0, L.getD (5 * k + 2) 0, L.getD (5 * k + 3) 0, L.getD (5 * k + 4) 0⟩
theorem voc_info : (Try.prog.info? 24).map (·.size) = some 5 := by kernel_rfl
theorem voc_cell {w : World} {p o n : Nat} {L : List Int} {fp : List Nat} (h : Ints w (some ⟨p, o, none⟩) (5 * n) L fp) {k : Nat} (hk : k < n) : w.cell? ⟨p, o + k * 5, none⟩ = some (.int .i64 (vocK L k).l) ∧ w.cell? ⟨p, o + k * 5 + 1, none⟩ = some (.int .i64 (vocK L k).h) ∧ w.cell? ⟨p, o + k * 5 + 2, none⟩ = some (.int .i64 (vocK L k).v) ∧ w.cell? ⟨p, o + k * 5 + 3, none⟩ = some (.int .i64 (vocK L k).s) ∧ w.cell? ⟨p, o + k * 5 + 4, none⟩ = some (.int .i64 (vocK L k).e) := by
  obtain ⟨p', o', he, _, _, hc⟩ := h.at_ (by omega)
  injection he with he
  injection he with e1 e2 _
  subst e1 e2
  have g : ∀ j, j < 5 → w.cell? ⟨p, o + k * 5 + j, none⟩ = some (.int .i64 (L.getD (5 * k + j) 0)) := fun j hj => by
    have := hc (5 * k + j) (by omega)
    rwa [show o + (5 * k + j) = o + k * 5 + j by omega] at this
  exact ⟨g 0 (by omega), g 1 (by omega), g 2 (by omega), g 3 (by omega), g 4 (by omega)⟩
theorem voc_range {w : World} {b o n : Nat} {L : List Int} {fp : List Nat} (h : Ints w (some ⟨b, o, none⟩) (5 * n) L fp) {k : Nat} (hk : k < n) : w.rangeAt b (o + k * 5) (vcs (vocK L k)) := by
  intro j v hv
  obtain ⟨h0, h1, h2, h3, h4⟩ := voc_cell h hk
  match j, hv with
  | 0, hv => rw [← hv]; exact h0
  | 1, hv => rw [← hv]; exact h1
  | 2, hv => rw [← hv]; exact h2
  | 3, hv => rw [← hv]; exact h3
  | 4, hv => rw [← hv]; exact h4
  | j + 5, hv => simp at hv
section
variable {ops : Array Oper} {rest : List Oper} {o : Oper} {a : Act} {w : World} {Q : Exit → Act → World → Prop}
theorem vo_load {t : TypeId} (hw : Region.wanted o (yielded ops a.tmps) = true) (x : Operand) (ho : o.op = .load 24 x) (b : Nat) (hx : a.eval x = .pointer (some ⟨b, 0, none⟩)) (u : Voc) (hb : Box w b t (vcs u))
    (h : wpList Try.prog ops Q rest (a.put o.dst (vocV u)) w) : wpList Try.prog ops Q (o :: rest) a w :=
  wpList_step fun K hK => by
    rw [if_pos hw]
    exact wp_load_row _ x ho b hx t (vcs u).toArray (0, 0) _ hb Try.underlying24 rfl voc_info (hK _ _ h)
theorem vo_loadm (hw : Region.wanted o (yielded ops a.tmps) = true) (x : Operand) (ho : o.op = .load 24 x) (b k : Nat) (hx : a.eval x = .pointer (some ⟨b, k, none⟩)) (u : Voc) (hb : w.rangeAt b k (vcs u))
    (h : wpList Try.prog ops Q rest (a.put o.dst (vocV u)) w) : wpList Try.prog ops Q (o :: rest) a w :=
  wpList_step fun K hK => by
    rw [if_pos hw]
    exact wp_load_mid _ x ho b k hx (vcs u) _ hb Try.underlying24 rfl voc_info (hK _ _ h)
theorem vo_store {t : TypeId} (hw : Region.wanted o (yielded ops a.tmps) = true) (x y : Operand) (ho : o.op = .store 24 x y) (b : Nat) (hx : a.eval x = .pointer (some ⟨b, 0, none⟩)) (u : Voc) (hy : a.eval y = vocV u) (cs : List Value) (hb : Box w b t cs) (hc : cs.length = 5)
    (h : wpList Try.prog ops Q rest (a.put o.dst undef) (w.setRow b (vcs u).toArray)) : wpList Try.prog ops Q (o :: rest) a w :=
  wpList_step fun K hK => by
    rw [if_pos hw]
    exact wp_store_row _ x y ho b (vcs u).toArray hx hy t cs.toArray hb voc_info (by show cs.toArray.size = 5; simpa using hc) (by simp [Value.oneCell']) (hK _ _ h)
/-- A channel is stored into the middle of a row of the call's own. -/
theorem vo_storem (hw : Region.wanted o (yielded ops a.tmps) = true) (x y : Operand) (ho : o.op = .store 24 x y) (g k : Nat) (hx : a.eval x = .pointer (some ⟨g, k, none⟩)) (u : Voc) (hy : a.eval y = vocV u) (t : TypeId) (cur : List Value) (hb : Box w g t cur) (hfit : k + 5 ≤ cur.length) (res : List Value) (hres : cur.take k ++ vcs u ++ cur.drop (k + 5) = res)
    (h : wpList Try.prog ops Q rest (a.put o.dst undef) (w.setRow g res.toArray)) : wpList Try.prog ops Q (o :: rest) a w :=
  wpList_step fun K hK => by
    rw [if_pos hw]
    obtain ⟨C, hC⟩ : ∃ C, vcs u = C := ⟨_, rfl⟩
    have h6 : C.length = 5 := by rw [← hC]; rfl
    have h1 : ∀ y ∈ C, y.oneCell' = true := by rw [← hC]; simp [Value.oneCell']
    have hc2 : (vocV u).cells = C.toArray := by rw [← hC]; rfl
    rw [hC] at hres
    clear hC
    have hst := run_storeCells_at Try.prog g k t C 0 cur.toArray w hb (by simp [h6]; omega) h1
    have e : (cur.toArray.toList.take (k + 0) ++ C ++ cur.toArray.toList.drop (k + 0 + C.length)).toArray = res.toArray := by
      rw [← hres]
      simp [h6]
    rw [e] at hst
    have hsv : (storeVar 24 ⟨g, k, none⟩ (vocV u)).run Try.prog w = .ok () (w.setRow g res.toArray) := by
      have hi := voc_info
      cases hq : Try.prog.info? 24 with
      | none => simp [hq] at hi
      | some i =>
        have hs : i.size = 5 := by simpa [hq] using hi
        have hcs : C.toArray.size = i.size := by simp [h6, hs]
        simp [storeVar, sizeOf, typeInfo, hq, hc2, hs, h6, hst]
    unfold Oper.wp execOp
    simp only [ho, hx, hy, Instr.storeAt, Instr.sureAddr, Sem.run_bind, Sem.run_pure, Result.andThen_ok, hsv]
    exact hK _ _ h
end
theorem infoVoc : (Try.prog.info? 24).map (fun i => (i.zero, i.size, i.bytes)) = some (some (.agg (iv [0, 0, 0, 0, 0]).toArray), 5, 40) := by kernel_rfl
theorem voc_parts : ∃ i, Try.prog.info? 24 = some i ∧ i.zero = some (.agg (iv [0, 0, 0, 0, 0]).toArray) ∧ i.size = 5 ∧ i.bytes = 40 := by
  have h := infoVoc
  cases e : Try.prog.info? 24 with
  | none => rw [e] at h; cases h
  | some i =>
    rw [e] at h
    have h2 : (i.zero, i.size, i.bytes) = (some (.agg (iv [0, 0, 0, 0, 0]).toArray), 5, 40) := by simpa using h
    injection h2 with h3 h4
    injection h4 with h5 h6
    exact ⟨i, rfl, h3, h5, h6⟩
theorem run_append_vo (w : World) (base : Nat) (ty : TypeId) (v : Value) (n : Nat) (xs : List Value) (hown : w.ownsRow base 24 5 v n xs) (c : Nat) :
    (Builtin.append_ #[36, 36] ty #[v, .slice none 0 c]).run Try.prog w = .ok v w := by
  obtain ⟨i, hi, _, hz, _⟩ := voc_parts
  rcases hown.2 with ⟨rfl, rfl⟩ | ⟨g, cap, cur, rfl, _, _, hnc, _⟩
  · simp [Builtin.append_, run_underlying Try.underlying36, sizeOf, typeInfo, hi, Builtin.lenOf, Builtin.firstCells]
  · simp [Builtin.append_, run_underlying Try.underlying36, sizeOf, typeInfo, hi, Builtin.lenOf, Builtin.firstCells, hnc, storeCells]
/-- The run of an append of channels, whatever the source. -/
theorem run_append_vocs (w : World) (ty : TypeId) (base : Nat) (v : Value) (n : Nat) (xs : List Int) (hown : w.ownsRow base 24 5 v n (iv xs)) (A : Option Addr) (m c : Nat) (ys : List Int) (fp : List Nat) (hi : Ints w A (5 * m) ys fp) (hb : n + m ≤ 1000000000) (hbase : base ≤ w.heap.size) :
    ∃ v' w', (Builtin.append_ #[36, 36] ty #[v, .slice A m c]).run Try.prog w = .ok v' w' ∧ w'.ownsRow base 24 5 v' (n + m) (iv (xs ++ ys)) ∧ w.grownBy w' v.ownBlock ∧ (v'.ownBlock = v.ownBlock ∨ v'.ownBlock = some w.heap.size) := by
  obtain ⟨i0, hi0, hz0, hz1, hz2⟩ := voc_parts
  rcases A with _ | ad
  · have hm : m = 0 := by
      obtain ⟨_, ⟨h, _⟩ | ⟨_, b, o, h, _⟩⟩ := hi
      · omega
      · cases h
    subst hm
    have hy : ys = [] := List.eq_nil_of_length_eq_zero hi.1
    subst hy
    exact ⟨v, w, run_append_vo w base ty v n _ hown c, by simpa using hown, World.grownBy.refl w _, .inl rfl⟩
  · obtain ⟨v', w', hr, h2, h3, _, h5⟩ := run_append_own_at (P := Try.prog) w base 36 ty 24 i0 (.agg (iv [0, 0, 0, 0, 0]).toArray) 5 40 Try.underlying36 hi0 hz0 hz1 hz2 rfl (by decide) v n _ hown ad m c (iv ys) (by simp [iv, hi.1]; omega) (ints_news hi) (iv_one ys) (by unfold maxLen; omega) (by omega) hbase
    exact ⟨v', w', hr, by simpa [iv] using h2, h3, h5⟩
theorem wp_append_vocs {w : World} {o : Oper} {a : Act} {K : Act → World → Prop} {Q : Exit → Act → World → Prop} (s x : Operand) (ho : o.op = .call { callee := .builtin .append, args := #[s, x], argTypes := #[36, 36] })
    (base : Nat) (v : Value) (n : Nat) (xs : List Int) (hs : a.eval s = v) (hown : w.ownsRow base 24 5 v n (iv xs)) (A : Option Addr) (m c : Nat) (ys : List Int) (fp : List Nat) (hx : a.eval x = .slice A m c) (hi : Ints w A (5 * m) ys fp) (hb : n + m ≤ 1000000000) (hbase : base ≤ w.heap.size)
    (h : ∀ v' w', w'.ownsRow base 24 5 v' (n + m) (iv (xs ++ ys)) → w.grownBy w' v.ownBlock → (v'.ownBlock = v.ownBlock ∨ v'.ownBlock = some w.heap.size) → K (a.put o.dst v') w') : o.wp Try.prog a w K Q := by
  obtain ⟨v', w', hr, h2, h3, h4⟩ := run_append_vocs w o.type base v n xs hown A m c ys fp hi hb hbase
  unfold Oper.wp execOp
  simp only [ho, resolve, invoke, builtin, Sem.run_bind, Sem.run_pure, Result.andThen_ok, List.map_toArray, List.map_cons, List.map_nil, hs, hx, hr]
  exact h v' w' h2 h3 h4
theorem wpList_append_vocs {w : World} {ops : Array Oper} {rest : List Oper} {o : Oper} {a : Act} {Q : Exit → Act → World → Prop} (hgd : o.guard = none) (s x : Operand) (ho : o.op = .call { callee := .builtin .append, args := #[s, x], argTypes := #[36, 36] })
    (base : Nat) (v : Value) (n : Nat) (xs : List Int) (hs : a.eval s = v) (hown : w.ownsRow base 24 5 v n (iv xs)) (A : Option Addr) (m c : Nat) (ys : List Int) (fp : List Nat) (hx : a.eval x = .slice A m c) (hi : Ints w A (5 * m) ys fp) (hb : n + m ≤ 1000000000) (hbase : base ≤ w.heap.size)
    (h : ∀ v' w', w'.ownsRow base 24 5 v' (n + m) (iv (xs ++ ys)) → w.grownBy w' v.ownBlock → (v'.ownBlock = v.ownBlock ∨ v'.ownBlock = some w.heap.size) → wpList Try.prog ops Q rest (a.put o.dst v') w') : wpList Try.prog ops Q (o :: rest) a w :=
  wpList_plain hgd fun _ hK => wp_append_vocs s x ho base v n xs hs hown A m c ys fp hx hi hb hbase fun v' w' h2 h3 h4 => hK _ _ (h v' w' h2 h3 h4)
theorem step_append_vocs {w : World} {ops : Array Oper} {o : Oper} {a : Act} {K : Act → World → Prop} {Q : Exit → Act → World → Prop} {E : Prop} (hgd : o.guard = none) (s x : Operand) (ho : o.op = .call { callee := .builtin .append, args := #[s, x], argTypes := #[36, 36] })
    (base : Nat) (v : Value) (n : Nat) (xs : List Int) (hs : a.eval s = v) (hown : w.ownsRow base 24 5 v n (iv xs)) (A : Option Addr) (m c : Nat) (ys : List Int) (fp : List Nat) (hx : a.eval x = .slice A m c) (hi : Ints w A (5 * m) ys fp) (hb : n + m ≤ 1000000000) (hbase : base ≤ w.heap.size)
    (h : ∀ v' w', w'.ownsRow base 24 5 v' (n + m) (iv (xs ++ ys)) → w.grownBy w' v.ownBlock → (v'.ownBlock = v.ownBlock ∨ v'.ownBlock = some w.heap.size) → K (a.put o.dst v') w') :
    if Region.wanted o (yielded ops a.tmps) = true then Oper.wp Try.prog o a w K Q else E := by
  have hw : Region.wanted o (yielded ops a.tmps) = true := by simp [Region.wanted, hgd]
  rw [if_pos hw]
  exact wp_append_vocs s x ho base v n xs hs hown A m c ys fp hx hi hb hbase h
theorem own_vocs {w : World} {base : Nat} {v : Value} {n : Nat} {xs : List Int} (h : w.ownsRow base 24 5 v n (iv xs)) : ∃ A c fp, v = .slice A n c ∧ n ≤ c ∧ Ints w A (5 * n) xs fp ∧ New base w fp ∧ ∀ b ∈ fp, v.ownBlock = some b := by
  have hl : xs.length = 5 * n := by have := h.1; simp [iv] at this; omega
  rcases h.2 with ⟨rfl, h0⟩ | ⟨g, cap, cur, rfl, hb, hh, hnc, _, hsz, hcur⟩
  · subst h0
    have : xs = [] := List.eq_nil_of_length_eq_zero hl
    subst this
    exact ⟨none, 0, [], rfl, Nat.le_refl _, .nil _ _, .nil _ _, by simp⟩
  · by_cases h0 : n = 0
    · subst h0
      have : xs = [] := List.eq_nil_of_length_eq_zero hl
      subst this
      exact ⟨_, cap, [], rfl, hnc, .nil _ _, .nil _ _, by simp⟩
    · have hlt : g < w.heap.size := by
        by_cases hl : g < w.heap.size
        · exact hl
        · rw [Array.getElem?_eq_none (by omega)] at hh; cases hh
      refine ⟨_, cap, [g], rfl, hnc, ⟨hl, .inr ⟨by omega, g, 0, rfl, rfl, hlt, fun i hi => ?_⟩⟩, .one hb hlt (fun o => by simp [World.frozen?, hh]), by simp [Value.ownBlock]⟩
      rw [cell_of_row w g (0 + i) cur _ (0, 0) hh, Nat.zero_add]
      have e : (cur.toList.take (n * 5))[i]? = (iv xs)[i]? := by rw [hcur]
      rw [iv_at xs i (by omega), List.getElem?_take, if_pos (by omega)] at e
      simpa using e
/-- What a copy of channels leaves. -/
def CopiedO (zs : List Int) (m : Nat) (w : World) (e : Ending) (w' : World) : Prop :=
  ∃ (A : Option Addr) (c : Nat) (fp : List Nat), e = .returned (.slice A m c) ∧ m ≤ c ∧ Ints w' A (5 * m) zs fp ∧ New w.heap.size w' fp ∧ Below w.heap.size w w'
theorem own_empty5 (w : World) (t : TypeId) (base : Nat) (h : base ≤ w.heap.size) : (w.alloc (.cells #[] t)).ownsRow base t 5 (.slice (some ⟨w.heap.size, 0, none⟩) 0 0) 0 [] :=
  ⟨by simp, .inr ⟨w.heap.size, 0, #[], rfl, h, heap_alloc_new w _, Nat.le_refl _, by unfold maxLen; omega, by simp, by simp⟩⟩
theorem wpList_append_vocsG {w : World} {ops : Array Oper} {rest : List Oper} {o : Oper} {a : Act} {Q : Exit → Act → World → Prop} (hw : Region.wanted o (yielded ops a.tmps) = true) (s x : Operand) (ho : o.op = .call { callee := .builtin .append, args := #[s, x], argTypes := #[36, 36] })
    (base : Nat) (v : Value) (n : Nat) (xs : List Int) (hs : a.eval s = v) (hown : w.ownsRow base 24 5 v n (iv xs)) (A : Option Addr) (m c : Nat) (ys : List Int) (fp : List Nat) (hx : a.eval x = .slice A m c) (hi : Ints w A (5 * m) ys fp) (hb : n + m ≤ 1000000000) (hbase : base ≤ w.heap.size)
    (h : ∀ v' w', w'.ownsRow base 24 5 v' (n + m) (iv (xs ++ ys)) → w.grownBy w' v.ownBlock → (v'.ownBlock = v.ownBlock ∨ v'.ownBlock = some w.heap.size) → wpList Try.prog ops Q rest (a.put o.dst v') w') : wpList Try.prog ops Q (o :: rest) a w :=
  wpList_step fun K hK => by
    rw [if_pos hw]
    exact wp_append_vocs s x ho base v n xs hs hown A m c ys fp hx hi hb hbase fun v' w' h2 h3 h4 => hK _ _ (h v' w' h2 h3 h4)
theorem own_lenV {w : World} {base : Nat} {v : Value} {n : Nat} {xs : List Int} (h : w.ownsRow base 24 5 v n (iv xs)) : ∃ A c, v = .slice A n c := by
  obtain ⟨A, c, fs, rfl, _⟩ := own_vocs h
  exact ⟨_, _, rfl⟩
/-- A new slice of one channel. -/
theorem lone_voc (w : World) (u : Voc) : Ints (w.alloc (.cells #[.int .i64 u.l, .int .i64 u.h, .int .i64 u.v, .int .i64 u.s, .int .i64 u.e] 24)) (some ⟨w.heap.size, 0, none⟩) (5 * 1) (vocN u) [w.heap.size] := by
  have X : Box (w.alloc (.cells #[.int .i64 u.l, .int .i64 u.h, .int .i64 u.v, .int .i64 u.s, .int .i64 u.e] 24)) w.heap.size 24 (iv (vocN u)) := Box.new w _ _
  refine ⟨rfl, .inr ⟨by omega, w.heap.size, 0, rfl, rfl, by simp, fun k hk => ?_⟩⟩
  rw [Nat.zero_add, X.cell k]
  exact iv_at (vocN u) k (by simp [vocN]; omega)
end Go.Proofs.Ytfbpnneegenhgaa
