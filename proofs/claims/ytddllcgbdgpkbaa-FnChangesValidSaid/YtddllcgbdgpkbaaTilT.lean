/- Appends of tiles to rows of the call's own. -/
import Derived.Test.YtddllcgbdgpkbaaTilB
import Derived.Test.YtddllcgbdgpkbaaFldM
import Derived.Test.YtddllcgbdgpkbaaClonI
import Derived.Deep.RegionLaw
import Derived.Deep.MidRow
namespace Go.Proofs.Ytddllcgbdgpkbaa
open Go.ChangeShapes Go.WideShapes Go.ChangeAt Go.RowKit
set_option linter.unusedVariables false

/-- Pixels one after another in memory: one tile of them. -/
theorem til_range {w : World} {b o m : Nat} {zs : List Int} {ft : List Nat} (h : Ints w (some ⟨b, o, none⟩) (64 * m) zs ft) {k : Nat} (hk : k < m) : w.rangeAt b (o + k * 64) (iv (tl zs k)) := by
  intro j v hv
  have hj : j < (tl zs k).length := by have := (List.getElem?_eq_some_iff.1 hv).1; simpa using this
  have h64 := tl_len h.1 hk
  rw [iv_at _ _ hj] at hv
  injection hv with hv
  subst hv
  obtain ⟨b', o', he, _, _, hc⟩ := h.at_ (by omega)
  injection he with he
  injection he with e1 e2 _
  subst e1 e2
  rw [show o + k * 64 + j = o + (64 * k + j) by omega, hc (64 * k + j) (by omega), tl_get _ _ _ (by omega)]
section
variable {ops : Array Oper} {rest : List Oper} {o : Oper} {a : Act} {w : World} {Q : Exit → Act → World → Prop}
/-- A tile loaded out of the middle of a block. -/
theorem st_loadm (hw : Region.wanted o (yielded ops a.tmps) = true) (x : Operand) (ho : o.op = .load 74 x) (b k : Nat) (hx : a.eval x = .pointer (some ⟨b, k, none⟩)) (px : List Int) (hp : px.length = 64) (hb : w.rangeAt b k (iv px))
    (h : wpList Try.prog ops Q rest (a.put o.dst (tilV px)) w) : wpList Try.prog ops Q (o :: rest) a w :=
  wpList_step fun K hK => by
    rw [if_pos hw]
    exact wp_load_mid _ x ho b k hx (iv px) _ hb Try.underlying74 rfl (by rw [til_info]; simp [hp]) (hK _ _ h)
end
theorem infoTile : (Try.prog.info? 74).map (fun i => (i.zero, i.size, i.bytes)) = some (some (.agg (iv z64).toArray), 64, 512) := by kernel_rfl
theorem tile_parts : ∃ i, Try.prog.info? 74 = some i ∧ i.zero = some (.agg (iv z64).toArray) ∧ i.size = 64 ∧ i.bytes = 512 := by
  have h := infoTile
  cases e : Try.prog.info? 74 with
  | none => rw [e] at h; cases h
  | some i =>
    rw [e] at h
    have h2 : (i.zero, i.size, i.bytes) = (some (.agg (iv z64).toArray), 64, 512) := by simpa using h
    injection h2 with h3 h4
    injection h4 with h5 h6
    exact ⟨i, rfl, h3, h5, h6⟩
theorem run_append_vt (w : World) (base : Nat) (ty : TypeId) (v : Value) (n : Nat) (xs : List Value) (hown : w.ownsRow base 74 64 v n xs) (c : Nat) :
    (Builtin.append_ #[31, 31] ty #[v, .slice none 0 c]).run Try.prog w = .ok v w := by
  obtain ⟨i, hi, _, hz, _⟩ := tile_parts
  rcases hown.2 with ⟨rfl, rfl⟩ | ⟨g, cap, cur, rfl, _, _, hnc, _⟩
  · simp [Builtin.append_, run_underlying Try.underlying31, sizeOf, typeInfo, hi, Builtin.lenOf, Builtin.firstCells]
  · simp [Builtin.append_, run_underlying Try.underlying31, sizeOf, typeInfo, hi, Builtin.lenOf, Builtin.firstCells, hnc, storeCells]
/-- The run of an append of tiles, whatever the source. -/
theorem run_append_tiles (w : World) (ty : TypeId) (base : Nat) (v : Value) (n : Nat) (xs : List Int) (hown : w.ownsRow base 74 64 v n (iv xs)) (A : Option Addr) (m c : Nat) (ys : List Int) (fp : List Nat) (hi : Ints w A (64 * m) ys fp) (hb : n + m ≤ 1000000000) (hbase : base ≤ w.heap.size) :
    ∃ v' w', (Builtin.append_ #[31, 31] ty #[v, .slice A m c]).run Try.prog w = .ok v' w' ∧ w'.ownsRow base 74 64 v' (n + m) (iv (xs ++ ys)) ∧ w.grownBy w' v.ownBlock ∧ (v'.ownBlock = v.ownBlock ∨ v'.ownBlock = some w.heap.size) := by
  obtain ⟨i0, hi0, hz0, hz1, hz2⟩ := tile_parts
  rcases A with _ | ad
  · have hm : m = 0 := by
      obtain ⟨_, ⟨h, _⟩ | ⟨_, b, o, h, _⟩⟩ := hi
      · omega
      · cases h
    subst hm
    have hy : ys = [] := List.eq_nil_of_length_eq_zero hi.1
    subst hy
    exact ⟨v, w, run_append_vt w base ty v n _ hown c, by simpa using hown, World.grownBy.refl w _, .inl rfl⟩
  · obtain ⟨v', w', hr, h2, h3, _, h5⟩ := run_append_own_at (P := Try.prog) w base 31 ty 74 i0 (.agg (iv z64).toArray) 64 512 Try.underlying31 hi0 hz0 hz1 hz2 (by show (iv z64).toArray.size = 64; simp [z64_len]) (by decide) v n _ hown ad m c (iv ys) (by simp [iv, hi.1]; omega) (ints_news hi) (iv_one ys) (by unfold maxLen; omega) (by omega) hbase
    exact ⟨v', w', hr, by simpa [iv] using h2, h3, h5⟩
theorem wp_append_tiles {w : World} {o : Oper} {a : Act} {K : Act → World → Prop} {Q : Exit → Act → World → Prop} (s x : Operand) (ho : o.op = .call { callee := .builtin .append, args := #[s, x], argTypes := #[31, 31] })
    (base : Nat) (v : Value) (n : Nat) (xs : List Int) (hs : a.eval s = v) (hown : w.ownsRow base 74 64 v n (iv xs)) (A : Option Addr) (m c : Nat) (ys : List Int) (fp : List Nat) (hx : a.eval x = .slice A m c) (hi : Ints w A (64 * m) ys fp) (hb : n + m ≤ 1000000000) (hbase : base ≤ w.heap.size)
    (h : ∀ v' w', w'.ownsRow base 74 64 v' (n + m) (iv (xs ++ ys)) → w.grownBy w' v.ownBlock → (v'.ownBlock = v.ownBlock ∨ v'.ownBlock = some w.heap.size) → K (a.put o.dst v') w') : o.wp Try.prog a w K Q := by
  obtain ⟨v', w', hr, h2, h3, h4⟩ := run_append_tiles w o.type base v n xs hown A m c ys fp hi hb hbase
  unfold Oper.wp execOp
  simp only [ho, resolve, invoke, builtin, Sem.run_bind, Sem.run_pure, Result.andThen_ok, List.map_toArray, List.map_cons, List.map_nil, hs, hx, hr]
  exact h v' w' h2 h3 h4
theorem wpList_append_tiles {w : World} {ops : Array Oper} {rest : List Oper} {o : Oper} {a : Act} {Q : Exit → Act → World → Prop} (hgd : o.guard = none) (s x : Operand) (ho : o.op = .call { callee := .builtin .append, args := #[s, x], argTypes := #[31, 31] })
    (base : Nat) (v : Value) (n : Nat) (xs : List Int) (hs : a.eval s = v) (hown : w.ownsRow base 74 64 v n (iv xs)) (A : Option Addr) (m c : Nat) (ys : List Int) (fp : List Nat) (hx : a.eval x = .slice A m c) (hi : Ints w A (64 * m) ys fp) (hb : n + m ≤ 1000000000) (hbase : base ≤ w.heap.size)
    (h : ∀ v' w', w'.ownsRow base 74 64 v' (n + m) (iv (xs ++ ys)) → w.grownBy w' v.ownBlock → (v'.ownBlock = v.ownBlock ∨ v'.ownBlock = some w.heap.size) → wpList Try.prog ops Q rest (a.put o.dst v') w') : wpList Try.prog ops Q (o :: rest) a w :=
  wpList_plain hgd fun _ hK => wp_append_tiles s x ho base v n xs hs hown A m c ys fp hx hi hb hbase fun v' w' h2 h3 h4 => hK _ _ (h v' w' h2 h3 h4)
theorem step_append_tiles {w : World} {ops : Array Oper} {o : Oper} {a : Act} {K : Act → World → Prop} {Q : Exit → Act → World → Prop} {E : Prop} (hgd : o.guard = none) (s x : Operand) (ho : o.op = .call { callee := .builtin .append, args := #[s, x], argTypes := #[31, 31] })
    (base : Nat) (v : Value) (n : Nat) (xs : List Int) (hs : a.eval s = v) (hown : w.ownsRow base 74 64 v n (iv xs)) (A : Option Addr) (m c : Nat) (ys : List Int) (fp : List Nat) (hx : a.eval x = .slice A m c) (hi : Ints w A (64 * m) ys fp) (hb : n + m ≤ 1000000000) (hbase : base ≤ w.heap.size)
    (h : ∀ v' w', w'.ownsRow base 74 64 v' (n + m) (iv (xs ++ ys)) → w.grownBy w' v.ownBlock → (v'.ownBlock = v.ownBlock ∨ v'.ownBlock = some w.heap.size) → K (a.put o.dst v') w') :
    if Region.wanted o (yielded ops a.tmps) = true then Oper.wp Try.prog o a w K Q else E := by
  have hw : Region.wanted o (yielded ops a.tmps) = true := by simp [Region.wanted, hgd]
  rw [if_pos hw]
  exact wp_append_tiles s x ho base v n xs hs hown A m c ys fp hx hi hb hbase h
theorem own_tiles {w : World} {base : Nat} {v : Value} {n : Nat} {xs : List Int} (h : w.ownsRow base 74 64 v n (iv xs)) : ∃ A c fp, v = .slice A n c ∧ n ≤ c ∧ Ints w A (64 * n) xs fp ∧ New base w fp ∧ ∀ b ∈ fp, v.ownBlock = some b := by
  have hl : xs.length = 64 * n := by have := h.1; simp [iv] at this; omega
  rcases h.2 with ⟨rfl, h0⟩ | ⟨g, cap, cur, rfl, hb, hh, hnc, _, hsz, hcur⟩
  · subst h0
    have : xs = [] := List.eq_nil_of_length_eq_zero hl
    subst this
    exact ⟨none, 0, [], rfl, Nat.le_refl _, .nil _ _, .nil _ _, by simp⟩
  · by_cases h0 : n = 0
    · subst h0
      have : xs = [] := List.eq_nil_of_length_eq_zero hl
      subst this
      exact ⟨_, cap, [], rfl, hnc, .nil _ _, .nil _ _, by simp⟩
    · have hlt : g < w.heap.size := by
        by_cases hl : g < w.heap.size
        · exact hl
        · rw [Array.getElem?_eq_none (by omega)] at hh; cases hh
      refine ⟨_, cap, [g], rfl, hnc, ⟨hl, .inr ⟨by omega, g, 0, rfl, rfl, hlt, fun i hi => ?_⟩⟩, .one hb hlt (fun o => by simp [World.frozen?, hh]), by simp [Value.ownBlock]⟩
      rw [cell_of_row w g (0 + i) cur _ (0, 0) hh, Nat.zero_add]
      have e : (cur.toList.take (n * 64))[i]? = (iv xs)[i]? := by rw [hcur]
      rw [iv_at xs i (by omega), List.getElem?_take, if_pos (by omega)] at e
      simpa using e
theorem own_down {w : World} {b b' : Nat} {e : TypeId} {s : Nat} {v : Value} {n : Nat} {xs : List Value} (h : w.ownsRow b e s v n xs) (hb : b' ≤ b) : w.ownsRow b' e s v n xs := by
  obtain ⟨h1, h2 | ⟨g, cap, cur, a, k, r⟩⟩ := h
  · exact ⟨h1, .inl h2⟩
  · exact ⟨h1, .inr ⟨g, cap, cur, a, by omega, r⟩⟩
/-- What a copy of tiles leaves. -/
def CopiedT (zs : List Int) (m : Nat) (w : World) (e : Ending) (w' : World) : Prop :=
  ∃ (A : Option Addr) (c : Nat) (fp : List Nat), e = .returned (.slice A m c) ∧ m ≤ c ∧ Ints w' A (64 * m) zs fp ∧ New w.heap.size w' fp ∧ Below w.heap.size w w'
theorem own_empty64 (w : World) (t : TypeId) (base : Nat) (h : base ≤ w.heap.size) : (w.alloc (.cells #[] t)).ownsRow base t 64 (.slice (some ⟨w.heap.size, 0, none⟩) 0 0) 0 [] :=
  ⟨by simp, .inr ⟨w.heap.size, 0, #[], rfl, h, heap_alloc_new w _, Nat.le_refl _, by unfold maxLen; omega, by simp, by simp⟩⟩
end Go.Proofs.Ytddllcgbdgpkbaa
