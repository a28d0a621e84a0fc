/- Typed regions with whole backgrounds: loads, stores, new backgrounds, fresh appends. -/
import Derived.Test.YtddllcgbdgpkbaaGC
import Derived.Test.YtddllcgbdgpkbaaFldH
namespace Go.Proofs.Ytddllcgbdgpkbaa
open Go.ChangeShapes Go.WideShapes Go.ChangeAt Go.RowKit
set_option linter.unusedVariables false

theorem FNew.parts {F : Fld} {w w' : World} {e : Ending} (h : FNew F w e w') : ∃ v, e = .returned v := by
  obtain ⟨A, c, T, d, _, _, rfl, _⟩ := h
  exact ⟨_, rfl⟩
/-- A background whose memory is new from block L on. -/
def TFld (L : Nat) (F : Fld) : Value → World → Prop := fun v w => ∃ (A : Option Addr) (c : Nat) (T : Option Addr) (d : Nat) (fa ft : List Nat), v = fv F A c T d ∧ F.xs.length ≤ c ∧ F.nt ≤ d ∧ FHas w A T F fa ft ∧ New L w (fa ++ ft)
theorem stabB_fld (L : Nat) (F : Fld) : Stab RlB (TFld L F) := fun _ w w' (hR : Below w.heap.size w w') ⟨A, c, T, d, fa, ft, hv, h1, h2, h3, h4⟩ => ⟨A, c, T, d, fa, ft, hv, h1, h2, h3.below hR, h4.keep (.of_below hR)⟩
theorem fnew_fld {F : Fld} {w w' : World} {v : Value} {L : Nat} (h : FNew F w (.returned v) w') (hL : L ≤ w.heap.size) : Below w.heap.size w w' ∧ TFld L F v w' := by
  obtain ⟨A, c, T, d, fa, ft, he, h1, h2, h3, h4, h5⟩ := h
  injection he with he
  exact ⟨h5, A, c, T, d, fa, ft, he, h1, h2, h3, h4.mono hL⟩
/-- A slice of integers of the call's own; of tiles. -/
def TOwnI (L n : Nat) (xs : List Int) : Value → World → Prop := fun v w => w.ownsRow L 3 1 v n (iv xs)
def TOwnT (L m : Nat) (zs : List Int) : Value → World → Prop := fun v w => w.ownsRow L 74 64 v m (iv zs)
theorem own_keep_any {w w' : World} {base : Nat} {e : TypeId} {s : Nat} {v : Value} {n : Nat} {xs : List Value} (h : w.ownsRow base e s v n xs) (k : Below w.heap.size w w') : w'.ownsRow base e s v n xs := by
  rcases h with ⟨hl, h | ⟨g, cap, cur, rfl, hb, hh, hr⟩⟩
  · exact ⟨hl, .inl h⟩
  · have hg : g < w.heap.size := by
      by_cases hl : g < w.heap.size
      · exact hl
      · rw [Array.getElem?_eq_none (by omega)] at hh; cases hh
    exact ⟨hl, .inr ⟨g, cap, cur, rfl, hb, (k.block g hg).trans hh, hr⟩⟩
theorem stabB_ownI (L n : Nat) (xs : List Int) : Stab RlB (TOwnI L n xs) := fun _ w w' hR h => own_keep_any h hR
theorem stabB_ownT (L n : Nat) (xs : List Int) : Stab RlB (TOwnT L n xs) := fun _ w w' hR h => own_keep_any h hR
/-- An empty slice. -/
def TEmp : Value → World → Prop := fun v _ => ∃ b, v = .slice (some b) 0 0
theorem stabB_emp : Stab RlB TEmp := fun _ _ _ _ h => h
set_option maxRecDepth 100000 in
theorem append_fresh (t e : TypeId) (size bytes : Nat) (i : TypeInfo) (z : Value) (ht : Try.prog.underlying t = some (.slice e)) (hi : Try.prog.info? e = some i) (hz : i.zero = some z) (hsize : i.size = size) (hby : i.bytes = bytes) (hzs : z.cells.size = size) (w : World) (ty : TypeId) (b0 a : Addr) (m c : Nat) (news : List Value) (hl : news.length = m * size) (hnews : ∀ j u, news[j]? = some u → w.cell? (a.add j) = some u) (h0 : 0 < m) (hm : m ≤ 1000000000) (hb : m * bytes ≤ 140737488355328) :
    ∃ v' w', (Builtin.append_ #[t, t] ty #[.slice (some b0) 0 0, .slice (some a) m c]).run Try.prog w = .ok v' w' ∧ w'.ownsRow w.heap.size e size v' m news ∧ Below w.heap.size w w' := by
  subst hsize hby
  have hr := run_append_grow (P := Try.prog) w t ty e i z ht hi hz b0 0 0 [] (by simp) (by intro j v hj; simp at hj) a m c news hl hnews (by omega) (by omega) (growslice_fits (by omega) (by simpa using hb))
  simp only [Nat.zero_add] at hr
  have hge := grownCap_ge w m 0 e
  have hcm : grownCap w m 0 e ≤ maxLen := grownCap_le_maxLen w m 0 e (by unfold maxLen; omega)
  refine ⟨_, _, hr, ⟨hl, .inr ⟨w.heap.size, _, _, rfl, Nat.le_refl _, heap_alloc_new w.drew _, hge, hcm, ?_, ?_⟩⟩, ((Below.refl _ w).drew).alloc (Nat.le_refl _) _⟩
  · simp only [Array.size_append, List.size_toArray, size_zeroCells, hzs, List.length_nil, hl, Nat.zero_add]
    rw [← Nat.add_mul]
    congr 1
    omega
  · simp only [Array.toList_append, List.nil_append]
    rw [← hl]
    exact List.take_left
section
variable {ops : Array Oper} {Q : Exit → Act → World → Prop} {T : Nat → Value → World → Prop} {a0 : Act} {w0 : World} {i : Nat} {o : Oper}
/-- A whole background is loaded. -/
theorem lb_fld (x : Operand) (b : Nat) {t : TypeId} {W : Int} {A : Option Addr} {n c : Nat} {Tt : Option Addr} {m d : Nat} {sx sy : Int} (hop : o.op = .load 33 x) (hb : Box w0 b t (fcs W A n c Tt m d sx sy)) (hw : ∀ (ρ : Operand → Value) w, PreR ops T ρ w o.after.toList → wantV ops (slotR ρ) o = true)
    (h : ∀ (ρ : Operand → Value) w, (∀ n, (ops.toList.all fun o => o.dst != some n) = true → ρ (.tmp n) = a0.eval (.tmp n)) → PreR ops T ρ w o.after.toList → ρ x = .pointer (some ⟨b, 0, none⟩) ∧ T i (dstV o (fldV W A n c Tt m d sx sy)) w) : Ob Try.prog ops Q (ClB w0) RlB T a0 i o :=
  lb_val (fldV W A n c Tt m d sx sy) hw fun ρ w hbl _ hx hp => by
    obtain ⟨h1, h2⟩ := h ρ w hx hp
    refine ⟨?_, h2⟩
    have hl := run_loadVar_row (P := Try.prog) w b t 33 (fcs W A n c Tt m d sx sy).toArray (0, 0) _ (hb.below hbl) Try.underlying33 rfl fld_info
    unfold execOp
    simp only [hop, h1, Instr.loadAt, Instr.sureAddr, Sem.run_bind, Sem.run_pure, Result.andThen_ok, hl]
/-- An operation that yields a value of which this is known and leaves the world alone. -/
theorem lb_some (hw : ∀ (ρ : Operand → Value) w, PreR ops T ρ w o.after.toList → wantV ops (slotR ρ) o = true)
    (h : ∀ (ρ : Operand → Value) w, Below w0.heap.size w0 w → (∀ v, ρ (.const v) = v) → (∀ n, (ops.toList.all fun o => o.dst != some n) = true → ρ (.tmp n) = a0.eval (.tmp n)) → PreR ops T ρ w o.after.toList → ∃ v, (execOp ρ o).run Try.prog w = .ok (.value v) w ∧ T i (dstV o v) w) : Ob Try.prog ops Q (ClB w0) RlB T a0 i o :=
  lb_gen hw fun ρ w hbl hc _ hx hp => by
    obtain ⟨v, e, ht⟩ := h ρ w hbl hc hx hp
    rw [e]
    exact ⟨Below.refl _ _, ht⟩
/-- An empty literal of a slice. -/
theorem lb_emp (t e : TypeId) (hop : o.op = .buildSlice t 0 #[]) (hw : ∀ (ρ : Operand → Value) w, PreR ops T ρ w o.after.toList → wantV ops (slotR ρ) o = true)
    (hrun : ∀ (ρ : Operand → Value) w, (execOp ρ o).run Try.prog w = .ok (.value (.slice (some ⟨w.heap.size, 0, none⟩) 0 0)) (w.alloc (.cells #[] e)))
    (hT : ∀ v w, TEmp v w → T i (dstV o v) w) : Ob Try.prog ops Q (ClB w0) RlB T a0 i o :=
  lb_gen hw fun ρ w hb _ _ _ _ => by
    rw [hrun ρ w]
    exact ⟨below1 w _, hT _ _ ⟨_, rfl⟩⟩
/-- Integers, and tiles, appended to an empty literal. -/
theorem lb_appI (s x : Operand) (hop : o.op = .call { callee := .builtin .append, args := #[s, x], argTypes := #[30, 30] }) (hw : ∀ (ρ : Operand → Value) w, PreR ops T ρ w o.after.toList → wantV ops (slotR ρ) o = true) {A : Option Addr} {n c : Nat} {xs : List Int} {fa : List Nat} (ha : Ints w0 A n xs fa) (h0 : 0 < n) (hn : n ≤ 1000000000)
    (h : ∀ (ρ : Operand → Value) w, (∀ n, (ops.toList.all fun o => o.dst != some n) = true → ρ (.tmp n) = a0.eval (.tmp n)) → PreR ops T ρ w o.after.toList → (∃ b, ρ s = .slice (some b) 0 0) ∧ ρ x = .slice A n c) (hT : ∀ v w, TOwnI w0.heap.size n xs v w → T i (dstV o v) w) : Ob Try.prog ops Q (ClB w0) RlB T a0 i o :=
  lb_gen hw fun ρ w hbl _ _ hx hp => by
    obtain ⟨⟨b, h1⟩, h2⟩ := h ρ w hx hp
    obtain ⟨i0, hi0, hz0, hz1, hz2⟩ := info_parts infoInt
    have hA := ha.below hbl
    obtain ⟨p, q, rfl, _, _, _⟩ := hA.at_ h0
    obtain ⟨v', w', hr, ho, hB⟩ := append_fresh 30 3 1 8 i0 (.int .i64 0) Try.underlying30 hi0 hz0 hz1 hz2 rfl w o.type b ⟨p, q, none⟩ n c (iv xs) (by simp [hA.1]) (ints_news hA) h0 hn (by omega)
    unfold execOp
    simp only [hop, resolve, invoke, builtin, Sem.run_bind, Sem.run_pure, Result.andThen_ok, List.map_toArray, List.map_cons, List.map_nil, h1, h2, hr]
    exact ⟨hB, hT _ _ (own_down ho hbl.size)⟩
theorem lb_appT (s x : Operand) (hop : o.op = .call { callee := .builtin .append, args := #[s, x], argTypes := #[31, 31] }) (hw : ∀ (ρ : Operand → Value) w, PreR ops T ρ w o.after.toList → wantV ops (slotR ρ) o = true) {A : Option Addr} {n c : Nat} {xs : List Int} {fa : List Nat} (ha : Ints w0 A (64 * n) xs fa) (h0 : 0 < n) (hn : n ≤ 1000000000)
    (h : ∀ (ρ : Operand → Value) w, (∀ n, (ops.toList.all fun o => o.dst != some n) = true → ρ (.tmp n) = a0.eval (.tmp n)) → PreR ops T ρ w o.after.toList → (∃ b, ρ s = .slice (some b) 0 0) ∧ ρ x = .slice A n c) (hT : ∀ v w, TOwnT w0.heap.size n xs v w → T i (dstV o v) w) : Ob Try.prog ops Q (ClB w0) RlB T a0 i o :=
  lb_gen hw fun ρ w hbl _ _ hx hp => by
    obtain ⟨⟨b, h1⟩, h2⟩ := h ρ w hx hp
    obtain ⟨i0, hi0, hz0, hz1, hz2⟩ := tile_parts
    have hA := ha.below hbl
    obtain ⟨p, q, rfl, _, _, _⟩ := hA.at_ (by omega)
    obtain ⟨v', w', hr, ho, hB⟩ := append_fresh 31 74 64 512 i0 (.agg (iv z64).toArray) Try.underlying31 hi0 hz0 hz1 hz2 (by show (iv z64).toArray.size = 64; simp [z64_len]) w o.type b ⟨p, q, none⟩ n c (iv xs) (by simp [hA.1]; omega) (ints_news hA) h0 hn (by omega)
    unfold execOp
    simp only [hop, resolve, invoke, builtin, Sem.run_bind, Sem.run_pure, Result.andThen_ok, List.map_toArray, List.map_cons, List.map_nil, h1, h2, hr]
    exact ⟨hB, hT _ _ (own_down ho hbl.size)⟩
end
/-- A background is stored. -/
theorem exec_storeF (ρ : Operand → Value) (o : Oper) (p x : Operand) (w : World) (b : Nat) {t : TypeId} {cs : List Value} {W : Int} {A : Option Addr} {n c : Nat} {Tt : Option Addr} {m d : Nat} {sx sy : Int} (hop : o.op = .store 33 p x) (hp : ρ p = .pointer (some ⟨b, 0, none⟩)) (hx : ρ x = fldV W A n c Tt m d sx sy) (hb : Box w b t cs) (hc : cs.length = 5) :
    (execOp ρ o).run Try.prog w = .ok .skip (w.setRow b (fcs W A n c Tt m d sx sy).toArray) := by
  have hs := run_storeVar_row (P := Try.prog) w b t 33 cs.toArray (fcs W A n c Tt m d sx sy).toArray hb fld_info (by simpa using hc) (by simp [Value.oneCell'])
  unfold execOp
  simp only [hop, hp, hx, Instr.storeAt, Instr.sureAddr, Sem.run_bind, Sem.run_pure, Result.andThen_ok, hs]
/-- The blocks hold no background. -/
def OffF (w : World) (fp : List Nat) : Prop := ∀ b ∈ fp, ∃ cs t, w.heap[b]? = some (.cells cs t (0, 0)) ∧ t ≠ 33
theorem OffF.below {w w' : World} {fp : List Nat} (h : OffF w fp) (k : Below w.heap.size w w') : OffF w' fp := fun b hb => by
  obtain ⟨cs, t, h1, h2⟩ := h b hb
  have hl : b < w.heap.size := by
    by_cases hl : b < w.heap.size
    · exact hl
    · rw [Array.getElem?_eq_none (by omega)] at h1; cases h1
  exact ⟨cs, t, (k.block b hl).trans h1, h2⟩
theorem OffF.box {w : World} {fp : List Nat} {g : Nat} {cs : List Value} (h : OffF w fp) (hb : Box w g 33 cs) : g ∉ fp := fun hg => by
  obtain ⟨ds, t, h1, h2⟩ := h g hg
  unfold Box at hb
  rw [hb] at h1
  simp only [Option.some.injEq, Obj.cells.injEq] at h1
  exact h2 h1.2.1.symm
def TFldO (L : Nat) (F : Fld) : Value → World → Prop := fun v w => ∃ (A : Option Addr) (c : Nat) (T : Option Addr) (d : Nat) (fa ft : List Nat), v = fv F A c T d ∧ F.xs.length ≤ c ∧ F.nt ≤ d ∧ FHas w A T F fa ft ∧ New L w (fa ++ ft) ∧ OffF w (fa ++ ft)
theorem stabB_fldO (L : Nat) (F : Fld) : Stab RlB (TFldO L F) := fun _ w w' (hR : Below w.heap.size w w') ⟨A, c, T, d, fa, ft, hv, h1, h2, h3, h4, h5⟩ => ⟨A, c, T, d, fa, ft, hv, h1, h2, h3.below hR, h4.keep (.of_below hR), h5.below hR⟩
/-- Two slices of the call's own lie apart: their blocks are of two types. -/
theorem own_two {w : World} {L n m : Nat} {v u : Value} {xs zs : List Int} (h : TOwnI L n xs v w) (k : TOwnT L m zs u w) : ∃ A c T d fa ft, v = .slice A n c ∧ n ≤ c ∧ u = .slice T m d ∧ m ≤ d ∧ Ints w A n xs fa ∧ Ints w T (64 * m) zs ft ∧ New L w (fa ++ ft) ∧ OffF w (fa ++ ft) := by
  obtain ⟨A, c, fa, hv, hc, _, hi, hn, h1⟩ := own_ints h
  obtain ⟨T, d, ft, hu, hd, hz, hm, h2⟩ := own_tiles k
  have ti : ∀ b ∈ fa, ∃ cs, w.heap[b]? = some (.cells cs 3 (0, 0)) := fun b hb => by
    have e1 := h1 b hb
    rcases h.2 with ⟨h3, _⟩ | ⟨g, cap, cur, h3, _, hh, _⟩
    · rw [h3] at e1; simp [Value.ownBlock] at e1
    · rw [h3] at e1
      have g1 : some g = some b := e1
      injection g1 with g1
      subst g1
      exact ⟨cur, hh⟩
  have tt : ∀ b ∈ ft, ∃ cs, w.heap[b]? = some (.cells cs 74 (0, 0)) := fun b hb => by
    have e1 := h2 b hb
    rcases k.2 with ⟨h3, _⟩ | ⟨g, cap, cur, h3, _, hh, _⟩
    · rw [h3] at e1; simp [Value.ownBlock] at e1
    · rw [h3] at e1
      have g1 : some g = some b := e1
      injection g1 with g1
      subst g1
      exact ⟨cur, hh⟩
  refine ⟨A, c, T, d, fa, ft, hv, hc, hu, hd, hi, hz, hn.append hm fun b hb hb2 => ?_, fun b hb => ?_⟩
  · obtain ⟨c1, e1⟩ := ti b hb
    obtain ⟨c2, e2⟩ := tt b hb2
    rw [e1] at e2
    simp at e2
  · rcases List.mem_append.1 hb with hb | hb
    · obtain ⟨c1, e1⟩ := ti b hb
      exact ⟨c1, _, e1, by decide⟩
    · obtain ⟨c1, e1⟩ := tt b hb
      exact ⟨c1, _, e1, by decide⟩
theorem wrap_parts (a m : Int) (hm : 1 ≤ m) : ∃ r q, a.tmod m = r ∧ -m < r ∧ r < m ∧ (r + m) % m = q ∧ q = a % m := by
  have hw := wrap_mod a m (by omega)
  have h2 := Int.emod_nonneg a (show m ≠ 0 by omega)
  have h3 := Int.emod_lt_of_pos a (show 0 < m by omega)
  have b1 : -m < a.tmod m ∧ a.tmod m < m := by
    rw [Int.tmod_eq_emod]
    split <;> omega
  refine ⟨a.tmod m, (a.tmod m + m) % m, rfl, b1.1, b1.2, rfl, ?_⟩
  exact (Int.tmod_eq_emod_of_nonneg (show 0 ≤ a.tmod m + m by omega)).symm.trans hw
end Go.Proofs.Ytddllcgbdgpkbaa
