/- Typed regions with whole backgrounds: loads, stores, new backgrounds, fresh appends. -/
import Derived.Test.YtfbpnneegenhgaaGC
import Derived.Test.YtfbpnneegenhgaaFldH
namespace Go.Proofs.Ytfbpnneegenhgaa
open Go.ChangeShapes Go.WideShapes Go.ChangeAt Go.RowKit
set_option linter.unusedVariables false

theorem FNew.parts {F : Fld} {w w' : World} {e : Ending} (h : FNew F w e w') : ∃ v, e = .returned v := by
  obtain ⟨A, c, T, d, _, _, rfl, _⟩ := h
  exact ⟨_, rfl⟩
/-- A background whose memory is new from block L on. -/
def TFld (L : Nat) (F : Fld) : Value → World → Prop := fun v w => ∃ (A : Option Addr) (c : Nat) (T : Option Addr) (d : Nat) (fa ft : List Nat), v = fv F A c T d ∧ F.xs.length ≤ c ∧ F.nt ≤ d ∧ FHas w A T F fa ft ∧ New L w (fa ++ ft)
theorem stabB_fld (L : Nat) (F : Fld) : Stab RlB (TFld L F) := fun _ w w' (hR : Below w.heap.size w w') ⟨A, c, T, d, fa, ft, hv, h1, h2, h3, h4⟩ => ⟨A, c, T, d, fa, ft, hv, h1, h2, h3.below hR, h4.keep (.of_below hR)⟩
theorem fnew_fld {F : Fld} {w w' : World} {v : Value} {L : Nat} (h : FNew F w (.returned v) w') (hL : L ≤ w.heap.size) : Below w.heap.size w w' ∧ TFld L F v w' := by
  obtain ⟨A, c, T, d, fa, ft, he, h1, h2, h3, h4, h5⟩ := h
  injection he with he
  exact ⟨h5, A, c, T, d, fa, ft, he, h1, h2, h3, h4.mono hL⟩
/-- A slice of integers of the call's own; of tiles. -/
def TOwnI (L n : Nat) (xs : List Int) : Value → World → Prop := fun v w => w.ownsRow L 3 1 v n (iv xs)
theorem own_keep_any {w w' : World} {base : Nat} {e : TypeId} {s : Nat} {v : Value} {n : Nat} {xs : List Value} (h : w.ownsRow base e s v n xs) (k : Below w.heap.size w w') : w'.ownsRow base e s v n xs := by
  rcases h with ⟨hl, h | ⟨g, cap, cur, rfl, hb, hh, hr⟩⟩
  · exact ⟨hl, .inl h⟩
  · have hg : g < w.heap.size := by
      by_cases hl : g < w.heap.size
      · exact hl
      · rw [Array.getElem?_eq_none (by omega)] at hh; cases hh
    exact ⟨hl, .inr ⟨g, cap, cur, rfl, hb, (k.block g hg).trans hh, hr⟩⟩
theorem stabB_ownI (L n : Nat) (xs : List Int) : Stab RlB (TOwnI L n xs) := fun _ w w' hR h => own_keep_any h hR
/-- An empty slice. -/
def TEmp : Value → World → Prop := fun v _ => ∃ b, v = .slice (some b) 0 0
theorem stabB_emp : Stab RlB TEmp := fun _ _ _ _ h => h
set_option maxRecDepth 100000 in
theorem append_fresh (t e : TypeId) (size bytes : Nat) (i : TypeInfo) (z : Value) (ht : Try.prog.underlying t = some (.slice e)) (hi : Try.prog.info? e = some i) (hz : i.zero = some z) (hsize : i.size = size) (hby : i.bytes = bytes) (hzs : z.cells.size = size) (w : World) (ty : TypeId) (b0 a : Addr) (m c : Nat) (news : List Value) (hl : news.length = m * size) (hnews : ∀ j u, news[j]? = some u → w.cell? (a.add j) = some u) (h0 : 0 < m) (hm : m ≤ 1000000000) (hb : m * bytes ≤ 140737488355328) :
    ∃ v' w', (Builtin.append_ #[t, t] ty #[.slice (some b0) 0 0, .slice (some a) m c]).run Try.prog w = .ok v' w' ∧ w'.ownsRow w.heap.size e size v' m news ∧ Below w.heap.size w w' := by
  subst hsize hby
  have hr := run_append_grow (P := Try.prog) w t ty e i z ht hi hz b0 0 0 [] (by simp) (by intro j v hj; simp at hj) a m c news hl hnews (by omega) (by omega) (growslice_fits (by omega) (by simpa using hb))
  simp only [Nat.zero_add] at hr
  have hge := grownCap_ge w m 0 e
  have hcm : grownCap w m 0 e ≤ maxLen := grownCap_le_maxLen w m 0 e (by unfold maxLen; omega)
  refine ⟨_, _, hr, ⟨hl, .inr ⟨w.heap.size, _, _, rfl, Nat.le_refl _, heap_alloc_new w.drew _, hge, hcm, ?_, ?_⟩⟩, ((Below.refl _ w).drew).alloc (Nat.le_refl _) _⟩
  · simp only [Array.size_append, List.size_toArray, size_zeroCells, hzs, List.length_nil, hl, Nat.zero_add]
    rw [← Nat.add_mul]
    congr 1
    omega
  · simp only [Array.toList_append, List.nil_append]
    rw [← hl]
    exact List.take_left
section
variable {ops : Array Oper} {Q : Exit → Act → World → Prop} {T : Nat → Value → World → Prop} {a0 : Act} {w0 : World} {i : Nat} {o : Oper}
/-- An operation that yields a value of which this is known and leaves the world alone. -/
theorem lb_some (hw : ∀ (ρ : Operand → Value) w, PreR ops T ρ w o.after.toList → wantV ops (slotR ρ) o = true)
    (h : ∀ (ρ : Operand → Value) w, Below w0.heap.size w0 w → (∀ v, ρ (.const v) = v) → (∀ n, (ops.toList.all fun o => o.dst != some n) = true → ρ (.tmp n) = a0.eval (.tmp n)) → PreR ops T ρ w o.after.toList → ∃ v, (execOp ρ o).run Try.prog w = .ok (.value v) w ∧ T i (dstV o v) w) : Ob Try.prog ops Q (ClB w0) RlB T a0 i o :=
  lb_gen hw fun ρ w hbl hc _ hx hp => by
    obtain ⟨v, e, ht⟩ := h ρ w hbl hc hx hp
    rw [e]
    exact ⟨Below.refl _ _, ht⟩
/-- An empty literal of a slice. -/
theorem lb_emp (t e : TypeId) (hop : o.op = .buildSlice t 0 #[]) (hw : ∀ (ρ : Operand → Value) w, PreR ops T ρ w o.after.toList → wantV ops (slotR ρ) o = true)
    (hrun : ∀ (ρ : Operand → Value) w, (execOp ρ o).run Try.prog w = .ok (.value (.slice (some ⟨w.heap.size, 0, none⟩) 0 0)) (w.alloc (.cells #[] e)))
    (hT : ∀ v w, TEmp v w → T i (dstV o v) w) : Ob Try.prog ops Q (ClB w0) RlB T a0 i o :=
  lb_gen hw fun ρ w hb _ _ _ _ => by
    rw [hrun ρ w]
    exact ⟨below1 w _, hT _ _ ⟨_, rfl⟩⟩
/-- Integers, and tiles, appended to an empty literal. -/
theorem lb_appI (s x : Operand) (hop : o.op = .call { callee := .builtin .append, args := #[s, x], argTypes := #[31, 31] }) (hw : ∀ (ρ : Operand → Value) w, PreR ops T ρ w o.after.toList → wantV ops (slotR ρ) o = true) {A : Option Addr} {n c : Nat} {xs : List Int} {fa : List Nat} (ha : Ints w0 A n xs fa) (h0 : 0 < n) (hn : n ≤ 1000000000)
    (h : ∀ (ρ : Operand → Value) w, (∀ n, (ops.toList.all fun o => o.dst != some n) = true → ρ (.tmp n) = a0.eval (.tmp n)) → PreR ops T ρ w o.after.toList → (∃ b, ρ s = .slice (some b) 0 0) ∧ ρ x = .slice A n c) (hT : ∀ v w, TOwnI w0.heap.size n xs v w → T i (dstV o v) w) : Ob Try.prog ops Q (ClB w0) RlB T a0 i o :=
  lb_gen hw fun ρ w hbl _ _ hx hp => by
    obtain ⟨⟨b, h1⟩, h2⟩ := h ρ w hx hp
    obtain ⟨i0, hi0, hz0, hz1, hz2⟩ := info_parts infoInt
    have hA := ha.below hbl
    obtain ⟨p, q, rfl, _, _, _⟩ := hA.at_ h0
    obtain ⟨v', w', hr, ho, hB⟩ := append_fresh 31 3 1 8 i0 (.int .i64 0) Try.underlying31 hi0 hz0 hz1 hz2 rfl w o.type b ⟨p, q, none⟩ n c (iv xs) (by simp [hA.1]) (ints_news hA) h0 hn (by omega)
    unfold execOp
    simp only [hop, resolve, invoke, builtin, Sem.run_bind, Sem.run_pure, Result.andThen_ok, List.map_toArray, List.map_cons, List.map_nil, h1, h2, hr]
    exact ⟨hB, hT _ _ (own_down ho hbl.size)⟩
end
theorem wrap_parts (a m : Int) (hm : 1 ≤ m) : ∃ r q, a.tmod m = r ∧ -m < r ∧ r < m ∧ (r + m) % m = q ∧ q = a % m := by
  have hw := wrap_mod a m (by omega)
  have h2 := Int.emod_nonneg a (show m ≠ 0 by omega)
  have h3 := Int.emod_lt_of_pos a (show 0 < m by omega)
  have b1 : -m < a.tmod m ∧ a.tmod m < m := by
    rw [Int.tmod_eq_emod]
    split <;> omega
  refine ⟨a.tmod m, (a.tmod m + m) % m, rfl, b1.1, b1.2, rfl, ?_⟩
  exact (Int.tmod_eq_emod_of_nonneg (show 0 ≤ a.tmod m + m by omega)).symm.trans hw
end Go.Proofs.Ytfbpnneegenhgaa
