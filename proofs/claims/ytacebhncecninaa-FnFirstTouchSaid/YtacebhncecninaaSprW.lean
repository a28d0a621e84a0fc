/- Sprites in typed regions: a whole one that is loaded, new slices of one; appends under a guard. -/
import Derived.Test.YtacebhncecninaaSprR
import Derived.Test.YtacebhncecninaaSprK
namespace Go.Proofs.Ytacebhncecninaa
open Go.ChangeShapes Go.WideShapes Go.ChangeAt Go.RowKit
set_option linter.unusedVariables false

theorem wpList_append_sprsG {w : World} {ops : Array Oper} {rest : List Oper} {o : Oper} {a : Act} {Q : Exit → Act → World → Prop} (hw : Region.wanted o (yielded ops a.tmps) = true) (s x : Operand) (ho : o.op = .call { callee := .builtin .append, args := #[s, x], argTypes := #[39, 39] })
    (base : Nat) (v : Value) (n : Nat) (xs : List Spr) (hs : a.eval s = v) (hown : w.ownsRow base 48 6 v n (svs xs)) (A : Option Addr) (m c : Nat) (ys : List Spr) (fp : List Nat) (hx : a.eval x = .slice A m c) (hi : Sprs w A m ys fp) (hb : n + m ≤ 1000000000) (hbase : base ≤ w.heap.size)
    (h : ∀ v' w', w'.ownsRow base 48 6 v' (n + m) (svs (xs ++ ys)) → w.grownBy w' v.ownBlock → (v'.ownBlock = v.ownBlock ∨ v'.ownBlock = some w.heap.size) → wpList Try.prog ops Q rest (a.put o.dst v') w') : wpList Try.prog ops Q (o :: rest) a w :=
  wpList_step fun K hK => by
    rw [if_pos hw]
    exact wp_append_sprs s x ho base v n xs hs hown A m c ys fp hx hi hb hbase fun v' w' h2 h3 h4 => hK _ _ (h v' w' h2 h3 h4)
/-- A new slice of one sprite, of one tile. -/
def TSpr (s : Spr) : Value → World → Prop := fun v w => ∃ b, v = .slice (some ⟨b, 0, none⟩) 1 1 ∧ Sprs w (some ⟨b, 0, none⟩) 1 [s] [b]
theorem stabB_spr (s : Spr) : Stab RlB (TSpr s) := fun _ _ _ (hR : Below _ _ _) ⟨b, hv, hi⟩ => ⟨b, hv, hi.below hR⟩
def TTil (px : List Int) : Value → World → Prop := fun v w => ∃ b, v = .slice (some ⟨b, 0, none⟩) 1 1 ∧ Ints w (some ⟨b, 0, none⟩) (64 * 1) px [b]
theorem stabB_til1 (px : List Int) : Stab RlB (TTil px) := fun _ _ _ (hR : Below _ _ _) ⟨b, hv, hi⟩ => ⟨b, hv, hi.below hR⟩
theorem run_buildS (s : Spr) (w : World) : (Instr.buildSlice 39 1 #[(0, sprV s)]).run Try.prog w = .ok (.slice (some ⟨w.heap.size, 0, none⟩) 1 1) (w.alloc (.cells #[.int .i64 s.x, .int .i64 s.y, .int .i64 s.n, .bool s.ac, .bool s.dn, .bool s.bh] 48)) := by
  go_simp
section
variable {ops : Array Oper} {Q : Exit → Act → World → Prop} {T : Nat → Value → World → Prop} {a0 : Act} {w0 : World} {i : Nat} {o : Oper}
theorem lb_lits (x : Operand) (s : Spr) (hop : o.op = .buildSlice 39 1 #[(0, x)]) (hw : ∀ (ρ : Operand → Value) w, PreR ops T ρ w o.after.toList → wantV ops (slotR ρ) o = true)
    (h : ∀ (ρ : Operand → Value) w, PreR ops T ρ w o.after.toList → ρ x = sprV s) (hT : ∀ v w, TSpr s v w → T i (dstV o v) w) : Ob Try.prog ops Q (ClB w0) RlB T a0 i o :=
  lb_gen hw fun ρ w hb hc _ _ hp => by
    have h1 := h ρ w hp
    have e : (execOp ρ o).run Try.prog w = .ok (.value (.slice (some ⟨w.heap.size, 0, none⟩) 1 1)) (w.alloc (.cells #[.int .i64 s.x, .int .i64 s.y, .int .i64 s.n, .bool s.ac, .bool s.dn, .bool s.bh] 48)) := by
      unfold execOp
      rw [hop]
      simp only [List.map_toArray, List.map_cons, List.map_nil, h1, Sem.run_bind, run_buildS, Result.andThen_ok, Sem.run_pure]
    rw [e]
    exact ⟨below1 w _, hT _ _ ⟨_, rfl, lone_spr w s⟩⟩
theorem lb_litt (x : Operand) (px : List Int) (hl : px.length = 64) (hop : o.op = .buildSlice 24 1 #[(0, x)]) (hw : ∀ (ρ : Operand → Value) w, PreR ops T ρ w o.after.toList → wantV ops (slotR ρ) o = true)
    (h : ∀ (ρ : Operand → Value) w, PreR ops T ρ w o.after.toList → ρ x = tilV px) (hT : ∀ v w, TTil px v w → T i (dstV o v) w) : Ob Try.prog ops Q (ClB w0) RlB T a0 i o :=
  lb_gen hw fun ρ w hb hc _ _ hp => by
    have h1 := h ρ w hp
    have e : (execOp ρ o).run Try.prog w = .ok (.value (.slice (some ⟨w.heap.size, 0, none⟩) 1 1)) (w.alloc (.cells (iv px).toArray 57)) := by
      unfold execOp
      rw [hop]
      simp only [List.map_toArray, List.map_cons, List.map_nil, h1, Sem.run_bind, run_buildT px hl, Result.andThen_ok, Sem.run_pure]
    rw [e]
    exact ⟨below1 w _, hT _ _ ⟨_, rfl, lone_tile w px hl⟩⟩
/-- A whole sprite is loaded. -/
theorem lb_spr (x : Operand) (b : Nat) (s : Spr) {t : TypeId} (hop : o.op = .load 48 x) (hb : Box w0 b t (scs s)) (hw : ∀ (ρ : Operand → Value) w, PreR ops T ρ w o.after.toList → wantV ops (slotR ρ) o = true)
    (h : ∀ (ρ : Operand → Value) w, (∀ n, (ops.toList.all fun o => o.dst != some n) = true → ρ (.tmp n) = a0.eval (.tmp n)) → PreR ops T ρ w o.after.toList → ρ x = .pointer (some ⟨b, 0, none⟩) ∧ T i (dstV o (sprV s)) w) : Ob Try.prog ops Q (ClB w0) RlB T a0 i o :=
  lb_val (sprV s) hw fun ρ w hbl _ hx hp => by
    obtain ⟨h1, h2⟩ := h ρ w hx hp
    refine ⟨?_, h2⟩
    have hl := run_loadVar_row (P := Try.prog) w b t 48 (scs s).toArray (0, 0) _ (hb.below hbl) Try.underlying48 rfl spr_info
    unfold execOp
    simp only [hop, h1, Instr.loadAt, Instr.sureAddr, Sem.run_bind, Sem.run_pure, Result.andThen_ok, hl]
    rfl
end
end Go.Proofs.Ytacebhncecninaa
