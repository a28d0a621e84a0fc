/- A region that draws its order and appends twice: the same new row of sprites grows in place or anew. -/
import Derived.Test.YtacebhncecninaaScnU
import Derived.Test.YtacebhncecninaaSprW
import Derived.Test.YtacebhncecninaaGD
namespace Go.Proofs.Ytacebhncecninaa
open Go.ChangeShapes Go.WideShapes Go.ChangeAt Go.RowKit
set_option linter.unusedVariables false

/-- Block b is a row of n sprites that gets one more in its own room. -/
def GrownS (L n : Nat) (S : List Spr) (s : Spr) (w w' : World) (b : Nat) : Prop :=
  L ≤ b ∧ ∃ cur cur' : Array Value, w.heap[b]? = some (.cells cur 48 (0, 0)) ∧ w'.heap[b]? = some (.cells cur' 48 (0, 0)) ∧ cur'.size = cur.size ∧ 12 ≤ cur.size ∧ cur'.toList.take ((n + 1) * 6) = svs (S ++ [s])
/-- What an operation of such a region leaves of the memory that was there. -/
def RlG (L n : Nat) (S : List Spr) (s : Spr) (w w' : World) : Prop :=
  w.heap.size ≤ w'.heap.size ∧ ∀ b, b < w.heap.size → w'.heap[b]? = w.heap[b]? ∨ GrownS L n S s w w' b
section
variable {L n : Nat} {S : List Spr} {s : Spr}
theorem rlg_below {w w' : World} (h : RlB w w') : RlG L n S s w w' := ⟨(h : Below _ _ _).size, fun b hb => .inl ((h : Below _ _ _).block b hb)⟩
theorem rlg_row {w w' : World} (h : RlG L n S s w w') {b : Nat} {cs : Array Value} {t : TypeId} (hb : w.heap[b]? = some (.cells cs t (0, 0))) (hn : t ≠ 48 ∨ cs.size < 12) : w'.heap[b]? = some (.cells cs t (0, 0)) := by
  have hl : b < w.heap.size := (Array.getElem?_eq_some_iff.1 hb).1
  rcases h.2 b hl with e | ⟨_, cur, cur', h1, _, _, h4, _⟩
  · rw [e, hb]
  · rw [hb] at h1
    injection h1 with h1
    injection h1 with h1 h2
    subst h1
    rcases hn with hn | hn
    · exact absurd h2 hn
    · omega
theorem stabG_k (x : Value) : Stab (RlG L n S s) (TV x) := fun _ _ _ _ h => h
/-- A new slice of one sprite; an empty one; the row; the grown row; a scene with it; a variable. -/
def TOneG (s : Spr) : Value → World → Prop := fun v w => ∃ b, v = .slice (some ⟨b, 0, none⟩) 1 1 ∧ Box w b 48 (scs s)
theorem stabG_one (r : Spr) : Stab (RlG L n S s) (TOneG r) := fun _ w w' hR ⟨b, hv, hb⟩ => ⟨b, hv, rlg_row hR hb (.inr (by show 6 < 12; omega))⟩
def TEmpG (L : Nat) : Value → World → Prop := fun v w => ∃ b, v = .slice (some ⟨b, 0, none⟩) 0 0 ∧ L ≤ b ∧ w.heap[b]? = some (.cells #[] 48 (0, 0))
theorem stabG_emp : Stab (RlG L n S s) (TEmpG L) := fun _ w w' hR ⟨b, hv, hl, hb⟩ => ⟨b, hv, hl, rlg_row hR hb (.inr (by simp))⟩
def TRowG (L n : Nat) (S : List Spr) : Value → World → Prop := fun v w => ∃ g cap cur, v = .slice (some ⟨g, 0, none⟩) n cap ∧ L ≤ g ∧ w.heap[g]? = some (.cells cur 48 (0, 0)) ∧ n ≤ cap ∧ cap ≤ maxLen ∧ cur.size = cap * 6 ∧ cur.toList.take (n * 6) = svs S ∧ (n = 0 → cap = 0)
theorem stabG_row (hn : S.length = n) : Stab (RlG L n S s) (TRowG L n S) := fun _ w w' hR ⟨g, cap, cur, hv, hl, hb, h1, h2, h3, h4, h5⟩ => by
  rcases hR.2 g (Array.getElem?_eq_some_iff.1 hb).1 with e | ⟨_, c1, c2, e1, e2, e3, _, e5⟩
  · exact ⟨g, cap, cur, hv, hl, e.trans hb, h1, h2, h3, h4, h5⟩
  · rw [hb] at e1
    injection e1 with e1
    injection e1 with e1 _
    subst e1
    refine ⟨g, cap, c2, hv, hl, e2, h1, h2, by omega, ?_, h5⟩
    have h6 : (c2.toList.take ((n + 1) * 6)).take (n * 6) = (svs (S ++ [s])).take (n * 6) := by rw [e5]
    rw [List.take_take, Nat.min_eq_left (by omega)] at h6
    rw [h6, svs_app]
    have : (svs S).length = n * 6 := by rw [svs_len, hn, Nat.mul_comm]
    rw [← this]
    exact List.take_left
def TMoreG (L n : Nat) (S : List Spr) (s : Spr) : Value → World → Prop := fun v w => ∃ A c, v = .slice A (n + 1) c ∧ w.ownsRow L 48 6 (.slice A (n + 1) c) (n + 1) (svs (S ++ [s]))
theorem own_more {w w' : World} {v : Value} (hR : RlG L n S s w w') (h : w.ownsRow L 48 6 v (n + 1) (svs (S ++ [s]))) : w'.ownsRow L 48 6 v (n + 1) (svs (S ++ [s])) := by
  rcases h with ⟨hl, ⟨_, h⟩ | ⟨g, cap, cur, rfl, hg, hb, h1, h2, h3, h4⟩⟩
  · omega
  · refine ⟨hl, .inr ?_⟩
    rcases hR.2 g (Array.getElem?_eq_some_iff.1 hb).1 with e | ⟨_, c1, c2, e1, e2, e3, _, e5⟩
    · exact ⟨g, cap, cur, rfl, hg, e.trans hb, h1, h2, h3, h4⟩
    · rw [hb] at e1
      injection e1 with e1
      injection e1 with e1 _
      subst e1
      exact ⟨g, cap, c2, rfl, hg, e2, h1, h2, by omega, e5⟩
theorem stabG_more : Stab (RlG L n S s) (TMoreG L n S s) := fun _ w w' hR ⟨A, c, hv, ho⟩ => ⟨A, c, hv, own_more hR ho⟩
def TScnG (L n : Nat) (S : List Spr) (s : Spr) (F : Fld) (A : Option Addr) (c : Nat) (T : Option Addr) (d : Nat) : Value → World → Prop := fun v w => ∃ A' c', v = scV F.w A F.xs.length c T F.nt d F.sx F.sy A' (n + 1) c' ∧ w.ownsRow L 48 6 (.slice A' (n + 1) c') (n + 1) (svs (S ++ [s]))
theorem stabG_scn (F : Fld) (A : Option Addr) (c : Nat) (T : Option Addr) (d : Nat) : Stab (RlG L n S s) (TScnG L n S s F A c T d) := fun _ w w' hR ⟨A', c', hv, ho⟩ => ⟨A', c', hv, own_more hR ho⟩
theorem scn_not_spr : (41 : TypeId) ≠ 48 := by decide
theorem stabG_var {B : Nat} {cs : List Value} : Stab (RlG L n S s) (TVar B 41 cs) := fun _ w w' hR ⟨b, hv, hl, hb⟩ => ⟨b, hv, hl, rlg_row hR hb (.inl scn_not_spr)⟩
end
section
variable {ops : Array Oper} {Q : Exit → Act → World → Prop} {T : Nat → Value → World → Prop} {a0 : Act} {w0 : World} {i : Nat} {o : Oper} {L n : Nat} {S : List Spr} {s : Spr}
theorem ob_wide (h : Ob Try.prog ops Q (ClB w0) RlB T a0 i o) : Ob Try.prog ops Q (ClB w0) (RlG L n S s) T a0 i o := by
  intro k a w hk hI hF hp
  obtain ⟨h1, h2⟩ := h k a w hk hI hF hp
  exact ⟨fun hw => Oper.wp_mono (fun a' w' ⟨v, e, r, c⟩ => ⟨v, e, rlg_below r, c⟩) (h1 hw), fun hw => ⟨rlg_below (h2 hw).1, (h2 hw).2⟩⟩
/-- As lb_gen, where the row may grow in place. -/
theorem lg_gen (hw : ∀ (ρ : Operand → Value) w, PreR ops T ρ w o.after.toList → wantV ops (slotR ρ) o = true)
    (h : ∀ (ρ : Operand → Value) w, Below w0.heap.size w0 w → PreR ops T ρ w o.after.toList →
      UponT Try.prog (fun v w' => RlG L n S s w w' ∧ Below w0.heap.size w0 w' ∧ T i (dstV o v) w') ((execOp ρ o).run Try.prog w)) : Ob Try.prog ops Q (ClB w0) (RlG L n S s) T a0 i o := by
  intro k a w hk hI hF hp
  have hp' := pre_eq _ hp
  have hwt := hw a.eval w hp'
  rw [slots_eq]
  refine ⟨fun _ => ?_, fun hn => by rw [hwt] at hn; cases hn⟩
  have h1 := h a.eval w hI hp'
  unfold Oper.wp
  refine upon_of_T (K := fun v w' => RlG L n S s w w' ∧ ClB w0 (k + 1) w' ∧ T i (dstV o v) w') ?_
  exact h1
theorem lg_emp (hop : o.op = .buildSlice 39 0 #[]) (hw : ∀ (ρ : Operand → Value) w, PreR ops T ρ w o.after.toList → wantV ops (slotR ρ) o = true)
    (hT : ∀ v w, TEmpG w0.heap.size v w → T i (dstV o v) w) : Ob Try.prog ops Q (ClB w0) (RlG L n S s) T a0 i o :=
  ob_wide (lb_gen hw fun ρ w hb _ _ _ _ => by
    have e : (execOp ρ o).run Try.prog w = .ok (.value (.slice (some ⟨w.heap.size, 0, none⟩) 0 0)) (w.alloc (.cells #[] 48)) := by
      unfold execOp
      rw [hop]
      go_simp
    rw [e]
    exact ⟨below1 w _, hT _ _ ⟨_, rfl, hb.size, heap_alloc_new w _⟩⟩)
theorem lg_one (x : Operand) (r : Spr) (hop : o.op = .buildSlice 39 1 #[(0, x)]) (hw : ∀ (ρ : Operand → Value) w, PreR ops T ρ w o.after.toList → wantV ops (slotR ρ) o = true)
    (h : ∀ (ρ : Operand → Value) w, PreR ops T ρ w o.after.toList → ρ x = sprV r) (hT : ∀ v w, TOneG r v w → T i (dstV o v) w) : Ob Try.prog ops Q (ClB w0) (RlG L n S s) T a0 i o :=
  ob_wide (lb_gen hw fun ρ w hb hc _ _ hp => by
    have h1 := h ρ w hp
    have e : (execOp ρ o).run Try.prog w = .ok (.value (.slice (some ⟨w.heap.size, 0, none⟩) 1 1)) (w.alloc (.cells #[.int .i64 r.x, .int .i64 r.y, .int .i64 r.n, .bool r.ac, .bool r.dn, .bool r.bh] 48)) := by
      unfold execOp
      rw [hop]
      simp only [List.map_toArray, List.map_cons, List.map_nil, h1, Sem.run_bind, run_buildS, Result.andThen_ok, Sem.run_pure]
    rw [e]
    exact ⟨below1 w _, hT _ _ ⟨_, rfl, Box.new w _ _⟩⟩)
end
theorem add_plainK (b o j : Nat) : (⟨b, o, none⟩ : Addr).add j = ⟨b, o + j, none⟩ := by unfold Addr.add; split <;> simp_all
/-- The list is appended to the empty one. -/
theorem run_app_first (w : World) (L n : Nat) (S : List Spr) (ty : TypeId) (v : Value) (hv : TEmpG L v w) (A : Option Addr) (c : Nat) (fp : List Nat) (hi : Sprs w A n S fp) (hn : n ≤ 1000000000) (hL : L ≤ w.heap.size) :
    ∃ v' w', (Builtin.append_ #[39, 39] ty #[v, .slice A n c]).run Try.prog w = .ok v' w' ∧ Below w.heap.size w w' ∧ TRowG L n S v' w' := by
  obtain ⟨b, rfl, hb, hh⟩ := hv
  obtain ⟨i0, hi0, hz0, hz1, hz2⟩ := spr_parts
  by_cases h0 : n = 0
  · subst h0
    have hS : S = [] := List.eq_nil_of_length_eq_zero hi.1
    subst hS
    refine ⟨.slice (some ⟨b, 0, none⟩) 0 0, w, ?_, Below.refl _ _, b, 0, #[], rfl, hb, hh, Nat.le_refl _, Nat.zero_le _, rfl, rfl, fun _ => rfl⟩
    rcases A with _ | ad
    · exact run_append_vs w L ty _ 0 [] ⟨rfl, .inr ⟨b, 0, #[], rfl, hb, hh, Nat.le_refl _, Nat.zero_le _, rfl, rfl⟩⟩ c
    · have hr := run_append_room (P := Try.prog) w 39 ty 48 i0 Try.underlying39 hi0 b 0 0 #[] hh ad 0 c [] (by simp) (by simp) (by simp) (by omega) (by simp)
      rw [hr]
      have := setRow_self w b #[] _ _ hh
      simpa using this
  · rcases A with _ | ⟨p, q, sb⟩
    · exact absurd (hi.at_ (by omega)) (by rintro ⟨_, _, h, _⟩; cases h)
    · obtain ⟨v', w', hr, ho, hB⟩ := append_fresh 39 48 6 32 i0 (sprV .zero) Try.underlying39 hi0 hz0 hz1 hz2 rfl w ty ⟨b, 0, none⟩ ⟨p, q, sb⟩ n c (svs S) (by rw [svs_len, hi.1]; omega) (sprs_news hi) (by omega) hn (by omega)
      refine ⟨v', w', hr, hB, ?_⟩
      rcases ho with ⟨_, ⟨_, h⟩ | ⟨g, cap, cur, rfl, hg, hb', h1, h2, h3, h4⟩⟩
      · omega
      · exact ⟨g, cap, cur, rfl, by omega, hb', h1, h2, h3, h4, fun h => absurd h h0⟩
/-- One more sprite is appended to the row. -/
theorem run_app_more (w : World) (L n : Nat) (S : List Spr) (s : Spr) (ty : TypeId) (v x : Value) (hv : TRowG L n S v w) (hx : TOneG s x w) (hS : S.length = n) (hn : n ≤ 100000000) (hL : L ≤ w.heap.size) :
    ∃ v' w', (Builtin.append_ #[39, 39] ty #[v, x]).run Try.prog w = .ok v' w' ∧ RlG L n S s w w' ∧ Below L w w' ∧ TMoreG L n S s v' w' := by
  obtain ⟨g, cap, cur, rfl, hg, hb, h1, h2, h3, h4, h5⟩ := hv
  obtain ⟨bx, rfl, hbx⟩ := hx
  obtain ⟨i0, hi0, hz0, hz1, hz2⟩ := spr_parts
  have hsl : (svs S).length = n * 6 := by rw [svs_len, hS, Nat.mul_comm]
  have hnews : ∀ j u, (scs s)[j]? = some u → w.cell? ((⟨bx, 0, none⟩ : Addr).add j) = some u := fun j u hu => by
    rw [add_plainK, Nat.zero_add, hbx.cell j]
    exact hu
  by_cases hroom : n + 1 ≤ cap
  · have hr := run_append_room (P := Try.prog) w 39 ty 48 i0 Try.underlying39 hi0 g n cap cur hb ⟨bx, 0, none⟩ 1 1 (scs s) (by rw [hz1]; rfl) hnews (by simp [scs, Value.oneCell']) hroom (by rw [hz1]; show n * 6 + 6 ≤ _; omega)
    rw [hz1] at hr
    have hcl : cur.toList.length = cap * 6 := by simpa using h3
    obtain ⟨row, hrow⟩ : ∃ row, (cur.toList.take (n * 6) ++ scs s ++ cur.toList.drop (n * 6 + (scs s).length)) = row := ⟨_, rfl⟩
    rw [hrow] at hr
    have h6 : (scs s).length = 6 := rfl
    have hrl : row.length = cap * 6 := by rw [← hrow, List.length_append, List.length_append, List.length_take, List.length_drop, h6, hcl]; omega
    have htk : row.take ((n + 1) * 6) = svs (S ++ [s]) := by
      rw [← hrow, h4, svs_app]
      have e : (svs S ++ scs s).length = (n + 1) * 6 := by rw [List.length_append, hsl]; show n * 6 + 6 = _; omega
      rw [← e, List.take_left]
      simp [svs]
    have hnew : (w.setRow g row.toArray).heap[g]? = some (.cells row.toArray 48 (0, 0)) := by
      have := Box.row (w := w) (b := g) (t := 48) (cs := cur.toList) (ds := row) (by simpa [Box] using hb)
      exact this
    refine ⟨_, _, hr, ⟨?_, fun b hbl => ?_⟩, below_row (Below.refl _ _) hg _, _, _, rfl, ?_, .inr ⟨g, cap, row.toArray, rfl, hg, hnew, hroom, h2, by simpa using hrl, by simpa using htk⟩⟩
    · exact ((Only.refl [g] w).row (.inl (by simp)) row.toArray).size
    · by_cases hbg : b = g
      · subst hbg
        refine .inr ⟨hg, cur, row.toArray, hb, hnew, by simp [hrl, h3], ?_, by simpa using htk⟩
        have : n ≠ 0 := fun h => by have := h5 h; omega
        omega
      · exact .inl (setRow_other w g b row.toArray hbg)
    · rw [svs_len, List.length_append, hS]; show 6 * (n + 1) = _; omega
  · have hcap : n = cap := by omega
    subst hcap
    have holds : ∀ j u, (svs S)[j]? = some u → w.cell? ((⟨g, 0, none⟩ : Addr).add j) = some u := fun j u hu => by
      rw [add_plainK, Nat.zero_add]
      have hbb : Box w g 48 cur.toList := by simpa [Box] using hb
      rw [hbb.cell j]
      rw [← h4, List.getElem?_take] at hu
      split at hu
      · exact hu
      · cases hu
    have hr := run_append_grow (P := Try.prog) w 39 ty 48 i0 (sprV .zero) Try.underlying39 hi0 hz0 ⟨g, 0, none⟩ n n (svs S) (by rw [hz1]; exact hsl) holds ⟨bx, 0, none⟩ 1 1 (scs s) (by rw [hz1]; rfl) hnews (by omega) (by omega) (growslice_fits (by omega) (by rw [hz2]; omega))
    have hge := grownCap_ge w (n + 1) n 48
    have hcm : grownCap w (n + 1) n 48 ≤ maxLen := grownCap_le_maxLen w (n + 1) n _ (by unfold maxLen; omega)
    have hB : Below w.heap.size w (w.drew.alloc (.cells ((svs S).toArray ++ (scs s).toArray ++ Builtin.zeroCells (sprV .zero).cells (grownCap w (n + 1) n 48 - (n + 1))) 48)) := ((Below.refl _ w).drew).alloc (Nat.le_refl _) _
    refine ⟨_, _, hr, rlg_below hB, hB.mono hL, _, _, rfl, ?_, .inr ⟨w.heap.size, _, _, rfl, hL, heap_alloc_new w.drew _, hge, hcm, ?_, ?_⟩⟩
    · rw [svs_len, List.length_append, hS]; show 6 * (n + 1) = _; omega
    · have hz6 : (sprV .zero).cells.size = 6 := rfl
      simp only [Array.size_append, List.size_toArray, size_zeroCells, hz6, hsl]
      show n * 6 + 6 + _ = _
      omega
    · have e : (svs S ++ scs s).length = (n + 1) * 6 := by rw [List.length_append, hsl]; show n * 6 + 6 = _; omega
      have e2 : svs (S ++ [s]) = svs S ++ scs s := by rw [svs_app]; simp [svs]
      rw [e2]
      simp only [Array.toList_append]
      rw [← e]
      exact List.take_left
end Go.Proofs.Ytacebhncecninaa
