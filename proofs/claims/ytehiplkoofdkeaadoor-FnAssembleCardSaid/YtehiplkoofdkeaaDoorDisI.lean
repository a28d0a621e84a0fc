/- Disassemble: the program's. -/
import Derived.Test.YtehiplkoofdkeaaDoorLin
namespace Go.Proofs.YtehiplkoofdkeaaDoor
open Go.ChangeShapes Go.WideShapes Go.ChangeAt Go.RowKit Go.Shelf
attribute [local go_sem] Oper.semAt_some

theorem dis_top (xs : List Int) : ∀ (f a : Nat), ∀ x ∈ disFrom xs f a, x.1 ≤ xs.length
  | 0, _ => by simp [disFrom]
  | f + 1, a => by
    intro x hx
    cases hd : decN xs (a : Int) with
    | none => simp [disFrom, hd] at hx
    | some y =>
      obtain ⟨op, arg⟩ := y
      simp only [disFrom, hd, List.mem_cons] at hx
      obtain ⟨k, hk, _, h2, h3, _, _⟩ := dec_some hd
      obtain ⟨l1, _⟩ := ordB_len h3
      rcases hx with rfl | hx
      · show a + (lenN op).toNat ≤ xs.length
        omega
      · exact dis_top xs f _ x hx
theorem endAt_top (xs : List Int) : endAt (seqL xs) ≤ xs.length := by
  unfold endAt
  cases h : (seqL xs).getLast? with
  | none => simp
  | some x => exact dis_top xs _ _ x (List.mem_of_getLast? h)
def disI (w : World) (A : Option Addr) (N c : Nat) (pre : List (Nat × Int × Int)) (W : World) : Prop := (∃ v, Boxed W (w.heap.size + 1 + 1) 23 v ∧ W.ownsRow w.heap.size 9 1 v pre.length (sv (pre.map fmtT)) ∧ pre.length ≤ 60) ∧ Boxed W (w.heap.size + 1 + 1 + 1) 3 (.int .i64 (endAt pre : Int)) ∧ Boxed W w.heap.size 23 (.slice none 0 0) ∧ Boxed W (w.heap.size + 1) 4 (.bool false) ∧ Boxed W (w.heap.size + 1 + 1 + 1 + 1) 25 (.slice A N c) ∧ Below w.heap.size w W
def disX (w : World) (cd : Code) (pre : List (Nat × Int × Int)) (W : World) : Prop := (cd = .ret ∧ pre.length = 61) ∧ Boxed W w.heap.size 23 (.slice none 0 0) ∧ Boxed W (w.heap.size + 1) 4 (.bool false) ∧ Below w.heap.size w W
theorem disI_own (w : World) (A : Option Addr) (N c M : Nat) (h : w.heap.size ≤ M) : OwnFrom M (disI w A N c) :=
  OwnFrom.and (Own.from (holdsRow_own w.heap.size (w.heap.size + 1 + 1) 23 9 1 (fun pre : List (Nat × Int × Int) => pre.length) (fun pre => sv (pre.map fmtT)) (fun pre _ => pre.length ≤ 60)) _)
    (OwnFrom.and (Own.from (boxed_own (w.heap.size + 1 + 1 + 1) 3 (fun pre => .int .i64 (endAt pre : Int))) _)
      (OwnFrom.and (Own.from (boxed_own w.heap.size 23 (fun _ => .slice none 0 0)) _)
        (OwnFrom.and (Own.from (boxed_own (w.heap.size + 1) 4 (fun _ => .bool false)) _)
          (OwnFrom.and (Own.from (boxed_own (w.heap.size + 1 + 1 + 1 + 1) 25 (fun _ => .slice A N c)) _) (ownFrom_below (Nat.le_refl _) h)))))
theorem disX_own (w : World) (cd : Code) (M : Nat) (h : w.heap.size ≤ M) : OwnFrom M (disX w cd) :=
  OwnFrom.and (ownFrom_pure _ (fun pre : List (Nat × Int × Int) => cd = .ret ∧ pre.length = 61))
    (OwnFrom.and (Own.from (boxed_own w.heap.size 23 (fun _ => .slice none 0 0)) _)
      (OwnFrom.and (Own.from (boxed_own (w.heap.size + 1) 4 (fun _ => .bool false)) _) (ownFrom_below (Nat.le_refl _) h)))
set_option maxRecDepth 100000 in
set_option maxHeartbeats 8000000 in
theorem impl_dis (A : Option Addr) (N c : Nat) (xs : List Int) (fa : List Nat) (w : World) (ha : Ints w A N xs fa) (hN : N ≤ 1000000000) (hNc : N ≤ c) (he : Env w) :
    Calls Tryd.prog 10 #[.slice A N c] w (Disd xs w) := by
  have HA := Lib.hid ha
  have HE := Lib.hid he
  have hlen := ha.1
  have HTop := Lib.hid (endAt_top xs)
  clear ha he
  obtain ⟨i0, hi, hz0, hz1, hz2⟩ := info_parts infoStr
  refine (callsIn_wide (n := 3)).1 ?_
  refine callsIn_of_wp_marks Tryd.func10 rfl trivial ?_ rfl
  simp only [Tryd.ntmps10, List.size_toArray, List.length_cons, List.length_nil, Nat.reduceAdd, Nat.reduceSub, Array.replicate_succ, Array.replicate_zero, List.push_toArray, List.append_toArray, List.nil_append, List.cons_append]
  gi_wp2_with (refine ⟨trivial, ?_⟩; gi_at_call 20; refine (callsIn_wide.2 (lines_of _ _ _ _)).mono ?_; rintro e w' ⟨rfl, rfl⟩)
  obtain ⟨W0, hW0⟩ : ∃ W0, W0 = ((((w.alloc (.cells #[.slice none 0 0] 23)).alloc (.cells #[.bool false] 4)).alloc (.cells #[.slice none 0 0] 23)).alloc (.cells #[.int .i64 0] 3)).alloc (.cells #[.slice A N c] 25) := ⟨_, rfl⟩
  have x0 : Boxed W0 w.heap.size 23 (.slice none 0 0) := by rw [hW0]; exact ((((Boxed.new w 23 (.slice none 0 0)).alloc _).alloc _).alloc _).alloc _
  have x1 : Boxed W0 (w.heap.size + 1) 4 (.bool false) := by rw [hW0]; have := (((Boxed.new (w.alloc (.cells #[.slice none 0 0] 23)) 4 (.bool false)).alloc (.cells #[.slice none 0 0] 23)).alloc (.cells #[.int .i64 0] 3)).alloc (.cells #[.slice A N c] 25); simpa using this
  have x2 : Boxed W0 (w.heap.size + 1 + 1) 23 (.slice none 0 0) := by rw [hW0]; have := ((Boxed.new ((w.alloc (.cells #[.slice none 0 0] 23)).alloc (.cells #[.bool false] 4)) 23 (.slice none 0 0)).alloc (.cells #[.int .i64 0] 3)).alloc (.cells #[.slice A N c] 25); simpa using this
  have x3 : Boxed W0 (w.heap.size + 1 + 1 + 1) 3 (.int .i64 0) := by rw [hW0]; have := (Boxed.new (((w.alloc (.cells #[.slice none 0 0] 23)).alloc (.cells #[.bool false] 4)).alloc (.cells #[.slice none 0 0] 23)) 3 (.int .i64 0)).alloc (.cells #[.slice A N c] 25); simpa using this
  have x4 : Boxed W0 (w.heap.size + 1 + 1 + 1 + 1) 25 (.slice A N c) := by rw [hW0]; have := Boxed.new ((((w.alloc (.cells #[.slice none 0 0] 23)).alloc (.cells #[.bool false] 4)).alloc (.cells #[.slice none 0 0] 23)).alloc (.cells #[.int .i64 0] 3)) 25 (.slice A N c); simpa using this
  have hB0 : Below w.heap.size w W0 := by rw [hW0]; exact (((below3 w _ _ _).alloc (by simp; omega) _).alloc (by simp; omega) _)
  have hsz : W0.heap.size = w.heap.size + 5 := by rw [hW0]; simp
  simp only [← hW0]
  clear hW0
  refine wpIn_rangeFunc_ownG rfl (by omega) (gf := 34) (lb := #[.pointer (some ⟨(w.heap.size + 1 + 1 + 1 + 1), 0, none⟩)]) rfl trivial (enters_of Tryd.func34 (by kernel_rfl) rfl)
    (lines_stops 2 (by omega) (w.heap.size + 1 + 1 + 1 + 1) A N c xs fa w HE.out HA.out hN hNc W0 hB0 x4) (fun h k => ⟨h.1.trans k.1, k.2.trans h.2⟩)
    (fun W l o o' hl ho h1 h2 => ⟨belowK_b (w := W0) (by omega) W l o o' hl ho h1 h2, World.putObj_heap_other (by omega)⟩) (Below.refl _ _) (fun _ => rfl)
    (disI w A N c) (disX w) (disI_own w A N c _ (by omega)) (fun cd => disX_own w cd _ (by omega))
    ⟨⟨_, x2, World.ownsRow_nil _ _ _ _, by simp⟩, x3, x0, x1, x4, hB0⟩
    (fun x => { tmps := #[.slice A N c, undef, .pointer (some ⟨w.heap.size, 0, none⟩), .pointer (some ⟨(w.heap.size + 1), 0, none⟩), .pointer (some ⟨(w.heap.size + 1 + 1), 0, none⟩), .pointer (some ⟨(w.heap.size + 1 + 1 + 1), 0, none⟩), .int .i64 (x.1 : Int), .string (fmtT x), .slice A N c, .func (.func 34) #[] #[.pointer (some ⟨(w.heap.size + 1 + 1 + 1 + 1), 0, none⟩)], .int .i64 (x.1 : Int), .string (fmtT x), undef, undef, undef, undef, undef, undef, undef, undef, undef, undef, undef, undef, undef], defers := [] }) ?assign ?body ?done ?stop
  case assign =>
    intro l x W K hK
    simp only [lencs]
    gi_wp2
    exact hK
  case body =>
    rintro l pre x W ⟨⟨v, hv, hrow, hp⟩, hR, h0, h1, h4, hB⟩ _
    obtain ⟨A2, d2, _, rfl, _, _, _, _, _⟩ := own_strs hrow
    have cL := hv.cell
    have zs := hB.size
    by_cases h60 : pre.length = 60
    · have h60' : ((pre.length : Int) == 60) = true := by simp; omega
      have c0 := h0.cell
      have f0 := h0.frozen
      have c1 := h1.cell
      have f1 := h1.frozen
      have E0 : Hid (Boxed ((W.setCell ⟨w.heap.size, 0, none⟩ (.slice none 0 0)).setCell ⟨(w.heap.size + 1), 0, none⟩ (.bool false)) w.heap.size 23 (.slice none 0 0)) := (Boxed.set _ h0).other (by omega) _
      have E1 : Hid (Boxed ((W.setCell ⟨w.heap.size, 0, none⟩ (.slice none 0 0)).setCell ⟨(w.heap.size + 1), 0, none⟩ (.bool false)) (w.heap.size + 1) 4 (.bool false)) := Boxed.set _ (h1.other (by omega) _)
      have EB : Hid (Below w.heap.size w ((W.setCell ⟨w.heap.size, 0, none⟩ (.slice none 0 0)).setCell ⟨(w.heap.size + 1), 0, none⟩ (.bool false))) := (hB.setCell (p := ⟨w.heap.size, 0, none⟩) (Nat.le_refl _) _).setCell (p := ⟨(w.heap.size + 1), 0, none⟩) (by simp) _
      gi_wp2
      exact ⟨((KeepsOthers.setCell _ _ _).trans (KeepsOthers.setCell _ _ _)).from _, ⟨rfl, by simp; omega⟩, E0.out, E1.out, EB.out⟩
    · have h60' : ((pre.length : Int) == 60) = false := by simp; omega
      obtain ⟨T, hT⟩ : ∃ T, T = fmtT x := ⟨_, rfl⟩
      have HT := Lib.hid hT
      simp only [← hT]
      clear hT
      gi_wp2_with (gi_at_builtin; refine wpListIn_append_own _ rfl _ _ 23 rfl w.heap.size 9 i0 (.string ⟨#[]⟩) 1 16 Tryd.underlying23 hi hz0 hz1 hz2 rfl (by decide) _ _ _ rfl (hrow.alloc _) ⟨W.heap.size, 0, none⟩ 1 1 [.string T] rfl rfl (cell_one_new _ _ _) (by simp [Value.oneCell']) (by unfold maxLen; omega) (by omega) (by simp; omega) ?_; intro v' w1 hown' hgrow _; obtain ⟨g', cap', rfl⟩ := ownsRow_succ hown'; obtain ⟨hv1, hv2, hr2, hk2, hb2⟩ := hv.appended (by decide) hrow zs (by omega) hown' hgrow; have hc1 := hv1.cell; have hf1 := hv1.frozen; have hR1 := (hR.alloc _).kept hgrow (hR.not_row (by decide) hrow); have r1 := hR1.cell; have r2 := hR1.frozen; have h01 := (h0.alloc _).kept hgrow (h0.not_row (by decide) hrow); have h11 := (h1.alloc _).kept hgrow (h1.not_row (by decide) hrow); have h41 := (h4.alloc _).kept hgrow (h4.not_row (by decide) hrow))
      have hRn := Boxed.set (.int .i64 (x.1 : Int)) (hR1.other (show (w.heap.size + 1 + 1 + 1) ≠ (w.heap.size + 1 + 1) by omega) (.slice (some ⟨g', 0, none⟩) (pre.length + 1) cap'))
      have hLn := hv2.other (show (w.heap.size + 1 + 1) ≠ (w.heap.size + 1 + 1 + 1) by omega) (.int .i64 (x.1 : Int))
      have h0n := (h01.other (show w.heap.size ≠ (w.heap.size + 1 + 1) by omega) (.slice (some ⟨g', 0, none⟩) (pre.length + 1) cap')).other (show w.heap.size ≠ (w.heap.size + 1 + 1 + 1) by omega) (.int .i64 (x.1 : Int))
      have h1n := (h11.other (show (w.heap.size + 1) ≠ (w.heap.size + 1 + 1) by omega) (.slice (some ⟨g', 0, none⟩) (pre.length + 1) cap')).other (show (w.heap.size + 1) ≠ (w.heap.size + 1 + 1 + 1) by omega) (.int .i64 (x.1 : Int))
      have h4n := (h41.other (show (w.heap.size + 1 + 1 + 1 + 1) ≠ (w.heap.size + 1 + 1) by omega) (.slice (some ⟨g', 0, none⟩) (pre.length + 1) cap')).other (show (w.heap.size + 1 + 1 + 1 + 1) ≠ (w.heap.size + 1 + 1 + 1) by omega) (.int .i64 (x.1 : Int))
      have hrn := hr2.kept (grownBy_setCell' _ (w.heap.size + 1 + 1 + 1) (.int .i64 (x.1 : Int))) (.inr ((hR1.other (show (w.heap.size + 1 + 1 + 1) ≠ (w.heap.size + 1 + 1) by omega) (.slice (some ⟨g', 0, none⟩) (pre.length + 1) cap')).not_row (by decide) hr2).symm)
      have hbn := hb2.setCell (p := ⟨(w.heap.size + 1 + 1 + 1), 0, none⟩) (show w.heap.size ≤ (w.heap.size + 1 + 1 + 1) by omega) (.int .i64 (x.1 : Int))
      have e5 : sv (pre.map fmtT) ++ [Value.string T] = sv ((pre ++ [x]).map fmtT) := by simp [sv, HT.out]
      rw [e5] at hrn
      exact ⟨(hk2.trans (KeepsOthers.setCell _ _ _)).from _, ⟨hbn, (show _ = _ from h4n).trans (show _ = _ from h4).symm⟩, ⟨_, hLn, by simpa using hrn, by simp; omega⟩, by rw [endAt_snoc]; exact hRn, h0n, h1n, h4n, hB.trans hbn⟩
  case done =>
    rintro D ys W hD rfl ⟨⟨v, hv, hrow, hp⟩, hR, h0, h1, h4, hB⟩ hK
    obtain ⟨A2, d2, _, rfl, _, _, _, _, _⟩ := own_strs hrow
    have cL := hv.cell
    have cR := hR.cell
    have c0 := h0.cell
    have f0 := h0.frozen
    have c1 := h1.cell
    have f1 := h1.frozen
    have ht := HTop.out
    by_cases hlt : endAt (seqL xs) < N
    · have HBd := Lib.hid (dis_bad (xs := xs) (by rintro ⟨_, h2⟩; omega))
      have E0 : Hid (Boxed ((W.setCell ⟨w.heap.size, 0, none⟩ (.slice none 0 0)).setCell ⟨(w.heap.size + 1), 0, none⟩ (.bool false)) w.heap.size 23 (.slice none 0 0)) := (Boxed.set _ h0).other (by omega) _
      have E1 : Hid (Boxed ((W.setCell ⟨w.heap.size, 0, none⟩ (.slice none 0 0)).setCell ⟨(w.heap.size + 1), 0, none⟩ (.bool false)) (w.heap.size + 1) 4 (.bool false)) := Boxed.set _ (h1.other (by omega) _)
      have EB : Hid (Below w.heap.size w ((W.setCell ⟨w.heap.size, 0, none⟩ (.slice none 0 0)).setCell ⟨(w.heap.size + 1), 0, none⟩ (.bool false))) := (hB.setCell (p := ⟨w.heap.size, 0, none⟩) (Nat.le_refl _) _).setCell (p := ⟨(w.heap.size + 1), 0, none⟩) (by simp) _
      gi_wp2
      have hK' := ((KeepsOthers.setCell W ⟨w.heap.size, 0, none⟩ (.slice none 0 0)).trans (KeepsOthers.setCell _ ⟨(w.heap.size + 1), 0, none⟩ (.bool false))).same D _ hK rfl
      refine ⟨by simp, .inl ⟨_, _, rfl, run_takeDeferred hK', ?_⟩⟩
      have g0 := cell_kept E0.out.cell (grownBy_putObj' _ D (.deferred none)) (fun r e => by cases e; exact ⟨_, hK', rfl⟩)
      have g1 := cell_kept E1.out.cell (grownBy_putObj' _ D (.deferred none)) (fun r e => by cases e; exact ⟨_, hK', rfl⟩)
      refine ⟨.tuple #[.slice none 0 0, .bool false], ?_, disd_none HBd.out (EB.out.trans (belowK_b (w := w) (Nat.le_refl _) _ D _ _ (by omega) hK' rfl rfl))⟩
      simp [results, Tryd.f10, go_sem, g0, g1]
    · have HG := Lib.hid (dis_good hp (by omega))
      have hlt' : (N : Int) ≤ (endAt (seqL xs) : Int) := by omega
      have E0 : Hid (Boxed ((W.setCell ⟨w.heap.size, 0, none⟩ (.slice A2 (seqL xs).length d2)).setCell ⟨(w.heap.size + 1), 0, none⟩ (.bool true)) w.heap.size 23 (.slice A2 (seqL xs).length d2)) := (Boxed.set _ h0).other (by omega) _
      have E1 : Hid (Boxed ((W.setCell ⟨w.heap.size, 0, none⟩ (.slice A2 (seqL xs).length d2)).setCell ⟨(w.heap.size + 1), 0, none⟩ (.bool true)) (w.heap.size + 1) 4 (.bool true)) := Boxed.set _ (h1.other (by omega) _)
      have EB : Hid (Below w.heap.size w ((W.setCell ⟨w.heap.size, 0, none⟩ (.slice A2 (seqL xs).length d2)).setCell ⟨(w.heap.size + 1), 0, none⟩ (.bool true))) := (hB.setCell (p := ⟨w.heap.size, 0, none⟩) (Nat.le_refl _) _).setCell (p := ⟨(w.heap.size + 1), 0, none⟩) (by simp) _
      have hr1 := hrow.kept (grownBy_setCell' W w.heap.size (.slice A2 (seqL xs).length d2)) (.inr (h0.not_row (by decide) hrow).symm)
      have ER := Lib.hid (hr1.kept (grownBy_setCell' _ (w.heap.size + 1) (.bool true)) (.inr ((h1.other (by omega) (.slice A2 (seqL xs).length d2)).not_row (by decide) hr1).symm))
      clear hr1
      gi_wp2
      have hK' := ((KeepsOthers.setCell W ⟨w.heap.size, 0, none⟩ (.slice A2 (seqL xs).length d2)).trans (KeepsOthers.setCell _ ⟨(w.heap.size + 1), 0, none⟩ (.bool true))).same D _ hK rfl
      refine ⟨by simp, .inl ⟨_, _, rfl, run_takeDeferred hK', ?_⟩⟩
      have g0 := cell_kept E0.out.cell (grownBy_putObj' _ D (.deferred none)) (fun r e => by cases e; exact ⟨_, hK', rfl⟩)
      have g1 := cell_kept E1.out.cell (grownBy_putObj' _ D (.deferred none)) (fun r e => by cases e; exact ⟨_, hK', rfl⟩)
      obtain ⟨A6, c6, f6, e6, hc6, _, i6, n6, _⟩ := own_strs (ownsRow_putObj ER.out (.deferred none) hK' rfl)
      injection e6 with e61 e62 e63
      subst e61 e63
      refine ⟨.tuple #[(.slice A2 (seqL xs).length d2), .bool true], ?_, A2, (seqL xs).length, d2, f6, by rw [HG.out.1], hc6, hp, by rw [HG.out.2]; exact i6, n6, EB.out.trans (belowK_b (w := w) (Nat.le_refl _) _ D _ _ (by omega) hK' rfl rfl)⟩
      simp [results, Tryd.f10, go_sem, g0, g1]
  case stop =>
    rintro D cd pre W hD hpre ⟨⟨rfl, h61⟩, h0, h1, hB⟩ hK
    have HBd := Lib.hid (dis_bad (xs := xs) (by rintro ⟨h2, _⟩; have := hpre.length_le; omega))
    gi_wp2
    refine ⟨by simp, .inl ⟨_, _, rfl, run_takeDeferred hK, ?_⟩⟩
    have g0 := cell_kept h0.cell (grownBy_putObj' _ D (.deferred none)) (fun r e => by cases e; exact ⟨_, hK, rfl⟩)
    have g1 := cell_kept h1.cell (grownBy_putObj' _ D (.deferred none)) (fun r e => by cases e; exact ⟨_, hK, rfl⟩)
    refine ⟨.tuple #[.slice none 0 0, .bool false], ?_, disd_none HBd.out (hB.trans (belowK_b (w := w) (Nat.le_refl _) W D _ _ (by omega) hK rfl rfl))⟩
    simp [results, Tryd.f10, go_sem, g0, g1]
end Go.Proofs.YtehiplkoofdkeaaDoor
