/- The model's ShiftField. -/
import Derived.Test.YtacebhncecninaaGD
import Derived.Test.YtacebhncecninaaFldC
namespace Go.Proofs.Ytacebhncecninaa
open Go.ChangeShapes Go.WideShapes Go.ChangeAt Go.RowKit
set_option linter.unusedVariables false

set_option maxHeartbeats 4000000 in
theorem spec_shiftField (F : Fld) (A : Option Addr) (c : Nat) (T : Option Addr) (d : Nat) (fa ft : List Nat) (dx dy : Int) (w : World) (hF : FHas w A T F fa ft) (hs : FSmall F) :
    Calls Try.prog 24 #[fv F A c T d, .int .i64 dx, .int .i64 dy] w (FNew (shT F dx dy) w) := by
  obtain ⟨w1, hw1⟩ : ∃ w1, w1 = (w.alloc (.cells #[.int .i64 F.w, .slice A F.xs.length c, .slice T F.nt d, .int .i64 F.sx, .int .i64 F.sy] 26)).alloc (.cells #[.int .i64 0, .slice none 0 0, .slice none 0 0, .int .i64 0, .int .i64 0] 26) := ⟨_, rfl⟩
  have X1 : Hid (Box w1 w.heap.size 26 (fcs F.w A F.xs.length c T F.nt d F.sx F.sy)) := by rw [hw1]; exact (Box.new w _ _).alloc _
  have Y1 : Hid (Box w1 (w.heap.size + 1) 26 (fcs 0 none 0 0 none 0 0 0 0)) := by rw [hw1]; exact Box.new_at _ _ _ _ (by simp)
  have B1 : Hid (Below w.heap.size w w1) := by rw [hw1]; exact below2 w _ _
  have HF := Lib.hid (FHas.below hF B1.out)
  have HS := Lib.hid hs
  clear hF hs
  go_enter Try.func24, Try.ntmps24
  go_wp2_with fail
  rw [← hw1]
  clear hw1
  generalize hb0 : w.heap.size = b0 at X1 Y1 B1 ⊢
  generalize hb1 : b0 + 1 = b1 at Y1 ⊢
  have HB0 := Lib.hid hb0
  have HB1 := Lib.hid hb1
  clear hb0 hb1
  refine (spec_fieldValid F A c T d fa ft _ HF.out HS.out).mono ?_; rintro e w2 ⟨rfl, b2⟩
  have X2 := Lib.hid (X1.out.below b2)
  have Y2 := Lib.hid (Y1.out.below b2)
  have HF2 := Lib.hid (HF.out.below b2)
  have B2 : Hid (Below b0 w w2) := Lib.hid (B1.out.trans (b2.mono (by have := X1.out.lt; omega)))
  clear b2 X1 Y1 HF B1
  cases hx : fldB F
  · have HT : Hid (shT F dx dy = Fld.zero) := Lib.hid (by unfold shT; rw [hx]; simp)
    clear hx
    go_wp2_with (first | (refine fs_store (by rfl) _ _ rfl b1 rfl rfl _ Y2.out rfl ?_))
    refine bodyPost_ret (v := fldV 0 none 0 0 none 0 0 0 0) (fld_ret rfl rfl (Box.row Y2.out)) rfl ?_
    rw [HT.out]
    exact fnew_zero (by rw [HB0.out]; exact below_row B2.out (by have := HB1.out; omega) _)
  have HV := Lib.hid hx
  clear hx
  go_wp2_with fail
  refine (l1In_any dx (-255) 255 _).mono ?_; rintro e w3 ⟨rfl, rfl⟩
  cases hx : betB dx (-255) 255
  · have HT : Hid (shT F dx dy = Fld.zero) := Lib.hid (by unfold shT; rw [hx]; simp)
    clear hx
    go_wp2_with (first | (refine fs_store (by rfl) _ _ rfl b1 rfl rfl _ Y2.out rfl ?_))
    refine bodyPost_ret (v := fldV 0 none 0 0 none 0 0 0 0) (fld_ret rfl rfl (Box.row Y2.out)) rfl ?_
    rw [HT.out]
    exact fnew_zero (by rw [HB0.out]; exact below_row B2.out (by have := HB1.out; omega) _)
  have HX := Lib.hid hx
  clear hx
  go_wp2_with fail
  refine (l1In_any dy (-255) 255 _).mono ?_; rintro e w3 ⟨rfl, rfl⟩
  cases hx : betB dy (-255) 255
  · have HT : Hid (shT F dx dy = Fld.zero) := Lib.hid (by unfold shT; rw [hx]; simp)
    clear hx
    go_wp2_with (first | (refine fs_store (by rfl) _ _ rfl b1 rfl rfl _ Y2.out rfl ?_))
    refine bodyPost_ret (v := fldV 0 none 0 0 none 0 0 0 0) (fld_ret rfl rfl (Box.row Y2.out)) rfl ?_
    rw [HT.out]
    exact fnew_zero (by rw [HB0.out]; exact below_row B2.out (by have := HB1.out; omega) _)
  have HT := Lib.hid (shT_yes HV.out HX.out hx)
  have dx1 := (betB_iff.1 HX.out).1
  have dx2 := (betB_iff.1 HX.out).2
  have dy1 := (betB_iff.1 hx).1
  have dy2 := (betB_iff.1 hx).2
  clear hx
  have HO := Lib.hid (fldB_iff.1 HV.out)
  have n0 : (0 : Int) ≤ F.xs.length := by omega
  obtain ⟨v1, v8⟩ := And.intro HO.out.w1 HO.out.w8
  have wne : F.w ≠ 0 := by omega
  have sx0 := HO.out.x0
  have sx1 := HO.out.x1
  have sy0 := HO.out.y0
  have sy1 := HO.out.y1
  obtain ⟨hln, r1, r8⟩ := HO.out.rows
  have hrw : (F.xs.length : Int) / F.w = F.rw_ := rfl
  have HLN : Hid (0 < F.xs.length ∧ 0 < F.nt) := Lib.hid ⟨by
    have := mul8 (F.rw_ - 1) F.w (by omega) F.rw_ (by omega) (by omega)
    have h2 := Int.mul_nonneg (show 0 ≤ F.rw_ - 1 by omega) (show 0 ≤ F.w by omega)
    have h3 : (F.rw_ - 1) * F.w = F.rw_ * F.w - F.w := by rw [Int.sub_mul]; omega
    omega, HO.out.n1⟩
  clear hln
  have x0 : w2.cell? ⟨b0, 0, none⟩ = some (.int .i64 F.w) := X2.out.cell 0
  have x1 : w2.cell? ⟨b0, 1, none⟩ = some (.slice A F.xs.length c) := X2.out.cell 1
  go_upto_region 5 with (fail)
  clear x0 x1
  refine wp_region_end (by dsimp only [List.dropLast]) rfl (ClB w2) RlB (Ty [TV (.pointer (some ⟨b0, 0, none⟩)), TV (.int .i64 F.w), TEmp, TV (.pointer (some ⟨b0, 1, none⟩)), TV (.slice A F.xs.length c), TOwnI w2.heap.size F.xs.length F.xs, TEmp, TV (.pointer (some ⟨b0, 2, none⟩)), TV (.slice T F.nt d), TOwnT w2.heap.size F.nt F.zs, TFldO w2.heap.size ⟨F.w, F.xs, F.nt, F.zs, 0, 0⟩, TVar w2.heap.size 26 (fcs 0 none 0 0 none 0 0 0 0)])
    (by kernel_rfl) (by kernel_rfl) (by kernel_rfl) (stab_ty _ ⟨stabB_k _, stabB_k _, stabB_emp, stabB_k _, stabB_k _, stabB_ownI _ _ _, stabB_emp, stabB_k _, stabB_k _, stabB_ownT _ _ _, stabB_fldO _ _, stabB_var, trivial⟩) (Below.refl _ _).drew ?_ ?_
  · refine ⟨?_, ?_, ?_, ?_, ?_, ?_, ?_, ?_, ?_, ?_, ?_, ?_, trivial⟩
    · refine lb_val (.pointer (some ⟨b0, 0, none⟩)) (fun _ _ _ => want_none rfl) fun ρ wx hb hc hx hp => ⟨?_, rfl⟩
      have h0 : ρ (.tmp 3) = .pointer (some ⟨b0, 0, none⟩) := hx 3 rfl
      unfold execOp
      simp only [h0]
      clear h0 hx hc hp hb
      go_simp
    · refine lb_val (.int .i64 F.w) (fun _ _ _ => want_none rfl) fun ρ wx hb hc hx hp => ⟨?_, rfl⟩
      have h0 : ρ (.tmp 34) = .pointer (some ⟨b0, 0, none⟩) := hp.1 rfl
      have ck : wx.cell? ⟨b0, 0, none⟩ = some (.int .i64 F.w) := (X2.out.below hb).cell 0
      unfold execOp
      simp only [h0]
      clear h0 hx hc hp hb
      go_simp
    · exact lb_emp _ 3 rfl (fun _ _ _ => want_none rfl) (fun ρ w => by unfold execOp; go_simp) (fun _ _ h => h)
    · refine lb_val (.pointer (some ⟨b0, 1, none⟩)) (fun _ _ _ => want_none rfl) fun ρ wx hb hc hx hp => ⟨?_, rfl⟩
      have h0 : ρ (.tmp 3) = .pointer (some ⟨b0, 0, none⟩) := hx 3 rfl
      unfold execOp
      simp only [h0]
      clear h0 hx hc hp hb
      go_simp
    · refine lb_val (.slice A F.xs.length c) (fun _ _ _ => want_none rfl) fun ρ wx hb hc hx hp => ⟨?_, rfl⟩
      have h0 : ρ (.tmp 37) = .pointer (some ⟨b0, 1, none⟩) := hp.1 rfl
      have ck : wx.cell? ⟨b0, 1, none⟩ = some (.slice A F.xs.length c) := (X2.out.below hb).cell 1
      unfold execOp
      simp only [h0]
      clear h0 hx hc hp hb
      go_simp
    · exact lb_appI (.tmp 36) (.tmp 38) rfl (fun _ _ _ => want_none rfl) HF2.out.1 HLN.out.1 HS.out.1 (fun ρ wx hx hp => ⟨hp.1 rfl, hp.2.1 rfl⟩) (fun _ _ h => h)
    · exact lb_emp _ 57 rfl (fun _ _ _ => want_none rfl) (fun ρ w => by unfold execOp; go_simp) (fun _ _ h => h)
    · refine lb_val (.pointer (some ⟨b0, 2, none⟩)) (fun _ _ _ => want_none rfl) fun ρ wx hb hc hx hp => ⟨?_, rfl⟩
      have h0 : ρ (.tmp 3) = .pointer (some ⟨b0, 0, none⟩) := hx 3 rfl
      unfold execOp
      simp only [h0]
      clear h0 hx hc hp hb
      go_simp
    · refine lb_val (.slice T F.nt d) (fun _ _ _ => want_none rfl) fun ρ wx hb hc hx hp => ⟨?_, rfl⟩
      have h0 : ρ (.tmp 41) = .pointer (some ⟨b0, 2, none⟩) := hp.1 rfl
      have ck : wx.cell? ⟨b0, 2, none⟩ = some (.slice T F.nt d) := (X2.out.below hb).cell 2
      unfold execOp
      simp only [h0]
      clear h0 hx hc hp hb
      go_simp
    · exact lb_appT (.tmp 40) (.tmp 42) rfl (fun _ _ _ => want_none rfl) HF2.out.2 HLN.out.2 HS.out.2 (fun ρ wx hx hp => ⟨hp.1 rfl, hp.2.1 rfl⟩) (fun _ _ h => h)
    · refine lb_some (fun _ _ _ => want_none rfl) fun ρ wx hb hc hx hp => ?_
      have h0 : ρ (.tmp 35) = .int .i64 F.w := hp.1 rfl
      have h1 : TOwnI w2.heap.size F.xs.length F.xs (ρ (.tmp 39)) wx := hp.2.1 rfl
      have h2 : TOwnT w2.heap.size F.nt F.zs (ρ (.tmp 43)) wx := hp.2.2.1 rfl
      obtain ⟨A2, c2, T2, d2, fa2, ft2, hv, hc2, hu, hd2, hi, hz, hn, hno⟩ := own_two h1 h2
      refine ⟨fldV F.w A2 F.xs.length c2 T2 F.nt d2 0 0, ?_, A2, c2, T2, d2, fa2, ft2, rfl, hc2, hd2, ⟨hi, hz⟩, hn, hno⟩
      unfold execOp
      simp only [List.map_toArray, List.map_cons, List.map_nil, h0, hv, hu]
      clear h0 h1 h2 hv hu hx hc hp hb hi hz hn hno
      go_simp
    · exact lb_var (fun _ _ _ => want_none rfl) (fun ρ w => by unfold execOp; go_simp) (fun _ _ h => h)
  intro vs wx hI hF
  obtain ⟨_, _, _, _, _, _, _, _, _, _, h10, h11, _⟩ := hF
  obtain ⟨A3, c3, T3, d3, fa3, ft3, hv10, hc3, hd3, hf3, hn3, ho3⟩ : TFldO w2.heap.size ⟨F.w, F.xs, F.nt, F.zs, 0, 0⟩ (vs 10) wx := h10
  have HI : Hid (Below w2.heap.size w2 wx) := hI
  obtain ⟨g, hv, hL, hB⟩ : TVar w2.heap.size 26 (fcs 0 none 0 0 none 0 0 0 0) (vs 11) wx := h11
  refine ⟨_, exec_storeF _ _ (.tmp 9) (.tmp 44) wx g (W := F.w) (A := A3) (n := F.xs.length) (c := c3) (Tt := T3) (m := F.nt) (d := d3) (sx := 0) (sy := 0) rfl (by simp only [putAll, Act.put, List.setIfInBounds_toArray, List.set_cons_zero, List.set_cons_succ, hv]; rfl) (by simp only [putAll, Act.put, List.setIfInBounds_toArray, List.set_cons_zero, List.set_cons_succ, hv10]; rfl) hB rfl, ?_⟩
  simp only [putAll, Act.put, List.setIfInBounds_toArray, List.set_cons_zero, List.set_cons_succ, hv, hv10]
  clear hI hv hv10
  have X3 : Hid (Box (wx.setRow g (fcs F.w A3 F.xs.length c3 T3 F.nt d3 0 0).toArray) b0 26 (fcs F.w A F.xs.length c T F.nt d F.sx F.sy)) := Lib.hid ((X2.out.below HI.out).rowFar (by have := X2.out.lt; omega))
  have Y3 : Hid (Box (wx.setRow g (fcs F.w A3 F.xs.length c3 T3 F.nt d3 0 0).toArray) b1 26 (fcs 0 none 0 0 none 0 0 0 0)) := Lib.hid ((Y2.out.below HI.out).rowFar (by have := Y2.out.lt; omega))
  have Z3 : Hid (Box (wx.setRow g (fcs F.w A3 F.xs.length c3 T3 F.nt d3 0 0).toArray) g 26 (fcs F.w A3 F.xs.length c3 T3 F.nt d3 0 0)) := Lib.hid (Box.row hB)
  have O3 : Hid (Only [g, b1] wx (wx.setRow g (fcs F.w A3 F.xs.length c3 T3 F.nt d3 0 0).toArray)) := Lib.hid ((Only.refl _ _).row (.inl (by simp)) _)
  have B3 : Hid (Below b0 w (wx.setRow g (fcs F.w A3 F.xs.length c3 T3 F.nt d3 0 0).toArray)) := Lib.hid (below_row (B2.out.trans (HI.out.mono (by have := X2.out.lt; omega))) (by have := X2.out.lt; omega) _)
  have HG : Hid (b0 < b1 ∧ b0 < g ∧ b1 < g ∧ w2.heap.size ≤ g) := Lib.hid ⟨by have := HB1.out; omega, by have := X2.out.lt; omega, by have := Y2.out.lt; omega, hL⟩
  have HF3 := Lib.hid hf3
  have HN3 := Lib.hid hn3
  have HC3 := Lib.hid (And.intro hc3 hd3)
  have HW2 := Lib.hid (And.intro (show b0 ≤ w2.heap.size by have := X2.out.lt; omega) Y2.out.lt)
  have HNG : Hid (∀ b ∈ fa3 ++ ft3, b ∉ [g, b1]) := Lib.hid fun b hb hs => by
    have h1 := (hn3.lt b hb)
    have h3 := HW2.out
    simp only [List.mem_cons, List.mem_nil_iff, or_false] at hs
    rcases hs with rfl | rfl
    · exact ho3.box hB hb
    · omega
  clear ho3 hf3 hn3 hc3 hd3 X2 Y2 B2 hL hB HI
  generalize wx.setRow g (fcs F.w A3 F.xs.length c3 T3 F.nt d3 0 0).toArray = w3 at X3 Y3 Z3 B3 O3 ⊢
  have x3 : w3.cell? ⟨b0, 3, none⟩ = some (.int .i64 F.sx) := X3.out.cell 3
  have x4 : w3.cell? ⟨b0, 4, none⟩ = some (.int .i64 F.sy) := X3.out.cell 4
  have z3 : w3.cell? ⟨g, 3, none⟩ = some (.int .i64 0) := Z3.out.cell 3
  have z4 : w3.cell? ⟨g, 4, none⟩ = some (.int .i64 0) := Z3.out.cell 4
  have u3 := Z3.out.frozen 3
  have u4 := Z3.out.frozen 4
  have hne : ¬ b0 = g := by have := HG.out; omega
  have hne2 : ¬ g = b0 := by have := HG.out; omega
  obtain ⟨rx, qx, hrx, rx1, rx2, hqx, ex⟩ := wrap_parts (F.sx + dx) (8 * F.w) (by omega)
  obtain ⟨ry, qy, hry, ry1, ry2, hqy, ey⟩ := wrap_parts (F.sy + dy) (8 * F.rw_) (by omega)
  have hw0 : 8 * F.w ≠ 0 := by omega
  have hr0 : 8 * F.rw_ ≠ 0 := by omega
  have hwx := wrap_small (F.sx + dx) (by omega) (by omega)
  have hwy := wrap_small (F.sy + dy) (by omega) (by omega)
  have qx0 : 0 ≤ rx + 8 * F.w := by omega
  have qy0 : 0 ≤ ry + 8 * F.rw_ := by omega
  have EX := Lib.hid (And.intro ex ey)
  clear ex ey
  go_upto_region 8 with (fail)
  have Z5 : Hid (Box ((w3.setCell ⟨g, 3, none⟩ (.int .i64 qx)).setCell ⟨g, 4, none⟩ (.int .i64 qy)) g 26 (fcs F.w A3 F.xs.length c3 T3 F.nt d3 qx qy)) := Lib.hid ((Z3.out.set 3 (.int .i64 qx)).set 4 (.int .i64 qy))
  have Y5 := Lib.hid ((Y3.out.far (b' := g) (i := 3) (by have := HG.out; omega) (.int .i64 qx)).far (b' := g) (i := 4) (by have := HG.out; omega) (.int .i64 qy))
  have B5 := Lib.hid ((B3.out.setCell (p := ⟨g, 3, none⟩) (show b0 ≤ g by have := HG.out; omega) (.int .i64 qx)).setCell (p := ⟨g, 4, none⟩) (show b0 ≤ g by have := HG.out; omega) (.int .i64 qy))
  have O5 := Lib.hid ((O3.out.setCell (q := g) (j := 3) (.inl (by simp)) (.int .i64 qx)).setCell (q := g) (j := 4) (.inl (by simp)) (.int .i64 qy))
  clear x3 x4 z3 z4 u3 u4 X3 Y3 Z3 B3 O3 hwx hwy
  generalize (w3.setCell ⟨g, 3, none⟩ (.int .i64 qx)).setCell ⟨g, 4, none⟩ (.int .i64 qy) = w5 at Z5 Y5 B5 O5 ⊢
  go_wp2_with (first | (refine fs_load (by rfl) _ rfl g rfl Z5.out ?_) | (refine fs_store (by rfl) _ _ rfl b1 rfl rfl _ Y5.out rfl ?_))
  refine bodyPost_ret (v := fldV F.w A3 F.xs.length c3 T3 F.nt d3 qx qy) (fld_ret rfl rfl (Box.row Y5.out)) rfl ?_
  have O9 := O5.out.row (g := b1) (.inl (by simp)) (fcs F.w A3 F.xs.length c3 T3 F.nt d3 qx qy).toArray
  have s9 : Same (fa3 ++ ft3) wx _ := .of_only O9 HNG.out
  rw [HT.out]
  have e : fldV F.w A3 F.xs.length c3 T3 F.nt d3 qx qy = fv (shF F dx dy) A3 c3 T3 d3 := by rw [EX.out.1, EX.out.2]; rfl
  rw [e]
  refine ⟨A3, c3, T3, d3, fa3, ft3, rfl, HC3.out.1, HC3.out.2, ⟨HF3.out.1.keep (s9.sub fun b hb => List.mem_append_left _ hb), HF3.out.2.keep (s9.sub fun b hb => List.mem_append_right _ hb)⟩, (HN3.out.keep s9).mono (by rw [HB0.out]; exact HW2.out.1), ?_⟩
  rw [HB0.out]
  exact below_row B5.out (by have := HG.out; omega) _
end Go.Proofs.Ytacebhncecninaa
