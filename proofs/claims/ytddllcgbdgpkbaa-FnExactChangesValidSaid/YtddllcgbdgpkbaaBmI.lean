/- The program's BeamLine. -/
import Derived.Test.YtddllcgbdgpkbaaBmY
namespace Go.Proofs.Ytddllcgbdgpkbaa
open Go.ChangeShapes Go.WideShapes Go.ChangeAt Go.RowKit
set_option linter.unusedVariables false

theorem nil_line {F : Fld} {L : List Int} {n : Nat} {y : Int} {w w' : World} (h : bmT F L n y = []) (b : Below w.heap.size w w') : Copied (bmT F L n y) (bmT F L n y).length w (.returned (.slice none 0 0)) w' := by
  rw [h]
  exact ⟨none, 0, [], rfl, Nat.le_refl _, .nil _ _, .nil _ _, b⟩
set_option maxRecDepth 100000 in
set_option maxHeartbeats 4000000 in
theorem im_bmLine (F : Fld) (A : Option Addr) (c : Nat) (T : Option Addr) (d : Nat) (fa ft : List Nat) (Al : Option Addr) (n c' : Nat) (L : List Int) (fl : List Nat) (y : Int) (w : World) (hF : FHas w A T F fa ft) (h : Ints w Al (3 * n) L fl) (hs : FSmall F) (hn : n ≤ 1000000000) :
    Calls Try.prog 15 #[fv F A c T d, .int .i64 y, .slice Al n c'] w (Copied (bmT F L n y) (bmT F L n y).length w) := by
  have hmk := run_make32
  have BB := Lib.hid (below1 w (.cells #[.int .i64 F.w, .slice A F.xs.length c, .slice T F.nt d, .int .i64 F.sx, .int .i64 F.sy] 33))
  have X1 := Lib.hid (Box.new w #[.int .i64 F.w, .slice A F.xs.length c, .slice T F.nt d, .int .i64 F.sx, .int .i64 F.sy] 33)
  have HFA := Lib.hid hF.1.lt
  have HFT := Lib.hid hF.2.lt
  have HF := Lib.hid (FHas.below hF BB.out)
  have HL := Lib.hid (h.below BB.out)
  have HS := Lib.hid hs
  clear hF hs h
  go_enter Try.func15, Try.ntmps15
  go_wp2_with fail
  generalize w.alloc (.cells #[.int .i64 F.w, .slice A F.xs.length c, .slice T F.nt d, .int .i64 F.sx, .int .i64 F.sy] 33) = w1 at X1 BB HF HL ⊢
  generalize hbb : w.heap.size = bb at X1 ⊢
  have HBB := Lib.hid hbb
  clear hbb
  refine (im_isLine y _).mono ?_; rintro e w2 ⟨rfl, rfl⟩
  cases hy : betB y 0 15
  · have HT : Hid (bmT F L n y = []) := Lib.hid (bmT_no (by rw [hy, Bool.and_false]))
    clear hy
    go_wp2_with fail
    go_ret
    exact nil_line HT.out BB.out
  have HY := Lib.hid hy
  clear hy
  have k0 := X1.out.cell 0
  have k1 := X1.out.cell 1
  have k2 := X1.out.cell 2
  have k3 := X1.out.cell 3
  have k4 := X1.out.cell 4
  go_wp2_with fail
  clear k0 k1 k2 k3 k4
  refine (im_fieldValid F A c T d fa ft _ HF.out HS.out).mono ?_; rintro e w2 ⟨rfl, b2⟩
  have X2 := Lib.hid (X1.out.below b2)
  have B2 := Lib.hid (below_then BB.out b2)
  have HF2 := Lib.hid (HF.out.below b2)
  have HL2 := Lib.hid (HL.out.below b2)
  clear b2 X1 BB HF HL
  cases hv : fldB F
  · have HT : Hid (bmT F L n y = []) := Lib.hid (bmT_no (by rw [hv]; rfl))
    clear hv
    go_wp2_with fail
    go_ret
    exact nil_line HT.out B2.out
  have HV := Lib.hid hv
  clear hv
  go_wp2_with fail
  refine (im_chgValid Al n c' L fl _ HL2.out hn).mono ?_; rintro e w3 ⟨rfl, b3⟩
  have X3 := Lib.hid (X2.out.below b3)
  have B3 := Lib.hid (below_then B2.out b3)
  have HF3 := Lib.hid (HF2.out.below b3)
  have HL3 := Lib.hid (HL2.out.below b3)
  clear b3 X2 B2 HF2 HL2
  cases hv : chgB L n
  · have HT : Hid (bmT F L n y = []) := Lib.hid (bmT_no (by rw [hv, Bool.and_false]; rfl))
    clear hv
    go_wp2_with fail
    go_ret
    exact nil_line HT.out B3.out
  have HT := Lib.hid (bmT_yes HV.out hv HY.out)
  have HK := Lib.hid (chgB_K hv)
  have H8 := Lib.hid (chgB_8 hv)
  have HO := Lib.hid (fldB_iff.1 HV.out)
  clear hv
  have k3 := X3.out.cell 3
  have k4 := X3.out.cell 4
  go_upto_region 4 with (fail)
  have X4 := Lib.hid (X3.out.alloc (.cells (iv z32).toArray 3))
  have Y4 : Hid (Box (w3.alloc (.cells (iv z32).toArray 3)) w3.heap.size 3 (iv z32)) := Lib.hid (Box.new w3 _ _)
  have B4 : Hid (Below w.heap.size w (w3.alloc (.cells (iv z32).toArray 3))) := Lib.hid (B3.out.alloc B3.out.size _)
  have HF4 := Lib.hid (HF3.out.below (below1 w3 (.cells (iv z32).toArray 3)))
  have HL4 := Lib.hid (HL3.out.below (below1 w3 (.cells (iv z32).toArray 3)))
  have HBG : Hid (bb < w3.heap.size) := Lib.hid X3.out.lt
  generalize w3.alloc (.cells (iv z32).toArray 3) = w4 at X4 Y4 B4 HF4 HL4 ⊢
  generalize hgg : w3.heap.size = g at Y4 HBG ⊢
  clear hgg X3 B3 HF3 HL3 k3 k4 hmk
  have k3 := X4.out.cell 3
  have k4 := X4.out.cell 4
  go_wp2_with fail
  clear k3 k4
  refine (im_real F.sx F.sy Al n c' L fl _ HL4.out hn).mono ?_; rintro e w5 ⟨m, hm, Ar, cr, fr, rfl, hcr, hi, hN, b5⟩
  obtain ⟨m', I⟩ := rc_inv F.sx F.sy HK.out n (Nat.le_refl _)
  obtain rfl : m' = m := by have := hi.1; have := I.len; omega
  have HLN := Lib.hid (rc_line HK.out I y)
  have HOK := Lib.hid I.ok
  have HR := Lib.hid hi
  have HFR : Hid (∀ b ∈ fr, b ≠ bb ∧ b ≠ g) := Lib.hid fun b hb => by have := (hN.lt b hb).1; have := Y4.out.lt; have := HBG.out; omega
  have X5 := Lib.hid (X4.out.below b5)
  have Y5 := Lib.hid (Y4.out.below b5)
  have B5 := Lib.hid (B4.out.trans (b5.mono B4.out.size))
  have HF5 := Lib.hid (HF4.out.below b5)
  have hm8 : m' ≤ 8 := by have := H8.out; omega
  clear I hi hN b5 hm hcr X4 Y4 B4 HF4 HL4
  generalize rcK L n F.sx F.sy n = R at HLN HOK HR
  have HZ := Lib.hid (part_zero F R m' y)
  have HYB := Lib.hid (betB_iff.1 HY.out)
  go_wp2_with fail
  go_loopw [8, 32] (fun a i wr => ∃ (j : Nat) (s t : Int), j ≤ m' ∧ i = .int .i64 j ∧ a = .int .i64 (startK R j : Nat) ∧ withF F R j = ⟨F.w, F.xs, F.nt, F.zs, s, t⟩ ∧ Box wr bb 33 [.int .i64 F.w, .slice A F.xs.length c, .slice T F.nt d, .int .i64 s, .int .i64 t] ∧ Box wr g 3 (iv (partL F R m' y (startK R j))) ∧ Only [bb, g] w5 wr) (fun _ i _ => m' - (intOf i).toNat)
  case atStart => exact ⟨0, F.sx, F.sy, by omega, rfl, rfl, rfl, X5.out, by rw [HZ.out]; exact Y5.out, Only.refl _ _⟩
  case round =>
    obtain ⟨j, s, t, hj, rfl, rfl, hw, hx, hyb, ho⟩ := hrel
    have HW := Lib.hid hw
    have XR := Lib.hid hx
    have YR := Lib.hid hyb
    have OR := Lib.hid ho
    have HFO : Hid (FOk ⟨F.w, F.xs, F.nt, F.zs, s, t⟩) := Lib.hid (by rw [← hw]; exact with_ok HO.out HOK.out hj)
    have HA32 : Hid (∀ b ∈ fa, b ≠ bb ∧ b ≠ g) := Lib.hid fun b hb => by have := HFA.out b hb; have := HBB.out; have := HBG.out; omega
    have HT32 : Hid (∀ b ∈ ft, b ≠ bb ∧ b ≠ g) := Lib.hid fun b hb => by have := HFT.out b hb; have := HBB.out; have := HBG.out; omega
    clear hw hx hyb ho X5 Y5
    by_cases hlt : j < m'
    · have IR : Hid (Ints wr Ar (3 * m') R fr) := Lib.hid (HR.out.keep (.of_only OR.out fun b hb he => by have := HFR.out b hb; simp at he; omega))
      obtain ⟨p, o, rfl, _, hpl, hc⟩ := IR.out.at_ (by omega)
      clear hc
      have hlt' : (j : Int) < m' := by omega
      have RG := Lib.hid (chg_range IR.out hlt)
      have HCB := Lib.hid (chg1_iff.1 (chgK_iff.1 HOK.out j hlt)).1
      obtain ⟨u, hu⟩ : ∃ u : Nat, cC R j = u := ⟨(cC R j).toNat, by have := HCB.out; omega⟩
      have hu31 : u ≤ 31 := by have := HCB.out; omega
      have HSA : Hid (startK R j ≤ u) := Lib.hid (by have := start_asc HOK.out hlt; omega)
      have HSS : Hid (startK R (j + 1) = u) := Lib.hid (by rw [start_succ, hu]; rfl)
      have HFP : Hid (fillK ⟨F.w, F.xs, F.nt, F.zs, s, t⟩ y (partL F R m' y (startK R j)) (startK R j) u = partL F R m' y u) := Lib.hid (by rw [← HW.out]; exact fill_part HOK.out hj HSA.out (.inr (by omega)))
      have HPL : Hid ((partL F R m' y (startK R j)).length = 32) := Lib.hid (partL_len _ _ _ _ _)
      have HWS := Lib.hid (with_succ F R j)
      rw [hu] at RG
      clear hu HCB IR
      generalize cX R j = v at RG HWS
      generalize cY R j = q at RG HWS
      generalize partL F R m' y (startK R j) = cur at HFP HPL YR
      generalize startK R j = a0 at HFP HSA ⊢
      have XC := Lib.hid (chg_made wr u v q)
      have BC := Lib.hid (below_chg wr u v q)
      have HGW : Hid (bb < wr.heap.size ∧ g < wr.heap.size) := Lib.hid ⟨XR.out.lt, YR.out.lt⟩
      go_upto_region 7 with (first | (refine ch_loadm (by rfl) _ rfl _ _ rfl u v q RG.out ?_) | (refine ch_store (by rfl) _ _ rfl _ rfl u v q rfl _ (Box.new _ _ _) (by rfl) ?_))
      simp only [Act.put]
      have XF := Lib.hid (XR.out.below BC.out)
      have YC := Lib.hid (YR.out.below BC.out)
      have OC := Lib.hid (OR.out.trans (.of_below BC.out))
      generalize ((wr.alloc (chgO 0 0 0)).setRow wr.heap.size (iv [(u : Int), v, q]).toArray) = wc at XC XF YC OC ⊢
      generalize hhh : wr.heap.size = hb at XC HGW ⊢
      clear hhh RG BC XR YR OR
      have XD : Hid (Box wc.drew hb 27 (iv [(u : Int), v, q])) := Lib.hid XC.out
      have XE : Hid (Box wc.drew bb 33 [.int .i64 F.w, .slice A F.xs.length c, .slice T F.nt d, .int .i64 s, .int .i64 t]) := Lib.hid XF.out
      have YD : Hid (Box wc.drew g 3 (iv cur)) := Lib.hid YC.out
      have OD : Hid (Only [bb, g] w5 wc.drew) := Lib.hid ⟨OC.out.os, OC.out.tape, OC.out.output, OC.out.size, OC.out.block⟩
      have IA : Hid (Ints wc.drew A F.xs.length F.xs fa) := Lib.hid (HF5.out.1.keep (.of_only OD.out fun b hb he => by have := HA32.out b hb; simp at he; omega))
      have IT : Hid (Ints wc.drew T (64 * F.nt) F.zs ft) := Lib.hid (HF5.out.2.keep (.of_only OD.out fun b hb he => by have := HT32.out b hb; simp at he; omega))
      have k0 := XE.out.cell 0
      have k1 := XE.out.cell 1
      have k2 := XE.out.cell 2
      have k3 := XE.out.cell 3
      have k4 := XE.out.cell 4
      have c0 := XD.out.cell 0
      have u0 : (0 : Int) ≤ u := by omega
      have u32 : (u : Int) ≤ 32 := by omega
      go_region_law (first
        | (go_simp; go_at_call 44; refine (im_fill ⟨F.w, F.xs, F.nt, F.zs, s, t⟩ A c T d fa ft g a0 u cur y _ ⟨IA.out, IT.out⟩ HFO.out HYB.out.1 HYB.out.2 YD.out HPL.out HSA.out (by omega) (fun b hb => (HA32.out b hb).2) (fun b hb => (HT32.out b hb).2)).mono ?_; rintro e w6 ⟨⟨z, rfl⟩, hyb, o6⟩; have Y6 := Lib.hid hyb; have O6 := Lib.hid (OD.out.trans (o6.mono (by simp))); have X6 := Lib.hid (XE.out.only o6 (by have := HBG.out; simp; omega)); have C6 := Lib.hid (XD.out.only o6 (by have := HGW.out; simp; omega)); clear hyb o6))
      all_goals
        clear k0 k1 k2 k3 k4 c0
        have c0 := C6.out.cell 0
        have c1 := C6.out.cell 1
        have c2 := C6.out.cell 2
        have e3 := X6.out.cell 3
        have e4 := X6.out.cell 4
        have g3 := X6.out.frozen 3
        have g4 := X6.out.frozen 4
        go_wp2_with fail
        go_region
        go_upto_region 9 with (fail)
        have X8 : Hid (Box (((w6.setCell ⟨bb, 3, none⟩ (.int .i64 v)).setCell ⟨bb, 4, none⟩ (.int .i64 q)).drew) bb 33 [.int .i64 F.w, .slice A F.xs.length c, .slice T F.nt d, .int .i64 v, .int .i64 q]) := Lib.hid ((X6.out.set 3 _).set 4 _)
        have Y8 : Hid (Box (((w6.setCell ⟨bb, 3, none⟩ (.int .i64 v)).setCell ⟨bb, 4, none⟩ (.int .i64 q)).drew) g 3 (iv (partL F R m' y u))) := Lib.hid (by rw [← HFP.out]; exact (Y6.out.far (by have := HBG.out; omega) _).far (by have := HBG.out; omega) _)
        have C8 : Hid (Box (((w6.setCell ⟨bb, 3, none⟩ (.int .i64 v)).setCell ⟨bb, 4, none⟩ (.int .i64 q)).drew) hb 27 (iv [(u : Int), v, q])) := Lib.hid ((C6.out.far (by have := HGW.out; omega) _).far (by have := HGW.out; omega) _)
        have O8 : Hid (Only [bb, g] w5 (((w6.setCell ⟨bb, 3, none⟩ (.int .i64 v)).setCell ⟨bb, 4, none⟩ (.int .i64 q)).drew)) := Lib.hid (have o := ((O6.out.setCell (q := bb) (j := 3) (.inl (by simp)) (.int .i64 v)).setCell (q := bb) (j := 4) (.inl (by simp)) (.int .i64 q)); ⟨o.os, o.tape, o.output, o.size, o.block⟩)
        generalize (((w6.setCell ⟨bb, 3, none⟩ (.int .i64 v)).setCell ⟨bb, 4, none⟩ (.int .i64 q)).drew) = w8 at X8 Y8 C8 O8 ⊢
        clear c0 c1 c2 e3 e4 g3 g4 X6 Y6 C6 O6
        have c0 := C8.out.cell 0
        go_wp2_with fail
        go_roundw
        case rel => exact ⟨j + 1, v, q, by omega, by go_num, by rw [HSS.out], HWS.out, X8.out, by rw [HSS.out]; exact Y8.out, O8.out⟩
        case measure => simp [intOf]; omega
    · obtain rfl : j = m' := by omega
      have IA : Hid (Ints wr A F.xs.length F.xs fa) := Lib.hid (HF5.out.1.keep (.of_only OR.out fun b hb he => by have := HA32.out b hb; simp at he; omega))
      have IT : Hid (Ints wr T (64 * F.nt) F.zs ft) := Lib.hid (HF5.out.2.keep (.of_only OR.out fun b hb he => by have := HT32.out b hb; simp at he; omega))
      have HSL := Lib.hid (start_le HOK.out (Nat.le_refl _))
      have HLL : Hid (fillK ⟨F.w, F.xs, F.nt, F.zs, s, t⟩ y (partL F R j y (startK R j)) (startK R j) 32 = bmL F L n y) := Lib.hid (by rw [← HW.out, fill_part HOK.out (Nat.le_refl _) (by have := HSL.out; omega) (.inl rfl), partL_all, HLN.out])
      have HPL : Hid ((partL F R j y (startK R j)).length = 32) := Lib.hid (partL_len _ _ _ _ _)
      generalize partL F R j y (startK R j) = cur at HLL HPL YR
      generalize startK R j = a0 at HLL HSL ⊢
      have k0 := XR.out.cell 0
      have k1 := XR.out.cell 1
      have k2 := XR.out.cell 2
      have k3 := XR.out.cell 3
      have k4 := XR.out.cell 4
      go_wp2_with fail
      refine (im_fill ⟨F.w, F.xs, F.nt, F.zs, s, t⟩ A c T d fa ft g a0 32 cur y _ ⟨IA.out, IT.out⟩ HFO.out HYB.out.1 HYB.out.2 YR.out HPL.out (by have := HSL.out; omega) (by omega) (fun b hb => (HA32.out b hb).2) (fun b hb => (HT32.out b hb).2)).mono ?_; rintro e w6 ⟨⟨z, rfl⟩, hyb, o6⟩
      have Y6 : Hid (Box w6 g 3 (iv (bmL F L n y))) := Lib.hid (by rw [← HLL.out]; exact hyb)
      have O6 := Lib.hid (OR.out.trans (o6.mono (by simp)))
      clear hyb o6 k0 k1 k2 k3 k4
      go_wp2_with fail
      go_ret
      rw [HT.out, bmL_len]
      exact copied_box Y6.out (bmL_len _ _ _ _) (by have := HBB.out; have := HBG.out; omega) (B5.out.trans (O6.out.below (fun b hb => by have := HBB.out; have := HBG.out; simp at hb; omega) B5.out.size))
end Go.Proofs.Ytddllcgbdgpkbaa
