/- The exact laws of chapter 10, walked. -/
import Derived.Test.YtacebhncecninaaGD
import Derived.Test.YtacebhncecninaaFldE
import Derived.Test.YtacebhncecninaaFldI
namespace Go.Proofs.Ytacebhncecninaa
open Go.ChangeShapes Go.WideShapes Go.ChangeAt Go.RowKit
set_option linter.unusedVariables false

theorem fld_infoL : (Try.prog.info? 60).map (·.size) = some 5 := by kernel_rfl
section
variable {ops : Array Oper} {rest : List Oper} {o : Oper} {a : Act} {w : World} {Q : Exit → Act → World → Prop} {W : Int} {A : Option Addr} {n c : Nat} {T : Option Addr} {m d : Nat} {sx sy : Int}
theorem fsL_load {t : TypeId} (hw : Region.wanted o (yielded ops a.tmps) = true) (x : Operand) (ho : o.op = .load 60 x) (b : Nat) (hx : a.eval x = .pointer (some ⟨b, 0, none⟩)) (hb : Box w b t (fcs W A n c T m d sx sy))
    (h : wpList Try.prog ops Q rest (a.put o.dst (fldV W A n c T m d sx sy)) w) : wpList Try.prog ops Q (o :: rest) a w :=
  wpList_step fun K hK => by
    rw [if_pos hw]
    exact wp_load_row _ x ho b hx t (fcs W A n c T m d sx sy).toArray (0, 0) _ hb Try.underlying60 rfl fld_infoL (hK _ _ h)
end
section
variable {ops : Array Oper} {Q : Exit → Act → World → Prop} {T : Nat → Value → World → Prop} {a0 : Act} {w0 : World} {i : Nat} {o : Oper}
theorem lb_fldL (x : Operand) (b : Nat) {t : TypeId} {W : Int} {A : Option Addr} {n c : Nat} {Tt : Option Addr} {m d : Nat} {sx sy : Int} (hop : o.op = .load 60 x) (hb : Box w0 b t (fcs W A n c Tt m d sx sy)) (hw : ∀ (ρ : Operand → Value) w, PreR ops T ρ w o.after.toList → wantV ops (slotR ρ) o = true)
    (h : ∀ (ρ : Operand → Value) w, (∀ n, (ops.toList.all fun o => o.dst != some n) = true → ρ (.tmp n) = a0.eval (.tmp n)) → PreR ops T ρ w o.after.toList → ρ x = .pointer (some ⟨b, 0, none⟩) ∧ T i (dstV o (fldV W A n c Tt m d sx sy)) w) : Ob Try.prog ops Q (ClB w0) RlB T a0 i o :=
  lb_val (fldV W A n c Tt m d sx sy) hw fun ρ w hbl _ hx hp => by
    obtain ⟨h1, h2⟩ := h ρ w hx hp
    refine ⟨?_, h2⟩
    have hl := run_loadVar_row (P := Try.prog) w b t 60 (fcs W A n c Tt m d sx sy).toArray (0, 0) _ (hb.below hbl) Try.underlying60 rfl fld_infoL
    unfold execOp
    simp only [hop, h1, Instr.loadAt, Instr.sureAddr, Sem.run_bind, Sem.run_pure, Result.andThen_ok, hl]
end
theorem shT_le (F : Fld) (dx dy : Int) : (shT F dx dy).xs.length ≤ F.xs.length ∧ (shT F dx dy).nt ≤ F.nt := by
  unfold shT
  split
  · exact ⟨Nat.le_refl _, Nat.le_refl _⟩
  · exact ⟨Nat.zero_le _, Nat.zero_le _⟩
theorem lineT_le (F : Fld) (y : Int) : (lineT F y).length ≤ 32 := by
  unfold lineT
  split
  · rw [lineF_len]; omega
  · simp
set_option maxRecDepth 100000 in
set_option maxHeartbeats 4000000 in
theorem walk_FnExactFieldLine (A : Option Addr) (c : Nat) (T : Option Addr) (d : Nat) (F : Fld) (y : Int) (w : World) (hin : InFld w A T F) : Calls Try.prog 10 #[fv F A c T d, .int .i64 y] w fun e w' => e = .returned (.bool true) ∧ Below w.heap.size w w' := by
  obtain ⟨hl, hm, fa, ft, hF⟩ := hin
  have PB1 := Lib.hid (Box.new w #[.int .i64 F.w, .slice A F.xs.length c, .slice T F.nt d, .int .i64 F.sx, .int .i64 F.sy] 60)
  have BB1 := Lib.hid (below1 w (.cells #[.int .i64 F.w, .slice A F.xs.length c, .slice T F.nt d, .int .i64 F.sx, .int .i64 F.sy] 60))
  have HFR : Hid (∀ W, Below w.heap.size w W → FHas W A T F fa ft) := Lib.hid fun W h => hF.below h
  clear hF
  go_enter Try.func10, Try.ntmps10
  go_upto_region 2 with (fail)
  generalize w.alloc (.cells #[.int .i64 F.w, .slice A F.xs.length c, .slice T F.nt d, .int .i64 F.sx, .int .i64 F.sy] 60) = w1 at PB1 BB1 ⊢
  go_wp2_with (first | (refine fsL_load (by rfl) _ rfl w.heap.size rfl PB1.out ?_))
  by_cases hsz : (F.xs.length : Int) + F.nt ≤ 1048576
  · have HS : Hid (FSmall F) := Lib.hid ⟨by omega, by omega⟩
    refine (sz_fld_yes F.w A F.xs.length c T F.nt d F.sx F.sy 1048576 _ hsz (by omega)).mono ?_; rintro e w2 ⟨rfl, bl⟩
    have hl0 : 0 ≤ 1048576 - (F.xs.length : Int) - F.nt := by omega
    obtain ⟨lf, hlf⟩ : ∃ lf, 1048576 - (F.xs.length : Int) - F.nt = lf := ⟨_, rfl⟩
    rw [hlf] at hl0 ⊢
    clear hlf
    have PB2 := Lib.hid (PB1.out.below bl)
    have BB2 := Lib.hid (below_then BB1.out bl)
    clear PB1 BB1 bl
    go_wp2_with (first | (refine fsL_load (by rfl) _ rfl w.heap.size rfl PB2.out ?_))
    have hF := HFR.out _ BB2.out
    refine (to_fld F A c T d fa ft _ hF HS.out).mono ?_; rintro e w3 ⟨Au, cu, Tu, du, fu, gu, rfl, hcu, hdu, hfu, hnu, bl⟩
    clear hF hcu hdu
    have PB3 := Lib.hid (PB2.out.below bl)
    have BB3 := Lib.hid (below_then BB2.out bl)
    clear PB2 BB2 bl
    have UF3 := Lib.hid (hfu)
    clear hfu hnu
    go_wp2_with fail
    refine (spec_fieldLine F Au cu Tu du fu gu y _ UF3.out HS.out).mono ?_; rintro e w4 ⟨Rw, rw_, lw, rfl, hrw_, hiw, hnw, bl⟩
    have PB4 := Lib.hid (PB3.out.below bl)
    have BB4 := Lib.hid (below_then BB3.out bl)
    clear PB3 BB3 bl
    obtain ⟨n, hnn⟩ : ∃ n, (lineT F y).length = n := ⟨_, rfl⟩
    have HN := Lib.hid hnn
    have n32 : n ≤ 32 := by rw [← hnn]; exact lineT_le F y
    rw [hnn] at hiw hrw_ ⊢
    clear hnn
    have WI4 := Lib.hid (hiw)
    have WN4 := Lib.hid (hnw)
    clear hiw hnw hrw_
    go_wp2_with (first | (refine fsL_load (by rfl) _ rfl w.heap.size rfl PB4.out ?_))
    have hF := HFR.out _ BB4.out
    refine (to_fld F A c T d fa ft _ hF HS.out).mono ?_; rintro e w5 ⟨Ax, cx, Tx, dx, fx, gx, rfl, hcx, hdx, hfx, hnx, bl⟩
    clear hF hcx hdx
    have HX1 := Lib.hid hnx
    have HPL := Lib.hid PB4.out.lt
    have HSZ := Lib.hid bl.size
    have HW := Lib.hid (fun b (hb : b ∈ lw) => (WN4.out.lt b hb).2)
    have PB5 := Lib.hid (PB4.out.below bl)
    have BB5 := Lib.hid (below_then BB4.out bl)
    have WI5 := Lib.hid (WI4.out.below bl)
    have WN5 := Lib.hid (WN4.out.keep (.of_below bl))
    clear PB4 BB4 WI4 WN4 bl
    have XF5 := Lib.hid (hfx)
    have XN5 := Lib.hid (hnx)
    clear hfx hnx
    go_wp2_with fail
    obtain ⟨bx, hbx⟩ : ∃ b, b = w5.heap.size := ⟨_, rfl⟩
    obtain ⟨w6, hw6⟩ : ∃ W, W = w5.alloc (.cells #[.int .i64 F.w, .slice Ax F.xs.length cx, .slice Tx F.nt dx, .int .i64 F.sx, .int .i64 F.sy] 26) := ⟨_, rfl⟩
    have bl : Below w5.heap.size w5 w6 := by rw [hw6]; exact below1 _ _
    have htx : Hid (Box w6 bx 26 [.int .i64 F.w, .slice Ax F.xs.length cx, .slice Tx F.nt dx, .int .i64 F.sx, .int .i64 F.sy]) := by rw [hw6, hbx]; exact Box.new _ _ _
    rw [← hw6, ← hbx]
    have HQx := Lib.hid hbx
    clear hw6 hbx
    have PB6 := Lib.hid (PB5.out.below bl)
    have BB6 := Lib.hid (below_then BB5.out bl)
    have WI6 := Lib.hid (WI5.out.below bl)
    have WN6 := Lib.hid (WN5.out.keep (.of_below bl))
    have XF6 := Lib.hid (XF5.out.below bl)
    have XN6 := Lib.hid (XN5.out.keep (.of_below bl))
    clear PB5 BB5 WI5 WN5 XF5 XN5 bl
    have XB6 := Lib.hid (htx.out)
    clear htx
    have HXL := Lib.hid (fun b (hb : b ∈ fx ++ gx) => (XN6.out.lt b hb).2)
    go_wp2_with (first | (refine fsL_load (by rfl) _ rfl w.heap.size rfl PB6.out ?_) | (refine fs_load (by rfl) _ rfl bx rfl XB6.out ?_))
    refine (im_fieldLine F Ax cx Tx dx fx gx y _ XF6.out HS.out).mono ?_; rintro e w7 ⟨Rg, rg, lg, rfl, hrg, hig, hng, bl⟩
    have HLL : Hid (w4.heap.size ≤ w6.heap.size) := Lib.hid (by have h1 := HSZ.out; have h2 := HQx.out; have h3 := XB6.out.lt; omega)
    have HGL := Lib.hid (fun b (hb : b ∈ lg) => (hng.lt b hb).1)
    rw [HN.out] at hig hrg ⊢
    have PB7 := Lib.hid (PB6.out.below bl)
    have BB7 := Lib.hid (below_then BB6.out bl)
    have WI7 := Lib.hid (WI6.out.below bl)
    have WN7 := Lib.hid (WN6.out.keep (.of_below bl))
    have XF7 := Lib.hid (XF6.out.below bl)
    have XN7 := Lib.hid (XN6.out.keep (.of_below bl))
    have XB7 := Lib.hid (XB6.out.below bl)
    clear PB6 BB6 WI6 WN6 XF6 XN6 XB6 bl
    have GI7 := Lib.hid (hig)
    have GN7 := Lib.hid (hng)
    clear hig hng hrg
    go_wp2_with fail
    refine (eq_ints Rg Rw n rg rw_ (lineT F y) lg lw _ GI7.out WI7.out (by omega)).mono ?_; rintro e w8 ⟨rfl, q, hq⟩
    have bl : Below w7.heap.size w7 w8 := by rw [hq]; exact below_drewN (Below.refl _ _) _
    clear hq
    have PB8 := Lib.hid (PB7.out.below bl)
    have BB8 := Lib.hid (below_then BB7.out bl)
    have WI8 := Lib.hid (WI7.out.below bl)
    have WN8 := Lib.hid (WN7.out.keep (.of_below bl))
    have XF8 := Lib.hid (XF7.out.below bl)
    have XN8 := Lib.hid (XN7.out.keep (.of_below bl))
    have XB8 := Lib.hid (XB7.out.below bl)
    have GI8 := Lib.hid (GI7.out.below bl)
    have GN8 := Lib.hid (GN7.out.keep (.of_below bl))
    clear PB7 BB7 WI7 WN7 XF7 XN7 XB7 GI7 GN7 bl
    go_wp2_with fail
    refine wp_region_typed (ClB w8) RlB (Ty [TV (fv F Ax cx Tx dx), TV (fv F A c T d), TFld w8.heap.size F, TV (.bool true), TV (.bool false)])
      (by kernel_rfl) (by kernel_rfl) (stab_ty _ ⟨stabB_k _, stabB_k _, stabB_fld _ _, stabB_k _, stabB_k _, trivial⟩) (Below.refl _ _).drew ?_ ?_
    · refine ⟨?_, ?_, ?_, ?_, ?_, trivial⟩
      · exact lb_fld (.tmp 7) bx rfl XB8.out (fun _ _ _ => want_none rfl) fun ρ wx hx hp => ⟨hx 7 rfl, rfl⟩
      · exact lb_fldL (.tmp 2) w.heap.size rfl PB8.out (fun _ _ _ => want_none rfl) fun ρ wx hx hp => ⟨hx 2 rfl, rfl⟩
      · refine lb_call _ _ _ (fun _ _ => by simp [go_sem]) rfl (fun _ _ _ => want_none rfl) fun ρ wx hb hc hp => ?_
        have h0 : ρ (.tmp 32) = fv F A c T d := hp.1 rfl
        refine ⟨#[fv F A c T d], by simp only [List.map_toArray, List.map_cons, List.map_nil, h0], (to_fld F A c T d fa ft wx (HFR.out _ (below_then BB8.out hb)) HS.out).mono ?_⟩
        intro e w' hn
        obtain ⟨v, rfl⟩ := hn.parts
        have hq := fnew_fld hn hb.size
        exact ⟨v, rfl, hq.1, hq.2⟩
      · refine lb_call _ _ _ (fun _ _ => by simp [go_sem]) rfl (fun _ _ _ => want_none rfl) fun ρ wx hb hc hp => ?_
        have h0 : ρ (.tmp 31) = fv F Ax cx Tx dx := hp.1 rfl
        obtain ⟨A2, c2, T2, d2, f2, g2, h1, _, _, hf2, _⟩ : TFld w8.heap.size F (ρ (.tmp 33)) wx := hp.2.1 rfl
        refine ⟨#[fv F Ax cx Tx dx, fv F A2 c2 T2 d2], by simp only [List.map_toArray, List.map_cons, List.map_nil, h0, h1], (eq_fld F Ax A2 cx c2 Tx T2 dx d2 fx gx f2 g2 wx (XF8.out.below hb) hf2 HS.out).mono ?_⟩
        rintro e w' ⟨rfl, b⟩
        exact ⟨_, rfl, b, rfl⟩
      · exact lb_unot (.tmp 34) _ true rfl (fun _ _ _ => want_none rfl) fun ρ wx hp => ⟨hp.1 rfl, rfl⟩
    intro vs w9 hI hF
    obtain ⟨_, _, _, _, h4, _⟩ := hF
    replace h4 : vs 4 = .bool false := h4
    have bl : Below w8.heap.size w8 w9 := hI
    simp only [putAll, Act.put, List.setIfInBounds_toArray, List.set_cons_zero, List.set_cons_succ, h4]
    clear hI h4
    have PB9 := Lib.hid (PB8.out.below bl)
    have BB9 := Lib.hid (below_then BB8.out bl)
    have WI9 := Lib.hid (WI8.out.below bl)
    have WN9 := Lib.hid (WN8.out.keep (.of_below bl))
    have XF9 := Lib.hid (XF8.out.below bl)
    have XN9 := Lib.hid (XN8.out.keep (.of_below bl))
    have XB9 := Lib.hid (XB8.out.below bl)
    have GI9 := Lib.hid (GI8.out.below bl)
    have GN9 := Lib.hid (GN8.out.keep (.of_below bl))
    clear PB8 BB8 WI8 WN8 XF8 XN8 XB8 GI8 GN8 bl
    go_wp2_with (first | (refine fsL_load (by rfl) _ rfl w.heap.size rfl PB9.out ?_) | (refine fs_load (by rfl) _ rfl bx rfl XB9.out ?_))
    have hsm := HS.out
    refine (mark_fld F Ax cx Tx dx 1 fx gx _ XF9.out (XN9.out.mono (Nat.zero_le _)) (by omega) (by omega) (by omega) (by omega)).mono ?_; rintro e w10 ⟨rfl, o, _, _⟩
    have sg : Same lg w9 w10 := .of_only o fun b hb hx => by have h1 := HGL.out b hb; have h2 := HXL.out b hx; omega
    have sw : Same lw w9 w10 := .of_only o fun b hb hx => by have h1 := HW.out b hb; have h2 := (HX1.out.lt b hx).1; omega
    have PB10 := Lib.hid (PB9.out.only o fun hx => by have h1 := PB9.out.lt; have h2 := (HX1.out.lt _ hx).1; have h3 := HPL.out; omega)
    have BB10 := Lib.hid (BB9.out.trans (o.below (fun b hb => by have h2 := (HX1.out.lt b hb).1; have h3 := HPL.out; omega) BB9.out.size))
    have GI10 := Lib.hid (GI9.out.keep sg)
    have GN10 := Lib.hid (GN9.out.keep sg)
    have WI10 := Lib.hid (WI9.out.keep sw)
    clear sg sw o hsm PB9 BB9 GI9 GN9 WI9 WN9 XF9 XN9 XB9
    have hmk : 0 ≤ 1 + (F.xs.length : Int) + ((64 * F.nt : Nat) : Int) := by omega
    generalize 1 + (F.xs.length : Int) + ((64 * F.nt : Nat) : Int) = mk at hmk
    go_wp2_with fail
    refine (eq_ints Rg Rw n rg rw_ (lineT F y) lg lw _ GI10.out WI10.out (by omega)).mono ?_; rintro e w11 ⟨rfl, q, hq⟩
    have bl : Below w10.heap.size w10 w11 := by rw [hq]; exact below_drewN (Below.refl _ _) _
    clear hq
    have PB11 := Lib.hid (PB10.out.below bl)
    have BB11 := Lib.hid (below_then BB10.out bl)
    have GI11 := Lib.hid (GI10.out.below bl)
    have GN11 := Lib.hid (GN10.out.keep (.of_below bl))
    have WI11 := Lib.hid (WI10.out.below bl)
    clear PB10 BB10 GI10 GN10 WI10 bl
    go_wp2_with fail
    refine (mark_ints Rg n rg 1 (lineT F y) lg _ GI11.out (fun b hb o => GN11.out.free b hb o) (by omega) (by omega) (by omega)).mono ?_; rintro e w12 ⟨rfl, o, hig, frg⟩
    have sw : Same lw w11 w12 := .of_only o fun b hb hx => by have h1 := HGL.out b hx; have h2 := HW.out b hb; have h3 := HLL.out; omega
    have PB12 := Lib.hid (PB11.out.only o fun hx => by have h1 := HGL.out _ hx; have h3 := HPL.out; have h4 := HLL.out; omega)
    have BB12 := Lib.hid (BB11.out.trans (o.below (fun b hb => by have h2 := HGL.out b hb; have h3 := HPL.out; have h4 := HLL.out; omega) BB11.out.size))
    have GI12 := Lib.hid hig
    have WI12 := Lib.hid (WI11.out.keep sw)
    clear sw o hig frg PB11 BB11 GI11 GN11 WI11
    have hn1 : 0 ≤ (1 : Int) + n := by omega
    go_wp2_with fail
    refine (held_ints Rg n rg 1 lg _ GI12.out (by omega) (by omega) (by omega)).mono ?_; rintro e w13 ⟨rfl, rfl⟩
    go_wp2_with (first | (refine fsL_load (by rfl) _ rfl w.heap.size rfl PB12.out ?_))
    have hF := HFR.out _ BB12.out
    refine (to_fld F A c T d fa ft _ hF HS.out).mono ?_; rintro e w13 ⟨Av, cv, Tv, dv, fv_, gv, rfl, hcv, hdv, hfv, hnv, bl⟩
    clear hF hcv hdv
    have PB13 := Lib.hid (PB12.out.below bl)
    have BB13 := Lib.hid (below_then BB12.out bl)
    have GI13 := Lib.hid (GI12.out.below bl)
    have WI13 := Lib.hid (WI12.out.below bl)
    clear PB12 BB12 GI12 WI12 bl
    have VF13 := Lib.hid (hfv)
    clear hfv hnv
    go_wp2_with fail
    refine (im_fieldLine F Av cv Tv dv fv_ gv y _ VF13.out HS.out).mono ?_; rintro e w14 ⟨Rh, rh, lh, rfl, hrh, hih, hnh, bl⟩
    rw [HN.out] at hih hrh ⊢
    have PB14 := Lib.hid (PB13.out.below bl)
    have BB14 := Lib.hid (below_then BB13.out bl)
    have GI14 := Lib.hid (GI13.out.below bl)
    have WI14 := Lib.hid (WI13.out.below bl)
    clear PB13 BB13 GI13 WI13 bl
    have HI14 := Lib.hid (hih)
    clear hih hnh hrh
    go_wp2_with fail
    refine (eq_ints Rh Rw n rh rw_ (lineT F y) lh lw _ HI14.out WI14.out (by omega)).mono ?_; rintro e w15 ⟨rfl, q, hq⟩
    have bl : Below w14.heap.size w14 w15 := by rw [hq]; exact below_drewN (Below.refl _ _) _
    clear hq
    have PB15 := Lib.hid (PB14.out.below bl)
    have BB15 := Lib.hid (below_then BB14.out bl)
    have GI15 := Lib.hid (GI14.out.below bl)
    have WI15 := Lib.hid (WI14.out.below bl)
    have HI15 := Lib.hid (HI14.out.below bl)
    clear PB14 BB14 GI14 WI14 HI14 bl
    go_wp2_with fail
    refine (held_ints Rg n rg 1 lg _ GI15.out (by omega) (by omega) (by omega)).mono ?_; rintro e w16 ⟨rfl, rfl⟩
    go_wp2_with fail
    go_ret
    exact ⟨rfl, BB15.out⟩
  · refine (sz_fld_no F.w A F.xs.length c T F.nt d F.sx F.sy 1048576 _ (by omega) (by omega) (by omega) hl hm).mono ?_; rintro e w2 ⟨rfl, bl⟩
    have BB2 := Lib.hid (below_then BB1.out bl)
    clear bl
    go_wp2_with fail
    go_ret
    exact ⟨rfl, BB2.out⟩
end Go.Proofs.Ytacebhncecninaa
