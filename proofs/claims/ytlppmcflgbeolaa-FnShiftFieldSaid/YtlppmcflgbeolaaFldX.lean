/- The exact laws of chapter 10, walked. -/
import Derived.Test.YtlppmcflgbeolaaFldS
import Derived.Test.YtlppmcflgbeolaaFldE
import Derived.Test.YtlppmcflgbeolaaFldI
namespace Go.Proofs.Ytlppmcflgbeolaa
open Go.ChangeShapes Go.WideShapes Go.ChangeAt Go.RowKit
set_option linter.unusedVariables false

theorem fld_infoL : (Try.prog.info? 45).map (·.size) = some 5 := by kernel_rfl
section
variable {ops : Array Oper} {rest : List Oper} {o : Oper} {a : Act} {w : World} {Q : Exit → Act → World → Prop} {W : Int} {A : Option Addr} {n c : Nat} {T : Option Addr} {m d : Nat} {sx sy : Int}
theorem fsL_load {t : TypeId} (hw : Region.wanted o (yielded ops a.tmps) = true) (x : Operand) (ho : o.op = .load 45 x) (b : Nat) (hx : a.eval x = .pointer (some ⟨b, 0, none⟩)) (hb : Box w b t (fcs W A n c T m d sx sy))
    (h : wpList Try.prog ops Q rest (a.put o.dst (fldV W A n c T m d sx sy)) w) : wpList Try.prog ops Q (o :: rest) a w :=
  wpList_step fun K hK => by
    rw [if_pos hw]
    exact wp_load_row _ x ho b hx t (fcs W A n c T m d sx sy).toArray (0, 0) _ hb Try.underlying45 rfl fld_infoL (hK _ _ h)
end
section
variable {ops : Array Oper} {Q : Exit → Act → World → Prop} {T : Nat → Value → World → Prop} {a0 : Act} {w0 : World} {i : Nat} {o : Oper}
theorem lb_fldL (x : Operand) (b : Nat) {t : TypeId} {W : Int} {A : Option Addr} {n c : Nat} {Tt : Option Addr} {m d : Nat} {sx sy : Int} (hop : o.op = .load 45 x) (hb : Box w0 b t (fcs W A n c Tt m d sx sy)) (hw : ∀ (ρ : Operand → Value) w, PreR ops T ρ w o.after.toList → wantV ops (slotR ρ) o = true)
    (h : ∀ (ρ : Operand → Value) w, (∀ n, (ops.toList.all fun o => o.dst != some n) = true → ρ (.tmp n) = a0.eval (.tmp n)) → PreR ops T ρ w o.after.toList → ρ x = .pointer (some ⟨b, 0, none⟩) ∧ T i (dstV o (fldV W A n c Tt m d sx sy)) w) : Ob Try.prog ops Q (ClB w0) RlB T a0 i o :=
  lb_val (fldV W A n c Tt m d sx sy) hw fun ρ w hbl _ hx hp => by
    obtain ⟨h1, h2⟩ := h ρ w hx hp
    refine ⟨?_, h2⟩
    have hl := run_loadVar_row (P := Try.prog) w b t 45 (fcs W A n c Tt m d sx sy).toArray (0, 0) _ (hb.below hbl) Try.underlying45 rfl fld_infoL
    unfold execOp
    simp only [hop, h1, Instr.loadAt, Instr.sureAddr, Sem.run_bind, Sem.run_pure, Result.andThen_ok, hl]
end
theorem shT_le (F : Fld) (dx dy : Int) : (shT F dx dy).xs.length ≤ F.xs.length ∧ (shT F dx dy).nt ≤ F.nt := by
  unfold shT
  split
  · exact ⟨Nat.le_refl _, Nat.le_refl _⟩
  · exact ⟨Nat.zero_le _, Nat.zero_le _⟩
theorem lineT_le (F : Fld) (y : Int) : (lineT F y).length ≤ 32 := by
  unfold lineT
  split
  · rw [lineF_len]; omega
  · simp
set_option maxRecDepth 100000 in
set_option maxHeartbeats 4000000 in
theorem walk_FnExactFieldValid (A : Option Addr) (c : Nat) (T : Option Addr) (d : Nat) (F : Fld) (w : World) (hin : InFld w A T F) : Calls Try.prog 8 #[fv F A c T d] w fun e w' => e = .returned (.bool true) ∧ Below w.heap.size w w' := by
  obtain ⟨hl, hm, fa, ft, hF⟩ := hin
  have PB1 := Lib.hid (Box.new w #[.int .i64 F.w, .slice A F.xs.length c, .slice T F.nt d, .int .i64 F.sx, .int .i64 F.sy] 45)
  have BB1 := Lib.hid (below1 w (.cells #[.int .i64 F.w, .slice A F.xs.length c, .slice T F.nt d, .int .i64 F.sx, .int .i64 F.sy] 45))
  have HFR : Hid (∀ W, Below w.heap.size w W → FHas W A T F fa ft) := Lib.hid fun W h => hF.below h
  clear hF
  go_enter Try.func8, Try.ntmps8
  go_upto_region 2 with (fail)
  generalize w.alloc (.cells #[.int .i64 F.w, .slice A F.xs.length c, .slice T F.nt d, .int .i64 F.sx, .int .i64 F.sy] 45) = w1 at PB1 BB1 ⊢
  go_wp2_with (first | (refine fsL_load (by rfl) _ rfl w.heap.size rfl PB1.out ?_))
  by_cases hsz : (F.xs.length : Int) + F.nt ≤ 1048576
  · have HS : Hid (FSmall F) := Lib.hid ⟨by omega, by omega⟩
    refine (sz_fld_yes F.w A F.xs.length c T F.nt d F.sx F.sy 1048576 _ hsz (by omega)).mono ?_; rintro e w2 ⟨rfl, bl⟩
    have hl0 : 0 ≤ 1048576 - (F.xs.length : Int) - F.nt := by omega
    obtain ⟨lf, hlf⟩ : ∃ lf, 1048576 - (F.xs.length : Int) - F.nt = lf := ⟨_, rfl⟩
    rw [hlf] at hl0 ⊢
    clear hlf
    have PB2 := Lib.hid (PB1.out.below bl)
    have BB2 := Lib.hid (below_then BB1.out bl)
    clear PB1 BB1 bl
    go_wp2_with (first | (refine fsL_load (by rfl) _ rfl w.heap.size rfl PB2.out ?_))
    have hF := HFR.out _ BB2.out
    refine (to_fld F A c T d fa ft _ hF HS.out).mono ?_; rintro e w3 ⟨Au, cu, Tu, du, fu, gu, rfl, hcu, hdu, hfu, hnu, bl⟩
    clear hF hcu hdu
    have PB3 := Lib.hid (PB2.out.below bl)
    have BB3 := Lib.hid (below_then BB2.out bl)
    clear PB2 BB2
    clear bl
    have UF3 := Lib.hid (hfu)
    clear hfu hnu
    go_wp2_with fail
    refine (spec_fieldValid F Au cu Tu du fu gu _ UF3.out HS.out).mono ?_; rintro e w4 ⟨rfl, bl⟩
    have PB4 := Lib.hid (PB3.out.below bl)
    have BB4 := Lib.hid (below_then BB3.out bl)
    clear PB3 BB3 bl
    obtain ⟨V, hV⟩ : ∃ V, fldB F = V := ⟨_, rfl⟩
    rw [hV]
    go_wp2_with (first | (refine fsL_load (by rfl) _ rfl w.heap.size rfl PB4.out ?_))
    have hF := HFR.out _ BB4.out
    refine (to_fld F A c T d fa ft _ hF HS.out).mono ?_; rintro e w5 ⟨Ax, cx, Tx, dx, fx, gx, rfl, hcx, hdx, hfx, hnx, bl⟩
    clear hF hcx hdx
    have PB5 := Lib.hid (PB4.out.below bl)
    have BB5 := Lib.hid (below_then BB4.out bl)
    clear PB4 BB4 bl
    have XF5 := Lib.hid (hfx)
    have XN5 := Lib.hid (hnx)
    clear hfx hnx
    go_wp2_with fail
    obtain ⟨bx, hbx⟩ : ∃ b, b = w5.heap.size := ⟨_, rfl⟩
    obtain ⟨w6, hw6⟩ : ∃ W, W = w5.alloc (.cells #[.int .i64 F.w, .slice Ax F.xs.length cx, .slice Tx F.nt dx, .int .i64 F.sx, .int .i64 F.sy] 26) := ⟨_, rfl⟩
    have bl : Below w5.heap.size w5 w6 := by rw [hw6]; exact below1 _ _
    have htx : Hid (Box w6 bx 26 [.int .i64 F.w, .slice Ax F.xs.length cx, .slice Tx F.nt dx, .int .i64 F.sx, .int .i64 F.sy]) := by rw [hw6, hbx]; exact Box.new _ _ _
    rw [← hw6, ← hbx]
    have HQx := Lib.hid hbx
    clear hw6 hbx
    have PB6 := Lib.hid (PB5.out.below bl)
    have BB6 := Lib.hid (below_then BB5.out bl)
    have XF6 := Lib.hid (XF5.out.below bl)
    have XN6 := Lib.hid (XN5.out.keep (.of_below bl))
    clear PB5 BB5 XF5 XN5 bl
    have XB6 := Lib.hid (htx.out)
    clear htx
    go_wp2_with (first | (refine fsL_load (by rfl) _ rfl w.heap.size rfl PB6.out ?_) | (refine fs_load (by rfl) _ rfl bx rfl XB6.out ?_))
    refine (im_fieldValid F Ax cx Tx dx fx gx _ XF6.out HS.out).mono ?_; rintro e w7 ⟨rfl, bl⟩
    have PB7 := Lib.hid (PB6.out.below bl)
    have BB7 := Lib.hid (below_then BB6.out bl)
    have XF7 := Lib.hid (XF6.out.below bl)
    have XN7 := Lib.hid (XN6.out.keep (.of_below bl))
    have XB7 := Lib.hid (XB6.out.below bl)
    clear PB6 BB6 XF6 XN6 XB6 bl
    rw [hV]
    clear hV
    cases V
    all_goals
      go_wp2_with fail
      refine wp_region_typed (ClB w7) RlB (Ty [TV (fv F Ax cx Tx dx), TV (fv F A c T d), TFld w7.heap.size F, TV (.bool true), TV (.bool false)])
        (by kernel_rfl) (by kernel_rfl) (stab_ty _ ⟨stabB_k _, stabB_k _, stabB_fld _ _, stabB_k _, stabB_k _, trivial⟩) (Below.refl _ _).drew ?_ ?_
      · refine ⟨?_, ?_, ?_, ?_, ?_, trivial⟩
        · exact lb_fld (.tmp 5) bx rfl XB7.out (fun _ _ _ => want_none rfl) fun ρ wx hx hp => ⟨hx 5 rfl, rfl⟩
        · exact lb_fldL (.tmp 1) w.heap.size rfl PB7.out (fun _ _ _ => want_none rfl) fun ρ wx hx hp => ⟨hx 1 rfl, rfl⟩
        · refine lb_call _ _ _ (fun _ _ => by simp [go_sem]) rfl (fun _ _ _ => want_none rfl) fun ρ wx hb hc hp => ?_
          have h0 : ρ (.tmp 23) = fv F A c T d := hp.1 rfl
          refine ⟨#[fv F A c T d], by simp only [List.map_toArray, List.map_cons, List.map_nil, h0], (to_fld F A c T d fa ft wx (HFR.out _ (below_then BB7.out hb)) HS.out).mono ?_⟩
          intro e w' hn
          obtain ⟨v, rfl⟩ := hn.parts
          have hq := fnew_fld hn hb.size
          exact ⟨v, rfl, hq.1, hq.2⟩
        · refine lb_call _ _ _ (fun _ _ => by simp [go_sem]) rfl (fun _ _ _ => want_none rfl) fun ρ wx hb hc hp => ?_
          have h0 : ρ (.tmp 22) = fv F Ax cx Tx dx := hp.1 rfl
          obtain ⟨A2, c2, T2, d2, f2, g2, h1, _, _, hf2, _⟩ : TFld w7.heap.size F (ρ (.tmp 24)) wx := hp.2.1 rfl
          refine ⟨#[fv F Ax cx Tx dx, fv F A2 c2 T2 d2], by simp only [List.map_toArray, List.map_cons, List.map_nil, h0, h1], (eq_fld F Ax A2 cx c2 Tx T2 dx d2 fx gx f2 g2 wx (XF7.out.below hb) hf2 HS.out).mono ?_⟩
          rintro e w' ⟨rfl, b⟩
          exact ⟨_, rfl, b, rfl⟩
        · exact lb_unot (.tmp 25) _ true rfl (fun _ _ _ => want_none rfl) fun ρ wx hp => ⟨hp.1 rfl, rfl⟩
      intro vs w8 hI hF
      obtain ⟨_, _, _, _, h4, _⟩ := hF
      replace h4 : vs 4 = .bool false := h4
      have bl : Below w7.heap.size w7 w8 := hI
      simp only [putAll, Act.put, List.setIfInBounds_toArray, List.set_cons_zero, List.set_cons_succ, h4]
      clear hI h4
      have PB8 := Lib.hid (PB7.out.below bl)
      have BB8 := Lib.hid (below_then BB7.out bl)
      have XF8 := Lib.hid (XF7.out.below bl)
      have XN8 := Lib.hid (XN7.out.keep (.of_below bl))
      have XB8 := Lib.hid (XB7.out.below bl)
      clear PB7 BB7 XF7 XN7 XB7 bl
      go_wp2_with fail
      go_ret
      exact ⟨rfl, BB8.out⟩
  · refine (sz_fld_no F.w A F.xs.length c T F.nt d F.sx F.sy 1048576 _ (by omega) (by omega) (by omega) hl hm).mono ?_; rintro e w2 ⟨rfl, bl⟩
    have BB2 := Lib.hid (below_then BB1.out bl)
    clear bl
    go_wp2_with fail
    go_ret
    exact ⟨rfl, BB2.out⟩
set_option maxRecDepth 100000 in
set_option maxHeartbeats 4000000 in
theorem walk_FnExactFieldPixel (A : Option Addr) (c : Nat) (T : Option Addr) (d : Nat) (F : Fld) (x y : Int) (w : World) (hin : InFld w A T F) : Calls Try.prog 9 #[fv F A c T d, .int .i64 x, .int .i64 y] w fun e w' => e = .returned (.bool true) ∧ Below w.heap.size w w' := by
  obtain ⟨hl, hm, fa, ft, hF⟩ := hin
  have PB1 := Lib.hid (Box.new w #[.int .i64 F.w, .slice A F.xs.length c, .slice T F.nt d, .int .i64 F.sx, .int .i64 F.sy] 45)
  have BB1 := Lib.hid (below1 w (.cells #[.int .i64 F.w, .slice A F.xs.length c, .slice T F.nt d, .int .i64 F.sx, .int .i64 F.sy] 45))
  have HFR : Hid (∀ W, Below w.heap.size w W → FHas W A T F fa ft) := Lib.hid fun W h => hF.below h
  clear hF
  go_enter Try.func9, Try.ntmps9
  go_upto_region 2 with (fail)
  generalize w.alloc (.cells #[.int .i64 F.w, .slice A F.xs.length c, .slice T F.nt d, .int .i64 F.sx, .int .i64 F.sy] 45) = w1 at PB1 BB1 ⊢
  go_wp2_with (first | (refine fsL_load (by rfl) _ rfl w.heap.size rfl PB1.out ?_))
  by_cases hsz : (F.xs.length : Int) + F.nt ≤ 1048576
  · have HS : Hid (FSmall F) := Lib.hid ⟨by omega, by omega⟩
    refine (sz_fld_yes F.w A F.xs.length c T F.nt d F.sx F.sy 1048576 _ hsz (by omega)).mono ?_; rintro e w2 ⟨rfl, bl⟩
    have hl0 : 0 ≤ 1048576 - (F.xs.length : Int) - F.nt := by omega
    obtain ⟨lf, hlf⟩ : ∃ lf, 1048576 - (F.xs.length : Int) - F.nt = lf := ⟨_, rfl⟩
    rw [hlf] at hl0 ⊢
    clear hlf
    have PB2 := Lib.hid (PB1.out.below bl)
    have BB2 := Lib.hid (below_then BB1.out bl)
    clear PB1 BB1 bl
    go_wp2_with (first | (refine fsL_load (by rfl) _ rfl w.heap.size rfl PB2.out ?_))
    have hF := HFR.out _ BB2.out
    refine (to_fld F A c T d fa ft _ hF HS.out).mono ?_; rintro e w3 ⟨Au, cu, Tu, du, fu, gu, rfl, hcu, hdu, hfu, hnu, bl⟩
    clear hF hcu hdu
    have PB3 := Lib.hid (PB2.out.below bl)
    have BB3 := Lib.hid (below_then BB2.out bl)
    clear PB2 BB2
    clear bl
    have UF3 := Lib.hid (hfu)
    clear hfu hnu
    go_wp2_with fail
    refine (spec_fieldPixel F Au cu Tu du fu gu x y _ UF3.out HS.out).mono ?_; rintro e w4 ⟨rfl, bl⟩
    have PB4 := Lib.hid (PB3.out.below bl)
    have BB4 := Lib.hid (below_then BB3.out bl)
    clear PB3 BB3 bl
    obtain ⟨V, hV⟩ : ∃ V, pixT F x y = V := ⟨_, rfl⟩
    rw [hV]
    go_wp2_with (first | (refine fsL_load (by rfl) _ rfl w.heap.size rfl PB4.out ?_))
    have hF := HFR.out _ BB4.out
    refine (to_fld F A c T d fa ft _ hF HS.out).mono ?_; rintro e w5 ⟨Ax, cx, Tx, dx, fx, gx, rfl, hcx, hdx, hfx, hnx, bl⟩
    clear hF hcx hdx
    have PB5 := Lib.hid (PB4.out.below bl)
    have BB5 := Lib.hid (below_then BB4.out bl)
    clear PB4 BB4 bl
    have XF5 := Lib.hid (hfx)
    have XN5 := Lib.hid (hnx)
    clear hfx hnx
    go_wp2_with fail
    obtain ⟨bx, hbx⟩ : ∃ b, b = w5.heap.size := ⟨_, rfl⟩
    obtain ⟨w6, hw6⟩ : ∃ W, W = w5.alloc (.cells #[.int .i64 F.w, .slice Ax F.xs.length cx, .slice Tx F.nt dx, .int .i64 F.sx, .int .i64 F.sy] 26) := ⟨_, rfl⟩
    have bl : Below w5.heap.size w5 w6 := by rw [hw6]; exact below1 _ _
    have htx : Hid (Box w6 bx 26 [.int .i64 F.w, .slice Ax F.xs.length cx, .slice Tx F.nt dx, .int .i64 F.sx, .int .i64 F.sy]) := by rw [hw6, hbx]; exact Box.new _ _ _
    rw [← hw6, ← hbx]
    have HQx := Lib.hid hbx
    clear hw6 hbx
    have PB6 := Lib.hid (PB5.out.below bl)
    have BB6 := Lib.hid (below_then BB5.out bl)
    have XF6 := Lib.hid (XF5.out.below bl)
    have XN6 := Lib.hid (XN5.out.keep (.of_below bl))
    clear PB5 BB5 XF5 XN5 bl
    have XB6 := Lib.hid (htx.out)
    clear htx
    go_wp2_with (first | (refine fsL_load (by rfl) _ rfl w.heap.size rfl PB6.out ?_) | (refine fs_load (by rfl) _ rfl bx rfl XB6.out ?_))
    refine (im_fieldPixel F Ax cx Tx dx fx gx x y _ XF6.out HS.out).mono ?_; rintro e w7 ⟨rfl, bl⟩
    have PB7 := Lib.hid (PB6.out.below bl)
    have BB7 := Lib.hid (below_then BB6.out bl)
    have XF7 := Lib.hid (XF6.out.below bl)
    have XN7 := Lib.hid (XN6.out.keep (.of_below bl))
    have XB7 := Lib.hid (XB6.out.below bl)
    clear PB6 BB6 XF6 XN6 XB6 bl
    rw [hV]
    clear hV
    go_wp2_with fail
    refine wp_region_typed (ClB w7) RlB (Ty [TV (fv F Ax cx Tx dx), TV (fv F A c T d), TFld w7.heap.size F, TV (.bool true), TV (.bool false)])
      (by kernel_rfl) (by kernel_rfl) (stab_ty _ ⟨stabB_k _, stabB_k _, stabB_fld _ _, stabB_k _, stabB_k _, trivial⟩) (Below.refl _ _).drew ?_ ?_
    · refine ⟨?_, ?_, ?_, ?_, ?_, trivial⟩
      · exact lb_fld (.tmp 9) bx rfl XB7.out (fun _ _ _ => want_none rfl) fun ρ wx hx hp => ⟨hx 9 rfl, rfl⟩
      · exact lb_fldL (.tmp 3) w.heap.size rfl PB7.out (fun _ _ _ => want_none rfl) fun ρ wx hx hp => ⟨hx 3 rfl, rfl⟩
      · refine lb_call _ _ _ (fun _ _ => by simp [go_sem]) rfl (fun _ _ _ => want_none rfl) fun ρ wx hb hc hp => ?_
        have h0 : ρ (.tmp 31) = fv F A c T d := hp.1 rfl
        refine ⟨#[fv F A c T d], by simp only [List.map_toArray, List.map_cons, List.map_nil, h0], (to_fld F A c T d fa ft wx (HFR.out _ (below_then BB7.out hb)) HS.out).mono ?_⟩
        intro e w' hn
        obtain ⟨v, rfl⟩ := hn.parts
        have hq := fnew_fld hn hb.size
        exact ⟨v, rfl, hq.1, hq.2⟩
      · refine lb_call _ _ _ (fun _ _ => by simp [go_sem]) rfl (fun _ _ _ => want_none rfl) fun ρ wx hb hc hp => ?_
        have h0 : ρ (.tmp 30) = fv F Ax cx Tx dx := hp.1 rfl
        obtain ⟨A2, c2, T2, d2, f2, g2, h1, _, _, hf2, _⟩ : TFld w7.heap.size F (ρ (.tmp 32)) wx := hp.2.1 rfl
        refine ⟨#[fv F Ax cx Tx dx, fv F A2 c2 T2 d2], by simp only [List.map_toArray, List.map_cons, List.map_nil, h0, h1], (eq_fld F Ax A2 cx c2 Tx T2 dx d2 fx gx f2 g2 wx (XF7.out.below hb) hf2 HS.out).mono ?_⟩
        rintro e w' ⟨rfl, b⟩
        exact ⟨_, rfl, b, rfl⟩
      · exact lb_unot (.tmp 33) _ true rfl (fun _ _ _ => want_none rfl) fun ρ wx hp => ⟨hp.1 rfl, rfl⟩
    intro vs w8 hI hF
    obtain ⟨_, _, _, _, h4, _⟩ := hF
    replace h4 : vs 4 = .bool false := h4
    have bl : Below w7.heap.size w7 w8 := hI
    simp only [putAll, Act.put, List.setIfInBounds_toArray, List.set_cons_zero, List.set_cons_succ, h4]
    clear hI h4
    have PB8 := Lib.hid (PB7.out.below bl)
    have BB8 := Lib.hid (below_then BB7.out bl)
    have XF8 := Lib.hid (XF7.out.below bl)
    have XN8 := Lib.hid (XN7.out.keep (.of_below bl))
    have XB8 := Lib.hid (XB7.out.below bl)
    clear PB7 BB7 XF7 XN7 XB7 bl
    go_wp2_with fail
    go_ret
    exact ⟨rfl, BB8.out⟩
  · refine (sz_fld_no F.w A F.xs.length c T F.nt d F.sx F.sy 1048576 _ (by omega) (by omega) (by omega) hl hm).mono ?_; rintro e w2 ⟨rfl, bl⟩
    have BB2 := Lib.hid (below_then BB1.out bl)
    clear bl
    go_wp2_with fail
    go_ret
    exact ⟨rfl, BB2.out⟩
set_option maxRecDepth 100000 in
set_option maxHeartbeats 4000000 in
theorem walk_FnExactFieldLine (A : Option Addr) (c : Nat) (T : Option Addr) (d : Nat) (F : Fld) (y : Int) (w : World) (hin : InFld w A T F) : Calls Try.prog 10 #[fv F A c T d, .int .i64 y] w fun e w' => e = .returned (.bool true) ∧ Below w.heap.size w w' := by
  obtain ⟨hl, hm, fa, ft, hF⟩ := hin
  have PB1 := Lib.hid (Box.new w #[.int .i64 F.w, .slice A F.xs.length c, .slice T F.nt d, .int .i64 F.sx, .int .i64 F.sy] 45)
  have BB1 := Lib.hid (below1 w (.cells #[.int .i64 F.w, .slice A F.xs.length c, .slice T F.nt d, .int .i64 F.sx, .int .i64 F.sy] 45))
  have HFR : Hid (∀ W, Below w.heap.size w W → FHas W A T F fa ft) := Lib.hid fun W h => hF.below h
  clear hF
  go_enter Try.func10, Try.ntmps10
  go_upto_region 2 with (fail)
  generalize w.alloc (.cells #[.int .i64 F.w, .slice A F.xs.length c, .slice T F.nt d, .int .i64 F.sx, .int .i64 F.sy] 45) = w1 at PB1 BB1 ⊢
  go_wp2_with (first | (refine fsL_load (by rfl) _ rfl w.heap.size rfl PB1.out ?_))
  by_cases hsz : (F.xs.length : Int) + F.nt ≤ 1048576
  · have HS : Hid (FSmall F) := Lib.hid ⟨by omega, by omega⟩
    refine (sz_fld_yes F.w A F.xs.length c T F.nt d F.sx F.sy 1048576 _ hsz (by omega)).mono ?_; rintro e w2 ⟨rfl, bl⟩
    have hl0 : 0 ≤ 1048576 - (F.xs.length : Int) - F.nt := by omega
    obtain ⟨lf, hlf⟩ : ∃ lf, 1048576 - (F.xs.length : Int) - F.nt = lf := ⟨_, rfl⟩
    rw [hlf] at hl0 ⊢
    clear hlf
    have PB2 := Lib.hid (PB1.out.below bl)
    have BB2 := Lib.hid (below_then BB1.out bl)
    clear PB1 BB1 bl
    go_wp2_with (first | (refine fsL_load (by rfl) _ rfl w.heap.size rfl PB2.out ?_))
    have hF := HFR.out _ BB2.out
    refine (to_fld F A c T d fa ft _ hF HS.out).mono ?_; rintro e w3 ⟨Au, cu, Tu, du, fu, gu, rfl, hcu, hdu, hfu, hnu, bl⟩
    clear hF hcu hdu
    have PB3 := Lib.hid (PB2.out.below bl)
    have BB3 := Lib.hid (below_then BB2.out bl)
    clear PB2 BB2 bl
    have UF3 := Lib.hid (hfu)
    clear hfu hnu
    go_wp2_with fail
    refine (spec_fieldLine F Au cu Tu du fu gu y _ UF3.out HS.out).mono ?_; rintro e w4 ⟨Rw, rw_, lw, rfl, hrw_, hiw, hnw, bl⟩
    have PB4 := Lib.hid (PB3.out.below bl)
    have BB4 := Lib.hid (below_then BB3.out bl)
    clear PB3 BB3 bl
    obtain ⟨n, hnn⟩ : ∃ n, (lineT F y).length = n := ⟨_, rfl⟩
    have HN := Lib.hid hnn
    have n32 : n ≤ 32 := by rw [← hnn]; exact lineT_le F y
    rw [hnn] at hiw hrw_ ⊢
    clear hnn
    have WI4 := Lib.hid (hiw)
    have WN4 := Lib.hid (hnw)
    clear hiw hnw hrw_
    go_wp2_with (first | (refine fsL_load (by rfl) _ rfl w.heap.size rfl PB4.out ?_))
    have hF := HFR.out _ BB4.out
    refine (to_fld F A c T d fa ft _ hF HS.out).mono ?_; rintro e w5 ⟨Ax, cx, Tx, dx, fx, gx, rfl, hcx, hdx, hfx, hnx, bl⟩
    clear hF hcx hdx
    have HX1 := Lib.hid hnx
    have HPL := Lib.hid PB4.out.lt
    have HSZ := Lib.hid bl.size
    have HW := Lib.hid (fun b (hb : b ∈ lw) => (WN4.out.lt b hb).2)
    have PB5 := Lib.hid (PB4.out.below bl)
    have BB5 := Lib.hid (below_then BB4.out bl)
    have WI5 := Lib.hid (WI4.out.below bl)
    have WN5 := Lib.hid (WN4.out.keep (.of_below bl))
    clear PB4 BB4 WI4 WN4 bl
    have XF5 := Lib.hid (hfx)
    have XN5 := Lib.hid (hnx)
    clear hfx hnx
    go_wp2_with fail
    obtain ⟨bx, hbx⟩ : ∃ b, b = w5.heap.size := ⟨_, rfl⟩
    obtain ⟨w6, hw6⟩ : ∃ W, W = w5.alloc (.cells #[.int .i64 F.w, .slice Ax F.xs.length cx, .slice Tx F.nt dx, .int .i64 F.sx, .int .i64 F.sy] 26) := ⟨_, rfl⟩
    have bl : Below w5.heap.size w5 w6 := by rw [hw6]; exact below1 _ _
    have htx : Hid (Box w6 bx 26 [.int .i64 F.w, .slice Ax F.xs.length cx, .slice Tx F.nt dx, .int .i64 F.sx, .int .i64 F.sy]) := by rw [hw6, hbx]; exact Box.new _ _ _
    rw [← hw6, ← hbx]
    have HQx := Lib.hid hbx
    clear hw6 hbx
    have PB6 := Lib.hid (PB5.out.below bl)
    have BB6 := Lib.hid (below_then BB5.out bl)
    have WI6 := Lib.hid (WI5.out.below bl)
    have WN6 := Lib.hid (WN5.out.keep (.of_below bl))
    have XF6 := Lib.hid (XF5.out.below bl)
    have XN6 := Lib.hid (XN5.out.keep (.of_below bl))
    clear PB5 BB5 WI5 WN5 XF5 XN5 bl
    have XB6 := Lib.hid (htx.out)
    clear htx
    have HXL := Lib.hid (fun b (hb : b ∈ fx ++ gx) => (XN6.out.lt b hb).2)
    go_wp2_with (first | (refine fsL_load (by rfl) _ rfl w.heap.size rfl PB6.out ?_) | (refine fs_load (by rfl) _ rfl bx rfl XB6.out ?_))
    refine (im_fieldLine F Ax cx Tx dx fx gx y _ XF6.out HS.out).mono ?_; rintro e w7 ⟨Rg, rg, lg, rfl, hrg, hig, hng, bl⟩
    have HLL : Hid (w4.heap.size ≤ w6.heap.size) := Lib.hid (by have h1 := HSZ.out; have h2 := HQx.out; have h3 := XB6.out.lt; omega)
    have HGL := Lib.hid (fun b (hb : b ∈ lg) => (hng.lt b hb).1)
    rw [HN.out] at hig hrg ⊢
    have PB7 := Lib.hid (PB6.out.below bl)
    have BB7 := Lib.hid (below_then BB6.out bl)
    have WI7 := Lib.hid (WI6.out.below bl)
    have WN7 := Lib.hid (WN6.out.keep (.of_below bl))
    have XF7 := Lib.hid (XF6.out.below bl)
    have XN7 := Lib.hid (XN6.out.keep (.of_below bl))
    have XB7 := Lib.hid (XB6.out.below bl)
    clear PB6 BB6 WI6 WN6 XF6 XN6 XB6 bl
    have GI7 := Lib.hid (hig)
    have GN7 := Lib.hid (hng)
    clear hig hng hrg
    go_wp2_with fail
    refine (eq_ints Rg Rw n rg rw_ (lineT F y) lg lw _ GI7.out WI7.out (by omega)).mono ?_; rintro e w8 ⟨rfl, q, hq⟩
    have bl : Below w7.heap.size w7 w8 := by rw [hq]; exact below_drewN (Below.refl _ _) _
    clear hq
    have PB8 := Lib.hid (PB7.out.below bl)
    have BB8 := Lib.hid (below_then BB7.out bl)
    have WI8 := Lib.hid (WI7.out.below bl)
    have WN8 := Lib.hid (WN7.out.keep (.of_below bl))
    have XF8 := Lib.hid (XF7.out.below bl)
    have XN8 := Lib.hid (XN7.out.keep (.of_below bl))
    have XB8 := Lib.hid (XB7.out.below bl)
    have GI8 := Lib.hid (GI7.out.below bl)
    have GN8 := Lib.hid (GN7.out.keep (.of_below bl))
    clear PB7 BB7 WI7 WN7 XF7 XN7 XB7 GI7 GN7 bl
    go_wp2_with fail
    refine wp_region_typed (ClB w8) RlB (Ty [TV (fv F Ax cx Tx dx), TV (fv F A c T d), TFld w8.heap.size F, TV (.bool true), TV (.bool false)])
      (by kernel_rfl) (by kernel_rfl) (stab_ty _ ⟨stabB_k _, stabB_k _, stabB_fld _ _, stabB_k _, stabB_k _, trivial⟩) (Below.refl _ _).drew ?_ ?_
    · refine ⟨?_, ?_, ?_, ?_, ?_, trivial⟩
      · exact lb_fld (.tmp 7) bx rfl XB8.out (fun _ _ _ => want_none rfl) fun ρ wx hx hp => ⟨hx 7 rfl, rfl⟩
      · exact lb_fldL (.tmp 2) w.heap.size rfl PB8.out (fun _ _ _ => want_none rfl) fun ρ wx hx hp => ⟨hx 2 rfl, rfl⟩
      · refine lb_call _ _ _ (fun _ _ => by simp [go_sem]) rfl (fun _ _ _ => want_none rfl) fun ρ wx hb hc hp => ?_
        have h0 : ρ (.tmp 32) = fv F A c T d := hp.1 rfl
        refine ⟨#[fv F A c T d], by simp only [List.map_toArray, List.map_cons, List.map_nil, h0], (to_fld F A c T d fa ft wx (HFR.out _ (below_then BB8.out hb)) HS.out).mono ?_⟩
        intro e w' hn
        obtain ⟨v, rfl⟩ := hn.parts
        have hq := fnew_fld hn hb.size
        exact ⟨v, rfl, hq.1, hq.2⟩
      · refine lb_call _ _ _ (fun _ _ => by simp [go_sem]) rfl (fun _ _ _ => want_none rfl) fun ρ wx hb hc hp => ?_
        have h0 : ρ (.tmp 31) = fv F Ax cx Tx dx := hp.1 rfl
        obtain ⟨A2, c2, T2, d2, f2, g2, h1, _, _, hf2, _⟩ : TFld w8.heap.size F (ρ (.tmp 33)) wx := hp.2.1 rfl
        refine ⟨#[fv F Ax cx Tx dx, fv F A2 c2 T2 d2], by simp only [List.map_toArray, List.map_cons, List.map_nil, h0, h1], (eq_fld F Ax A2 cx c2 Tx T2 dx d2 fx gx f2 g2 wx (XF8.out.below hb) hf2 HS.out).mono ?_⟩
        rintro e w' ⟨rfl, b⟩
        exact ⟨_, rfl, b, rfl⟩
      · exact lb_unot (.tmp 34) _ true rfl (fun _ _ _ => want_none rfl) fun ρ wx hp => ⟨hp.1 rfl, rfl⟩
    intro vs w9 hI hF
    obtain ⟨_, _, _, _, h4, _⟩ := hF
    replace h4 : vs 4 = .bool false := h4
    have bl : Below w8.heap.size w8 w9 := hI
    simp only [putAll, Act.put, List.setIfInBounds_toArray, List.set_cons_zero, List.set_cons_succ, h4]
    clear hI h4
    have PB9 := Lib.hid (PB8.out.below bl)
    have BB9 := Lib.hid (below_then BB8.out bl)
    have WI9 := Lib.hid (WI8.out.below bl)
    have WN9 := Lib.hid (WN8.out.keep (.of_below bl))
    have XF9 := Lib.hid (XF8.out.below bl)
    have XN9 := Lib.hid (XN8.out.keep (.of_below bl))
    have XB9 := Lib.hid (XB8.out.below bl)
    have GI9 := Lib.hid (GI8.out.below bl)
    have GN9 := Lib.hid (GN8.out.keep (.of_below bl))
    clear PB8 BB8 WI8 WN8 XF8 XN8 XB8 GI8 GN8 bl
    go_wp2_with (first | (refine fsL_load (by rfl) _ rfl w.heap.size rfl PB9.out ?_) | (refine fs_load (by rfl) _ rfl bx rfl XB9.out ?_))
    have hsm := HS.out
    refine (mark_fld F Ax cx Tx dx 1 fx gx _ XF9.out (XN9.out.mono (Nat.zero_le _)) (by omega) (by omega) (by omega) (by omega)).mono ?_; rintro e w10 ⟨rfl, o, _, _⟩
    have sg : Same lg w9 w10 := .of_only o fun b hb hx => by have h1 := HGL.out b hb; have h2 := HXL.out b hx; omega
    have sw : Same lw w9 w10 := .of_only o fun b hb hx => by have h1 := HW.out b hb; have h2 := (HX1.out.lt b hx).1; omega
    have PB10 := Lib.hid (PB9.out.only o fun hx => by have h1 := PB9.out.lt; have h2 := (HX1.out.lt _ hx).1; have h3 := HPL.out; omega)
    have BB10 := Lib.hid (BB9.out.trans (o.below (fun b hb => by have h2 := (HX1.out.lt b hb).1; have h3 := HPL.out; omega) BB9.out.size))
    have GI10 := Lib.hid (GI9.out.keep sg)
    have GN10 := Lib.hid (GN9.out.keep sg)
    have WI10 := Lib.hid (WI9.out.keep sw)
    clear sg sw o hsm PB9 BB9 GI9 GN9 WI9 WN9 XF9 XN9 XB9
    have hmk : 0 ≤ 1 + (F.xs.length : Int) + ((64 * F.nt : Nat) : Int) := by omega
    generalize 1 + (F.xs.length : Int) + ((64 * F.nt : Nat) : Int) = mk at hmk
    go_wp2_with fail
    refine (eq_ints Rg Rw n rg rw_ (lineT F y) lg lw _ GI10.out WI10.out (by omega)).mono ?_; rintro e w11 ⟨rfl, q, hq⟩
    have bl : Below w10.heap.size w10 w11 := by rw [hq]; exact below_drewN (Below.refl _ _) _
    clear hq
    have PB11 := Lib.hid (PB10.out.below bl)
    have BB11 := Lib.hid (below_then BB10.out bl)
    have GI11 := Lib.hid (GI10.out.below bl)
    have GN11 := Lib.hid (GN10.out.keep (.of_below bl))
    have WI11 := Lib.hid (WI10.out.below bl)
    clear PB10 BB10 GI10 GN10 WI10 bl
    go_wp2_with fail
    refine (mark_ints Rg n rg 1 (lineT F y) lg _ GI11.out (fun b hb o => GN11.out.free b hb o) (by omega) (by omega) (by omega)).mono ?_; rintro e w12 ⟨rfl, o, hig, frg⟩
    have sw : Same lw w11 w12 := .of_only o fun b hb hx => by have h1 := HGL.out b hx; have h2 := HW.out b hb; have h3 := HLL.out; omega
    have PB12 := Lib.hid (PB11.out.only o fun hx => by have h1 := HGL.out _ hx; have h3 := HPL.out; have h4 := HLL.out; omega)
    have BB12 := Lib.hid (BB11.out.trans (o.below (fun b hb => by have h2 := HGL.out b hb; have h3 := HPL.out; have h4 := HLL.out; omega) BB11.out.size))
    have GI12 := Lib.hid hig
    have WI12 := Lib.hid (WI11.out.keep sw)
    clear sw o hig frg PB11 BB11 GI11 GN11 WI11
    have hn1 : 0 ≤ (1 : Int) + n := by omega
    go_wp2_with fail
    refine (held_ints Rg n rg 1 lg _ GI12.out (by omega) (by omega) (by omega)).mono ?_; rintro e w13 ⟨rfl, rfl⟩
    go_wp2_with (first | (refine fsL_load (by rfl) _ rfl w.heap.size rfl PB12.out ?_))
    have hF := HFR.out _ BB12.out
    refine (to_fld F A c T d fa ft _ hF HS.out).mono ?_; rintro e w13 ⟨Av, cv, Tv, dv, fv_, gv, rfl, hcv, hdv, hfv, hnv, bl⟩
    clear hF hcv hdv
    have PB13 := Lib.hid (PB12.out.below bl)
    have BB13 := Lib.hid (below_then BB12.out bl)
    have GI13 := Lib.hid (GI12.out.below bl)
    have WI13 := Lib.hid (WI12.out.below bl)
    clear PB12 BB12 GI12 WI12 bl
    have VF13 := Lib.hid (hfv)
    clear hfv hnv
    go_wp2_with fail
    refine (im_fieldLine F Av cv Tv dv fv_ gv y _ VF13.out HS.out).mono ?_; rintro e w14 ⟨Rh, rh, lh, rfl, hrh, hih, hnh, bl⟩
    rw [HN.out] at hih hrh ⊢
    have PB14 := Lib.hid (PB13.out.below bl)
    have BB14 := Lib.hid (below_then BB13.out bl)
    have GI14 := Lib.hid (GI13.out.below bl)
    have WI14 := Lib.hid (WI13.out.below bl)
    clear PB13 BB13 GI13 WI13 bl
    have HI14 := Lib.hid (hih)
    clear hih hnh hrh
    go_wp2_with fail
    refine (eq_ints Rh Rw n rh rw_ (lineT F y) lh lw _ HI14.out WI14.out (by omega)).mono ?_; rintro e w15 ⟨rfl, q, hq⟩
    have bl : Below w14.heap.size w14 w15 := by rw [hq]; exact below_drewN (Below.refl _ _) _
    clear hq
    have PB15 := Lib.hid (PB14.out.below bl)
    have BB15 := Lib.hid (below_then BB14.out bl)
    have GI15 := Lib.hid (GI14.out.below bl)
    have WI15 := Lib.hid (WI14.out.below bl)
    have HI15 := Lib.hid (HI14.out.below bl)
    clear PB14 BB14 GI14 WI14 HI14 bl
    go_wp2_with fail
    refine (held_ints Rg n rg 1 lg _ GI15.out (by omega) (by omega) (by omega)).mono ?_; rintro e w16 ⟨rfl, rfl⟩
    go_wp2_with fail
    go_ret
    exact ⟨rfl, BB15.out⟩
  · refine (sz_fld_no F.w A F.xs.length c T F.nt d F.sx F.sy 1048576 _ (by omega) (by omega) (by omega) hl hm).mono ?_; rintro e w2 ⟨rfl, bl⟩
    have BB2 := Lib.hid (below_then BB1.out bl)
    clear bl
    go_wp2_with fail
    go_ret
    exact ⟨rfl, BB2.out⟩
set_option maxRecDepth 100000 in
set_option maxHeartbeats 4000000 in
theorem walk_FnExactShiftField (A : Option Addr) (c : Nat) (T : Option Addr) (d : Nat) (F : Fld) (dx dy : Int) (w : World) (hin : InFld w A T F) : Calls Try.prog 11 #[fv F A c T d, .int .i64 dx, .int .i64 dy] w fun e w' => e = .returned (.bool true) ∧ Below w.heap.size w w' := by
  obtain ⟨hl, hm, fa, ft, hF⟩ := hin
  have PB1 := Lib.hid (Box.new w #[.int .i64 F.w, .slice A F.xs.length c, .slice T F.nt d, .int .i64 F.sx, .int .i64 F.sy] 45)
  have BB1 := Lib.hid (below1 w (.cells #[.int .i64 F.w, .slice A F.xs.length c, .slice T F.nt d, .int .i64 F.sx, .int .i64 F.sy] 45))
  have HFR : Hid (∀ W, Below w.heap.size w W → FHas W A T F fa ft) := Lib.hid fun W h => hF.below h
  clear hF
  go_enter Try.func11, Try.ntmps11
  go_upto_region 2 with (fail)
  generalize w.alloc (.cells #[.int .i64 F.w, .slice A F.xs.length c, .slice T F.nt d, .int .i64 F.sx, .int .i64 F.sy] 45) = w1 at PB1 BB1 ⊢
  go_wp2_with (first | (refine fsL_load (by rfl) _ rfl w.heap.size rfl PB1.out ?_))
  by_cases hsz : (F.xs.length : Int) + F.nt ≤ 1048576
  · have HS : Hid (FSmall F) := Lib.hid ⟨by omega, by omega⟩
    refine (sz_fld_yes F.w A F.xs.length c T F.nt d F.sx F.sy 1048576 _ hsz (by omega)).mono ?_; rintro e w2 ⟨rfl, bl⟩
    have hl0 : 0 ≤ 1048576 - (F.xs.length : Int) - F.nt := by omega
    obtain ⟨lf, hlf⟩ : ∃ lf, 1048576 - (F.xs.length : Int) - F.nt = lf := ⟨_, rfl⟩
    rw [hlf] at hl0 ⊢
    clear hlf
    have PB2 := Lib.hid (PB1.out.below bl)
    have BB2 := Lib.hid (below_then BB1.out bl)
    clear PB1 BB1 bl
    obtain ⟨G, hG⟩ : ∃ G, shT F dx dy = G := ⟨_, rfl⟩
    have HGE := Lib.hid hG
    have hgs : G.xs.length ≤ 1048576 ∧ G.nt ≤ 1048576 := by rw [← hG]; have := shT_le F dx dy; omega
    have HGS : Hid (FSmall G) := Lib.hid ⟨by omega, by omega⟩
    have HG1 := Lib.hid hgs
    clear hG hgs
    go_wp2_with (first | (refine fsL_load (by rfl) _ rfl w.heap.size rfl PB2.out ?_))
    have hF := HFR.out _ BB2.out
    refine (to_fld F A c T d fa ft _ hF HS.out).mono ?_; rintro e w3 ⟨Au, cu, Tu, du, fu, gu, rfl, hcu, hdu, hfu, hnu, bl⟩
    clear hF hcu hdu
    have PB3 := Lib.hid (PB2.out.below bl)
    have BB3 := Lib.hid (below_then BB2.out bl)
    clear PB2 BB2 bl
    have UF3 := Lib.hid (hfu)
    clear hfu hnu
    go_wp2_with fail
    refine (spec_shiftField F Au cu Tu du fu gu dx dy _ UF3.out HS.out).mono ?_; rw [HGE.out]; rintro e w4 ⟨Aw, cw, Tw, dw, fw, gw, rfl, hcw, hdw, hfw, hnw, bl⟩
    clear hcw hdw
    have PB4 := Lib.hid (PB3.out.below bl)
    have BB4 := Lib.hid (below_then BB3.out bl)
    clear PB3 BB3 bl
    have WF4 := Lib.hid (hfw)
    have WN4 := Lib.hid (hnw)
    clear hfw hnw
    go_upto_region 6 with (fail)
    obtain ⟨bw, hbw⟩ : ∃ b, b = w4.heap.size := ⟨_, rfl⟩
    obtain ⟨w5, hw5⟩ : ∃ W, W = w4.alloc (.cells #[.int .i64 G.w, .slice Aw G.xs.length cw, .slice Tw G.nt dw, .int .i64 G.sx, .int .i64 G.sy] 26) := ⟨_, rfl⟩
    have bl : Below w4.heap.size w4 w5 := by rw [hw5]; exact below1 _ _
    have htw : Hid (Box w5 bw 26 [.int .i64 G.w, .slice Aw G.xs.length cw, .slice Tw G.nt dw, .int .i64 G.sx, .int .i64 G.sy]) := by rw [hw5, hbw]; exact Box.new _ _ _
    rw [← hw5, ← hbw]
    have HQw := Lib.hid hbw
    clear hw5 hbw
    have PB5 := Lib.hid (PB4.out.below bl)
    have BB5 := Lib.hid (below_then BB4.out bl)
    have WF5 := Lib.hid (WF4.out.below bl)
    have WN5 := Lib.hid (WN4.out.keep (.of_below bl))
    clear PB4 BB4 WF4 WN4 bl
    have WB5 := Lib.hid (htw.out)
    clear htw
    go_wp2_with (first | (refine fsL_load (by rfl) _ rfl w.heap.size rfl PB5.out ?_) | (refine fs_load (by rfl) _ rfl bw rfl WB5.out ?_))
    have hF := HFR.out _ BB5.out
    refine (to_fld F A c T d fa ft _ hF HS.out).mono ?_; rintro e w6 ⟨Ax, cx, Tx, dx_, fx, gx, rfl, hcx, hdx, hfx, hnx, bl⟩
    clear hF hcx hdx
    have HX1 := Lib.hid hnx
    have HPL := Lib.hid PB5.out.lt
    have HWL := Lib.hid WB5.out.lt
    have HSX := Lib.hid bl.size
    have HW := Lib.hid (fun b (hb : b ∈ fw ++ gw) => (WN5.out.lt b hb).2)
    have PB6 := Lib.hid (PB5.out.below bl)
    have BB6 := Lib.hid (below_then BB5.out bl)
    have WF6 := Lib.hid (WF5.out.below bl)
    have WN6 := Lib.hid (WN5.out.keep (.of_below bl))
    have WB6 := Lib.hid (WB5.out.below bl)
    clear PB5 BB5 WF5 WN5 WB5 bl
    have XF6 := Lib.hid (hfx)
    have XN6 := Lib.hid (hnx)
    clear hfx hnx
    go_wp2_with fail
    obtain ⟨bx, hbx⟩ : ∃ b, b = w6.heap.size := ⟨_, rfl⟩
    obtain ⟨w7, hw7⟩ : ∃ W, W = w6.alloc (.cells #[.int .i64 F.w, .slice Ax F.xs.length cx, .slice Tx F.nt dx_, .int .i64 F.sx, .int .i64 F.sy] 26) := ⟨_, rfl⟩
    have bl : Below w6.heap.size w6 w7 := by rw [hw7]; exact below1 _ _
    have htx : Hid (Box w7 bx 26 [.int .i64 F.w, .slice Ax F.xs.length cx, .slice Tx F.nt dx_, .int .i64 F.sx, .int .i64 F.sy]) := by rw [hw7, hbx]; exact Box.new _ _ _
    rw [← hw7, ← hbx]
    have HQx := Lib.hid hbx
    clear hw7 hbx
    have PB7 := Lib.hid (PB6.out.below bl)
    have BB7 := Lib.hid (below_then BB6.out bl)
    have WF7 := Lib.hid (WF6.out.below bl)
    have WN7 := Lib.hid (WN6.out.keep (.of_below bl))
    have WB7 := Lib.hid (WB6.out.below bl)
    have XF7 := Lib.hid (XF6.out.below bl)
    have XN7 := Lib.hid (XN6.out.keep (.of_below bl))
    clear PB6 BB6 WF6 WN6 WB6 XF6 XN6 bl
    have XB7 := Lib.hid (htx.out)
    clear htx
    have HXL := Lib.hid (fun b (hb : b ∈ fx ++ gx) => (XN7.out.lt b hb).2)
    have HXU := Lib.hid XB7.out.lt
    have HLL : Hid (w5.heap.size ≤ w7.heap.size) := Lib.hid (by have h1 := HSX.out; have h2 := HQx.out; have h3 := HXU.out; omega)
    go_wp2_with (first | (refine fsL_load (by rfl) _ rfl w.heap.size rfl PB7.out ?_) | (refine fs_load (by rfl) _ rfl bw rfl WB7.out ?_) | (refine fs_load (by rfl) _ rfl bx rfl XB7.out ?_))
    refine (im_shiftField F Ax cx Tx dx_ fx gx dx dy _ XF7.out HS.out).mono ?_; rw [HGE.out]; rintro e w8 ⟨Ag, cg, Tg, dg, fg, gg, rfl, hcg, hdg, hfg, hng, bl⟩
    clear hcg hdg
    have HGL := Lib.hid (fun b (hb : b ∈ fg ++ gg) => (hng.lt b hb).1)
    have HGU := Lib.hid (fun b (hb : b ∈ fg ++ gg) => (hng.lt b hb).2)
    have HSG := Lib.hid bl.size
    have PB8 := Lib.hid (PB7.out.below bl)
    have BB8 := Lib.hid (below_then BB7.out bl)
    have WF8 := Lib.hid (WF7.out.below bl)
    have WN8 := Lib.hid (WN7.out.keep (.of_below bl))
    have WB8 := Lib.hid (WB7.out.below bl)
    have XF8 := Lib.hid (XF7.out.below bl)
    have XN8 := Lib.hid (XN7.out.keep (.of_below bl))
    have XB8 := Lib.hid (XB7.out.below bl)
    clear PB7 BB7 WF7 WN7 WB7 XF7 XN7 XB7 bl
    have GF8 := Lib.hid (hfg)
    have GN8 := Lib.hid (hng)
    clear hfg hng
    go_upto_region 8 with (fail)
    obtain ⟨bg, hbg⟩ : ∃ b, b = w8.heap.size := ⟨_, rfl⟩
    obtain ⟨w9, hw9⟩ : ∃ W, W = w8.alloc (.cells #[.int .i64 G.w, .slice Ag G.xs.length cg, .slice Tg G.nt dg, .int .i64 G.sx, .int .i64 G.sy] 26) := ⟨_, rfl⟩
    have bl : Below w8.heap.size w8 w9 := by rw [hw9]; exact below1 _ _
    have htg : Hid (Box w9 bg 26 [.int .i64 G.w, .slice Ag G.xs.length cg, .slice Tg G.nt dg, .int .i64 G.sx, .int .i64 G.sy]) := by rw [hw9, hbg]; exact Box.new _ _ _
    rw [← hw9, ← hbg]
    have HQg := Lib.hid hbg
    clear hw9 hbg
    have PB9 := Lib.hid (PB8.out.below bl)
    have BB9 := Lib.hid (below_then BB8.out bl)
    have WF9 := Lib.hid (WF8.out.below bl)
    have WN9 := Lib.hid (WN8.out.keep (.of_below bl))
    have WB9 := Lib.hid (WB8.out.below bl)
    have XF9 := Lib.hid (XF8.out.below bl)
    have XN9 := Lib.hid (XN8.out.keep (.of_below bl))
    have XB9 := Lib.hid (XB8.out.below bl)
    have GF9 := Lib.hid (GF8.out.below bl)
    have GN9 := Lib.hid (GN8.out.keep (.of_below bl))
    clear PB8 BB8 WF8 WN8 WB8 XF8 XN8 XB8 GF8 GN8 bl
    have GB9 := Lib.hid (htg.out)
    clear htg
    go_wp2_with (first | (refine fsL_load (by rfl) _ rfl w.heap.size rfl PB9.out ?_) | (refine fs_load (by rfl) _ rfl bw rfl WB9.out ?_) | (refine fs_load (by rfl) _ rfl bx rfl XB9.out ?_) | (refine fs_load (by rfl) _ rfl bg rfl GB9.out ?_))
    refine (eq_fld G Ag Aw cg cw Tg Tw dg dw fg gg fw gw _ GF9.out WF9.out HGS.out).mono ?_; rintro e w10 ⟨rfl, bl⟩
    have PB10 := Lib.hid (PB9.out.below bl)
    have BB10 := Lib.hid (below_then BB9.out bl)
    have WF10 := Lib.hid (WF9.out.below bl)
    have WN10 := Lib.hid (WN9.out.keep (.of_below bl))
    have WB10 := Lib.hid (WB9.out.below bl)
    have XF10 := Lib.hid (XF9.out.below bl)
    have XN10 := Lib.hid (XN9.out.keep (.of_below bl))
    have XB10 := Lib.hid (XB9.out.below bl)
    have GF10 := Lib.hid (GF9.out.below bl)
    have GN10 := Lib.hid (GN9.out.keep (.of_below bl))
    have GB10 := Lib.hid (GB9.out.below bl)
    clear PB9 BB9 WF9 WN9 WB9 XF9 XN9 XB9 GF9 GN9 GB9 bl
    go_wp2_with fail
    refine wp_region_typed (ClB w10) RlB (Ty [TV (fv F Ax cx Tx dx_), TV (fv F A c T d), TFld w10.heap.size F, TV (.bool true), TV (.bool false)])
      (by kernel_rfl) (by kernel_rfl) (stab_ty _ ⟨stabB_k _, stabB_k _, stabB_fld _ _, stabB_k _, stabB_k _, trivial⟩) (Below.refl _ _).drew ?_ ?_
    · refine ⟨?_, ?_, ?_, ?_, ?_, trivial⟩
      · exact lb_fld (.tmp 9) bx rfl XB10.out (fun _ _ _ => want_none rfl) fun ρ wx hx hp => ⟨hx 9 rfl, rfl⟩
      · exact lb_fldL (.tmp 3) w.heap.size rfl PB10.out (fun _ _ _ => want_none rfl) fun ρ wx hx hp => ⟨hx 3 rfl, rfl⟩
      · refine lb_call _ _ _ (fun _ _ => by simp [go_sem]) rfl (fun _ _ _ => want_none rfl) fun ρ wx hb hc hp => ?_
        have h0 : ρ (.tmp 36) = fv F A c T d := hp.1 rfl
        refine ⟨#[fv F A c T d], by simp only [List.map_toArray, List.map_cons, List.map_nil, h0], (to_fld F A c T d fa ft wx (HFR.out _ (below_then BB10.out hb)) HS.out).mono ?_⟩
        intro e w' hn
        obtain ⟨v, rfl⟩ := hn.parts
        have hq := fnew_fld hn hb.size
        exact ⟨v, rfl, hq.1, hq.2⟩
      · refine lb_call _ _ _ (fun _ _ => by simp [go_sem]) rfl (fun _ _ _ => want_none rfl) fun ρ wx hb hc hp => ?_
        have h0 : ρ (.tmp 35) = fv F Ax cx Tx dx_ := hp.1 rfl
        obtain ⟨A2, c2, T2, d2, f2, g2, h1, _, _, hf2, _⟩ : TFld w10.heap.size F (ρ (.tmp 37)) wx := hp.2.1 rfl
        refine ⟨#[fv F Ax cx Tx dx_, fv F A2 c2 T2 d2], by simp only [List.map_toArray, List.map_cons, List.map_nil, h0, h1], (eq_fld F Ax A2 cx c2 Tx T2 dx_ d2 fx gx f2 g2 wx (XF10.out.below hb) hf2 HS.out).mono ?_⟩
        rintro e w' ⟨rfl, b⟩
        exact ⟨_, rfl, b, rfl⟩
      · exact lb_unot (.tmp 38) _ true rfl (fun _ _ _ => want_none rfl) fun ρ wx hp => ⟨hp.1 rfl, rfl⟩
    intro vs w11 hI hF
    obtain ⟨_, _, _, _, h4, _⟩ := hF
    replace h4 : vs 4 = .bool false := h4
    have bl : Below w10.heap.size w10 w11 := hI
    simp only [putAll, Act.put, List.setIfInBounds_toArray, List.set_cons_zero, List.set_cons_succ, h4]
    clear hI h4
    have PB11 := Lib.hid (PB10.out.below bl)
    have BB11 := Lib.hid (below_then BB10.out bl)
    have WF11 := Lib.hid (WF10.out.below bl)
    have WN11 := Lib.hid (WN10.out.keep (.of_below bl))
    have WB11 := Lib.hid (WB10.out.below bl)
    have XF11 := Lib.hid (XF10.out.below bl)
    have XN11 := Lib.hid (XN10.out.keep (.of_below bl))
    have XB11 := Lib.hid (XB10.out.below bl)
    have GF11 := Lib.hid (GF10.out.below bl)
    have GN11 := Lib.hid (GN10.out.keep (.of_below bl))
    have GB11 := Lib.hid (GB10.out.below bl)
    clear PB10 BB10 WF10 WN10 WB10 XF10 XN10 XB10 GF10 GN10 GB10 bl
    go_wp2_with (first | (refine fsL_load (by rfl) _ rfl w.heap.size rfl PB11.out ?_) | (refine fs_load (by rfl) _ rfl bw rfl WB11.out ?_) | (refine fs_load (by rfl) _ rfl bx rfl XB11.out ?_) | (refine fs_load (by rfl) _ rfl bg rfl GB11.out ?_))
    have hsm := HS.out
    refine (mark_fld F Ax cx Tx dx_ 1 fx gx _ XF11.out (XN11.out.mono (Nat.zero_le _)) (by omega) (by omega) (by omega) (by omega)).mono ?_; rintro e w12 ⟨rfl, o, _, _⟩
    have sg : Same (fg ++ gg) w11 w12 := .of_only o fun b hb hx => by have h1 := HGL.out b hb; have h2 := HXL.out b hx; omega
    have sw : Same (fw ++ gw) w11 w12 := .of_only o fun b hb hx => by have h1 := HW.out b hb; have h2 := (HX1.out.lt b hx).1; omega
    have PB12 := Lib.hid (PB11.out.only o fun hx => by have h2 := (HX1.out.lt _ hx).1; have h3 := HPL.out; omega)
    have WB12 := Lib.hid (WB11.out.only o fun hx => by have h2 := (HX1.out.lt _ hx).1; have h3 := HWL.out; omega)
    have GB12 := Lib.hid (GB11.out.only o fun hx => by have h2 := HXL.out _ hx; have h3 := HSG.out; have h4 := HQg.out; omega)
    have BB12 := Lib.hid (BB11.out.trans (o.below (fun b hb => by have h2 := (HX1.out.lt b hb).1; have h3 := HPL.out; omega) BB11.out.size))
    have GF12 : Hid (FHas w12 Ag Tg G fg gg) := Lib.hid ⟨GF11.out.1.keep (sg.sub fun b hb => List.mem_append_left _ hb), GF11.out.2.keep (sg.sub fun b hb => List.mem_append_right _ hb)⟩
    have WF12 : Hid (FHas w12 Aw Tw G fw gw) := Lib.hid ⟨WF11.out.1.keep (sw.sub fun b hb => List.mem_append_left _ hb), WF11.out.2.keep (sw.sub fun b hb => List.mem_append_right _ hb)⟩
    have GN12 := Lib.hid (GN11.out.keep sg)
    clear sg sw o hsm PB11 BB11 WB11 GB11 GF11 GN11 WF11 WN11 XF11 XN11 XB11
    have hmk : 0 ≤ 1 + (F.xs.length : Int) + ((64 * F.nt : Nat) : Int) := by omega
    generalize 1 + (F.xs.length : Int) + ((64 * F.nt : Nat) : Int) = mk at hmk
    have hmd : decide (mk < 0) = false := by simp; omega
    go_wp2_with (first | (refine fsL_load (by rfl) _ rfl w.heap.size rfl PB12.out ?_) | (refine fs_load (by rfl) _ rfl bw rfl WB12.out ?_) | (refine fs_load (by rfl) _ rfl bg rfl GB12.out ?_))
    refine (eq_fld G Ag Aw cg cw Tg Tw dg dw fg gg fw gw _ GF12.out WF12.out HGS.out).mono ?_; rintro e w13 ⟨rfl, bl⟩
    have PB13 := Lib.hid (PB12.out.below bl)
    have BB13 := Lib.hid (below_then BB12.out bl)
    have WB13 := Lib.hid (WB12.out.below bl)
    have GB13 := Lib.hid (GB12.out.below bl)
    have GF13 := Lib.hid (GF12.out.below bl)
    have GN13 := Lib.hid (GN12.out.keep (.of_below bl))
    have WF13 := Lib.hid (WF12.out.below bl)
    clear PB12 BB12 WB12 GB12 GF12 GN12 WF12 bl
    go_wp2_with (first | (refine fsL_load (by rfl) _ rfl w.heap.size rfl PB13.out ?_) | (refine fs_load (by rfl) _ rfl bw rfl WB13.out ?_) | (refine fs_load (by rfl) _ rfl bg rfl GB13.out ?_))
    obtain ⟨M, hM⟩ : ∃ M, 1 + (G.xs.length : Int) + ((64 * G.nt : Nat) : Int) = M := ⟨_, rfl⟩
    have hM0 : 0 ≤ M := by omega
    have HM := Lib.hid hM
    clear hM
    have hgs := HG1.out
    refine (mark_fld G Ag cg Tg dg 1 fg gg _ GF13.out (GN13.out.mono (Nat.zero_le _)) (by omega) (by omega) (by omega) (by omega)).mono ?_; rintro e w14 ⟨rfl, o, hig, hjg⟩
    rw [HM.out]
    have sw : Same (fw ++ gw) w13 w14 := .of_only o fun b hb hx => by have h1 := HGL.out b hx; have h2 := HW.out b hb; have h3 := HLL.out; omega
    have PB14 := Lib.hid (PB13.out.only o fun hx => by have h1 := HGL.out _ hx; have h3 := HPL.out; have h4 := HLL.out; omega)
    have WB14 := Lib.hid (WB13.out.only o fun hx => by have h1 := HGL.out _ hx; have h3 := HWL.out; have h4 := HLL.out; omega)
    have GB14 := Lib.hid (GB13.out.only o fun hx => by have h1 := HGU.out _ hx; have h4 := HQg.out; omega)
    have BB14 := Lib.hid (BB13.out.trans (o.below (fun b hb => by have h2 := HGL.out b hb; have h3 := HPL.out; have h4 := HLL.out; omega) BB13.out.size))
    have GI14 := Lib.hid hig
    have GJ14 := Lib.hid hjg
    have WF14 : Hid (FHas w14 Aw Tw G fw gw) := Lib.hid ⟨WF13.out.1.keep (sw.sub fun b hb => List.mem_append_left _ hb), WF13.out.2.keep (sw.sub fun b hb => List.mem_append_right _ hb)⟩
    clear sw o hig hjg PB13 BB13 WB13 GB13 GF13 GN13 WF13
    go_wp2_with (first | (refine fsL_load (by rfl) _ rfl w.heap.size rfl PB14.out ?_) | (refine fs_load (by rfl) _ rfl bw rfl WB14.out ?_) | (refine fs_load (by rfl) _ rfl bg rfl GB14.out ?_))
    refine (held_fld G Ag cg Tg dg 1 fg gg _ GI14.out GJ14.out (by omega) (by omega) (by omega) (by omega)).mono ?_; rintro e w15 ⟨rfl, bl⟩
    rw [HM.out]
    have PB15 := Lib.hid (PB14.out.below bl)
    have BB15 := Lib.hid (below_then BB14.out bl)
    have WB15 := Lib.hid (WB14.out.below bl)
    have GB15 := Lib.hid (GB14.out.below bl)
    have GI15 := Lib.hid (GI14.out.below bl)
    have GJ15 := Lib.hid (GJ14.out.below bl)
    have WF15 := Lib.hid (WF14.out.below bl)
    clear PB14 BB14 WB14 GB14 GI14 GJ14 WF14 bl
    go_wp2_with (first | (refine fsL_load (by rfl) _ rfl w.heap.size rfl PB15.out ?_) | (refine fs_load (by rfl) _ rfl bw rfl WB15.out ?_) | (refine fs_load (by rfl) _ rfl bg rfl GB15.out ?_))
    have hF := HFR.out _ BB15.out
    refine (to_fld F A c T d fa ft _ hF HS.out).mono ?_; rintro e w16 ⟨Av, cv, Tv, dv, fv_, gv, rfl, hcv, hdv, hfv, hnv, bl⟩
    clear hF hcv hdv
    have PB16 := Lib.hid (PB15.out.below bl)
    have BB16 := Lib.hid (below_then BB15.out bl)
    have WB16 := Lib.hid (WB15.out.below bl)
    have GB16 := Lib.hid (GB15.out.below bl)
    have GI16 := Lib.hid (GI15.out.below bl)
    have GJ16 := Lib.hid (GJ15.out.below bl)
    have WF16 := Lib.hid (WF15.out.below bl)
    clear PB15 BB15 WB15 GB15 GI15 GJ15 WF15 bl
    have VF16 := Lib.hid (hfv)
    clear hfv hnv
    go_wp2_with fail
    refine (im_shiftField F Av cv Tv dv fv_ gv dx dy _ VF16.out HS.out).mono ?_; rw [HGE.out]; rintro e w17 ⟨Ah, ch, Th, dh, fh, gh, rfl, hch, hdh, hfh, hnh, bl⟩
    clear hch hdh
    have PB17 := Lib.hid (PB16.out.below bl)
    have BB17 := Lib.hid (below_then BB16.out bl)
    have WB17 := Lib.hid (WB16.out.below bl)
    have GB17 := Lib.hid (GB16.out.below bl)
    have GI17 := Lib.hid (GI16.out.below bl)
    have GJ17 := Lib.hid (GJ16.out.below bl)
    have WF17 := Lib.hid (WF16.out.below bl)
    clear PB16 BB16 WB16 GB16 GI16 GJ16 WF16 bl
    have HF17 := Lib.hid (hfh)
    clear hfh hnh
    go_upto_region 25 with (fail)
    obtain ⟨bh, hbh⟩ : ∃ b, b = w17.heap.size := ⟨_, rfl⟩
    obtain ⟨w18, hw18⟩ : ∃ W, W = w17.alloc (.cells #[.int .i64 G.w, .slice Ah G.xs.length ch, .slice Th G.nt dh, .int .i64 G.sx, .int .i64 G.sy] 26) := ⟨_, rfl⟩
    have bl : Below w17.heap.size w17 w18 := by rw [hw18]; exact below1 _ _
    have hth : Hid (Box w18 bh 26 [.int .i64 G.w, .slice Ah G.xs.length ch, .slice Th G.nt dh, .int .i64 G.sx, .int .i64 G.sy]) := by rw [hw18, hbh]; exact Box.new _ _ _
    rw [← hw18, ← hbh]
    have HQh := Lib.hid hbh
    clear hw18 hbh
    have PB18 := Lib.hid (PB17.out.below bl)
    have BB18 := Lib.hid (below_then BB17.out bl)
    have WB18 := Lib.hid (WB17.out.below bl)
    have GB18 := Lib.hid (GB17.out.below bl)
    have GI18 := Lib.hid (GI17.out.below bl)
    have GJ18 := Lib.hid (GJ17.out.below bl)
    have WF18 := Lib.hid (WF17.out.below bl)
    have HF18 := Lib.hid (HF17.out.below bl)
    clear PB17 BB17 WB17 GB17 GI17 GJ17 WF17 HF17 bl
    have HB18 := Lib.hid (hth.out)
    clear hth
    go_wp2_with (first | (refine fsL_load (by rfl) _ rfl w.heap.size rfl PB18.out ?_) | (refine fs_load (by rfl) _ rfl bw rfl WB18.out ?_) | (refine fs_load (by rfl) _ rfl bg rfl GB18.out ?_) | (refine fs_load (by rfl) _ rfl bh rfl HB18.out ?_))
    refine (eq_fld G Ah Aw ch cw Th Tw dh dw fh gh fw gw _ HF18.out WF18.out HGS.out).mono ?_; rintro e w19 ⟨rfl, bl⟩
    have PB19 := Lib.hid (PB18.out.below bl)
    have BB19 := Lib.hid (below_then BB18.out bl)
    have WB19 := Lib.hid (WB18.out.below bl)
    have GB19 := Lib.hid (GB18.out.below bl)
    have GI19 := Lib.hid (GI18.out.below bl)
    have GJ19 := Lib.hid (GJ18.out.below bl)
    have WF19 := Lib.hid (WF18.out.below bl)
    have HF19 := Lib.hid (HF18.out.below bl)
    have HB19 := Lib.hid (HB18.out.below bl)
    clear PB18 BB18 WB18 GB18 GI18 GJ18 WF18 HF18 HB18 bl
    go_wp2_with (first | (refine fsL_load (by rfl) _ rfl w.heap.size rfl PB19.out ?_) | (refine fs_load (by rfl) _ rfl bw rfl WB19.out ?_) | (refine fs_load (by rfl) _ rfl bg rfl GB19.out ?_) | (refine fs_load (by rfl) _ rfl bh rfl HB19.out ?_))
    refine (held_fld G Ag cg Tg dg 1 fg gg _ GI19.out GJ19.out (by omega) (by omega) (by omega) (by omega)).mono ?_; rintro e w20 ⟨rfl, bl⟩
    rw [HM.out]
    have PB20 := Lib.hid (PB19.out.below bl)
    have BB20 := Lib.hid (below_then BB19.out bl)
    have WB20 := Lib.hid (WB19.out.below bl)
    have GB20 := Lib.hid (GB19.out.below bl)
    have GI20 := Lib.hid (GI19.out.below bl)
    have GJ20 := Lib.hid (GJ19.out.below bl)
    have WF20 := Lib.hid (WF19.out.below bl)
    have HF20 := Lib.hid (HF19.out.below bl)
    have HB20 := Lib.hid (HB19.out.below bl)
    clear PB19 BB19 WB19 GB19 GI19 GJ19 WF19 HF19 HB19 bl
    go_wp2_with fail
    go_ret
    exact ⟨rfl, BB20.out⟩
  · refine (sz_fld_no F.w A F.xs.length c T F.nt d F.sx F.sy 1048576 _ (by omega) (by omega) (by omega) hl hm).mono ?_; rintro e w2 ⟨rfl, bl⟩
    have BB2 := Lib.hid (below_then BB1.out bl)
    clear bl
    go_wp2_with fail
    go_ret
    exact ⟨rfl, BB2.out⟩
end Go.Proofs.Ytlppmcflgbeolaa
