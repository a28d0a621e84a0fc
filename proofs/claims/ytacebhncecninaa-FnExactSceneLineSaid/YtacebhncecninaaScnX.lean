/- The exact laws of chapter 12, walked. -/
import Derived.Test.YtacebhncecninaaScnT
import Derived.Test.YtacebhncecninaaScnJ
import Derived.Test.YtacebhncecninaaScnV
import Derived.Test.YtacebhncecninaaScnI
namespace Go.Proofs.Ytacebhncecninaa
open Go.ChangeShapes Go.WideShapes Go.ChangeAt Go.RowKit
set_option linter.unusedVariables false

theorem sc_infoL : (Try.prog.info? 68).map (·.size) = some 6 := by kernel_rfl
section
variable {ops : Array Oper} {rest : List Oper} {o : Oper} {a : Act} {w : World} {Q : Exit → Act → World → Prop} {W : Int} {A : Option Addr} {n c : Nat} {T : Option Addr} {m d : Nat} {sx sy : Int} {O : Option Addr} {k e : Nat}
theorem scL_load {t : TypeId} (hw : Region.wanted o (yielded ops a.tmps) = true) (x : Operand) (ho : o.op = .load 68 x) (b : Nat) (hx : a.eval x = .pointer (some ⟨b, 0, none⟩)) (hb : Box w b t (ccs W A n c T m d sx sy O k e))
    (h : wpList Try.prog ops Q rest (a.put o.dst (scV W A n c T m d sx sy O k e)) w) : wpList Try.prog ops Q (o :: rest) a w :=
  wpList_step fun K hK => by
    rw [if_pos hw]
    exact wp_load_row _ x ho b hx t (ccs W A n c T m d sx sy O k e).toArray (0, 0) _ hb Try.underlying68 rfl sc_infoL (hK _ _ h)
end
section
variable {ops : Array Oper} {Q : Exit → Act → World → Prop} {T' : Nat → Value → World → Prop} {a0 : Act} {w0 : World} {i : Nat} {o : Oper}
theorem lb_scnL (x : Operand) (b : Nat) {t : TypeId} {W : Int} {A : Option Addr} {n c : Nat} {T : Option Addr} {m d : Nat} {sx sy : Int} {O : Option Addr} {k e : Nat} (hop : o.op = .load 68 x) (hb : Box w0 b t (ccs W A n c T m d sx sy O k e)) (hw : ∀ (ρ : Operand → Value) w, PreR ops T' ρ w o.after.toList → wantV ops (slotR ρ) o = true)
    (h : ∀ (ρ : Operand → Value) w, (∀ n, (ops.toList.all fun o => o.dst != some n) = true → ρ (.tmp n) = a0.eval (.tmp n)) → PreR ops T' ρ w o.after.toList → ρ x = .pointer (some ⟨b, 0, none⟩) ∧ T' i (dstV o (scV W A n c T m d sx sy O k e)) w) : Ob Try.prog ops Q (ClB w0) RlB T' a0 i o :=
  lb_val (scV W A n c T m d sx sy O k e) hw fun ρ w hbl _ hx hp => by
    obtain ⟨h1, h2⟩ := h ρ w hx hp
    refine ⟨?_, h2⟩
    have hl := run_loadVar_row (P := Try.prog) w b t 68 (ccs W A n c T m d sx sy O k e).toArray (0, 0) _ (hb.below hbl) Try.underlying68 rfl sc_infoL
    unfold execOp
    simp only [hop, h1, Instr.loadAt, Instr.sureAddr, Sem.run_bind, Sem.run_pure, Result.andThen_ok, hl]
end
/-- A scene's value. -/
def TScn (F : Fld) (S : List Spr) : Value → World → Prop := fun v w => ∃ (A : Option Addr) (c : Nat) (T : Option Addr) (d : Nat) (O : Option Addr) (e0 : Nat) (fa ft fo : List Nat), v = sv F A c T d S O e0 ∧ SHas w A T O F S fa ft fo
theorem stabB_scn (F : Fld) (S : List Spr) : Stab RlB (TScn F S) := fun _ w w' (hR : Below w.heap.size w w') ⟨A, c, T, d, O, e0, fa, ft, fo, hv, h⟩ => ⟨A, c, T, d, O, e0, fa, ft, fo, hv, h.below hR⟩
theorem scLT_le (F : Fld) (S : List Spr) (y : Int) : (scLT F S y).length ≤ 32 := by
  unfold scLT
  split
  · rw [scL_len]; omega
  · simp
set_option maxRecDepth 100000 in
set_option maxHeartbeats 4000000 in
theorem walk_FnExactScenePixel (A : Option Addr) (c : Nat) (T : Option Addr) (d : Nat) (O : Option Addr) (e0 : Nat) (F : Fld) (S : List Spr) (x y : Int) (w : World) (hin : InScn w A T O F S) : Calls Try.prog 11 #[sv F A c T d S O e0, .int .i64 x, .int .i64 y] w fun e w' => e = .returned (.bool true) ∧ Below w.heap.size w w' := by
  obtain ⟨hl, hm, hk, fa, ft, fo, hF⟩ := hin
  have PB1 : Hid (Box (w.alloc (.cells #[.int .i64 F.w, .slice A F.xs.length c, .slice T F.nt d, .int .i64 F.sx, .int .i64 F.sy, .slice O S.length e0] 68)) w.heap.size 68 (ccs F.w A F.xs.length c T F.nt d F.sx F.sy O S.length e0)) := Lib.hid (Box.new w _ _)
  have BB1 := Lib.hid (below1 w (.cells #[.int .i64 F.w, .slice A F.xs.length c, .slice T F.nt d, .int .i64 F.sx, .int .i64 F.sy, .slice O S.length e0] 68))
  have HFR : Hid (∀ W, Below w.heap.size w W → SHas W A T O F S fa ft fo) := Lib.hid fun W h => hF.below h
  clear hF
  go_enter Try.func11, Try.ntmps11
  go_upto_region 2 with (fail)
  generalize w.alloc (.cells #[.int .i64 F.w, .slice A F.xs.length c, .slice T F.nt d, .int .i64 F.sx, .int .i64 F.sy, .slice O S.length e0] 68) = w1 at PB1 BB1 ⊢
  go_wp2_with (first | (refine scL_load (by rfl) _ rfl w.heap.size rfl PB1.out ?_))
  by_cases hsz : (F.xs.length : Int) + F.nt + S.length ≤ 1048576
  · have HS : Hid (SSmall F S) := Lib.hid ⟨⟨by omega, by omega⟩, by omega⟩
    refine (sz_scn_yes F.w A F.xs.length c T F.nt d F.sx F.sy O S.length e0 1048576 _ hsz (by omega)).mono ?_; rintro e w2 ⟨rfl, bl⟩
    have hl0 : 0 ≤ 1048576 - (F.xs.length : Int) - F.nt - S.length := by omega
    obtain ⟨lf, hlf⟩ : ∃ lf, 1048576 - (F.xs.length : Int) - F.nt - S.length = lf := ⟨_, rfl⟩
    rw [hlf] at hl0 ⊢
    clear hlf
    have PB2 := Lib.hid (PB1.out.below bl)
    have BB2 := Lib.hid (below_then BB1.out bl)
    clear PB1 BB1 bl
    go_wp2_with (first | (refine scL_load (by rfl) _ rfl w.heap.size rfl PB2.out ?_))
    have hF := HFR.out _ BB2.out
    refine (to_scn F A c T d S O e0 fa ft fo _ hF HS.out).mono ?_; rintro e w3 ⟨Au, cu, Tu, du, Ou, eu, fu, gu, hu_, rfl, hcu, hdu, heu, hfu, hnu, bl⟩
    clear hF hcu hdu heu
    have PB3 := Lib.hid (PB2.out.below bl)
    have BB3 := Lib.hid (below_then BB2.out bl)
    clear PB2 BB2
    clear bl
    have UF3 := Lib.hid (hfu)
    clear hfu hnu
    go_wp2_with fail
    refine (spec_scnPixel F Au cu Tu du S Ou eu fu gu hu_ x y _ UF3.out HS.out).mono ?_; rintro e w4 ⟨rfl, bl⟩
    have PB4 := Lib.hid (PB3.out.below bl)
    have BB4 := Lib.hid (below_then BB3.out bl)
    clear PB3 BB3 bl
    obtain ⟨V, hV⟩ : ∃ V, scT F S x y = V := ⟨_, rfl⟩
    rw [hV]
    go_wp2_with (first | (refine scL_load (by rfl) _ rfl w.heap.size rfl PB4.out ?_))
    have hF := HFR.out _ BB4.out
    refine (to_scn F A c T d S O e0 fa ft fo _ hF HS.out).mono ?_; rintro e w5 ⟨Ax, cx, Tx, dx, Ox, ex, fx, gx, hx_, rfl, hcx, hdx, hex, hfx, hnx, bl⟩
    clear hF hcx hdx hex
    have PB5 := Lib.hid (PB4.out.below bl)
    have BB5 := Lib.hid (below_then BB4.out bl)
    clear PB4 BB4 bl
    have XF5 := Lib.hid (hfx)
    have XN5 := Lib.hid (hnx)
    clear hfx hnx
    go_wp2_with fail
    obtain ⟨bx, hbx⟩ : ∃ b, b = w5.heap.size := ⟨_, rfl⟩
    obtain ⟨w6, hw6⟩ : ∃ W, W = w5.alloc (.cells #[.int .i64 F.w, .slice Ax F.xs.length cx, .slice Tx F.nt dx, .int .i64 F.sx, .int .i64 F.sy, .slice Ox S.length ex] 41) := ⟨_, rfl⟩
    have bl : Below w5.heap.size w5 w6 := by rw [hw6]; exact below1 _ _
    have htx : Hid (Box w6 bx 41 (ccs F.w Ax F.xs.length cx Tx F.nt dx F.sx F.sy Ox S.length ex)) := Lib.hid (by rw [hw6, hbx]; exact Box.new _ _ _)
    rw [← hw6, ← hbx]
    have HQx := Lib.hid hbx
    clear hw6 hbx
    have PB6 := Lib.hid (PB5.out.below bl)
    have BB6 := Lib.hid (below_then BB5.out bl)
    have XF6 := Lib.hid (XF5.out.below bl)
    have XN6 := Lib.hid (XN5.out.keep (.of_below bl))
    clear PB5 BB5 XF5 XN5 bl
    have XB6 := Lib.hid (htx.out)
    clear htx
    go_wp2_with (first | (refine scL_load (by rfl) _ rfl w.heap.size rfl PB6.out ?_) | (refine sc_load (by rfl) _ rfl bx rfl XB6.out ?_))
    refine (im_scnPixel F Ax cx Tx dx S Ox ex fx gx hx_ x y _ XF6.out HS.out).mono ?_; rintro e w7 ⟨rfl, bl⟩
    have PB7 := Lib.hid (PB6.out.below bl)
    have BB7 := Lib.hid (below_then BB6.out bl)
    have XF7 := Lib.hid (XF6.out.below bl)
    have XN7 := Lib.hid (XN6.out.keep (.of_below bl))
    have XB7 := Lib.hid (XB6.out.below bl)
    clear PB6 BB6 XF6 XN6 XB6 bl
    rw [hV]
    clear hV
    go_wp2_with fail
    refine wp_region_typed (ClB w7) RlB (Ty [TV (sv F Ax cx Tx dx S Ox ex), TV (sv F A c T d S O e0), TScn F S, TV (.bool true), TV (.bool false)])
      (by kernel_rfl) (by kernel_rfl) (stab_ty _ ⟨stabB_k _, stabB_k _, stabB_scn _ _, stabB_k _, stabB_k _, trivial⟩) (Below.refl _ _).drew ?_ ?_
    · refine ⟨?_, ?_, ?_, ?_, ?_, trivial⟩
      · exact lb_scn (.tmp 9) bx rfl XB7.out (fun _ _ _ => want_none rfl) fun ρ wx hx hp => ⟨hx 9 rfl, rfl⟩
      · exact lb_scnL (.tmp 3) w.heap.size rfl PB7.out (fun _ _ _ => want_none rfl) fun ρ wx hx hp => ⟨hx 3 rfl, rfl⟩
      · refine lb_call _ _ _ (fun _ _ => by simp [go_sem]) rfl (fun _ _ _ => want_none rfl) fun ρ wx hb hc hp => ?_
        have h0 : ρ (.tmp 31) = sv F A c T d S O e0 := hp.1 rfl
        refine ⟨#[sv F A c T d S O e0], by simp only [List.map_toArray, List.map_cons, List.map_nil, h0], (to_scn F A c T d S O e0 fa ft fo wx (HFR.out _ (below_then BB7.out hb)) HS.out).mono ?_⟩
        rintro e w' ⟨A2, c2, T2, d2, O2, e2, f2, g2, h2, rfl, _, _, _, hf2, _, b⟩
        exact ⟨_, rfl, b, A2, c2, T2, d2, O2, e2, f2, g2, h2, rfl, hf2⟩
      · refine lb_call _ _ _ (fun _ _ => by simp [go_sem]) rfl (fun _ _ _ => want_none rfl) fun ρ wx hb hc hp => ?_
        have h0 : ρ (.tmp 30) = sv F Ax cx Tx dx S Ox ex := hp.1 rfl
        obtain ⟨A2, c2, T2, d2, O2, e2, f2, g2, h2, h1, hf2⟩ : TScn F S (ρ (.tmp 32)) wx := hp.2.1 rfl
        refine ⟨#[sv F Ax cx Tx dx S Ox ex, sv F A2 c2 T2 d2 S O2 e2], by simp only [List.map_toArray, List.map_cons, List.map_nil, h0, h1], (eq_scn F Ax A2 cx c2 Tx T2 dx d2 S Ox O2 ex e2 fx gx hx_ f2 g2 h2 wx (XF7.out.below hb) hf2 HS.out).mono ?_⟩
        rintro e w' ⟨rfl, b⟩
        exact ⟨_, rfl, b, rfl⟩
      · exact lb_unot (.tmp 33) _ true rfl (fun _ _ _ => want_none rfl) fun ρ wx hp => ⟨hp.1 rfl, rfl⟩
    intro vs w8 hI hF
    obtain ⟨_, _, _, _, h4, _⟩ := hF
    replace h4 : vs 4 = .bool false := h4
    have bl : Below w7.heap.size w7 w8 := hI
    simp only [putAll, Act.put, List.setIfInBounds_toArray, List.set_cons_zero, List.set_cons_succ, h4]
    clear hI h4
    have PB8 := Lib.hid (PB7.out.below bl)
    have BB8 := Lib.hid (below_then BB7.out bl)
    have XF8 := Lib.hid (XF7.out.below bl)
    have XN8 := Lib.hid (XN7.out.keep (.of_below bl))
    have XB8 := Lib.hid (XB7.out.below bl)
    clear PB7 BB7 XF7 XN7 XB7 bl
    go_wp2_with fail
    go_ret
    exact ⟨rfl, BB8.out⟩
  · refine (sz_scn_no F.w A F.xs.length c T F.nt d F.sx F.sy O S.length e0 1048576 _ (by omega) (by omega) (by omega) hl hm hk).mono ?_; rintro e w2 ⟨rfl, bl⟩
    have BB2 := Lib.hid (below_then BB1.out bl)
    clear bl
    go_wp2_with fail
    go_ret
    exact ⟨rfl, BB2.out⟩
set_option maxRecDepth 100000 in
set_option maxHeartbeats 4000000 in
theorem walk_FnExactSceneHash (A : Option Addr) (c : Nat) (T : Option Addr) (d : Nat) (O : Option Addr) (e0 : Nat) (F : Fld) (S : List Spr) (w : World) (hin : InScn w A T O F S) : Calls Try.prog 13 #[sv F A c T d S O e0] w fun e w' => e = .returned (.bool true) ∧ Below w.heap.size w w' := by
  obtain ⟨hl, hm, hk, fa, ft, fo, hF⟩ := hin
  have PB1 : Hid (Box (w.alloc (.cells #[.int .i64 F.w, .slice A F.xs.length c, .slice T F.nt d, .int .i64 F.sx, .int .i64 F.sy, .slice O S.length e0] 68)) w.heap.size 68 (ccs F.w A F.xs.length c T F.nt d F.sx F.sy O S.length e0)) := Lib.hid (Box.new w _ _)
  have BB1 := Lib.hid (below1 w (.cells #[.int .i64 F.w, .slice A F.xs.length c, .slice T F.nt d, .int .i64 F.sx, .int .i64 F.sy, .slice O S.length e0] 68))
  have HFR : Hid (∀ W, Below w.heap.size w W → SHas W A T O F S fa ft fo) := Lib.hid fun W h => hF.below h
  clear hF
  go_enter Try.func13, Try.ntmps13
  go_upto_region 2 with (fail)
  generalize w.alloc (.cells #[.int .i64 F.w, .slice A F.xs.length c, .slice T F.nt d, .int .i64 F.sx, .int .i64 F.sy, .slice O S.length e0] 68) = w1 at PB1 BB1 ⊢
  go_wp2_with (first | (refine scL_load (by rfl) _ rfl w.heap.size rfl PB1.out ?_))
  by_cases hsz : (F.xs.length : Int) + F.nt + S.length ≤ 1048576
  · have HS : Hid (SSmall F S) := Lib.hid ⟨⟨by omega, by omega⟩, by omega⟩
    refine (sz_scn_yes F.w A F.xs.length c T F.nt d F.sx F.sy O S.length e0 1048576 _ hsz (by omega)).mono ?_; rintro e w2 ⟨rfl, bl⟩
    have hl0 : 0 ≤ 1048576 - (F.xs.length : Int) - F.nt - S.length := by omega
    obtain ⟨lf, hlf⟩ : ∃ lf, 1048576 - (F.xs.length : Int) - F.nt - S.length = lf := ⟨_, rfl⟩
    rw [hlf] at hl0 ⊢
    clear hlf
    have PB2 := Lib.hid (PB1.out.below bl)
    have BB2 := Lib.hid (below_then BB1.out bl)
    clear PB1 BB1 bl
    go_wp2_with (first | (refine scL_load (by rfl) _ rfl w.heap.size rfl PB2.out ?_))
    have hF := HFR.out _ BB2.out
    refine (to_scn F A c T d S O e0 fa ft fo _ hF HS.out).mono ?_; rintro e w3 ⟨Au, cu, Tu, du, Ou, eu, fu, gu, hu_, rfl, hcu, hdu, heu, hfu, hnu, bl⟩
    clear hF hcu hdu heu
    have PB3 := Lib.hid (PB2.out.below bl)
    have BB3 := Lib.hid (below_then BB2.out bl)
    clear PB2 BB2
    clear bl
    have UF3 := Lib.hid (hfu)
    clear hfu hnu
    go_wp2_with fail
    refine (spec_scnHash F Au cu Tu du S Ou eu fu gu hu_ _ UF3.out HS.out).mono ?_; rintro e w4 ⟨rfl, bl⟩
    have PB4 := Lib.hid (PB3.out.below bl)
    have BB4 := Lib.hid (below_then BB3.out bl)
    clear PB3 BB3 bl
    obtain ⟨V, hV⟩ : ∃ V, hashT F S = V := ⟨_, rfl⟩
    rw [hV]
    go_wp2_with (first | (refine scL_load (by rfl) _ rfl w.heap.size rfl PB4.out ?_))
    have hF := HFR.out _ BB4.out
    refine (to_scn F A c T d S O e0 fa ft fo _ hF HS.out).mono ?_; rintro e w5 ⟨Ax, cx, Tx, dx, Ox, ex, fx, gx, hx_, rfl, hcx, hdx, hex, hfx, hnx, bl⟩
    clear hF hcx hdx hex
    have PB5 := Lib.hid (PB4.out.below bl)
    have BB5 := Lib.hid (below_then BB4.out bl)
    clear PB4 BB4 bl
    have XF5 := Lib.hid (hfx)
    have XN5 := Lib.hid (hnx)
    clear hfx hnx
    go_wp2_with fail
    obtain ⟨bx, hbx⟩ : ∃ b, b = w5.heap.size := ⟨_, rfl⟩
    obtain ⟨w6, hw6⟩ : ∃ W, W = w5.alloc (.cells #[.int .i64 F.w, .slice Ax F.xs.length cx, .slice Tx F.nt dx, .int .i64 F.sx, .int .i64 F.sy, .slice Ox S.length ex] 41) := ⟨_, rfl⟩
    have bl : Below w5.heap.size w5 w6 := by rw [hw6]; exact below1 _ _
    have htx : Hid (Box w6 bx 41 (ccs F.w Ax F.xs.length cx Tx F.nt dx F.sx F.sy Ox S.length ex)) := Lib.hid (by rw [hw6, hbx]; exact Box.new _ _ _)
    rw [← hw6, ← hbx]
    have HQx := Lib.hid hbx
    clear hw6 hbx
    have PB6 := Lib.hid (PB5.out.below bl)
    have BB6 := Lib.hid (below_then BB5.out bl)
    have XF6 := Lib.hid (XF5.out.below bl)
    have XN6 := Lib.hid (XN5.out.keep (.of_below bl))
    clear PB5 BB5 XF5 XN5 bl
    have XB6 := Lib.hid (htx.out)
    clear htx
    go_wp2_with (first | (refine scL_load (by rfl) _ rfl w.heap.size rfl PB6.out ?_) | (refine sc_load (by rfl) _ rfl bx rfl XB6.out ?_))
    refine (im_scnHash F Ax cx Tx dx S Ox ex fx gx hx_ _ XF6.out HS.out).mono ?_; rintro e w7 ⟨rfl, bl⟩
    have PB7 := Lib.hid (PB6.out.below bl)
    have BB7 := Lib.hid (below_then BB6.out bl)
    have XF7 := Lib.hid (XF6.out.below bl)
    have XN7 := Lib.hid (XN6.out.keep (.of_below bl))
    have XB7 := Lib.hid (XB6.out.below bl)
    clear PB6 BB6 XF6 XN6 XB6 bl
    rw [hV]
    clear hV
    go_wp2_with fail
    refine wp_region_typed (ClB w7) RlB (Ty [TV (sv F Ax cx Tx dx S Ox ex), TV (sv F A c T d S O e0), TScn F S, TV (.bool true), TV (.bool false)])
      (by kernel_rfl) (by kernel_rfl) (stab_ty _ ⟨stabB_k _, stabB_k _, stabB_scn _ _, stabB_k _, stabB_k _, trivial⟩) (Below.refl _ _).drew ?_ ?_
    · refine ⟨?_, ?_, ?_, ?_, ?_, trivial⟩
      · exact lb_scn (.tmp 5) bx rfl XB7.out (fun _ _ _ => want_none rfl) fun ρ wx hx hp => ⟨hx 5 rfl, rfl⟩
      · exact lb_scnL (.tmp 1) w.heap.size rfl PB7.out (fun _ _ _ => want_none rfl) fun ρ wx hx hp => ⟨hx 1 rfl, rfl⟩
      · refine lb_call _ _ _ (fun _ _ => by simp [go_sem]) rfl (fun _ _ _ => want_none rfl) fun ρ wx hb hc hp => ?_
        have h0 : ρ (.tmp 23) = sv F A c T d S O e0 := hp.1 rfl
        refine ⟨#[sv F A c T d S O e0], by simp only [List.map_toArray, List.map_cons, List.map_nil, h0], (to_scn F A c T d S O e0 fa ft fo wx (HFR.out _ (below_then BB7.out hb)) HS.out).mono ?_⟩
        rintro e w' ⟨A2, c2, T2, d2, O2, e2, f2, g2, h2, rfl, _, _, _, hf2, _, b⟩
        exact ⟨_, rfl, b, A2, c2, T2, d2, O2, e2, f2, g2, h2, rfl, hf2⟩
      · refine lb_call _ _ _ (fun _ _ => by simp [go_sem]) rfl (fun _ _ _ => want_none rfl) fun ρ wx hb hc hp => ?_
        have h0 : ρ (.tmp 22) = sv F Ax cx Tx dx S Ox ex := hp.1 rfl
        obtain ⟨A2, c2, T2, d2, O2, e2, f2, g2, h2, h1, hf2⟩ : TScn F S (ρ (.tmp 24)) wx := hp.2.1 rfl
        refine ⟨#[sv F Ax cx Tx dx S Ox ex, sv F A2 c2 T2 d2 S O2 e2], by simp only [List.map_toArray, List.map_cons, List.map_nil, h0, h1], (eq_scn F Ax A2 cx c2 Tx T2 dx d2 S Ox O2 ex e2 fx gx hx_ f2 g2 h2 wx (XF7.out.below hb) hf2 HS.out).mono ?_⟩
        rintro e w' ⟨rfl, b⟩
        exact ⟨_, rfl, b, rfl⟩
      · exact lb_unot (.tmp 25) _ true rfl (fun _ _ _ => want_none rfl) fun ρ wx hp => ⟨hp.1 rfl, rfl⟩
    intro vs w8 hI hF
    obtain ⟨_, _, _, _, h4, _⟩ := hF
    replace h4 : vs 4 = .bool false := h4
    have bl : Below w7.heap.size w7 w8 := hI
    simp only [putAll, Act.put, List.setIfInBounds_toArray, List.set_cons_zero, List.set_cons_succ, h4]
    clear hI h4
    have PB8 := Lib.hid (PB7.out.below bl)
    have BB8 := Lib.hid (below_then BB7.out bl)
    have XF8 := Lib.hid (XF7.out.below bl)
    have XN8 := Lib.hid (XN7.out.keep (.of_below bl))
    have XB8 := Lib.hid (XB7.out.below bl)
    clear PB7 BB7 XF7 XN7 XB7 bl
    go_wp2_with fail
    go_ret
    exact ⟨rfl, BB8.out⟩
  · refine (sz_scn_no F.w A F.xs.length c T F.nt d F.sx F.sy O S.length e0 1048576 _ (by omega) (by omega) (by omega) hl hm hk).mono ?_; rintro e w2 ⟨rfl, bl⟩
    have BB2 := Lib.hid (below_then BB1.out bl)
    clear bl
    go_wp2_with fail
    go_ret
    exact ⟨rfl, BB2.out⟩
set_option maxRecDepth 100000 in
set_option maxHeartbeats 4000000 in
theorem walk_FnExactSceneLine (A : Option Addr) (c : Nat) (T : Option Addr) (d : Nat) (O : Option Addr) (e0 : Nat) (F : Fld) (S : List Spr) (y : Int) (w : World) (hin : InScn w A T O F S) : Calls Try.prog 12 #[sv F A c T d S O e0, .int .i64 y] w fun e w' => e = .returned (.bool true) ∧ Below w.heap.size w w' := by
  obtain ⟨hl, hm, hk, fa, ft, fo, hF⟩ := hin
  have PB1 : Hid (Box (w.alloc (.cells #[.int .i64 F.w, .slice A F.xs.length c, .slice T F.nt d, .int .i64 F.sx, .int .i64 F.sy, .slice O S.length e0] 68)) w.heap.size 68 (ccs F.w A F.xs.length c T F.nt d F.sx F.sy O S.length e0)) := Lib.hid (Box.new w _ _)
  have BB1 := Lib.hid (below1 w (.cells #[.int .i64 F.w, .slice A F.xs.length c, .slice T F.nt d, .int .i64 F.sx, .int .i64 F.sy, .slice O S.length e0] 68))
  have HFR : Hid (∀ W, Below w.heap.size w W → SHas W A T O F S fa ft fo) := Lib.hid fun W h => hF.below h
  clear hF
  go_enter Try.func12, Try.ntmps12
  go_upto_region 2 with (fail)
  generalize w.alloc (.cells #[.int .i64 F.w, .slice A F.xs.length c, .slice T F.nt d, .int .i64 F.sx, .int .i64 F.sy, .slice O S.length e0] 68) = w1 at PB1 BB1 ⊢
  go_wp2_with (first | (refine scL_load (by rfl) _ rfl w.heap.size rfl PB1.out ?_))
  by_cases hsz : (F.xs.length : Int) + F.nt + S.length ≤ 1048576
  · have HS : Hid (SSmall F S) := Lib.hid ⟨⟨by omega, by omega⟩, by omega⟩
    refine (sz_scn_yes F.w A F.xs.length c T F.nt d F.sx F.sy O S.length e0 1048576 _ hsz (by omega)).mono ?_; rintro e w2 ⟨rfl, bl⟩
    have hl0 : 0 ≤ 1048576 - (F.xs.length : Int) - F.nt - S.length := by omega
    obtain ⟨lf, hlf⟩ : ∃ lf, 1048576 - (F.xs.length : Int) - F.nt - S.length = lf := ⟨_, rfl⟩
    rw [hlf] at hl0 ⊢
    clear hlf
    have PB2 := Lib.hid (PB1.out.below bl)
    have BB2 := Lib.hid (below_then BB1.out bl)
    clear PB1 BB1 bl
    go_wp2_with (first | (refine scL_load (by rfl) _ rfl w.heap.size rfl PB2.out ?_))
    have hF := HFR.out _ BB2.out
    refine (to_scn F A c T d S O e0 fa ft fo _ hF HS.out).mono ?_; rintro e w3 ⟨Au, cu, Tu, du, Ou, eu, fu, gu, hu_, rfl, hcu, hdu, heu, hfu, hnu, bl⟩
    clear hF hcu hdu heu
    have PB3 := Lib.hid (PB2.out.below bl)
    have BB3 := Lib.hid (below_then BB2.out bl)
    clear PB2 BB2 bl
    have UF3 := Lib.hid (hfu)
    clear hfu hnu
    go_wp2_with fail
    refine (spec_scnLine F Au cu Tu du S Ou eu fu gu hu_ y _ UF3.out HS.out).mono ?_; rintro e w4 ⟨Rw, rw_, lw, rfl, hrw_, hiw, hnw, bl⟩
    have PB4 := Lib.hid (PB3.out.below bl)
    have BB4 := Lib.hid (below_then BB3.out bl)
    clear PB3 BB3 bl
    obtain ⟨n, hnn⟩ : ∃ n, (scLT F S y).length = n := ⟨_, rfl⟩
    have HN := Lib.hid hnn
    have n32 : n ≤ 32 := by rw [← hnn]; exact scLT_le F S y
    rw [hnn] at hiw hrw_ ⊢
    clear hnn
    have WI4 := Lib.hid (hiw)
    have WN4 := Lib.hid (hnw)
    clear hiw hnw hrw_
    go_wp2_with (first | (refine scL_load (by rfl) _ rfl w.heap.size rfl PB4.out ?_))
    have hF := HFR.out _ BB4.out
    refine (to_scn F A c T d S O e0 fa ft fo _ hF HS.out).mono ?_; rintro e w5 ⟨Ax, cx, Tx, dx, Ox, ex, fx, gx, hx_, rfl, hcx, hdx, hex, hfx, hnx, bl⟩
    clear hF hcx hdx hex
    have HX1 := Lib.hid hnx
    have HPL := Lib.hid PB4.out.lt
    have HSZ := Lib.hid bl.size
    have HW := Lib.hid (fun b (hb : b ∈ lw) => (WN4.out.lt b hb).2)
    have PB5 := Lib.hid (PB4.out.below bl)
    have BB5 := Lib.hid (below_then BB4.out bl)
    have WI5 := Lib.hid (WI4.out.below bl)
    have WN5 := Lib.hid (WN4.out.keep (.of_below bl))
    clear PB4 BB4 WI4 WN4 bl
    have XF5 := Lib.hid (hfx)
    have XN5 := Lib.hid (hnx)
    clear hfx hnx
    go_wp2_with fail
    obtain ⟨bx, hbx⟩ : ∃ b, b = w5.heap.size := ⟨_, rfl⟩
    obtain ⟨w6, hw6⟩ : ∃ W, W = w5.alloc (.cells #[.int .i64 F.w, .slice Ax F.xs.length cx, .slice Tx F.nt dx, .int .i64 F.sx, .int .i64 F.sy, .slice Ox S.length ex] 41) := ⟨_, rfl⟩
    have bl : Below w5.heap.size w5 w6 := by rw [hw6]; exact below1 _ _
    have htx : Hid (Box w6 bx 41 (ccs F.w Ax F.xs.length cx Tx F.nt dx F.sx F.sy Ox S.length ex)) := Lib.hid (by rw [hw6, hbx]; exact Box.new _ _ _)
    rw [← hw6, ← hbx]
    have HQx := Lib.hid hbx
    clear hw6 hbx
    have PB6 := Lib.hid (PB5.out.below bl)
    have BB6 := Lib.hid (below_then BB5.out bl)
    have WI6 := Lib.hid (WI5.out.below bl)
    have WN6 := Lib.hid (WN5.out.keep (.of_below bl))
    have XF6 := Lib.hid (XF5.out.below bl)
    have XN6 := Lib.hid (XN5.out.keep (.of_below bl))
    clear PB5 BB5 WI5 WN5 XF5 XN5 bl
    have XB6 := Lib.hid (htx.out)
    clear htx
    have HXL := Lib.hid (fun b (hb : b ∈ fx ++ gx ++ hx_) => (XN6.out.lt b hb).2)
    go_wp2_with (first | (refine scL_load (by rfl) _ rfl w.heap.size rfl PB6.out ?_) | (refine sc_load (by rfl) _ rfl bx rfl XB6.out ?_))
    refine (im_scnLine F Ax cx Tx dx S Ox ex fx gx hx_ y _ XF6.out HS.out).mono ?_; rintro e w7 ⟨Rg, rg, lg, rfl, hrg, hig, hng, bl⟩
    have HLL : Hid (w4.heap.size ≤ w6.heap.size) := Lib.hid (by have h1 := HSZ.out; have h2 := HQx.out; have h3 := XB6.out.lt; omega)
    have HGL := Lib.hid (fun b (hb : b ∈ lg) => (hng.lt b hb).1)
    rw [HN.out] at hig hrg ⊢
    have PB7 := Lib.hid (PB6.out.below bl)
    have BB7 := Lib.hid (below_then BB6.out bl)
    have WI7 := Lib.hid (WI6.out.below bl)
    have WN7 := Lib.hid (WN6.out.keep (.of_below bl))
    have XF7 := Lib.hid (XF6.out.below bl)
    have XN7 := Lib.hid (XN6.out.keep (.of_below bl))
    have XB7 := Lib.hid (XB6.out.below bl)
    clear PB6 BB6 WI6 WN6 XF6 XN6 XB6 bl
    have GI7 := Lib.hid (hig)
    have GN7 := Lib.hid (hng)
    clear hig hng hrg
    go_wp2_with fail
    refine (eq_ints Rg Rw n rg rw_ (scLT F S y) lg lw _ GI7.out WI7.out (by omega)).mono ?_; rintro e w8 ⟨rfl, q, hq⟩
    have bl : Below w7.heap.size w7 w8 := by rw [hq]; exact below_drewN (Below.refl _ _) _
    clear hq
    have PB8 := Lib.hid (PB7.out.below bl)
    have BB8 := Lib.hid (below_then BB7.out bl)
    have WI8 := Lib.hid (WI7.out.below bl)
    have WN8 := Lib.hid (WN7.out.keep (.of_below bl))
    have XF8 := Lib.hid (XF7.out.below bl)
    have XN8 := Lib.hid (XN7.out.keep (.of_below bl))
    have XB8 := Lib.hid (XB7.out.below bl)
    have GI8 := Lib.hid (GI7.out.below bl)
    have GN8 := Lib.hid (GN7.out.keep (.of_below bl))
    clear PB7 BB7 WI7 WN7 XF7 XN7 XB7 GI7 GN7 bl
    go_wp2_with fail
    refine wp_region_typed (ClB w8) RlB (Ty [TV (sv F Ax cx Tx dx S Ox ex), TV (sv F A c T d S O e0), TScn F S, TV (.bool true), TV (.bool false)])
      (by kernel_rfl) (by kernel_rfl) (stab_ty _ ⟨stabB_k _, stabB_k _, stabB_scn _ _, stabB_k _, stabB_k _, trivial⟩) (Below.refl _ _).drew ?_ ?_
    · refine ⟨?_, ?_, ?_, ?_, ?_, trivial⟩
      · exact lb_scn (.tmp 7) bx rfl XB8.out (fun _ _ _ => want_none rfl) fun ρ wx hx hp => ⟨hx 7 rfl, rfl⟩
      · exact lb_scnL (.tmp 2) w.heap.size rfl PB8.out (fun _ _ _ => want_none rfl) fun ρ wx hx hp => ⟨hx 2 rfl, rfl⟩
      · refine lb_call _ _ _ (fun _ _ => by simp [go_sem]) rfl (fun _ _ _ => want_none rfl) fun ρ wx hb hc hp => ?_
        have h0 : ρ (.tmp 32) = sv F A c T d S O e0 := hp.1 rfl
        refine ⟨#[sv F A c T d S O e0], by simp only [List.map_toArray, List.map_cons, List.map_nil, h0], (to_scn F A c T d S O e0 fa ft fo wx (HFR.out _ (below_then BB8.out hb)) HS.out).mono ?_⟩
        rintro e w' ⟨A2, c2, T2, d2, O2, e2, f2, g2, h2, rfl, _, _, _, hf2, _, b⟩
        exact ⟨_, rfl, b, A2, c2, T2, d2, O2, e2, f2, g2, h2, rfl, hf2⟩
      · refine lb_call _ _ _ (fun _ _ => by simp [go_sem]) rfl (fun _ _ _ => want_none rfl) fun ρ wx hb hc hp => ?_
        have h0 : ρ (.tmp 31) = sv F Ax cx Tx dx S Ox ex := hp.1 rfl
        obtain ⟨A2, c2, T2, d2, O2, e2, f2, g2, h2, h1, hf2⟩ : TScn F S (ρ (.tmp 33)) wx := hp.2.1 rfl
        refine ⟨#[sv F Ax cx Tx dx S Ox ex, sv F A2 c2 T2 d2 S O2 e2], by simp only [List.map_toArray, List.map_cons, List.map_nil, h0, h1], (eq_scn F Ax A2 cx c2 Tx T2 dx d2 S Ox O2 ex e2 fx gx hx_ f2 g2 h2 wx (XF8.out.below hb) hf2 HS.out).mono ?_⟩
        rintro e w' ⟨rfl, b⟩
        exact ⟨_, rfl, b, rfl⟩
      · exact lb_unot (.tmp 34) _ true rfl (fun _ _ _ => want_none rfl) fun ρ wx hp => ⟨hp.1 rfl, rfl⟩
    intro vs w9 hI hF
    obtain ⟨_, _, _, _, h4, _⟩ := hF
    replace h4 : vs 4 = .bool false := h4
    have bl : Below w8.heap.size w8 w9 := hI
    simp only [putAll, Act.put, List.setIfInBounds_toArray, List.set_cons_zero, List.set_cons_succ, h4]
    clear hI h4
    have PB9 := Lib.hid (PB8.out.below bl)
    have BB9 := Lib.hid (below_then BB8.out bl)
    have WI9 := Lib.hid (WI8.out.below bl)
    have WN9 := Lib.hid (WN8.out.keep (.of_below bl))
    have XF9 := Lib.hid (XF8.out.below bl)
    have XN9 := Lib.hid (XN8.out.keep (.of_below bl))
    have XB9 := Lib.hid (XB8.out.below bl)
    have GI9 := Lib.hid (GI8.out.below bl)
    have GN9 := Lib.hid (GN8.out.keep (.of_below bl))
    clear PB8 BB8 WI8 WN8 XF8 XN8 XB8 GI8 GN8 bl
    go_wp2_with (first | (refine scL_load (by rfl) _ rfl w.heap.size rfl PB9.out ?_) | (refine sc_load (by rfl) _ rfl bx rfl XB9.out ?_))
    have hsm := HS.out
    have hsm1 := hsm.1.1
    have hsm2 := hsm.1.2
    have hsm3 := hsm.2
    refine (mark_scn F Ax cx Tx dx S Ox ex fx gx hx_ 1 _ XF9.out (XN9.out.mono (Nat.zero_le _)) (by omega) (by omega) (by omega) (by omega) (by omega)).mono ?_; rintro e w10 ⟨rfl, o⟩
    have sg : Same lg w9 w10 := .of_only o fun b hb hx => by have h1 := HGL.out b hb; have h2 := HXL.out b hx; omega
    have sw : Same lw w9 w10 := .of_only o fun b hb hx => by have h1 := HW.out b hb; have h2 := (HX1.out.lt b hx).1; omega
    have PB10 := Lib.hid (PB9.out.only o fun hx => by have h1 := PB9.out.lt; have h2 := (HX1.out.lt _ hx).1; have h3 := HPL.out; omega)
    have BB10 := Lib.hid (BB9.out.trans (o.below (fun b hb => by have h2 := (HX1.out.lt b hb).1; have h3 := HPL.out; omega) BB9.out.size))
    have GI10 := Lib.hid (GI9.out.keep sg)
    have GN10 := Lib.hid (GN9.out.keep sg)
    have WI10 := Lib.hid (WI9.out.keep sw)
    clear sg sw o hsm hsm1 hsm2 hsm3 PB9 BB9 GI9 GN9 WI9 WN9 XF9 XN9 XB9
    have hmk : 0 ≤ 1 + (F.xs.length : Int) + ((64 * F.nt : Nat) : Int) + 6 * (S.length : Int) := by omega
    generalize 1 + (F.xs.length : Int) + ((64 * F.nt : Nat) : Int) + 6 * (S.length : Int) = mk at hmk
    go_wp2_with fail
    refine (eq_ints Rg Rw n rg rw_ (scLT F S y) lg lw _ GI10.out WI10.out (by omega)).mono ?_; rintro e w11 ⟨rfl, q, hq⟩
    have bl : Below w10.heap.size w10 w11 := by rw [hq]; exact below_drewN (Below.refl _ _) _
    clear hq
    have PB11 := Lib.hid (PB10.out.below bl)
    have BB11 := Lib.hid (below_then BB10.out bl)
    have GI11 := Lib.hid (GI10.out.below bl)
    have GN11 := Lib.hid (GN10.out.keep (.of_below bl))
    have WI11 := Lib.hid (WI10.out.below bl)
    clear PB10 BB10 GI10 GN10 WI10 bl
    go_wp2_with fail
    refine (mark_ints Rg n rg 1 (scLT F S y) lg _ GI11.out (fun b hb o => GN11.out.free b hb o) (by omega) (by omega) (by omega)).mono ?_; rintro e w12 ⟨rfl, o, hig, frg⟩
    have sw : Same lw w11 w12 := .of_only o fun b hb hx => by have h1 := HGL.out b hx; have h2 := HW.out b hb; have h3 := HLL.out; omega
    have PB12 := Lib.hid (PB11.out.only o fun hx => by have h1 := HGL.out _ hx; have h3 := HPL.out; have h4 := HLL.out; omega)
    have BB12 := Lib.hid (BB11.out.trans (o.below (fun b hb => by have h2 := HGL.out b hb; have h3 := HPL.out; have h4 := HLL.out; omega) BB11.out.size))
    have GI12 := Lib.hid hig
    have WI12 := Lib.hid (WI11.out.keep sw)
    clear sw o hig frg PB11 BB11 GI11 GN11 WI11
    have hn1 : 0 ≤ (1 : Int) + n := by omega
    go_wp2_with fail
    refine (held_ints Rg n rg 1 lg _ GI12.out (by omega) (by omega) (by omega)).mono ?_; rintro e w13 ⟨rfl, rfl⟩
    go_wp2_with (first | (refine scL_load (by rfl) _ rfl w.heap.size rfl PB12.out ?_))
    have hF := HFR.out _ BB12.out
    refine (to_scn F A c T d S O e0 fa ft fo _ hF HS.out).mono ?_; rintro e w13 ⟨Av, cv, Tv, dv, Ov, ev, fv_, gv, hv_, rfl, hcv, hdv, hev, hfv, hnv, bl⟩
    clear hF hcv hdv hev
    have PB13 := Lib.hid (PB12.out.below bl)
    have BB13 := Lib.hid (below_then BB12.out bl)
    have GI13 := Lib.hid (GI12.out.below bl)
    have WI13 := Lib.hid (WI12.out.below bl)
    clear PB12 BB12 GI12 WI12 bl
    have VF13 := Lib.hid (hfv)
    clear hfv hnv
    go_wp2_with fail
    refine (im_scnLine F Av cv Tv dv S Ov ev fv_ gv hv_ y _ VF13.out HS.out).mono ?_; rintro e w14 ⟨Rh, rh, lh, rfl, hrh, hih, hnh, bl⟩
    rw [HN.out] at hih hrh ⊢
    have PB14 := Lib.hid (PB13.out.below bl)
    have BB14 := Lib.hid (below_then BB13.out bl)
    have GI14 := Lib.hid (GI13.out.below bl)
    have WI14 := Lib.hid (WI13.out.below bl)
    clear PB13 BB13 GI13 WI13 bl
    have HI14 := Lib.hid (hih)
    clear hih hnh hrh
    go_wp2_with fail
    refine (eq_ints Rh Rw n rh rw_ (scLT F S y) lh lw _ HI14.out WI14.out (by omega)).mono ?_; rintro e w15 ⟨rfl, q, hq⟩
    have bl : Below w14.heap.size w14 w15 := by rw [hq]; exact below_drewN (Below.refl _ _) _
    clear hq
    have PB15 := Lib.hid (PB14.out.below bl)
    have BB15 := Lib.hid (below_then BB14.out bl)
    have GI15 := Lib.hid (GI14.out.below bl)
    have WI15 := Lib.hid (WI14.out.below bl)
    have HI15 := Lib.hid (HI14.out.below bl)
    clear PB14 BB14 GI14 WI14 HI14 bl
    go_wp2_with fail
    refine (held_ints Rg n rg 1 lg _ GI15.out (by omega) (by omega) (by omega)).mono ?_; rintro e w16 ⟨rfl, rfl⟩
    go_wp2_with fail
    go_ret
    exact ⟨rfl, BB15.out⟩
  · refine (sz_scn_no F.w A F.xs.length c T F.nt d F.sx F.sy O S.length e0 1048576 _ (by omega) (by omega) (by omega) hl hm hk).mono ?_; rintro e w2 ⟨rfl, bl⟩
    have BB2 := Lib.hid (below_then BB1.out bl)
    clear bl
    go_wp2_with fail
    go_ret
    exact ⟨rfl, BB2.out⟩
end Go.Proofs.Ytacebhncecninaa
