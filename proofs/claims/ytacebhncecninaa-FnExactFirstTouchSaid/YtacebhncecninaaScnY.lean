/- The exact law on touches, walked. -/
import Derived.Test.YtacebhncecninaaScnX
import Derived.Test.YtacebhncecninaaScnF
namespace Go.Proofs.Ytacebhncecninaa
open Go.ChangeShapes Go.WideShapes Go.ChangeAt Go.RowKit
set_option linter.unusedVariables false

set_option maxRecDepth 100000 in
set_option maxHeartbeats 4000000 in
theorem walk_FnExactFirstTouch (A : Option Addr) (c : Nat) (T : Option Addr) (d : Nat) (O : Option Addr) (e0 : Nat) (F : Fld) (S : List Spr) (w : World) (hin : InScn w A T O F S) : Calls Try.prog 14 #[sv F A c T d S O e0] w fun e w' => e = .returned (.bool true) ∧ Below w.heap.size w w' := by
  obtain ⟨hl, hm, hk, fa, ft, fo, hF⟩ := hin
  have PB1 : Hid (Box (w.alloc (.cells #[.int .i64 F.w, .slice A F.xs.length c, .slice T F.nt d, .int .i64 F.sx, .int .i64 F.sy, .slice O S.length e0] 68)) w.heap.size 68 (ccs F.w A F.xs.length c T F.nt d F.sx F.sy O S.length e0)) := Lib.hid (Box.new w _ _)
  have BB1 := Lib.hid (below1 w (.cells #[.int .i64 F.w, .slice A F.xs.length c, .slice T F.nt d, .int .i64 F.sx, .int .i64 F.sy, .slice O S.length e0] 68))
  have HFR : Hid (∀ W, Below w.heap.size w W → SHas W A T O F S fa ft fo) := Lib.hid fun W h => hF.below h
  clear hF
  go_enter Try.func14, Try.ntmps14
  go_upto_region 2 with (fail)
  generalize w.alloc (.cells #[.int .i64 F.w, .slice A F.xs.length c, .slice T F.nt d, .int .i64 F.sx, .int .i64 F.sy, .slice O S.length e0] 68) = w1 at PB1 BB1 ⊢
  go_wp2_with (first | (refine scL_load (by rfl) _ rfl w.heap.size rfl PB1.out ?_))
  by_cases hsz : (F.xs.length : Int) + F.nt + S.length ≤ 1048576
  · have HS : Hid (SSmall F S) := Lib.hid ⟨⟨by omega, by omega⟩, by omega⟩
    refine (sz_scn_yes F.w A F.xs.length c T F.nt d F.sx F.sy O S.length e0 1048576 _ hsz (by omega)).mono ?_; rintro e w2 ⟨rfl, bl⟩
    have hl0 : 0 ≤ 1048576 - (F.xs.length : Int) - F.nt - S.length := by omega
    obtain ⟨lf, hlf⟩ : ∃ lf, 1048576 - (F.xs.length : Int) - F.nt - S.length = lf := ⟨_, rfl⟩
    rw [hlf] at hl0 ⊢
    clear hlf
    have PB2 := Lib.hid (PB1.out.below bl)
    have BB2 := Lib.hid (below_then BB1.out bl)
    clear PB1 BB1 bl
    go_wp2_with (first | (refine scL_load (by rfl) _ rfl w.heap.size rfl PB2.out ?_))
    have hF := HFR.out _ BB2.out
    refine (to_scn F A c T d S O e0 fa ft fo _ hF HS.out).mono ?_; rintro e w3 ⟨Au, cu, Tu, du, Ou, eu, fu, gu, hu_, rfl, hcu, hdu, heu, hfu, hnu, bl⟩
    clear hF hcu hdu heu
    have PB3 := Lib.hid (PB2.out.below bl)
    have BB3 := Lib.hid (below_then BB2.out bl)
    clear PB2 BB2
    clear bl
    have UF3 := Lib.hid (hfu)
    clear hfu hnu
    go_wp2_with fail
    refine (spec_scnTouch F Au cu Tu du S Ou eu fu gu hu_ _ UF3.out HS.out).mono ?_; rintro e w4 ⟨rfl, bl⟩
    have PB4 := Lib.hid (PB3.out.below bl)
    have BB4 := Lib.hid (below_then BB3.out bl)
    clear PB3 BB3 bl
    obtain ⟨V, hV⟩ : ∃ V, touT F S = V := ⟨_, rfl⟩
    rw [hV]
    go_wp2_with (first | (refine scL_load (by rfl) _ rfl w.heap.size rfl PB4.out ?_))
    have hF := HFR.out _ BB4.out
    refine (to_scn F A c T d S O e0 fa ft fo _ hF HS.out).mono ?_; rintro e w5 ⟨Ax, cx, Tx, dx, Ox, ex, fx, gx, hx_, rfl, hcx, hdx, hex, hfx, hnx, bl⟩
    clear hF hcx hdx hex
    have PB5 := Lib.hid (PB4.out.below bl)
    have BB5 := Lib.hid (below_then BB4.out bl)
    clear PB4 BB4 bl
    have XF5 := Lib.hid (hfx)
    have XN5 := Lib.hid (hnx)
    clear hfx hnx
    go_wp2_with fail
    obtain ⟨bx, hbx⟩ : ∃ b, b = w5.heap.size := ⟨_, rfl⟩
    obtain ⟨w6, hw6⟩ : ∃ W, W = w5.alloc (.cells #[.int .i64 F.w, .slice Ax F.xs.length cx, .slice Tx F.nt dx, .int .i64 F.sx, .int .i64 F.sy, .slice Ox S.length ex] 41) := ⟨_, rfl⟩
    have bl : Below w5.heap.size w5 w6 := by rw [hw6]; exact below1 _ _
    have htx : Hid (Box w6 bx 41 (ccs F.w Ax F.xs.length cx Tx F.nt dx F.sx F.sy Ox S.length ex)) := Lib.hid (by rw [hw6, hbx]; exact Box.new _ _ _)
    rw [← hw6, ← hbx]
    have HQx := Lib.hid hbx
    clear hw6 hbx
    have PB6 := Lib.hid (PB5.out.below bl)
    have BB6 := Lib.hid (below_then BB5.out bl)
    have XF6 := Lib.hid (XF5.out.below bl)
    have XN6 := Lib.hid (XN5.out.keep (.of_below bl))
    clear PB5 BB5 XF5 XN5 bl
    have XB6 := Lib.hid (htx.out)
    clear htx
    go_wp2_with (first | (refine scL_load (by rfl) _ rfl w.heap.size rfl PB6.out ?_) | (refine sc_load (by rfl) _ rfl bx rfl XB6.out ?_))
    refine (im_scnTouch F Ax cx Tx dx S Ox ex fx gx hx_ _ XF6.out HS.out).mono ?_; rintro e w7 ⟨rfl, bl⟩
    have PB7 := Lib.hid (PB6.out.below bl)
    have BB7 := Lib.hid (below_then BB6.out bl)
    have XF7 := Lib.hid (XF6.out.below bl)
    have XN7 := Lib.hid (XN6.out.keep (.of_below bl))
    have XB7 := Lib.hid (XB6.out.below bl)
    clear PB6 BB6 XF6 XN6 XB6 bl
    rw [hV]
    clear hV
    go_wp2_with fail
    refine wp_region_typed (ClB w7) RlB (Ty [TV (sv F Ax cx Tx dx S Ox ex), TV (sv F A c T d S O e0), TScn F S, TV (.bool true), TV (.bool false)])
      (by kernel_rfl) (by kernel_rfl) (stab_ty _ ⟨stabB_k _, stabB_k _, stabB_scn _ _, stabB_k _, stabB_k _, trivial⟩) (Below.refl _ _).drew ?_ ?_
    · refine ⟨?_, ?_, ?_, ?_, ?_, trivial⟩
      · exact lb_scn (.tmp 5) bx rfl XB7.out (fun _ _ _ => want_none rfl) fun ρ wx hx hp => ⟨hx 5 rfl, rfl⟩
      · exact lb_scnL (.tmp 1) w.heap.size rfl PB7.out (fun _ _ _ => want_none rfl) fun ρ wx hx hp => ⟨hx 1 rfl, rfl⟩
      · refine lb_call _ _ _ (fun _ _ => by simp [go_sem]) rfl (fun _ _ _ => want_none rfl) fun ρ wx hb hc hp => ?_
        have h0 : ρ (.tmp 23) = sv F A c T d S O e0 := hp.1 rfl
        refine ⟨#[sv F A c T d S O e0], by simp only [List.map_toArray, List.map_cons, List.map_nil, h0], (to_scn F A c T d S O e0 fa ft fo wx (HFR.out _ (below_then BB7.out hb)) HS.out).mono ?_⟩
        rintro e w' ⟨A2, c2, T2, d2, O2, e2, f2, g2, h2, rfl, _, _, _, hf2, _, b⟩
        exact ⟨_, rfl, b, A2, c2, T2, d2, O2, e2, f2, g2, h2, rfl, hf2⟩
      · refine lb_call _ _ _ (fun _ _ => by simp [go_sem]) rfl (fun _ _ _ => want_none rfl) fun ρ wx hb hc hp => ?_
        have h0 : ρ (.tmp 22) = sv F Ax cx Tx dx S Ox ex := hp.1 rfl
        obtain ⟨A2, c2, T2, d2, O2, e2, f2, g2, h2, h1, hf2⟩ : TScn F S (ρ (.tmp 24)) wx := hp.2.1 rfl
        refine ⟨#[sv F Ax cx Tx dx S Ox ex, sv F A2 c2 T2 d2 S O2 e2], by simp only [List.map_toArray, List.map_cons, List.map_nil, h0, h1], (eq_scn F Ax A2 cx c2 Tx T2 dx d2 S Ox O2 ex e2 fx gx hx_ f2 g2 h2 wx (XF7.out.below hb) hf2 HS.out).mono ?_⟩
        rintro e w' ⟨rfl, b⟩
        exact ⟨_, rfl, b, rfl⟩
      · exact lb_unot (.tmp 25) _ true rfl (fun _ _ _ => want_none rfl) fun ρ wx hp => ⟨hp.1 rfl, rfl⟩
    intro vs w8 hI hF
    obtain ⟨_, _, _, _, h4, _⟩ := hF
    replace h4 : vs 4 = .bool false := h4
    have bl : Below w7.heap.size w7 w8 := hI
    simp only [putAll, Act.put, List.setIfInBounds_toArray, List.set_cons_zero, List.set_cons_succ, h4]
    clear hI h4
    have PB8 := Lib.hid (PB7.out.below bl)
    have BB8 := Lib.hid (below_then BB7.out bl)
    have XF8 := Lib.hid (XF7.out.below bl)
    have XN8 := Lib.hid (XN7.out.keep (.of_below bl))
    have XB8 := Lib.hid (XB7.out.below bl)
    clear PB7 BB7 XF7 XN7 XB7 bl
    go_wp2_with fail
    go_ret
    exact ⟨rfl, BB8.out⟩
  · refine (sz_scn_no F.w A F.xs.length c T F.nt d F.sx F.sy O S.length e0 1048576 _ (by omega) (by omega) (by omega) hl hm hk).mono ?_; rintro e w2 ⟨rfl, bl⟩
    have BB2 := Lib.hid (below_then BB1.out bl)
    clear bl
    go_wp2_with fail
    go_ret
    exact ⟨rfl, BB2.out⟩
end Go.Proofs.Ytacebhncecninaa
