/- The law of RunMachine, walked: it returns true, and changes no memory that was there. -/
import Derived.Test.YtcapfafglikcmaaDoorMacW
import Derived.Test.YtcapfafglikcmaaDoorMacR
import Derived.Deep.DeepCutAuto
namespace Go.Proofs.YtcapfafglikcmaaDoor
open Go.ChangeShapes Go.WideShapes Go.ChangeAt Go.RowKit
set_option linter.unusedVariables false

set_option maxRecDepth 100000 in
set_option maxHeartbeats 8000000 in
theorem walk_FnRunMachine (a0 : Option Addr) (len0 cap0 : Nat) (z0 : List Int) (w : World) (w0 : IsRow .u8 w a0 len0 cap0 z0) (ho : Ops w) :
    Calls Tryd.prog 4 #[.slice a0 len0 cap0] w fun e w' => e = .returned (.bool true) ∧ Below w.heap.size w w' := by
  have W0 := Lib.hid w0
  have HO := Lib.hid ho
  have hl := isRow_len w0
  clear w0 ho
  by_cases hs : len0 ≤ 1048576
  case neg =>
    have hs' : 1048576 < len0 := by omega
    go_enter Tryd.func4, Tryd.ntmps4
    go_wp2_with fail
    go_ret
    exact ⟨rfl, Below.refl _ _⟩
  go_enter Tryd.func4, Tryd.ntmps4
  go_wp2_with fail
  refine (draw_macRun _ _ _ _ _ W0.out).mono ?_
  rintro e w1 ⟨A, n, c, R, k, d, B, m, g, X, s, ⟨s0, s1⟩, rfl, hx, b1, hy⟩
  have HY := Lib.hid hy
  obtain ⟨WX, hWX⟩ : ∃ WX, WX = w1.alloc (.cells #[.slice A n c, .slice R k d, .int .i64 X.mem.bank, .int .i64 X.a, .int .i64 X.at_, .bool X.carry, .slice B m g, .bool X.stop, .int .i64 X.cyc] 28) := ⟨_, rfl⟩
  have B1 : Hid (Below w.heap.size w WX) := by rw [hWX]; exact b1.alloc b1.size _
  have X1 : Hid (Box WX w1.heap.size 28 [.slice A n c, .slice R k d, .int .i64 X.mem.bank, .int .i64 X.a, .int .i64 X.at_, .bool X.carry, .slice B m g, .bool X.stop, .int .i64 X.cyc]) := by rw [hWX]; exact Box.new w1 _ _
  have H1 : Hid (MacHere WX A n c R k d B m g X) := by rw [hWX]; exact hx.below (below1 w1 _)
  have O1 : Hid (Ops WX) := HO.out.below B1.out
  clear b1 hx hy W0 HO hl
  go_upto_region 4 with (fail)
  rw [← hWX]
  generalize w1.heap.size = bx at X1 ⊢
  clear hWX
  have c0 : WX.cell? ⟨bx, 0, none⟩ = some (.slice A n c) := X1.out.cell 0
  have c1 : WX.cell? ⟨bx, 1, none⟩ = some (.slice R k d) := X1.out.cell 1
  have c2 : WX.cell? ⟨bx, 2, none⟩ = some (.int .i64 X.mem.bank) := X1.out.cell 2
  have c3 : WX.cell? ⟨bx, 3, none⟩ = some (.int .i64 X.a) := X1.out.cell 3
  have c4 : WX.cell? ⟨bx, 4, none⟩ = some (.int .i64 X.at_) := X1.out.cell 4
  have c5 : WX.cell? ⟨bx, 5, none⟩ = some (.bool X.carry) := X1.out.cell 5
  have c6 : WX.cell? ⟨bx, 6, none⟩ = some (.slice B m g) := X1.out.cell 6
  have c7 : WX.cell? ⟨bx, 7, none⟩ = some (.bool X.stop) := X1.out.cell 7
  have c8 : WX.cell? ⟨bx, 8, none⟩ = some (.int .i64 X.cyc) := X1.out.cell 8

  go_wp2_with fail
  refine (tx_run ⟨A, n, c, R, k, d, B, m, g, rfl, H1.out⟩ O1.out s).mono ?_
  rintro e w2 ⟨v2, rfl, b2, hv2⟩
  obtain ⟨Y, hY⟩ : ∃ Y, Y = runX X s := ⟨_, rfl⟩
  rw [← hY] at hv2
  have HE := Lib.hid hY
  clear hY
  obtain ⟨Au, nu, cu, Ru, ku, du, Bu, mu, gu, rfl, hm2⟩ := hv2
  obtain ⟨WY, hWY⟩ : ∃ WY, WY = w2.alloc (.cells #[.slice Au nu cu, .slice Ru ku du, .int .i64 Y.mem.bank, .int .i64 Y.a, .int .i64 Y.at_, .bool Y.carry, .slice Bu mu gu, .bool Y.stop, .int .i64 Y.cyc] 28) := ⟨_, rfl⟩
  have VXX : Hid (VX WY bx X) := by rw [hWY]; exact ⟨A, n, c, R, k, d, B, m, g, (X1.out.below b2).alloc _, (H1.out.below b2).below (below1 w2 _)⟩
  have VYY : Hid (VX WY w2.heap.size Y) := by rw [hWY]; exact ⟨Au, nu, cu, Ru, ku, du, Bu, mu, gu, Box.new w2 _ _, hm2.below (below1 w2 _)⟩
  have BY : Hid (Below w.heap.size w WY) := by rw [hWY]; exact (below_then B1.out b2).alloc (Nat.le_trans B1.out.size b2.size) _
  have OY : Hid (Ops WY) := by rw [hWY]; exact (O1.out.below b2).below (below1 w2 _)
  clear b2 hm2 B1 X1 H1 O1 c0 c1 c2 c3 c4 c5 c6 c7 c8
  go_wp2_with fail
  rw [← hWY]
  generalize w2.heap.size = by_ at VYY ⊢
  clear hWY
  refine wp_region_typed (ClB WY) RlB (Ty [TX Y, TX X, TV (.int .i64 s), TX Y, TV (.bool true), TV (.bool false)])
    (by kernel_rfl) (by kernel_rfl) (stab_ty _ ⟨stabB_x _, stabB_x _, stabB_tv _, stabB_x _, stabB_tv _, stabB_tv _, trivial⟩) (Below.refl _ _).drew ?_ ?_
  · refine ⟨?_, ?_, ?_, ?_, ?_, ?_, trivial⟩
    · exact lb_loadX (.tmp 5) by_ Y rfl VYY.out (fun _ _ _ => want_none rfl) (fun ρ hx => hx 5 rfl) (fun _ _ h => h)
    · exact lb_loadX (.tmp 3) bx X rfl VXX.out (fun _ _ _ => want_none rfl) (fun ρ hx => hx 3 rfl) (fun _ _ h => h)
    · exact lb_move (.tmp 4) (.inl rfl) (fun _ _ _ => want_none rfl) fun ρ wx _ hx _ => hx 4 rfl
    · refine lb_callX (Y) _ _ _ (fun _ _ => by simp [go_sem]) rfl (fun _ _ _ => want_none rfl) (fun ρ wx hb hc hp => ?_) (fun _ _ h => h)
      have h1 : TX X (ρ (.tmp 19)) wx := hp.1 rfl
      have h2 : ρ (.tmp 20) = .int .i64 s := hp.2.1 rfl
      refine ⟨#[ρ (.tmp 19), .int .i64 s], by simp [h2], ?_⟩
      rw [HE.out]
      exact tx_srun h1 s
    · refine lb_callT _ _ _ (fun _ _ => by simp [go_sem]) rfl (fun _ _ _ => want_none rfl) (fun ρ wx hb hc hp => ?_) (fun _ => rfl)
      have h1 : TX Y (ρ (.tmp 18)) wx := hp.1 rfl
      have h2 : TX Y (ρ (.tmp 21)) wx := hp.2.1 rfl
      refine ⟨#[ρ (.tmp 18), ρ (.tmp 21)], by simp, ?_⟩
      exact tx_same h1 h2
    · exact lb_unot (.tmp 22) _ true rfl (fun _ _ _ => want_none rfl) fun ρ wx hp => ⟨hp.1 rfl, rfl⟩
  · intro vs w5 b5 hF
    obtain ⟨_, _, _, _, _, hn, _⟩ := hF
    replace hn : vs 5 = .bool false := hn
    have VX5 := Lib.hid (VXX.out.below b5)
    have VY5 := Lib.hid (VYY.out.below b5)
    have O5 := Lib.hid (OY.out.below b5)
    have B5 := Lib.hid (below_then BY.out b5)
    clear VXX VYY OY BY b5
    simp only [putAll, Act.put, List.setIfInBounds_toArray, List.set_cons_zero, List.set_cons_succ, hn]
    clear hn
    obtain ⟨Ax, nx, cx, Rx, kx, dx, Bx, mx, gx, hxb, hxm⟩ := VX5.out
    have XB := Lib.hid hxb
    have XM := Lib.hid hxm
    clear hxb hxm
    have c0 : w5.cell? ⟨bx, 0, none⟩ = some (.slice Ax nx cx) := XB.out.cell 0
    have c1 : w5.cell? ⟨bx, 1, none⟩ = some (.slice Rx kx dx) := XB.out.cell 1
    have c2 : w5.cell? ⟨bx, 2, none⟩ = some (.int .i64 X.mem.bank) := XB.out.cell 2
    have c3 : w5.cell? ⟨bx, 3, none⟩ = some (.int .i64 X.a) := XB.out.cell 3
    have c4 : w5.cell? ⟨bx, 4, none⟩ = some (.int .i64 X.at_) := XB.out.cell 4
    have c5 : w5.cell? ⟨bx, 5, none⟩ = some (.bool X.carry) := XB.out.cell 5
    have c6 : w5.cell? ⟨bx, 6, none⟩ = some (.slice Bx mx gx) := XB.out.cell 6
    have c7 : w5.cell? ⟨bx, 7, none⟩ = some (.bool X.stop) := XB.out.cell 7
    have c8 : w5.cell? ⟨bx, 8, none⟩ = some (.int .i64 X.cyc) := XB.out.cell 8

    go_wp2_with fail
    refine (mac_spec XM.out).mono ?_; rintro e w6 ⟨rfl, b6⟩
    have VX6 := Lib.hid (VX5.out.below b6)
    have VY6 := Lib.hid (VY5.out.below b6)
    have O6 := Lib.hid (O5.out.below b6)
    have B6 := Lib.hid (below_then B5.out b6)
    clear b6 c0 c1 c2 c3 c4 c5 c6 c7 c8 VX5 VY5 O5 B5 XB XM
    by_cases hv : machB X = true
    case neg =>
      have hv' : machB X = false := by simpa using hv
      rw [hv']
      obtain ⟨Ay, ny, cy, Ry, ky, dy, By, my, gy, hyb, hym⟩ := VY6.out
      obtain rfl : ny = 0 := by rw [hym.ramLen, HE.out, runX_out (.inl hv')]; rfl
      have c0 : w6.cell? ⟨by_, 0, none⟩ = some (.slice Ay 0 cy) := hyb.cell 0
      clear hyb hym
      go_wp2_with fail
      refine (alive_any _).mono ?_; rintro e w' ⟨rfl, rfl⟩
      go_wp2_with fail
      go_ret
      exact ⟨rfl, B6.out⟩
    rw [hv]
    by_cases hs0 : s < 0
    case pos =>
      have z1 : decide (s < 0) = true := by simpa using hs0
      obtain ⟨Ay, ny, cy, Ry, ky, dy, By, my, gy, hyb, hym⟩ := VY6.out
      obtain rfl : ny = 0 := by rw [hym.ramLen, HE.out, runX_out (.inr (.inl hs0))]; rfl
      have c0 : w6.cell? ⟨by_, 0, none⟩ = some (.slice Ay 0 cy) := hyb.cell 0
      clear hyb hym
      go_wp2_with fail
      refine (alive_any _).mono ?_; rintro e w' ⟨rfl, rfl⟩
      go_wp2_with fail
      go_ret
      exact ⟨rfl, B6.out⟩
    have z1 : decide (s < 0) = false := by simpa using hs0
    by_cases hs5 : 500 < s
    case pos =>
      have z2 : decide (500 < s) = true := by simpa using hs5
      obtain ⟨Ay, ny, cy, Ry, ky, dy, By, my, gy, hyb, hym⟩ := VY6.out
      obtain rfl : ny = 0 := by rw [hym.ramLen, HE.out, runX_out (.inr (.inr hs5))]; rfl
      have c0 : w6.cell? ⟨by_, 0, none⟩ = some (.slice Ay 0 cy) := hyb.cell 0
      clear hyb hym
      go_wp2_with fail
      refine (alive_any _).mono ?_; rintro e w' ⟨rfl, rfl⟩
      go_wp2_with fail
      go_ret
      exact ⟨rfl, B6.out⟩
    have z2 : decide (500 < s) = false := by simpa using hs5
    obtain ⟨S, rfl⟩ := Int.eq_ofNat_of_zero_le (show 0 ≤ s by omega)
    obtain ⟨H, hH⟩ : ∃ H : Nat, ((S : Int).tdiv 3) = (H : Int) := ⟨S / 3, by rw [Int.tdiv_eq_ediv_of_nonneg (by omega)]; omega⟩
    have hH2 : H ≤ S := by rw [Int.tdiv_eq_ediv_of_nonneg (by omega)] at hH; omega
    have h5 : S ≤ 500 := by omega
    have h0 : (0 : Int) ≤ (H : Int) := by omega
    have h1 : (H : Int) ≤ 500 := by omega
    have hw : IntKind.i64.wrap ((S : Int) - (H : Int)) = (S : Int) - (H : Int) := IntWalk.i64_in _ (by omega)
    have E1 := Lib.hid (runX_parts hv HY.out (s := (S : Int)) (h := (H : Int)) (by omega) (by omega) (by omega))
    have E2 := Lib.hid (runX_zero hv)
    clear hs0 hs5
    go_wp2_with fail
    refine wp_region_typed (ClB w6) RlB (Ty [TX X, TV (.int .i64 H), TX (runX X H), TV (.int .i64 S), TV (.int .i64 H), TV (.int .i64 ((S : Int) - H)), TX Y, TX Y, TV (.bool true), TV (.bool true), TX X, TX (runX X 1), TX X, TX (runX X 1), TV (.bool true), TV (.bool true), TV (.bool true), TX X, TX X, TX X, TV (.bool true), TV (.bool true), TV (.bool true)])
      (by kernel_rfl) (by kernel_rfl) (stab_ty _ ⟨stabB_x _, stabB_tv _, stabB_x _, stabB_tv _, stabB_tv _, stabB_tv _, stabB_x _, stabB_x _, stabB_tv _, stabB_tv _, stabB_x _, stabB_x _, stabB_x _, stabB_x _, stabB_tv _, stabB_tv _, stabB_tv _, stabB_x _, stabB_x _, stabB_x _, stabB_tv _, stabB_tv _, stabB_tv _, trivial⟩) (Below.refl _ _).drew ?_ ?_
    · refine ⟨?_, ?_, ?_, ?_, ?_, ?_, ?_, ?_, ?_, ?_, ?_, ?_, ?_, ?_, ?_, ?_, ?_, ?_, ?_, ?_, ?_, ?_, ?_, trivial⟩
      · exact lb_loadX (.tmp 3) bx X rfl VX6.out (fun _ _ _ => want_none rfl) (fun ρ hx => hx 3 rfl) (fun _ _ h => h)
      · exact lb_move (.tmp 6) (.inl rfl) (fun _ _ _ => want_none rfl) fun ρ wx _ hx _ => hx 6 rfl
      · refine lb_callX (runX X H) _ _ _ (fun _ _ => by simp [go_sem]) rfl (fun _ _ _ => want_none rfl) (fun ρ wx hb hc hp => ?_) (fun _ _ h => h)
        have h1 : TX X (ρ (.tmp 45)) wx := hp.1 rfl
        have h2 : ρ (.tmp 46) = .int .i64 H := hp.2.1 rfl
        refine ⟨#[ρ (.tmp 45), .int .i64 H], by simp [h2], ?_⟩
        exact tx_run h1 (O6.out.below hb) H
      · exact lb_move (.tmp 4) (.inl rfl) (fun _ _ _ => want_none rfl) fun ρ wx _ hx _ => hx 4 rfl
      · exact lb_move (.tmp 6) (.inl rfl) (fun _ _ _ => want_none rfl) fun ρ wx _ hx _ => hx 6 rfl
      · refine lb_val (.int .i64 ((S : Int) - H)) (fun _ _ _ => want_none rfl) fun ρ wx hb hc hx hp => ⟨?_, rfl⟩
        have e1 : ρ (.tmp 48) = .int .i64 S := hp.1 rfl
        have e2 : ρ (.tmp 49) = .int .i64 H := hp.2.1 rfl
        unfold execOp
        simp only [e1, e2]
        clear hb hc hx hp e1 e2
        go_simp
      · refine lb_callX (Y) _ _ _ (fun _ _ => by simp [go_sem]) rfl (fun _ _ _ => want_none rfl) (fun ρ wx hb hc hp => ?_) (fun _ _ h => h)
        have h1 : TX (runX X H) (ρ (.tmp 47)) wx := hp.1 rfl
        have h2 : ρ (.tmp 50) = .int .i64 ((S : Int) - H) := hp.2.1 rfl
        refine ⟨#[ρ (.tmp 47), .int .i64 ((S : Int) - H)], by simp [h2], ?_⟩
        rw [HE.out, ← E1.out]
        exact tx_run h1 (O6.out.below hb) _
      · exact lb_loadX (.tmp 5) by_ Y rfl VY6.out (fun _ _ _ => want_none rfl) (fun ρ hx => hx 5 rfl) (fun _ _ h => h)
      · refine lb_callT _ _ _ (fun _ _ => by simp [go_sem]) rfl (fun _ _ _ => want_none rfl) (fun ρ wx hb hc hp => ?_) (fun _ => rfl)
        have h1 : TX Y (ρ (.tmp 51)) wx := hp.1 rfl
        have h2 : TX Y (ρ (.tmp 52)) wx := hp.2.1 rfl
        refine ⟨#[ρ (.tmp 51), ρ (.tmp 52)], by simp, ?_⟩
        exact tx_same h1 h2
      · exact lb_move (.tmp 53) (.inl rfl) (fun _ _ _ => want_none rfl) fun ρ wx _ _ hp => hp.1 rfl
      · exact lb_loadX (.tmp 3) bx X rfl VX6.out (fun ρ wx hp => want_of 9 true 54 rfl rfl (hp.1 rfl)) (fun ρ hx => hx 3 rfl) (fun _ _ h => h)
      · refine lb_callX (runX X 1) _ _ _ (fun _ _ => by simp [go_sem]) rfl (fun ρ wx hp => want_of 9 true 54 rfl rfl (hp.2.2.1 rfl)) (fun ρ wx hb hc hp => ?_) (fun _ _ h => h)
        have h1 : TX X (ρ (.tmp 55)) wx := hp.1 rfl
        refine ⟨#[ρ (.tmp 55), .int .i64 1], by simp [hc], ?_⟩
        exact tx_run h1 (O6.out.below hb) 1
      · exact lb_loadX (.tmp 3) bx X rfl VX6.out (fun ρ wx hp => want_of 9 true 54 rfl rfl (hp.1 rfl)) (fun ρ hx => hx 3 rfl) (fun _ _ h => h)
      · refine lb_callX (runX X 1) _ _ _ (fun _ _ => by simp [go_sem]) rfl (fun ρ wx hp => want_of 9 true 54 rfl rfl (hp.2.2.1 rfl)) (fun ρ wx hb hc hp => ?_) (fun _ _ h => h)
        have h1 : TX X (ρ (.tmp 57)) wx := hp.1 rfl
        refine ⟨#[ρ (.tmp 57)], by simp, ?_⟩
        exact tx_step h1 (O6.out.below hb)
      · refine lb_callT _ _ _ (fun _ _ => by simp [go_sem]) rfl (fun ρ wx hp => want_of 9 true 54 rfl rfl (hp.2.2.2.1 rfl)) (fun ρ wx hb hc hp => ?_) (fun _ => rfl)
        have h1 : TX (runX X 1) (ρ (.tmp 56)) wx := hp.1 rfl
        have h2 : TX (runX X 1) (ρ (.tmp 58)) wx := hp.2.1 rfl
        refine ⟨#[ρ (.tmp 56), ρ (.tmp 58)], by simp, ?_⟩
        exact tx_same h1 h2
      · exact lb_pick (.tmp 54) (.tmp 59) _ rfl true (fun _ _ _ => want_none rfl) fun ρ wx _ hp => ⟨hp.1 rfl, hp.2.1 rfl⟩
      · exact lb_move (.tmp 60) (.inl rfl) (fun _ _ _ => want_none rfl) fun ρ wx _ _ hp => hp.1 rfl
      · exact lb_loadX (.tmp 3) bx X rfl VX6.out (fun ρ wx hp => want_of 16 true 61 rfl rfl (hp.1 rfl)) (fun ρ hx => hx 3 rfl) (fun _ _ h => h)
      · refine lb_callX (X) _ _ _ (fun _ _ => by simp [go_sem]) rfl (fun ρ wx hp => want_of 16 true 61 rfl rfl (hp.2.2.1 rfl)) (fun ρ wx hb hc hp => ?_) (fun _ _ h => h)
        have h1 : TX X (ρ (.tmp 62)) wx := hp.1 rfl
        refine ⟨#[ρ (.tmp 62), .int .i64 0], by simp [hc], ?_⟩
        have h := tx_run h1 (O6.out.below hb) 0
        rw [E2.out] at h
        exact h
      · exact lb_loadX (.tmp 3) bx X rfl VX6.out (fun ρ wx hp => want_of 16 true 61 rfl rfl (hp.1 rfl)) (fun ρ hx => hx 3 rfl) (fun _ _ h => h)
      · refine lb_callT _ _ _ (fun _ _ => by simp [go_sem]) rfl (fun ρ wx hp => want_of 16 true 61 rfl rfl (hp.2.2.2.1 rfl)) (fun ρ wx hb hc hp => ?_) (fun _ => rfl)
        have h1 : TX X (ρ (.tmp 63)) wx := hp.1 rfl
        have h2 : TX X (ρ (.tmp 64)) wx := hp.2.1 rfl
        refine ⟨#[ρ (.tmp 63), ρ (.tmp 64)], by simp, ?_⟩
        exact tx_same h1 h2
      · exact lb_pick (.tmp 61) (.tmp 65) _ rfl true (fun _ _ _ => want_none rfl) fun ρ wx _ hp => ⟨hp.1 rfl, hp.2.1 rfl⟩
      · exact lb_move (.tmp 66) (.inr rfl) (fun _ _ _ => want_none rfl) fun ρ wx _ _ hp => hp.1 rfl
    · intro vs w7 b5 hF
      obtain ⟨_, _, _, _, _, _, _, _, _, _, _, _, _, _, _, _, _, _, _, _, _, _, hn, _⟩ := hF
      replace hn : vs 22 = .bool true := hn
      have B7 := Lib.hid (below_then B6.out b5)
      clear b5
      simp only [putAll, Act.put, List.setIfInBounds_toArray, List.set_cons_zero, List.set_cons_succ, hn]
      clear hn
      go_wp2_with fail
      go_ret
      exact ⟨rfl, B7.out⟩
end Go.Proofs.YtcapfafglikcmaaDoor
