/- The law of StepMachine, walked: it returns true, and changes no memory that was there. -/
import Derived.Test.YtcapfafglikcmaaDoorMacW
import Derived.Deep.DeepCutAuto
namespace Go.Proofs.YtcapfafglikcmaaDoor
open Go.ChangeShapes Go.WideShapes Go.ChangeAt Go.RowKit
set_option linter.unusedVariables false

theorem abs_one (z : Int) (h0 : -1 ≤ z) (h1 : z ≤ 1) (w : World) : Calls Tryd.prog 17 #[.int .i64 z] w fun e w' => ∃ r : Int, e = .returned (.int .i64 r) ∧ r ≤ 1 ∧ w = w' := by
  have hz : z = -1 ∨ z = 0 ∨ z = 1 := by omega
  clear h0 h1
  rcases hz with rfl | rfl | rfl
  all_goals
    go_enter Tryd.func17, Tryd.ntmps17
    go_wp2_with fail
    go_ret
    exact ⟨_, rfl, by decide, rfl⟩
set_option maxRecDepth 100000 in
set_option maxHeartbeats 8000000 in
theorem walk_FnStepMachine (a0 : Option Addr) (len0 cap0 : Nat) (z0 : List Int) (w : World) (w0 : IsRow .u8 w a0 len0 cap0 z0) (ho : Ops w) :
    Calls Tryd.prog 3 #[.slice a0 len0 cap0] w fun e w' => e = .returned (.bool true) ∧ Below w.heap.size w w' := by
  have W0 := Lib.hid w0
  have HO := Lib.hid ho
  have hl := isRow_len w0
  clear w0 ho
  by_cases hs : len0 ≤ 1048576
  case neg =>
    have hs' : 1048576 < len0 := by omega
    go_enter Tryd.func3, Tryd.ntmps3
    go_wp2_with fail
    go_ret
    exact ⟨rfl, Below.refl _ _⟩
  go_enter Tryd.func3, Tryd.ntmps3
  go_wp2_with fail
  refine (draw_macStep _ _ _ _ _ W0.out).mono ?_
  rintro e w1 ⟨A, n, c, R, k, d, B, m, g, X, rfl, hx, b1, hy⟩
  have HY := Lib.hid hy
  obtain ⟨WX, hWX⟩ : ∃ WX, WX = w1.alloc (.cells #[.slice A n c, .slice R k d, .int .i64 X.mem.bank, .int .i64 X.a, .int .i64 X.at_, .bool X.carry, .slice B m g, .bool X.stop, .int .i64 X.cyc] 28) := ⟨_, rfl⟩
  have B1 : Hid (Below w.heap.size w WX) := by rw [hWX]; exact b1.alloc b1.size _
  have X1 : Hid (Box WX w1.heap.size 28 [.slice A n c, .slice R k d, .int .i64 X.mem.bank, .int .i64 X.a, .int .i64 X.at_, .bool X.carry, .slice B m g, .bool X.stop, .int .i64 X.cyc]) := by rw [hWX]; exact Box.new w1 _ _
  have H1 : Hid (MacHere WX A n c R k d B m g X) := by rw [hWX]; exact hx.below (below1 w1 _)
  have O1 : Hid (Ops WX) := HO.out.below B1.out
  clear b1 hx hy W0 HO hl
  go_upto_region 4 with (fail)
  rw [← hWX]
  generalize w1.heap.size = bx at X1 ⊢
  clear hWX
  obtain ⟨_, ⟨fa, fr, fb, hh⟩, hf⟩ := H1.out
  have I1 := Lib.hid hh.ram
  have hn : n ≤ 256 := hf.n hh
  clear hh hf
  have p0 : WX.cell? ⟨bx, 0, none⟩ = some (.slice A n c) := X1.out.cell 0
  have p1 : WX.cell? ⟨bx, 1, none⟩ = some (.slice R k d) := X1.out.cell 1
  have p2 : WX.cell? ⟨bx, 2, none⟩ = some (.int .i64 X.mem.bank) := X1.out.cell 2
  have p3 : WX.cell? ⟨bx, 3, none⟩ = some (.int .i64 X.a) := X1.out.cell 3
  have p4 : WX.cell? ⟨bx, 4, none⟩ = some (.int .i64 X.at_) := X1.out.cell 4
  have p5 : WX.cell? ⟨bx, 5, none⟩ = some (.bool X.carry) := X1.out.cell 5
  have p6 : WX.cell? ⟨bx, 6, none⟩ = some (.slice B m g) := X1.out.cell 6
  have p7 : WX.cell? ⟨bx, 7, none⟩ = some (.bool X.stop) := X1.out.cell 7
  have p8 : WX.cell? ⟨bx, 8, none⟩ = some (.int .i64 X.cyc) := X1.out.cell 8

  have zW : bx < WX.heap.size := X1.out.lt
  have own0 := Lib.hid (own_empty WX 3 WX.heap.size (Nat.le_refl _))
  have I1a := Lib.hid (I1.out.below (below1 WX (.cells #[] 3)))
  go_wp2_with (at_builtin; refine wpList_append_ints rfl _ _ rfl WX.heap.size _ 0 [] rfl own0.out _ _ _ X.mem.ram fa rfl I1a.out (by omega) (by simp) ?_; intro v' w2 own2 gr2 at2; have own2' : w2.ownsRow WX.heap.size 3 1 v' n (iv X.mem.ram) := (by simpa using own2); have b2 : Below WX.heap.size WX w2 := below_grown (below1 WX _) gr2 (by simp) (fun b hb => (own_lt own0.out b hb).1); have OW2 := Lib.hid own2'; have X2 := Lib.hid (X1.out.below b2); have E2 := Lib.hid b2; have c0 : w2.cell? ⟨bx, 0, none⟩ = some (.slice A n c) := X2.out.cell 0; have c1 : w2.cell? ⟨bx, 1, none⟩ = some (.slice R k d) := X2.out.cell 1; have c2 : w2.cell? ⟨bx, 2, none⟩ = some (.int .i64 X.mem.bank) := X2.out.cell 2; have c3 : w2.cell? ⟨bx, 3, none⟩ = some (.int .i64 X.a) := X2.out.cell 3; have c4 : w2.cell? ⟨bx, 4, none⟩ = some (.int .i64 X.at_) := X2.out.cell 4; have c5 : w2.cell? ⟨bx, 5, none⟩ = some (.bool X.carry) := X2.out.cell 5; have c6 : w2.cell? ⟨bx, 6, none⟩ = some (.slice B m g) := X2.out.cell 6; have c7 : w2.cell? ⟨bx, 7, none⟩ = some (.bool X.stop) := X2.out.cell 7; have c8 : w2.cell? ⟨bx, 8, none⟩ = some (.int .i64 X.cyc) := X2.out.cell 8; clear own2 own2' gr2 at2 b2 p0 p1 p2 p3 p4 p5 p6 p7 p8)
  obtain ⟨BA, bc, fb0, rfl, _, _, hIb, _, _⟩ := own_ints OW2.out
  have J2 := Lib.hid hIb
  have B2 := Lib.hid (below_then B1.out E2.out)
  have H2 := Lib.hid (H1.out.below E2.out)
  have O2 := Lib.hid (O1.out.below E2.out)
  clear hIb own0 I1a I1 H1 X1 B1 O1 OW2 E2
  refine (tx_step ⟨A, n, c, R, k, d, B, m, g, rfl, H2.out⟩ O2.out).mono ?_
  rintro e w3 ⟨v3, rfl, b3, hv3⟩
  obtain ⟨Y, hY⟩ : ∃ Y, Y = runX X 1 := ⟨_, rfl⟩
  rw [← hY] at hv3
  have HE := Lib.hid hY
  clear hY
  obtain ⟨Ay, ny, cy, Ry, ky, dy, By, my, gy, rfl, hm4⟩ := hv3
  obtain ⟨WY, hWY⟩ : ∃ WY, WY = w3.alloc (.cells #[.slice Ay ny cy, .slice Ry ky dy, .int .i64 Y.mem.bank, .int .i64 Y.a, .int .i64 Y.at_, .bool Y.carry, .slice By my gy, .bool Y.stop, .int .i64 Y.cyc] 28) := ⟨_, rfl⟩
  have XB : Hid (Box WY bx 28 [.slice A n c, .slice R k d, .int .i64 X.mem.bank, .int .i64 X.a, .int .i64 X.at_, .bool X.carry, .slice B m g, .bool X.stop, .int .i64 X.cyc]) := by rw [hWY]; exact (X2.out.below b3).alloc _
  have XM : Hid (MacHere WY A n c R k d B m g X) := by rw [hWY]; exact (H2.out.below b3).below (below1 w3 _)
  have YB : Hid (Box WY w3.heap.size 28 [.slice Ay ny cy, .slice Ry ky dy, .int .i64 Y.mem.bank, .int .i64 Y.a, .int .i64 Y.at_, .bool Y.carry, .slice By my gy, .bool Y.stop, .int .i64 Y.cyc]) := by rw [hWY]; exact Box.new w3 _ _
  have YM : Hid (MacHere WY Ay ny cy Ry ky dy By my gy Y) := by rw [hWY]; exact hm4.below (below1 w3 _)
  have JY : Hid (Ints WY BA n X.mem.ram fb0) := by rw [hWY]; exact (J2.out.below b3).below (below1 w3 _)
  have BY : Hid (Below w.heap.size w WY) := by rw [hWY]; exact (below_then B2.out b3).alloc (Nat.le_trans B2.out.size b3.size) _
  clear b3 hm4 B2 X2 H2 O2 J2 c0 c1 c2 c3 c4 c5 c6 c7 c8
  go_wp2_with fail
  rw [← hWY]
  generalize w3.heap.size = by_ at YB ⊢
  clear hWY
  have VXX : Hid (VX WY bx X) := ⟨A, n, c, R, k, d, B, m, g, XB.out, XM.out⟩
  have VYY : Hid (VX WY by_ Y) := ⟨Ay, ny, cy, Ry, ky, dy, By, my, gy, YB.out, YM.out⟩
  refine wp_region_typed (ClB WY) RlB (Ty [TX Y, TX X, TX Y, TV (.bool true), TV (.bool false), TV (.bool false), TV (.pointer (some ⟨bx, 0, none⟩)), TV (.pointer (some ⟨bx, 0, none⟩)), TV (.slice A n c), TV (.slice BA n bc), TV (.bool true), TV (.bool false), TV (.bool false)])
    (by kernel_rfl) (by kernel_rfl) (stab_ty _ ⟨stabB_x _, stabB_x _, stabB_x _, stabB_tv _, stabB_tv _, stabB_tv _, stabB_tv _, stabB_tv _, stabB_tv _, stabB_tv _, stabB_tv _, stabB_tv _, stabB_tv _, trivial⟩) (Below.refl _ _).drew ?_ ?_
  · refine ⟨?_, ?_, ?_, ?_, ?_, ?_, ?_, ?_, ?_, ?_, ?_, ?_, ?_, trivial⟩
    · exact lb_loadX (.tmp 5) by_ Y rfl VYY.out (fun _ _ _ => want_none rfl) (fun ρ hx => hx 5 rfl) (fun _ _ h => h)
    · exact lb_loadX (.tmp 3) bx X rfl VXX.out (fun _ _ _ => want_none rfl) (fun ρ hx => hx 3 rfl) (fun _ _ h => h)
    · refine lb_callX (Y) _ _ _ (fun _ _ => by simp [go_sem]) rfl (fun _ _ _ => want_none rfl) (fun ρ wx hb hc hp => ?_) (fun _ _ h => h)
      have h1 : TX X (ρ (.tmp 22)) wx := hp.1 rfl
      refine ⟨#[ρ (.tmp 22)], by simp, ?_⟩
      rw [HE.out]
      exact tx_sstep h1
    · refine lb_callT _ _ _ (fun _ _ => by simp [go_sem]) rfl (fun _ _ _ => want_none rfl) (fun ρ wx hb hc hp => ?_) (fun _ => rfl)
      have h1 : TX Y (ρ (.tmp 21)) wx := hp.1 rfl
      have h2 : TX Y (ρ (.tmp 23)) wx := hp.2.1 rfl
      refine ⟨#[ρ (.tmp 21), ρ (.tmp 23)], by simp, ?_⟩
      exact tx_same h1 h2
    · exact lb_unot (.tmp 24) _ true rfl (fun _ _ _ => want_none rfl) fun ρ wx hp => ⟨hp.1 rfl, rfl⟩
    · exact lb_move (.tmp 25) (.inl rfl) (fun _ _ _ => want_none rfl) fun ρ wx _ _ hp => hp.1 rfl
    · refine lb_val (.pointer (some ⟨bx, 0, none⟩)) (fun ρ wx hp => want_of 5 false 26 rfl rfl (hp.1 rfl)) fun ρ wx hb hc hx hp => ⟨?_, rfl⟩
      have e1 : ρ (.tmp 3) = .pointer (some ⟨bx, 0, none⟩) := hx 3 rfl
      unfold execOp
      simp only [e1]
      clear hb hc hx hp e1
      go_simp
    · refine lb_val (.pointer (some ⟨bx, 0, none⟩)) (fun ρ wx hp => want_of 5 false 26 rfl rfl (hp.2.1 rfl)) fun ρ wx hb hc hx hp => ⟨?_, rfl⟩
      have e1 : ρ (.tmp 27) = .pointer (some ⟨bx, 0, none⟩) := hp.1 rfl
      unfold execOp
      simp only [e1]
      clear hb hc hx hp e1
      go_simp
    · refine lb_val (.slice A n c) (fun ρ wx hp => want_of 5 false 26 rfl rfl (hp.2.1 rfl)) fun ρ wx hb hc hx hp => ⟨?_, rfl⟩
      have e1 : ρ (.tmp 28) = .pointer (some ⟨bx, 0, none⟩) := hp.1 rfl
      have c0 : wx.cell? ⟨bx, 0, none⟩ = some (.slice A n c) := (XB.out.below hb).cell 0
      unfold execOp
      simp only [e1]
      clear hb hc hx hp e1
      go_simp
    · exact lb_move (.tmp 4) (.inl rfl) (fun ρ wx hp => want_of 5 false 26 rfl rfl (hp.1 rfl)) fun ρ wx _ hx _ => hx 4 rfl
    · refine lb_callT _ _ _ (fun _ _ => by simp [go_sem]) rfl (fun ρ wx hp => want_of 5 false 26 rfl rfl (hp.2.2.2.1 rfl)) (fun ρ wx hb hc hp => ?_) (fun _ => rfl)
      have h1 : ρ (.tmp 29) = .slice A n c := hp.1 rfl
      have h2 : ρ (.tmp 30) = .slice BA n bc := hp.2.1 rfl
      refine ⟨#[ρ (.tmp 29), ρ (.tmp 30)], by simp, ?_⟩
      obtain ⟨_, ⟨fa1, fr1, fb1, hh1⟩, _⟩ := XM.out.below hb
      rw [h1, h2]
      refine (same_ints A BA n c bc X.mem.ram fa1 fb0 wx hh1.ram (JY.out.below hb) (by omega)).mono ?_
      rintro e w' ⟨rfl, q, rfl⟩
      exact ⟨rfl, below_drewN (Below.refl _ _) q⟩
    · exact lb_unot (.tmp 31) _ true rfl (fun ρ wx hp => want_of 5 false 26 rfl rfl (hp.2.1 rfl)) fun ρ wx hp => ⟨hp.1 rfl, rfl⟩
    · exact lb_pick (.tmp 26) (.const (.bool true)) (.tmp 32) rfl false (fun _ _ _ => want_none rfl) fun ρ wx _ hp => ⟨hp.1 rfl, hp.2.1 rfl⟩
  · intro vs w5 b5 hF
    obtain ⟨_, _, _, _, _, _, _, _, _, _, _, _, hn, _⟩ := hF
    replace hn : vs 12 = .bool false := hn
    have XB5 := Lib.hid (XB.out.below b5)
    have XM5 := Lib.hid (XM.out.below b5)
    have YB5 := Lib.hid (YB.out.below b5)
    have YM5 := Lib.hid (YM.out.below b5)
    have J5 := Lib.hid (JY.out.below b5)
    have B5 := Lib.hid (below_then BY.out b5)
    clear VXX VYY XB XM YB YM JY BY b5
    simp only [putAll, Act.put, List.setIfInBounds_toArray, List.set_cons_zero, List.set_cons_succ, hn]
    clear hn
    have c0 : w5.cell? ⟨bx, 0, none⟩ = some (.slice A n c) := XB5.out.cell 0
    have c1 : w5.cell? ⟨bx, 1, none⟩ = some (.slice R k d) := XB5.out.cell 1
    have c2 : w5.cell? ⟨bx, 2, none⟩ = some (.int .i64 X.mem.bank) := XB5.out.cell 2
    have c3 : w5.cell? ⟨bx, 3, none⟩ = some (.int .i64 X.a) := XB5.out.cell 3
    have c4 : w5.cell? ⟨bx, 4, none⟩ = some (.int .i64 X.at_) := XB5.out.cell 4
    have c5 : w5.cell? ⟨bx, 5, none⟩ = some (.bool X.carry) := XB5.out.cell 5
    have c6 : w5.cell? ⟨bx, 6, none⟩ = some (.slice B m g) := XB5.out.cell 6
    have c7 : w5.cell? ⟨bx, 7, none⟩ = some (.bool X.stop) := XB5.out.cell 7
    have c8 : w5.cell? ⟨bx, 8, none⟩ = some (.int .i64 X.cyc) := XB5.out.cell 8

    go_wp2_with fail
    refine (mac_spec XM5.out).mono ?_; rintro e w6 ⟨rfl, b6⟩
    have XB6 := Lib.hid (XB5.out.below b6)
    have XM6 := Lib.hid (XM5.out.below b6)
    have YB6 := Lib.hid (YB5.out.below b6)
    have YM6 := Lib.hid (YM5.out.below b6)
    have J6 := Lib.hid (J5.out.below b6)
    have B6 := Lib.hid (below_then B5.out b6)
    clear b6 c0 c1 c2 c3 c4 c5 c6 c7 c8 XB5 XM5 YB5 YM5 J5 B5
    by_cases hv : machB X = true
    case neg =>
      have hv' : machB X = false := by simpa using hv
      rw [hv']
      have HZ : Hid (Y = machZ) := by rw [HE.out]; exact runX_out (.inl hv')
      have HZ2 : Hid (machB Y = false) := by rw [HZ.out]; exact machZ_no
      obtain rfl : ny = 0 := by rw [YM6.out.ramLen, HZ.out]; rfl
      clear hv hv'
      have c0 : w6.cell? ⟨by_, 0, none⟩ = some (.slice Ay 0 cy) := YB6.out.cell 0
      have c1 : w6.cell? ⟨by_, 1, none⟩ = some (.slice Ry ky dy) := YB6.out.cell 1
      have c2 : w6.cell? ⟨by_, 2, none⟩ = some (.int .i64 Y.mem.bank) := YB6.out.cell 2
      have c3 : w6.cell? ⟨by_, 3, none⟩ = some (.int .i64 Y.a) := YB6.out.cell 3
      have c4 : w6.cell? ⟨by_, 4, none⟩ = some (.int .i64 Y.at_) := YB6.out.cell 4
      have c5 : w6.cell? ⟨by_, 5, none⟩ = some (.bool Y.carry) := YB6.out.cell 5
      have c6 : w6.cell? ⟨by_, 6, none⟩ = some (.slice By my gy) := YB6.out.cell 6
      have c7 : w6.cell? ⟨by_, 7, none⟩ = some (.bool Y.stop) := YB6.out.cell 7
      have c8 : w6.cell? ⟨by_, 8, none⟩ = some (.int .i64 Y.cyc) := YB6.out.cell 8

      go_wp2_with fail
      refine (mac_impl YM6.out).mono ?_; rintro e w7 ⟨rfl, b7⟩
      rw [HZ2.out]
      have YB7 := Lib.hid (YB6.out.below b7)
      have B7 := Lib.hid (below_then B6.out b7)
      clear b7 c0 c1 c2 c3 c4 c5 c6 c7 c8
      have c0 : w7.cell? ⟨by_, 0, none⟩ = some (.slice Ay 0 cy) := YB7.out.cell 0
      have c1 : w7.cell? ⟨by_, 1, none⟩ = some (.slice Ry ky dy) := YB7.out.cell 1
      have c2 : w7.cell? ⟨by_, 2, none⟩ = some (.int .i64 Y.mem.bank) := YB7.out.cell 2
      have c3 : w7.cell? ⟨by_, 3, none⟩ = some (.int .i64 Y.a) := YB7.out.cell 3
      have c4 : w7.cell? ⟨by_, 4, none⟩ = some (.int .i64 Y.at_) := YB7.out.cell 4
      have c5 : w7.cell? ⟨by_, 5, none⟩ = some (.bool Y.carry) := YB7.out.cell 5
      have c6 : w7.cell? ⟨by_, 6, none⟩ = some (.slice By my gy) := YB7.out.cell 6
      have c7 : w7.cell? ⟨by_, 7, none⟩ = some (.bool Y.stop) := YB7.out.cell 7
      have c8 : w7.cell? ⟨by_, 8, none⟩ = some (.int .i64 Y.cyc) := YB7.out.cell 8

      go_wp2_with fail
      refine (alive_any _).mono ?_; rintro e w' ⟨rfl, rfl⟩
      go_wp2_with fail
      go_ret
      exact ⟨rfl, B7.out⟩
    rw [hv]
    have gd := goodX_of hv
    have hE : Y = stepN X := by rw [HE.out]; exact runX_step hv
    have HE2 := Lib.hid hE
    have SK := Lib.hid (step_keeps hv)
    have HV := Lib.hid hv
    have hyr : Y.mem.ram.length = 256 := by rw [HE.out]; exact runX_ram hv (by omega) (by omega)
    obtain rfl : n = 256 := XM6.out.ramLen.trans gd.mem.ram
    obtain rfl : ny = 256 := YM6.out.ramLen.trans hyr
    have hcc : 0 ≤ X.cyc := gd.c0
    have ht0 : 0 ≤ X.at_ := gd.t0
    have ht1 : X.at_ ≤ 1023 := gd.t1
    obtain ⟨_, ⟨fa6, fr6, fb6, hx6⟩, _⟩ := XM6.out
    obtain ⟨_, ⟨fc6, fs6, fd6, hy6⟩, _⟩ := YM6.out
    obtain ⟨mb, mo, rfl, _, _, hm⟩ := J6.out.at_ (by omega)
    obtain ⟨yb, yo, rfl, _, _, hym⟩ := hy6.ram.at_ (by omega)
    have HM := Lib.hid hm
    have HXM := Lib.hid hym
    clear hm hym gd hE hyr hx6 hy6 hv
    have c0 : w6.cell? ⟨by_, 0, none⟩ = some (.slice (some ⟨yb, yo, none⟩) 256 cy) := YB6.out.cell 0
    have c1 : w6.cell? ⟨by_, 1, none⟩ = some (.slice Ry ky dy) := YB6.out.cell 1
    have c2 : w6.cell? ⟨by_, 2, none⟩ = some (.int .i64 Y.mem.bank) := YB6.out.cell 2
    have c3 : w6.cell? ⟨by_, 3, none⟩ = some (.int .i64 Y.a) := YB6.out.cell 3
    have c4 : w6.cell? ⟨by_, 4, none⟩ = some (.int .i64 Y.at_) := YB6.out.cell 4
    have c5 : w6.cell? ⟨by_, 5, none⟩ = some (.bool Y.carry) := YB6.out.cell 5
    have c6 : w6.cell? ⟨by_, 6, none⟩ = some (.slice By my gy) := YB6.out.cell 6
    have c7 : w6.cell? ⟨by_, 7, none⟩ = some (.bool Y.stop) := YB6.out.cell 7
    have c8 : w6.cell? ⟨by_, 8, none⟩ = some (.int .i64 Y.cyc) := YB6.out.cell 8
    go_wp2_with fail
    go_loopw [6, 7] (fun u i wr => ∃ j q : Nat, j ≤ 256 ∧ u = .int .i64 (diffN Y.mem.ram X.mem.ram j : Nat) ∧ i = .int .i64 j ∧ wr = w6.drewN q) (fun _ i _ => 256 - (intOf i).toNat)
    case atStart => exact ⟨0, 0, by omega, rfl, rfl, rfl⟩
    case round =>
      obtain ⟨j, q, hj, rfl, rfl, rfl⟩ := hrel
      by_cases hlt : j < 256
      · have r1 := HM.out j hlt
        have r2 := HXM.out j hlt
        have i0 : (0 : Int) ≤ (j : Int) := by omega
        have i1 : (j : Int) < 256 := by omega
        have hdl := diff_le Y.mem.ram X.mem.ram j
        by_cases he : Y.mem.ram.getD j 0 = X.mem.ram.getD j 0
        · have hd : diffN Y.mem.ram X.mem.ram (j + 1) = diffN Y.mem.ram X.mem.ram j := by show _ + _ = _; rw [if_pos he]; rfl
          have HD := Lib.hid hd
          rw [he] at r2
          generalize X.mem.ram.getD j 0 = r at r1 r2
          clear he hd
          go_wp2
          go_quiet (fail)
          go_wp2
          go_roundw
          case rel => exact ⟨j + 1, _, by omega, by rw [HD.out], by go_num, rfl⟩
          case measure => simp [intOf]; omega
        · have hd : diffN Y.mem.ram X.mem.ram (j + 1) = diffN Y.mem.ram X.mem.ram j + 1 := by show _ + _ = _; rw [if_neg he]
          have HD := Lib.hid hd
          have hne : (Y.mem.ram.getD j 0 != X.mem.ram.getD j 0) = true := by simpa using he
          generalize Y.mem.ram.getD j 0 = p at r2 hne
          generalize X.mem.ram.getD j 0 = r at r1 hne
          generalize hdj : diffN Y.mem.ram X.mem.ram j = dj at hdl HD
          clear he hd hdj
          go_wp2
          go_quiet (fail)
          go_wp2
          go_roundw
          case rel => exact ⟨j + 1, _, by omega, by rw [HD.out]; go_num, by go_num, rfl⟩
          case measure => simp [intOf]; omega
      · obtain rfl : j = 256 := by omega
        obtain ⟨k1, k2, k3, kq⟩ := SK.out
        rw [← HE2.out] at k1 k2 k3 kq
        have K1 := Lib.hid k1
        have DC : Hid (((diffN Y.mem.ram X.mem.ram 256 : Nat) : Int) = 0 ∨ (((diffN Y.mem.ram X.mem.ram 256 : Nat) : Int) = 1 ∧ readM X.mem X.at_ = 3)) := by
          have hr : readM X.mem X.at_ = readN X.mem X.at_.toNat := by
            unfold readM; rw [if_pos ⟨addrB_mk ht0 ht1, valid_of (goodX_of HV.out).mem⟩]
          rw [hr]
          rcases kq with h | ⟨h, h'⟩
          · exact .inl (by rw [h]; rfl)
          · exact .inr ⟨by rw [h]; rfl, h'⟩
        generalize ((diffN Y.mem.ram X.mem.ram 256 : Nat) : Int) = D at DC ⊢
        obtain ⟨kc1, kc2⟩ := k2
        obtain ⟨kb1, kb2⟩ := k3
        have XB9 : Hid (Box (w6.drewN q) bx 28 [.slice A 256 c, .slice R k d, .int .i64 X.mem.bank, .int .i64 X.a, .int .i64 X.at_, .bool X.carry, .slice B m g, .bool X.stop, .int .i64 X.cyc]) := XB6.out
        have YB9 : Hid (Box (w6.drewN q) by_ 28 [.slice (some ⟨yb, yo, none⟩) 256 cy, .slice Ry ky dy, .int .i64 Y.mem.bank, .int .i64 Y.a, .int .i64 Y.at_, .bool Y.carry, .slice By my gy, .bool Y.stop, .int .i64 Y.cyc]) := YB6.out
        have XM9 : Hid (MacHere (w6.drewN q) A 256 c R k d B m g X) := XM6.out.below (below_drewN (Below.refl _ _) q)
        have YM9 : Hid (MacHere (w6.drewN q) (some ⟨yb, yo, none⟩) 256 cy Ry ky dy By my gy Y) := YM6.out.below (below_drewN (Below.refl _ _) q)
        have B9 := Lib.hid (below_drewN B6.out q)
        generalize w6.drewN q = w9 at XB9 YB9 XM9 YM9 B9 ⊢
        clear k1 kq SK HM HXM XB6 YB6 XM6 YM6 J6 B6 c0 c1 c2 c3 c4 c5 c6 c7 c8 hj hlt
        obtain ⟨_, ⟨fa9, fr9, fb9, hx9⟩, hf9⟩ := XM9.out
        have IX := Lib.hid hx9
        have FX := Lib.hid hf9
        clear hx9 hf9
        have e0 : w9.cell? ⟨bx, 0, none⟩ = some (.slice A 256 c) := XB9.out.cell 0
        have e1 : w9.cell? ⟨bx, 1, none⟩ = some (.slice R k d) := XB9.out.cell 1
        have e2 : w9.cell? ⟨bx, 2, none⟩ = some (.int .i64 X.mem.bank) := XB9.out.cell 2
        have e3 : w9.cell? ⟨bx, 3, none⟩ = some (.int .i64 X.a) := XB9.out.cell 3
        have e4 : w9.cell? ⟨bx, 4, none⟩ = some (.int .i64 X.at_) := XB9.out.cell 4
        have e5 : w9.cell? ⟨bx, 5, none⟩ = some (.bool X.carry) := XB9.out.cell 5
        have e6 : w9.cell? ⟨bx, 6, none⟩ = some (.slice B m g) := XB9.out.cell 6
        have e7 : w9.cell? ⟨bx, 7, none⟩ = some (.bool X.stop) := XB9.out.cell 7
        have e8 : w9.cell? ⟨bx, 8, none⟩ = some (.int .i64 X.cyc) := XB9.out.cell 8

        go_wp2_with fail
        refine (impl_read A 256 c R k d X.mem fa9 fr9 X.at_ _ IX.out.ram IX.out.rom (by omega) (by have := FX.out.k IX.out; omega) (fun i => by have := FX.out.row i; omega)).mono ?_
        rintro e w10 ⟨rfl, b10⟩
        have XB10 := Lib.hid (XB9.out.below b10)
        have YB10 := Lib.hid (YB9.out.below b10)
        have XM10 := Lib.hid (XM9.out.below b10)
        have YM10 := Lib.hid (YM9.out.below b10)
        have B10 := Lib.hid (below_then B9.out b10)
        clear b10 e0 e1 e2 e3 e4 e5 e6 e7 e8 XB9 YB9 XM9 YM9 B9 IX FX
        generalize readM X.mem X.at_ = rd at DC ⊢
        rcases DC.out with rfl | ⟨rfl, rfl⟩
        all_goals
          clear DC
          have c0 : w10.cell? ⟨by_, 0, none⟩ = some (.slice (some ⟨yb, yo, none⟩) 256 cy) := YB10.out.cell 0
          have c1 : w10.cell? ⟨by_, 1, none⟩ = some (.slice Ry ky dy) := YB10.out.cell 1
          have c2 : w10.cell? ⟨by_, 2, none⟩ = some (.int .i64 Y.mem.bank) := YB10.out.cell 2
          have c3 : w10.cell? ⟨by_, 3, none⟩ = some (.int .i64 Y.a) := YB10.out.cell 3
          have c4 : w10.cell? ⟨by_, 4, none⟩ = some (.int .i64 Y.at_) := YB10.out.cell 4
          have c5 : w10.cell? ⟨by_, 5, none⟩ = some (.bool Y.carry) := YB10.out.cell 5
          have c6 : w10.cell? ⟨by_, 6, none⟩ = some (.slice By my gy) := YB10.out.cell 6
          have c7 : w10.cell? ⟨by_, 7, none⟩ = some (.bool Y.stop) := YB10.out.cell 7
          have c8 : w10.cell? ⟨by_, 8, none⟩ = some (.int .i64 Y.cyc) := YB10.out.cell 8
          have e0 : w10.cell? ⟨bx, 0, none⟩ = some (.slice A 256 c) := XB10.out.cell 0
          have e1 : w10.cell? ⟨bx, 1, none⟩ = some (.slice R k d) := XB10.out.cell 1
          have e2 : w10.cell? ⟨bx, 2, none⟩ = some (.int .i64 X.mem.bank) := XB10.out.cell 2
          have e3 : w10.cell? ⟨bx, 3, none⟩ = some (.int .i64 X.a) := XB10.out.cell 3
          have e4 : w10.cell? ⟨bx, 4, none⟩ = some (.int .i64 X.at_) := XB10.out.cell 4
          have e5 : w10.cell? ⟨bx, 5, none⟩ = some (.bool X.carry) := XB10.out.cell 5
          have e6 : w10.cell? ⟨bx, 6, none⟩ = some (.slice B m g) := XB10.out.cell 6
          have e7 : w10.cell? ⟨bx, 7, none⟩ = some (.bool X.stop) := XB10.out.cell 7
          have e8 : w10.cell? ⟨bx, 8, none⟩ = some (.int .i64 X.cyc) := XB10.out.cell 8

          obtain ⟨_, ⟨fa9, fr9, fb9, hx9⟩, hf9⟩ := XM10.out
          obtain ⟨_, ⟨fc9, fs9, fd9, hy9⟩, _⟩ := YM10.out
          have IX := Lib.hid hx9.rom
          have IY : Hid (Grid w10 Ry ky X.mem.rom fs9) := by rw [← K1.out]; exact hy9.rom
          have FX := Lib.hid hf9
          have hkk : k ≤ 256 := hf9.k hx9
          obtain rfl : k = ky := by have h1 := IX.out.len; have h2 := IY.out.len; omega
          clear hx9 hf9 hy9
          go_wp2_with fail
          refine (same_rows Ry R k dy d X.mem.rom fs9 fr9 _ IY.out IX.out (by omega) (fun i => by have := FX.out.row i; omega)).mono ?_
          rintro e w11 ⟨rfl, q11, rfl⟩
          have b11 : Below w10.heap.size w10 (w10.drewN q11) := below_drewN (Below.refl _ _) q11
          generalize w10.drewN q11 = w11 at b11 ⊢
          clear IX IY FX
          have XB11 := Lib.hid (XB10.out.below b11)
          have YB11 := Lib.hid (YB10.out.below b11)
          have XM11 := Lib.hid (XM10.out.below b11)
          have YM11 := Lib.hid (YM10.out.below b11)
          have B11 := Lib.hid (below_then B10.out b11)
          clear b11 c0 c1 c2 c3 c4 c5 c6 c7 c8 e0 e1 e2 e3 e4 e5 e6 e7 e8 XB10 YB10 XM10 YM10 B10

          have hwc : IntKind.i64.wrap (X.cyc + 3) = X.cyc + 3 := IntWalk.i64_in _ (by have := HY.out; omega)
          have hm4 := YM11.out.backLen
          have hm3 := XM11.out.backLen
          obtain ⟨z, hz⟩ : ∃ z : Int, (my : Int) - (m : Int) = z := ⟨_, rfl⟩
          have hz0 : -1 ≤ z := by omega
          have hz1 : z ≤ 1 := by omega
          have hwz : IntKind.i64.wrap ((my : Int) - (m : Int)) = z := by rw [hz]; exact IntWalk.i64_in _ (by omega)
          clear hz hm4 hm3 kb1 kb2
          cases hst : X.stop
          · have c0 : w11.cell? ⟨by_, 0, none⟩ = some (.slice (some ⟨yb, yo, none⟩) 256 cy) := YB11.out.cell 0
            have c1 : w11.cell? ⟨by_, 1, none⟩ = some (.slice Ry k dy) := YB11.out.cell 1
            have c2 : w11.cell? ⟨by_, 2, none⟩ = some (.int .i64 Y.mem.bank) := YB11.out.cell 2
            have c3 : w11.cell? ⟨by_, 3, none⟩ = some (.int .i64 Y.a) := YB11.out.cell 3
            have c4 : w11.cell? ⟨by_, 4, none⟩ = some (.int .i64 Y.at_) := YB11.out.cell 4
            have c5 : w11.cell? ⟨by_, 5, none⟩ = some (.bool Y.carry) := YB11.out.cell 5
            have c6 : w11.cell? ⟨by_, 6, none⟩ = some (.slice By my gy) := YB11.out.cell 6
            have c7 : w11.cell? ⟨by_, 7, none⟩ = some (.bool Y.stop) := YB11.out.cell 7
            have c8 : w11.cell? ⟨by_, 8, none⟩ = some (.int .i64 Y.cyc) := YB11.out.cell 8
            have e0 : w11.cell? ⟨bx, 0, none⟩ = some (.slice A 256 c) := XB11.out.cell 0
            have e1 : w11.cell? ⟨bx, 1, none⟩ = some (.slice R k d) := XB11.out.cell 1
            have e2 : w11.cell? ⟨bx, 2, none⟩ = some (.int .i64 X.mem.bank) := XB11.out.cell 2
            have e3 : w11.cell? ⟨bx, 3, none⟩ = some (.int .i64 X.a) := XB11.out.cell 3
            have e4 : w11.cell? ⟨bx, 4, none⟩ = some (.int .i64 X.at_) := XB11.out.cell 4
            have e5 : w11.cell? ⟨bx, 5, none⟩ = some (.bool X.carry) := XB11.out.cell 5
            have e6 : w11.cell? ⟨bx, 6, none⟩ = some (.slice B m g) := XB11.out.cell 6
            have e8 : w11.cell? ⟨bx, 8, none⟩ = some (.int .i64 X.cyc) := XB11.out.cell 8
            have e7 : w11.cell? ⟨bx, 7, none⟩ = some (.bool false) := by rw [← hst]; exact XB11.out.cell 7
            go_wp2_with fail
            refine (abs_one z hz0 hz1 _).mono ?_
            rintro e w' ⟨ra, rfl, hra, rfl⟩
            go_wp2_with fail
            go_ret
            exact ⟨rfl, B11.out⟩
          · have c0 : w11.cell? ⟨by_, 0, none⟩ = some (.slice (some ⟨yb, yo, none⟩) 256 cy) := YB11.out.cell 0
            have c1 : w11.cell? ⟨by_, 1, none⟩ = some (.slice Ry k dy) := YB11.out.cell 1
            have c2 : w11.cell? ⟨by_, 2, none⟩ = some (.int .i64 Y.mem.bank) := YB11.out.cell 2
            have c3 : w11.cell? ⟨by_, 3, none⟩ = some (.int .i64 Y.a) := YB11.out.cell 3
            have c4 : w11.cell? ⟨by_, 4, none⟩ = some (.int .i64 Y.at_) := YB11.out.cell 4
            have c5 : w11.cell? ⟨by_, 5, none⟩ = some (.bool Y.carry) := YB11.out.cell 5
            have c6 : w11.cell? ⟨by_, 6, none⟩ = some (.slice By my gy) := YB11.out.cell 6
            have c7 : w11.cell? ⟨by_, 7, none⟩ = some (.bool Y.stop) := YB11.out.cell 7
            have c8 : w11.cell? ⟨by_, 8, none⟩ = some (.int .i64 Y.cyc) := YB11.out.cell 8
            have e0 : w11.cell? ⟨bx, 0, none⟩ = some (.slice A 256 c) := XB11.out.cell 0
            have e1 : w11.cell? ⟨bx, 1, none⟩ = some (.slice R k d) := XB11.out.cell 1
            have e2 : w11.cell? ⟨bx, 2, none⟩ = some (.int .i64 X.mem.bank) := XB11.out.cell 2
            have e3 : w11.cell? ⟨bx, 3, none⟩ = some (.int .i64 X.a) := XB11.out.cell 3
            have e4 : w11.cell? ⟨bx, 4, none⟩ = some (.int .i64 X.at_) := XB11.out.cell 4
            have e5 : w11.cell? ⟨bx, 5, none⟩ = some (.bool X.carry) := XB11.out.cell 5
            have e6 : w11.cell? ⟨bx, 6, none⟩ = some (.slice B m g) := XB11.out.cell 6
            have e8 : w11.cell? ⟨bx, 8, none⟩ = some (.int .i64 X.cyc) := XB11.out.cell 8
            have e7 : w11.cell? ⟨bx, 7, none⟩ = some (.bool true) := by rw [← hst]; exact XB11.out.cell 7
            have hT1 : TX Y (.agg #[.slice (some ⟨yb, yo, none⟩) 256 cy, .slice Ry k dy, .int .i64 Y.mem.bank, .int .i64 Y.a, .int .i64 Y.at_, .bool Y.carry, .slice By my gy, .bool Y.stop, .int .i64 Y.cyc]) w11 := ⟨(some ⟨yb, yo, none⟩), 256, cy, Ry, k, dy, By, my, gy, rfl, YM11.out⟩
            have hT2 : TX Y (.agg #[.slice A 256 c, .slice R k d, .int .i64 X.mem.bank, .int .i64 X.a, .int .i64 X.at_, .bool X.carry, .slice B m g, .bool true, .int .i64 X.cyc]) w11 := by rw [HE2.out, step_stopped hst]; exact ⟨A, 256, c, R, k, d, B, m, g, by rw [hst], XM11.out⟩
            go_wp2_with fail
            refine (tx_same hT1 hT2).mono ?_
            rintro e w12 ⟨rfl, b12⟩
            have XB12 := Lib.hid (XB11.out.below b12)
            have YB12 := Lib.hid (YB11.out.below b12)
            have XM12 := Lib.hid (XM11.out.below b12)
            have YM12 := Lib.hid (YM11.out.below b12)
            have B12 := Lib.hid (below_then B11.out b12)
            clear b12 c0 c1 c2 c3 c4 c5 c6 c7 c8 e0 e1 e2 e3 e4 e5 e6 e7 e8 XB11 YB11 XM11 YM11 B11
            have c0 : w12.cell? ⟨by_, 0, none⟩ = some (.slice (some ⟨yb, yo, none⟩) 256 cy) := YB12.out.cell 0
            have c1 : w12.cell? ⟨by_, 1, none⟩ = some (.slice Ry k dy) := YB12.out.cell 1
            have c2 : w12.cell? ⟨by_, 2, none⟩ = some (.int .i64 Y.mem.bank) := YB12.out.cell 2
            have c3 : w12.cell? ⟨by_, 3, none⟩ = some (.int .i64 Y.a) := YB12.out.cell 3
            have c4 : w12.cell? ⟨by_, 4, none⟩ = some (.int .i64 Y.at_) := YB12.out.cell 4
            have c5 : w12.cell? ⟨by_, 5, none⟩ = some (.bool Y.carry) := YB12.out.cell 5
            have c6 : w12.cell? ⟨by_, 6, none⟩ = some (.slice By my gy) := YB12.out.cell 6
            have c7 : w12.cell? ⟨by_, 7, none⟩ = some (.bool Y.stop) := YB12.out.cell 7
            have c8 : w12.cell? ⟨by_, 8, none⟩ = some (.int .i64 Y.cyc) := YB12.out.cell 8
            have e0 : w12.cell? ⟨bx, 0, none⟩ = some (.slice A 256 c) := XB12.out.cell 0
            have e1 : w12.cell? ⟨bx, 1, none⟩ = some (.slice R k d) := XB12.out.cell 1
            have e2 : w12.cell? ⟨bx, 2, none⟩ = some (.int .i64 X.mem.bank) := XB12.out.cell 2
            have e3 : w12.cell? ⟨bx, 3, none⟩ = some (.int .i64 X.a) := XB12.out.cell 3
            have e4 : w12.cell? ⟨bx, 4, none⟩ = some (.int .i64 X.at_) := XB12.out.cell 4
            have e5 : w12.cell? ⟨bx, 5, none⟩ = some (.bool X.carry) := XB12.out.cell 5
            have e6 : w12.cell? ⟨bx, 6, none⟩ = some (.slice B m g) := XB12.out.cell 6
            have e8 : w12.cell? ⟨bx, 8, none⟩ = some (.int .i64 X.cyc) := XB12.out.cell 8
            have e7 : w12.cell? ⟨bx, 7, none⟩ = some (.bool true) := by rw [← hst]; exact XB12.out.cell 7
            go_wp2_with fail
            refine (abs_one z hz0 hz1 _).mono ?_
            rintro e w' ⟨ra, rfl, hra, rfl⟩
            go_wp2_with fail
            go_ret
            exact ⟨rfl, B12.out⟩
end Go.Proofs.YtcapfafglikcmaaDoor
