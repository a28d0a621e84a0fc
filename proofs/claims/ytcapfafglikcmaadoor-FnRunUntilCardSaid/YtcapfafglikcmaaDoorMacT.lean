/- The law of RunUntil, walked: it returns true, and changes no memory that was there. -/
import Derived.Test.YtcapfafglikcmaaDoorMacW
import Derived.Test.YtcapfafglikcmaaDoorMacR
import Derived.Deep.DeepCutAuto
namespace Go.Proofs.YtcapfafglikcmaaDoor
open Go.ChangeShapes Go.WideShapes Go.ChangeAt Go.RowKit
set_option linter.unusedVariables false

set_option maxRecDepth 100000 in
set_option maxHeartbeats 8000000 in
theorem walk_FnRunUntil (a0 : Option Addr) (len0 cap0 : Nat) (z0 : List Int) (w : World) (w0 : IsRow .u8 w a0 len0 cap0 z0) (ho : Ops w) :
    Calls Tryd.prog 5 #[.slice a0 len0 cap0] w fun e w' => e = .returned (.bool true) ∧ Below w.heap.size w w' := by
  have W0 := Lib.hid w0
  have HO := Lib.hid ho
  have hl := isRow_len w0
  clear w0 ho
  by_cases hs : len0 ≤ 1048576
  case neg =>
    have hs' : 1048576 < len0 := by omega
    go_enter Tryd.func5, Tryd.ntmps5
    go_wp2_with fail
    go_ret
    exact ⟨rfl, Below.refl _ _⟩
  go_enter Tryd.func5, Tryd.ntmps5
  go_wp2_with fail
  refine (draw_macUntil _ _ _ _ _ W0.out).mono ?_
  rintro e w1 ⟨A, n, c, R, k, d, B, m, g, X, s, ⟨s0, s1⟩, rfl, hx, b1, hy⟩
  have HY := Lib.hid hy
  obtain ⟨WX, hWX⟩ : ∃ WX, WX = w1.alloc (.cells #[.slice A n c, .slice R k d, .int .i64 X.mem.bank, .int .i64 X.a, .int .i64 X.at_, .bool X.carry, .slice B m g, .bool X.stop, .int .i64 X.cyc] 28) := ⟨_, rfl⟩
  have B1 : Hid (Below w.heap.size w WX) := by rw [hWX]; exact b1.alloc b1.size _
  have X1 : Hid (Box WX w1.heap.size 28 [.slice A n c, .slice R k d, .int .i64 X.mem.bank, .int .i64 X.a, .int .i64 X.at_, .bool X.carry, .slice B m g, .bool X.stop, .int .i64 X.cyc]) := by rw [hWX]; exact Box.new w1 _ _
  have H1 : Hid (MacHere WX A n c R k d B m g X) := by rw [hWX]; exact hx.below (below1 w1 _)
  have O1 : Hid (Ops WX) := HO.out.below B1.out
  clear b1 hx hy W0 HO hl
  go_upto_region 4 with (fail)
  rw [← hWX]
  generalize w1.heap.size = bx at X1 ⊢
  clear hWX
  have c0 : WX.cell? ⟨bx, 0, none⟩ = some (.slice A n c) := X1.out.cell 0
  have c1 : WX.cell? ⟨bx, 1, none⟩ = some (.slice R k d) := X1.out.cell 1
  have c2 : WX.cell? ⟨bx, 2, none⟩ = some (.int .i64 X.mem.bank) := X1.out.cell 2
  have c3 : WX.cell? ⟨bx, 3, none⟩ = some (.int .i64 X.a) := X1.out.cell 3
  have c4 : WX.cell? ⟨bx, 4, none⟩ = some (.int .i64 X.at_) := X1.out.cell 4
  have c5 : WX.cell? ⟨bx, 5, none⟩ = some (.bool X.carry) := X1.out.cell 5
  have c6 : WX.cell? ⟨bx, 6, none⟩ = some (.slice B m g) := X1.out.cell 6
  have c7 : WX.cell? ⟨bx, 7, none⟩ = some (.bool X.stop) := X1.out.cell 7
  have c8 : WX.cell? ⟨bx, 8, none⟩ = some (.int .i64 X.cyc) := X1.out.cell 8

  go_wp2_with fail
  refine (tx_until ⟨A, n, c, R, k, d, B, m, g, rfl, H1.out⟩ O1.out s).mono ?_
  rintro e w2 ⟨v2, rfl, b2, hv2⟩
  obtain ⟨Y, hY⟩ : ∃ Y, Y = untilX X s := ⟨_, rfl⟩
  obtain ⟨K, hK⟩ : ∃ K, K = untilS X s := ⟨_, rfl⟩
  rw [← hY] at hv2
  rw [← hK]
  have HE := Lib.hid hY
  have HK := Lib.hid hK
  clear hY hK
  obtain ⟨Ay, ny, cy, Ry, ky, dy, By, my, gy, rfl, hmy⟩ := hv2
  obtain ⟨WY, hWY⟩ : ∃ WY, WY = w2.alloc (.cells #[.slice Ay ny cy, .slice Ry ky dy, .int .i64 Y.mem.bank, .int .i64 Y.a, .int .i64 Y.at_, .bool Y.carry, .slice By my gy, .bool Y.stop, .int .i64 Y.cyc] 28) := ⟨_, rfl⟩
  have XB1 : Hid (Box WY bx 28 [.slice A n c, .slice R k d, .int .i64 X.mem.bank, .int .i64 X.a, .int .i64 X.at_, .bool X.carry, .slice B m g, .bool X.stop, .int .i64 X.cyc]) := by rw [hWY]; exact (X1.out.below b2).alloc _
  have XM1 : Hid (MacHere WY A n c R k d B m g X) := by rw [hWY]; exact (H1.out.below b2).below (below1 w2 _)
  have YB1 : Hid (Box WY w2.heap.size 28 [.slice Ay ny cy, .slice Ry ky dy, .int .i64 Y.mem.bank, .int .i64 Y.a, .int .i64 Y.at_, .bool Y.carry, .slice By my gy, .bool Y.stop, .int .i64 Y.cyc]) := by rw [hWY]; exact Box.new w2 _ _
  have YM1 : Hid (MacHere WY Ay ny cy Ry ky dy By my gy Y) := by rw [hWY]; exact hmy.below (below1 w2 _)
  have BY : Hid (Below w.heap.size w WY) := by rw [hWY]; exact (below_then B1.out b2).alloc (Nat.le_trans B1.out.size b2.size) _
  have OY : Hid (Ops WY) := by rw [hWY]; exact (O1.out.below b2).below (below1 w2 _)
  clear b2 hmy B1 X1 H1 O1 c0 c1 c2 c3 c4 c5 c6 c7 c8
  go_upto_region 5 with (fail)
  rw [← hWY]
  generalize w2.heap.size = by_ at YB1 ⊢
  clear hWY
  have c0 : WY.cell? ⟨bx, 0, none⟩ = some (.slice A n c) := XB1.out.cell 0
  have c1 : WY.cell? ⟨bx, 1, none⟩ = some (.slice R k d) := XB1.out.cell 1
  have c2 : WY.cell? ⟨bx, 2, none⟩ = some (.int .i64 X.mem.bank) := XB1.out.cell 2
  have c3 : WY.cell? ⟨bx, 3, none⟩ = some (.int .i64 X.a) := XB1.out.cell 3
  have c4 : WY.cell? ⟨bx, 4, none⟩ = some (.int .i64 X.at_) := XB1.out.cell 4
  have c5 : WY.cell? ⟨bx, 5, none⟩ = some (.bool X.carry) := XB1.out.cell 5
  have c6 : WY.cell? ⟨bx, 6, none⟩ = some (.slice B m g) := XB1.out.cell 6
  have c7 : WY.cell? ⟨bx, 7, none⟩ = some (.bool X.stop) := XB1.out.cell 7
  have c8 : WY.cell? ⟨bx, 8, none⟩ = some (.int .i64 X.cyc) := XB1.out.cell 8

  go_wp2_with fail
  refine (tx_suntil ⟨A, n, c, R, k, d, B, m, g, rfl, XM1.out⟩ s).mono ?_
  rintro e w3 ⟨v3, rfl, b3, hv3⟩
  rw [← HE.out] at hv3
  rw [← HK.out]
  obtain ⟨Az, nz, cz, Rz, kz, dz, Bz, mz, gz, rfl, hmz⟩ := hv3
  obtain ⟨WZ, hWZ⟩ : ∃ WZ, WZ = w3.alloc (.cells #[.slice Az nz cz, .slice Rz kz dz, .int .i64 Y.mem.bank, .int .i64 Y.a, .int .i64 Y.at_, .bool Y.carry, .slice Bz mz gz, .bool Y.stop, .int .i64 Y.cyc] 28) := ⟨_, rfl⟩
  have XB2 : Hid (Box WZ bx 28 [.slice A n c, .slice R k d, .int .i64 X.mem.bank, .int .i64 X.a, .int .i64 X.at_, .bool X.carry, .slice B m g, .bool X.stop, .int .i64 X.cyc]) := by rw [hWZ]; exact (XB1.out.below b3).alloc _
  have XM2 : Hid (MacHere WZ A n c R k d B m g X) := by rw [hWZ]; exact (XM1.out.below b3).below (below1 w3 _)
  have YB2 : Hid (Box WZ by_ 28 [.slice Ay ny cy, .slice Ry ky dy, .int .i64 Y.mem.bank, .int .i64 Y.a, .int .i64 Y.at_, .bool Y.carry, .slice By my gy, .bool Y.stop, .int .i64 Y.cyc]) := by rw [hWZ]; exact (YB1.out.below b3).alloc _
  have YM2 : Hid (MacHere WZ Ay ny cy Ry ky dy By my gy Y) := by rw [hWZ]; exact (YM1.out.below b3).below (below1 w3 _)
  have ZB2 : Hid (Box WZ w3.heap.size 28 [.slice Az nz cz, .slice Rz kz dz, .int .i64 Y.mem.bank, .int .i64 Y.a, .int .i64 Y.at_, .bool Y.carry, .slice Bz mz gz, .bool Y.stop, .int .i64 Y.cyc]) := by rw [hWZ]; exact Box.new w3 _ _
  have ZM2 : Hid (MacHere WZ Az nz cz Rz kz dz Bz mz gz Y) := by rw [hWZ]; exact hmz.below (below1 w3 _)
  have BZ : Hid (Below w.heap.size w WZ) := by rw [hWZ]; exact (below_then BY.out b3).alloc (Nat.le_trans BY.out.size b3.size) _
  have OZ : Hid (Ops WZ) := by rw [hWZ]; exact (OY.out.below b3).below (below1 w3 _)
  clear b3 hmz BY XB1 XM1 YB1 YM1 OY c0 c1 c2 c3 c4 c5 c6 c7 c8
  go_upto_region 6 with (fail)
  rw [← hWZ]
  generalize w3.heap.size = bz at ZB2 ⊢
  clear hWZ
  have c0 : WZ.cell? ⟨by_, 0, none⟩ = some (.slice Ay ny cy) := YB2.out.cell 0
  have c1 : WZ.cell? ⟨by_, 1, none⟩ = some (.slice Ry ky dy) := YB2.out.cell 1
  have c2 : WZ.cell? ⟨by_, 2, none⟩ = some (.int .i64 Y.mem.bank) := YB2.out.cell 2
  have c3 : WZ.cell? ⟨by_, 3, none⟩ = some (.int .i64 Y.a) := YB2.out.cell 3
  have c4 : WZ.cell? ⟨by_, 4, none⟩ = some (.int .i64 Y.at_) := YB2.out.cell 4
  have c5 : WZ.cell? ⟨by_, 5, none⟩ = some (.bool Y.carry) := YB2.out.cell 5
  have c6 : WZ.cell? ⟨by_, 6, none⟩ = some (.slice By my gy) := YB2.out.cell 6
  have c7 : WZ.cell? ⟨by_, 7, none⟩ = some (.bool Y.stop) := YB2.out.cell 7
  have c8 : WZ.cell? ⟨by_, 8, none⟩ = some (.int .i64 Y.cyc) := YB2.out.cell 8
  have e0 : WZ.cell? ⟨bz, 0, none⟩ = some (.slice Az nz cz) := ZB2.out.cell 0
  have e1 : WZ.cell? ⟨bz, 1, none⟩ = some (.slice Rz kz dz) := ZB2.out.cell 1
  have e2 : WZ.cell? ⟨bz, 2, none⟩ = some (.int .i64 Y.mem.bank) := ZB2.out.cell 2
  have e3 : WZ.cell? ⟨bz, 3, none⟩ = some (.int .i64 Y.a) := ZB2.out.cell 3
  have e4 : WZ.cell? ⟨bz, 4, none⟩ = some (.int .i64 Y.at_) := ZB2.out.cell 4
  have e5 : WZ.cell? ⟨bz, 5, none⟩ = some (.bool Y.carry) := ZB2.out.cell 5
  have e6 : WZ.cell? ⟨bz, 6, none⟩ = some (.slice Bz mz gz) := ZB2.out.cell 6
  have e7 : WZ.cell? ⟨bz, 7, none⟩ = some (.bool Y.stop) := ZB2.out.cell 7
  have e8 : WZ.cell? ⟨bz, 8, none⟩ = some (.int .i64 Y.cyc) := ZB2.out.cell 8

  have hT1 : TX Y (.agg #[.slice Ay ny cy, .slice Ry ky dy, .int .i64 Y.mem.bank, .int .i64 Y.a, .int .i64 Y.at_, .bool Y.carry, .slice By my gy, .bool Y.stop, .int .i64 Y.cyc]) WZ := ⟨Ay, ny, cy, Ry, ky, dy, By, my, gy, rfl, YM2.out⟩
  have hT2 : TX Y (.agg #[.slice Az nz cz, .slice Rz kz dz, .int .i64 Y.mem.bank, .int .i64 Y.a, .int .i64 Y.at_, .bool Y.carry, .slice Bz mz gz, .bool Y.stop, .int .i64 Y.cyc]) WZ := ⟨Az, nz, cz, Rz, kz, dz, Bz, mz, gz, rfl, ZM2.out⟩
  go_wp2_with fail
  refine (tx_same hT1 hT2).mono ?_
  rintro e w4 ⟨rfl, b4⟩
  have XB4 := Lib.hid (XB2.out.below b4)
  have XM4 := Lib.hid (XM2.out.below b4)
  have YB4 := Lib.hid (YB2.out.below b4)
  have YM4 := Lib.hid (YM2.out.below b4)
  have O4 := Lib.hid (OZ.out.below b4)
  have B4 := Lib.hid (below_then BZ.out b4)
  clear b4 c0 c1 c2 c3 c4 c5 c6 c7 c8 e0 e1 e2 e3 e4 e5 e6 e7 e8 hT1 hT2 XB2 XM2 YB2 YM2 ZB2 ZM2 OZ BZ
  by_cases hv : machB X = true ∧ addrB s = true
  case neg =>
    have hv' : machB X = false ∨ addrB s = false := by
      cases h1 : machB X
      · exact .inl rfl
      · cases h2 : addrB s
        · exact .inr rfl
        · exact absurd ⟨h1, h2⟩ hv
    have HZ : Hid (Y = machZ) := by rw [HE.out]; exact (untilX_out hv').1
    obtain rfl : K = 0 := HK.out.trans (untilX_out hv').2
    obtain rfl : ny = 0 := by rw [YM4.out.ramLen, HZ.out]; rfl
    clear hv hv'
    have c0 : w4.cell? ⟨by_, 0, none⟩ = some (.slice Ay 0 cy) := YB4.out.cell 0
    have c1 : w4.cell? ⟨by_, 1, none⟩ = some (.slice Ry ky dy) := YB4.out.cell 1
    have c2 : w4.cell? ⟨by_, 2, none⟩ = some (.int .i64 Y.mem.bank) := YB4.out.cell 2
    have c3 : w4.cell? ⟨by_, 3, none⟩ = some (.int .i64 Y.a) := YB4.out.cell 3
    have c4 : w4.cell? ⟨by_, 4, none⟩ = some (.int .i64 Y.at_) := YB4.out.cell 4
    have c5 : w4.cell? ⟨by_, 5, none⟩ = some (.bool Y.carry) := YB4.out.cell 5
    have c6 : w4.cell? ⟨by_, 6, none⟩ = some (.slice By my gy) := YB4.out.cell 6
    have c7 : w4.cell? ⟨by_, 7, none⟩ = some (.bool Y.stop) := YB4.out.cell 7
    have c8 : w4.cell? ⟨by_, 8, none⟩ = some (.int .i64 Y.cyc) := YB4.out.cell 8

    go_wp2_with fail
    refine (alive_any _).mono ?_; rintro e w' ⟨rfl, rfl⟩
    go_wp2_with fail
    go_ret
    exact ⟨rfl, B4.out⟩
  obtain ⟨hv1, hv2⟩ := hv
  obtain ⟨K', hk5, hkk, hrun, hlen, hfirst, hend, hstop⟩ := until_all hv1 hv2
  rw [← HE.out] at hrun hlen hend
  obtain rfl : K = (K' : Int) := HK.out.trans hkk
  obtain rfl : ny = 256 := YM4.out.ramLen.trans hlen
  have HR := Lib.hid hrun
  have HF := Lib.hid hfirst
  have HN := Lib.hid hend
  have HS := Lib.hid hstop
  have VXX : Hid (VX w4 bx X) := ⟨A, n, c, R, k, d, B, m, g, XB4.out, XM4.out⟩
  have VYY : Hid (VX w4 by_ Y) := ⟨Ay, 256, cy, Ry, ky, dy, By, my, gy, YB4.out, YM4.out⟩
  clear hrun hlen hfirst hend hstop hkk hv1 hv2 HK HE
  have c0 : w4.cell? ⟨by_, 0, none⟩ = some (.slice Ay 256 cy) := YB4.out.cell 0
  have c1 : w4.cell? ⟨by_, 1, none⟩ = some (.slice Ry ky dy) := YB4.out.cell 1
  have c2 : w4.cell? ⟨by_, 2, none⟩ = some (.int .i64 Y.mem.bank) := YB4.out.cell 2
  have c3 : w4.cell? ⟨by_, 3, none⟩ = some (.int .i64 Y.a) := YB4.out.cell 3
  have c4 : w4.cell? ⟨by_, 4, none⟩ = some (.int .i64 Y.at_) := YB4.out.cell 4
  have c5 : w4.cell? ⟨by_, 5, none⟩ = some (.bool Y.carry) := YB4.out.cell 5
  have c6 : w4.cell? ⟨by_, 6, none⟩ = some (.slice By my gy) := YB4.out.cell 6
  have c7 : w4.cell? ⟨by_, 7, none⟩ = some (.bool Y.stop) := YB4.out.cell 7
  have c8 : w4.cell? ⟨by_, 8, none⟩ = some (.int .i64 Y.cyc) := YB4.out.cell 8

  have k0 : (0 : Int) ≤ (K' : Int) := by omega
  go_wp2_with fail
  clear c0 c1 c2 c3 c4 c5 c6 c7 c8
  go_loopw [2, 9] (fun u i wr => ∃ j : Nat, 1 ≤ j ∧ j ≤ 40 ∧ u = .bool false ∧ i = .int .i64 j ∧ Below w4.heap.size w4 wr) (fun _ i _ => 40 - (intOf i).toNat)
  case atStart => exact ⟨1, by omega, by omega, rfl, rfl, Below.refl _ _⟩
  case round =>
    obtain ⟨j, hj1, hj2, rfl, rfl, hbr⟩ := hrel
    have BR := Lib.hid hbr
    clear hbr
    have i0 : (0 : Int) ≤ (j : Int) := by omega
    by_cases hjk : j < K' ∧ j < 40
    · obtain ⟨hja, hjb⟩ := hjk
      have z1 : decide ((j : Int) < (K' : Int)) = true := by simpa using hja
      have z2 : decide ((j : Int) < 40) = true := by simp; omega
      have z3 : (j : Int) < 40 := by omega
      obtain ⟨Au, nu, cu, Ru, ku, du, Bu, mu, gu, hub, hum⟩ := VXX.out.below BR.out
      have UB := Lib.hid hub
      have UM := Lib.hid hum
      have HNE := Lib.hid (HF.out j hj1 hja)
      clear hub hum
      have c0 : wr.cell? ⟨bx, 0, none⟩ = some (.slice Au nu cu) := UB.out.cell 0
      have c1 : wr.cell? ⟨bx, 1, none⟩ = some (.slice Ru ku du) := UB.out.cell 1
      have c2 : wr.cell? ⟨bx, 2, none⟩ = some (.int .i64 X.mem.bank) := UB.out.cell 2
      have c3 : wr.cell? ⟨bx, 3, none⟩ = some (.int .i64 X.a) := UB.out.cell 3
      have c4 : wr.cell? ⟨bx, 4, none⟩ = some (.int .i64 X.at_) := UB.out.cell 4
      have c5 : wr.cell? ⟨bx, 5, none⟩ = some (.bool X.carry) := UB.out.cell 5
      have c6 : wr.cell? ⟨bx, 6, none⟩ = some (.slice Bu mu gu) := UB.out.cell 6
      have c7 : wr.cell? ⟨bx, 7, none⟩ = some (.bool X.stop) := UB.out.cell 7
      have c8 : wr.cell? ⟨bx, 8, none⟩ = some (.int .i64 X.cyc) := UB.out.cell 8

      go_wp2_with fail
      refine (tx_run ⟨Au, nu, cu, Ru, ku, du, Bu, mu, gu, rfl, UM.out⟩ (O4.out.below BR.out) (j : Int)).mono ?_
      rintro e w5 ⟨v5, rfl, b5, hv5⟩
      have hne : ((runX X (j : Int)).at_ == s) = false := by simpa using HNE.out
      generalize runX X (j : Int) = Z at hv5 hne
      obtain ⟨Av, nv, cv, Rv, kv, dv, Bv, mv, gv, rfl, hmv⟩ := hv5
      have hfd : ∀ wq : World, (Instr.field 28 (.agg #[.slice Av nv cv, .slice Rv kv dv, .int .i64 Z.mem.bank, .int .i64 Z.a, .int .i64 Z.at_, .bool Z.carry, .slice Bv mv gv, .bool Z.stop, .int .i64 Z.cyc]) 2).run Tryd.prog wq = .ok (.int .i64 Z.at_) wq := fun _ => by kernel_rfl
      have B5 := Lib.hid (below_then BR.out b5)
      clear c0 c1 c2 c3 c4 c5 c6 c7 c8 UB UM HNE b5 hmv BR
      go_wp2_with fail
      go_roundw
      case rel => exact ⟨j + 1, by omega, by omega, rfl, by go_num, B5.out⟩
      case measure => simp [intOf]; omega
    · have zz : decide ((j : Int) < (K' : Int)) = false ∨ (decide ((j : Int) < (K' : Int)) = true ∧ decide ((j : Int) < 40) = false) := by
        by_cases h : j < K'
        · right
          exact ⟨by simpa using h, by simp; omega⟩
        · left
          simpa using h
      have VX9 := Lib.hid (VXX.out.below BR.out)
      have VY9 := Lib.hid (VYY.out.below BR.out)
      have XB9 := Lib.hid (XB4.out.below BR.out)
      have YB9 := Lib.hid (YB4.out.below BR.out)
      have O9 := Lib.hid (O4.out.below BR.out)
      have B9 := Lib.hid (below_then B4.out BR.out)
      obtain ⟨P1, hP1⟩ : ∃ P1, Y.stop = P1 := ⟨_, rfl⟩
      obtain ⟨P2, hP2⟩ : ∃ P2, (P1 || (Y.at_ == s)) = P2 := ⟨_, rfl⟩
      obtain ⟨P4, hP4⟩ : ∃ P4, (!X.stop) = P4 := ⟨_, rfl⟩
      have HP1 := Lib.hid hP1
      have HP2 := Lib.hid hP2
      have HP4 := Lib.hid hP4
      have HQ : Hid (P2 = false → ((K' : Int) == 500) = true) := fun h => by
        rw [← hP2, ← hP1] at h
        simp only [Bool.or_eq_false_iff] at h
        rcases HN.out with e | e | e
        · rw [e] at h; cases h.1
        · rw [e] at h; simp at h
        · rw [e]; rfl
      have HQ2 : Hid (P4 = false → ((K' : Int) == 0) = true) := fun h => by
        rw [← hP4] at h
        rw [HS.out (by simpa using h)]; rfl
      clear hP1 hP2 hP4 VXX VYY XB4 YB4 XM4 YM4 O4 B4 BR HN HS HF hjk
      clear i0 hj1 hj2
      generalize (j : Int) = jj at zz ⊢
      rcases zz with z1 | ⟨z1, z2⟩
      all_goals
        go_wp2_with fail
        refine wp_region_typed (ClB wr) RlB (Ty [TX X, TV (.int .i64 K'), TX Y, TX Y, TV (.bool true), TV (.bool true), TV (.pointer (some ⟨by_, 7, none⟩)), TV (.bool P1), TV (.bool P1), fun v _ => P1 = false → v = .pointer (some ⟨by_, 4, none⟩), fun v _ => P1 = false → v = .int .i64 Y.at_, fun v _ => P1 = false → v = .int .i64 s, fun v _ => P1 = false → v = .bool (Y.at_ == s), TV (.bool P2), TV (.bool P2), fun v _ => P2 = false → v = .int .i64 K', fun v _ => P2 = false → v = .bool ((K' : Int) == 500), TV (.bool true), TV (.bool true), TV (.bool true), TV (.pointer (some ⟨bx, 7, none⟩)), TV (.bool X.stop), TV (.bool P4), TV (.bool P4), fun v _ => P4 = false → v = .int .i64 K', fun v _ => P4 = false → v = .bool ((K' : Int) == 0), TV (.bool true), TV (.bool true), TV (.bool true)])
          (by kernel_rfl) (by kernel_rfl) (stab_ty _ ⟨stabB_x _, stabB_tv _, stabB_x _, stabB_x _, stabB_tv _, stabB_tv _, stabB_tv _, stabB_tv _, stabB_tv _, stabB_v _, stabB_v _, stabB_v _, stabB_v _, stabB_tv _, stabB_tv _, stabB_v _, stabB_v _, stabB_tv _, stabB_tv _, stabB_tv _, stabB_tv _, stabB_tv _, stabB_tv _, stabB_tv _, stabB_v _, stabB_v _, stabB_tv _, stabB_tv _, stabB_tv _, trivial⟩) (Below.refl _ _).drew ?_ ?_
        · refine ⟨?_, ?_, ?_, ?_, ?_, ?_, ?_, ?_, ?_, ?_, ?_, ?_, ?_, ?_, ?_, ?_, ?_, ?_, ?_, ?_, ?_, ?_, ?_, ?_, ?_, ?_, ?_, ?_, ?_, trivial⟩
          · exact lb_loadX (.tmp 3) bx X rfl VX9.out (fun _ _ _ => want_none rfl) (fun ρ hx => hx 3 rfl) (fun _ _ h => h)
          · exact lb_move (.tmp 6) (.inl rfl) (fun _ _ _ => want_none rfl) fun ρ wx _ hx _ => hx 6 rfl
          · refine lb_callX (Y) _ _ _ (fun _ _ => by simp [go_sem]) rfl (fun _ _ _ => want_none rfl) (fun ρ wx hb hc hp => ?_) (fun _ _ h => h)
            have h1 : TX X (ρ (.tmp 64)) wx := hp.1 rfl
            have h2 : ρ (.tmp 65) = .int .i64 K' := hp.2.1 rfl
            refine ⟨#[ρ (.tmp 64), .int .i64 K'], by simp [h2], ?_⟩
            rw [HR.out]
            exact tx_run h1 (O9.out.below hb) K'
          · exact lb_loadX (.tmp 5) by_ Y rfl VY9.out (fun _ _ _ => want_none rfl) (fun ρ hx => hx 5 rfl) (fun _ _ h => h)
          · refine lb_callT _ _ _ (fun _ _ => by simp [go_sem]) rfl (fun _ _ _ => want_none rfl) (fun ρ wx hb hc hp => ?_) (fun _ => rfl)
            have h1 : TX Y (ρ (.tmp 66)) wx := hp.1 rfl
            have h2 : TX Y (ρ (.tmp 67)) wx := hp.2.1 rfl
            refine ⟨#[ρ (.tmp 66), ρ (.tmp 67)], by simp, ?_⟩
            exact tx_same h1 h2
          · exact lb_move (.tmp 68) (.inl rfl) (fun _ _ _ => want_none rfl) fun ρ wx _ _ hp => hp.1 rfl
          · refine lb_val (.pointer (some ⟨by_, 7, none⟩)) (fun ρ wx hp => want_of 5 true 69 rfl rfl (hp.1 rfl)) fun ρ wx hb hc hx hp => ⟨?_, rfl⟩
            have e1 : ρ (.tmp 5) = .pointer (some ⟨by_, 0, none⟩) := hx 5 rfl
            unfold execOp
            simp only [e1]
            clear hb hc hx hp e1
            go_simp
          · refine lb_val (.bool P1) (fun ρ wx hp => want_of 5 true 69 rfl rfl (hp.2.1 rfl)) fun ρ wx hb hc hx hp => ⟨?_, rfl⟩
            have e1 : ρ (.tmp 70) = .pointer (some ⟨by_, 7, none⟩) := hp.1 rfl
            have c7 : wx.cell? ⟨by_, 7, none⟩ = some (.bool P1) := by rw [← HP1.out]; exact (YB9.out.below hb).cell 7
            unfold execOp
            simp only [e1]
            clear hb hc hx hp e1
            go_simp
          · exact lb_move (.tmp 71) (.inl rfl) (fun ρ wx hp => want_of 5 true 69 rfl rfl (hp.2.1 rfl)) fun ρ wx _ _ hp => hp.1 rfl
          · cases hP : P1
            · refine lb_val (.pointer (some ⟨by_, 4, none⟩)) (fun ρ wx hp => want_of 8 false 72 rfl rfl (hp.1 rfl)) fun ρ wx hb hc hx hp => ⟨?_, fun _ => rfl⟩
              have e1 : ρ (.tmp 5) = .pointer (some ⟨by_, 0, none⟩) := hx 5 rfl
              unfold execOp
              simp only [e1]
              clear hb hc hx hp e1
              go_simp
            · exact lb_not (fun ρ wx hp => want_not 8 false 72 rfl rfl (hp.1 rfl)) (fun w h => by cases h)
          · cases hP : P1
            · refine lb_val (.int .i64 Y.at_) (fun ρ wx hp => want_of 8 false 72 rfl rfl (hp.2.1 rfl)) fun ρ wx hb hc hx hp => ⟨?_, fun _ => rfl⟩
              have e1 : ρ (.tmp 73) = .pointer (some ⟨by_, 4, none⟩) := (hp.1 rfl) rfl
              have c4 : wx.cell? ⟨by_, 4, none⟩ = some (.int .i64 Y.at_) := (YB9.out.below hb).cell 4
              unfold execOp
              simp only [e1]
              clear hb hc hx hp e1
              go_simp
            · exact lb_not (fun ρ wx hp => want_not 8 false 72 rfl rfl (hp.2.1 rfl)) (fun w h => by cases h)
          · cases hP : P1
            · exact lb_move (.tmp 4) (.inl rfl) (fun ρ wx hp => want_of 8 false 72 rfl rfl (hp.1 rfl)) fun ρ wx _ hx _ => fun _ => hx 4 rfl
            · exact lb_not (fun ρ wx hp => want_not 8 false 72 rfl rfl (hp.1 rfl)) (fun w h => by cases h)
          · cases hP : P1
            · refine lb_val (.bool (Y.at_ == s)) (fun ρ wx hp => want_of 8 false 72 rfl rfl (hp.2.2.1 rfl)) fun ρ wx hb hc hx hp => ⟨?_, fun _ => rfl⟩
              have e1 : ρ (.tmp 74) = .int .i64 Y.at_ := (hp.1 rfl) rfl
              have e2 : ρ (.tmp 75) = .int .i64 s := (hp.2.1 rfl) rfl
              unfold execOp
              simp only [e1, e2]
              clear hb hc hx hp e1 e2
              go_simp
            · exact lb_not (fun ρ wx hp => want_not 8 false 72 rfl rfl (hp.2.2.1 rfl)) (fun w h => by cases h)
          · refine lb_pick (.tmp 72) (.const (.bool true)) (.tmp 76) rfl P1 (fun ρ wx hp => want_of 5 true 69 rfl rfl (hp.2.2.1 rfl)) fun ρ wx hc hp => ⟨hp.1 rfl, ?_⟩
            have hy : P1 = false → ρ (.tmp 76) = .bool (Y.at_ == s) := hp.2.1 rfl
            show (if P1 then ρ (.const (.bool true)) else ρ (.tmp 76)) = .bool P2
            rw [← HP2.out]
            cases hP : P1
            · simp [hy hP]
            · simp [hc]
          · exact lb_move (.tmp 77) (.inl rfl) (fun ρ wx hp => want_of 5 true 69 rfl rfl (hp.2.2.1 rfl)) fun ρ wx _ _ hp => hp.1 rfl
          · cases hP : P2
            · exact lb_move (.tmp 6) (.inl rfl) (fun ρ wx hp => want_of 14 false 78 rfl rfl (hp.1 rfl)) fun ρ wx _ hx _ => fun _ => hx 6 rfl
            · exact lb_not (fun ρ wx hp => want_not 14 false 78 rfl rfl (hp.1 rfl)) (fun w h => by cases h)
          · cases hP : P2
            · refine lb_val (.bool ((K' : Int) == 500)) (fun ρ wx hp => want_of 14 false 78 rfl rfl (hp.2.1 rfl)) fun ρ wx hb hc hx hp => ⟨?_, fun _ => rfl⟩
              have e1 : ρ (.tmp 79) = .int .i64 K' := (hp.1 rfl) rfl
              have e2 := hc (.int .i64 500)
              unfold execOp
              simp only [e1, e2]
              clear hb hc hx hp e1 e2
              go_simp
            · exact lb_not (fun ρ wx hp => want_not 14 false 78 rfl rfl (hp.2.1 rfl)) (fun w h => by cases h)
          · refine lb_pick (.tmp 78) (.const (.bool true)) (.tmp 80) rfl P2 (fun ρ wx hp => want_of 5 true 69 rfl rfl (hp.2.2.1 rfl)) fun ρ wx hc hp => ⟨hp.1 rfl, ?_⟩
            have hy : P2 = false → ρ (.tmp 80) = .bool ((K' : Int) == 500) := hp.2.1 rfl
            show (if P2 then ρ (.const (.bool true)) else ρ (.tmp 80)) = .bool true
            cases hP : P2
            · simp [hy hP, HQ.out hP]
            · simp [hc]
          · exact lb_pick (.tmp 69) (.tmp 81) _ rfl true (fun _ _ _ => want_none rfl) fun ρ wx _ hp => ⟨hp.1 rfl, hp.2.1 rfl⟩
          · exact lb_move (.tmp 82) (.inl rfl) (fun _ _ _ => want_none rfl) fun ρ wx _ _ hp => hp.1 rfl
          · refine lb_val (.pointer (some ⟨bx, 7, none⟩)) (fun ρ wx hp => want_of 19 true 83 rfl rfl (hp.1 rfl)) fun ρ wx hb hc hx hp => ⟨?_, rfl⟩
            have e1 : ρ (.tmp 3) = .pointer (some ⟨bx, 0, none⟩) := hx 3 rfl
            unfold execOp
            simp only [e1]
            clear hb hc hx hp e1
            go_simp
          · refine lb_val (.bool X.stop) (fun ρ wx hp => want_of 19 true 83 rfl rfl (hp.2.1 rfl)) fun ρ wx hb hc hx hp => ⟨?_, rfl⟩
            have e1 : ρ (.tmp 84) = .pointer (some ⟨bx, 7, none⟩) := hp.1 rfl
            have c7 : wx.cell? ⟨bx, 7, none⟩ = some (.bool X.stop) := (XB9.out.below hb).cell 7
            unfold execOp
            simp only [e1]
            clear hb hc hx hp e1
            go_simp
          · exact lb_unot (.tmp 85) _ X.stop rfl (fun ρ wx hp => want_of 19 true 83 rfl rfl (hp.2.1 rfl)) fun ρ wx hp => ⟨hp.1 rfl, congrArg Value.bool HP4.out⟩
          · exact lb_move (.tmp 86) (.inl rfl) (fun ρ wx hp => want_of 19 true 83 rfl rfl (hp.2.1 rfl)) fun ρ wx _ _ hp => hp.1 rfl
          · cases hP : P4
            · exact lb_move (.tmp 6) (.inl rfl) (fun ρ wx hp => want_of 23 false 87 rfl rfl (hp.1 rfl)) fun ρ wx _ hx _ => fun _ => hx 6 rfl
            · exact lb_not (fun ρ wx hp => want_not 23 false 87 rfl rfl (hp.1 rfl)) (fun w h => by cases h)
          · cases hP : P4
            · refine lb_val (.bool ((K' : Int) == 0)) (fun ρ wx hp => want_of 23 false 87 rfl rfl (hp.2.1 rfl)) fun ρ wx hb hc hx hp => ⟨?_, fun _ => rfl⟩
              have e1 : ρ (.tmp 88) = .int .i64 K' := (hp.1 rfl) rfl
              have e2 := hc (.int .i64 0)
              unfold execOp
              simp only [e1, e2]
              clear hb hc hx hp e1 e2
              go_simp
            · exact lb_not (fun ρ wx hp => want_not 23 false 87 rfl rfl (hp.2.1 rfl)) (fun w h => by cases h)
          · refine lb_pick (.tmp 87) (.const (.bool true)) (.tmp 89) rfl P4 (fun ρ wx hp => want_of 19 true 83 rfl rfl (hp.2.2.1 rfl)) fun ρ wx hc hp => ⟨hp.1 rfl, ?_⟩
            have hy : P4 = false → ρ (.tmp 89) = .bool ((K' : Int) == 0) := hp.2.1 rfl
            show (if P4 then ρ (.const (.bool true)) else ρ (.tmp 89)) = .bool true
            cases hP : P4
            · simp [hy hP, HQ2.out hP]
            · simp [hc]
          · exact lb_pick (.tmp 83) (.tmp 90) _ rfl true (fun _ _ _ => want_none rfl) fun ρ wx _ hp => ⟨hp.1 rfl, hp.2.1 rfl⟩
          · exact lb_move (.tmp 91) (.inr rfl) (fun _ _ _ => want_none rfl) fun ρ wx _ _ hp => hp.1 rfl
        · intro vs w7 b5 hF
          obtain ⟨_, _, _, _, _, _, _, _, _, _, _, _, _, _, _, _, _, _, _, _, _, _, _, _, _, _, _, _, hn, _⟩ := hF
          replace hn : vs 28 = .bool true := hn
          have B7 := Lib.hid (below_then B9.out b5)
          clear b5
          simp only [putAll, Act.put, List.setIfInBounds_toArray, List.set_cons_zero, List.set_cons_succ, hn]
          clear hn
          go_wp2_with fail
          go_ret
          exact ⟨rfl, B7.out⟩
end Go.Proofs.YtcapfafglikcmaaDoor
