/- The law of a program that waits, walked: it returns true, and changes no memory that was there. -/
import Derived.Test.YtcapfafglikcmaaDoorMacW
import Derived.Test.YtcapfafglikcmaaDoorMacR
import Derived.Test.YtcapfafglikcmaaDoorMchN
import Derived.Deep.DeepCutAuto
namespace Go.Proofs.YtcapfafglikcmaaDoor
open Go.ChangeShapes Go.WideShapes Go.ChangeAt Go.RowKit
set_option linter.unusedVariables false

theorem grid_zeros (W : World) : Grid ((W.alloc (.cells (madeCells #[.int .i64 0] 256) 3)).alloc (.cells #[.slice (some ⟨W.heap.size, 0, none⟩) 256 256] 23)) (some ⟨W.heap.size + 1, 0, none⟩) 1 [zeros] [W.heap.size + 1, W.heap.size] := by
  refine ⟨[⟨some ⟨W.heap.size, 0, none⟩, 256, 256, zeros, [W.heap.size]⟩], rfl, rfl, fun r hr => ?_, .inr ⟨by omega, W.heap.size + 1, 0, rfl, rfl, by simp, fun i r hi => ?_⟩⟩
  · obtain rfl := List.mem_singleton.1 hr
    exact ⟨Nat.le_refl _, zeros_ints ((World.rowIs_made W (.int .i64 0) 256 3).alloc _)⟩
  · match i, hi with
    | 0, hi =>
      injection hi with hi
      subst hi
      exact (Box.new_at (W.alloc (.cells (madeCells #[.int .i64 0] 256) 3)) #[.slice (some ⟨W.heap.size, 0, none⟩) 256 256] 23 (W.heap.size + 1) (by simp)).cell 0
theorem new_zeros {w : World} {R : Option Addr} {d : Nat} {fr : List Nat} (h : Grid w R 1 [zeros] fr) : Calls Tryd.prog 24 #[.slice R 1 d] w (RetX (waitX 0) w) := by
  have e := zeros_new
  have hf := newX_fits [zeros]
  have hn := impl_newMach R 1 d [zeros] fr w h (by omega) (fun i => by rcases i with _ | i <;> simp [zeros_len])
  rw [e] at hf hn
  exact hn.mono fun e w' hh => ret_new hh hf
/-- The memory at the head of a machine in a variable, loaded. -/
theorem load_memIn {w : World} {b : Nat} {v0 v1 v2 v3 v4 v5 v6 v7 v8 : Value} (h : Box w b 28 [v0, v1, v2, v3, v4, v5, v6, v7, v8]) (ρ : Operand → Value) (x : Operand) (hx : ρ x = .pointer (some ⟨b, 0, none⟩)) {o : Oper} (ho : o.op = .load 26 x) :
    (execOp ρ o).run Tryd.prog w = .ok (.value (.agg #[v0, v1, v2])) w := by
  have c0 := h.cell 0
  have c1 := h.cell 1
  have c2 := h.cell 2
  unfold execOp; rw [ho]
  simp only [hx]
  clear hx h
  go_simp
set_option maxRecDepth 100000 in
set_option maxHeartbeats 8000000 in
theorem walk_FnProgramWaits (a0 : Option Addr) (len0 cap0 : Nat) (z0 : List Int) (w : World) (w0 : IsRow .u8 w a0 len0 cap0 z0) (ho : Ops w) :
    Calls Tryd.prog 6 #[.slice a0 len0 cap0] w fun e w' => e = .returned (.bool true) ∧ Below w.heap.size w w' := by
  have W0 := Lib.hid w0
  have HO := Lib.hid ho
  have hl := isRow_len w0
  clear w0 ho
  by_cases hs : len0 ≤ 1048576
  case neg =>
    have hs' : 1048576 < len0 := by omega
    go_enter Tryd.func6, Tryd.ntmps6
    go_wp2_with fail
    go_ret
    exact ⟨rfl, Below.refl _ _⟩
  go_enter Tryd.func6, Tryd.ntmps6
  go_wp2_with fail
  refine (draw_macRun _ _ _ _ _ W0.out).mono ?_
  rintro e w1 ⟨A, n, c, R, k, d, B, m, g, X, s, ⟨s0, s1⟩, rfl, hx, b1, hy⟩
  have HY := Lib.hid hy
  obtain ⟨WX, hWX⟩ : ∃ WX, WX = w1.alloc (.cells #[.slice A n c, .slice R k d, .int .i64 X.mem.bank, .int .i64 X.a, .int .i64 X.at_, .bool X.carry, .slice B m g, .bool X.stop, .int .i64 X.cyc] 28) := ⟨_, rfl⟩
  have B1 : Hid (Below w.heap.size w WX) := by rw [hWX]; exact b1.alloc b1.size _
  have X1 : Hid (Box WX w1.heap.size 28 [.slice A n c, .slice R k d, .int .i64 X.mem.bank, .int .i64 X.a, .int .i64 X.at_, .bool X.carry, .slice B m g, .bool X.stop, .int .i64 X.cyc]) := by rw [hWX]; exact Box.new w1 _ _
  have H1 : Hid (MacHere WX A n c R k d B m g X) := by rw [hWX]; exact hx.below (below1 w1 _)
  have O1 : Hid (Ops WX) := HO.out.below B1.out
  clear b1 hx hy W0 HO hl
  go_upto_region 4 with (fail)
  rw [← hWX]
  generalize w1.heap.size = bx at X1 ⊢
  clear hWX
  clear X1 H1
  go_cut [5] (fun t5 wc => ∃ K : Nat, K < 200 ∧ t5 = .int .i64 K ∧ WX = wc)
  case first =>
    by_cases hf : s ≤ 0
    · go_wp2_with fail
      go_meet
      case rel => exact ⟨0, by omega, rfl, rfl⟩
    · have hf' : 0 < s := by omega
      obtain ⟨K, hK⟩ : ∃ K : Nat, s % 200 = (K : Int) := ⟨(s % 200).toNat, by omega⟩
      have HK := Lib.hid hK
      have hK2 : K < 200 := by omega
      clear hf hK
      go_wp2_with fail
      rw [HK.out]
      go_meet
      case rel => exact ⟨K, hK2, rfl, rfl⟩
  case rest =>
    obtain ⟨K, hK, rfl, rfl⟩ := hcut
    clear s0 s1 HY
    have hmk := make256
    go_wp2_with fail
    have G1 := Lib.hid (grid_zeros WX)
    have b2 := below2 WX (.cells (madeCells #[.int .i64 0] 256) 3) (.cells #[.slice (some ⟨WX.heap.size, 0, none⟩) 256 256] 23)
    have B2 := Lib.hid (below_then B1.out b2)
    have O2 := Lib.hid (O1.out.below b2)
    refine (new_zeros G1.out).mono ?_
    rintro e w2 ⟨v2, rfl, b3, hv2⟩
    have B3 := Lib.hid (below_then B2.out b3)
    have O3 := Lib.hid (O2.out.below b3)
    obtain ⟨Ax, nx, cx, Rx, kx, dx, Bx, mx, gx, rfl, hmx⟩ := hv2
    obtain ⟨WA, hWA⟩ : ∃ WA, WA = w2.alloc (.cells #[.slice Ax nx cx, .slice Rx kx dx, .int .i64 (waitX 0).mem.bank, .int .i64 (waitX 0).a, .int .i64 (waitX 0).at_, .bool (waitX 0).carry, .slice Bx mx gx, .bool (waitX 0).stop, .int .i64 (waitX 0).cyc] 28) := ⟨_, rfl⟩
    have XB1 : Hid (Box WA w2.heap.size 28 [.slice Ax nx cx, .slice Rx kx dx, .int .i64 (waitX 0).mem.bank, .int .i64 (waitX 0).a, .int .i64 (waitX 0).at_, .bool (waitX 0).carry, .slice Bx mx gx, .bool (waitX 0).stop, .int .i64 (waitX 0).cyc]) := by rw [hWA]; exact Box.new w2 _ _
    have XM1 : Hid (MacHere WA Ax nx cx Rx kx dx Bx mx gx (waitX 0)) := by rw [hWA]; exact hmx.below (below1 w2 _)
    have BA : Hid (Below w.heap.size w WA) := by rw [hWA]; exact B3.out.alloc B3.out.size _
    have OA : Hid (Ops WA) := by rw [hWA]; exact O3.out.below (below1 w2 _)
    clear b2 b3 hmx B1 B2 B3 O1 O2 O3 G1 hmk
    go_upto_region 6 with (fail)
    rw [← hWA]
    generalize w2.heap.size = bx at XB1 ⊢
    clear hWA
    have c0 : WA.cell? ⟨bx, 0, none⟩ = some (.slice Ax nx cx) := XB1.out.cell 0
    have c1 : WA.cell? ⟨bx, 1, none⟩ = some (.slice Rx kx dx) := XB1.out.cell 1
    have c2 : WA.cell? ⟨bx, 2, none⟩ = some (.int .i64 (waitX 0).mem.bank) := XB1.out.cell 2
    have c3 : WA.cell? ⟨bx, 3, none⟩ = some (.int .i64 (waitX 0).a) := XB1.out.cell 3
    have c4 : WA.cell? ⟨bx, 4, none⟩ = some (.int .i64 (waitX 0).at_) := XB1.out.cell 4
    have c5 : WA.cell? ⟨bx, 5, none⟩ = some (.bool (waitX 0).carry) := XB1.out.cell 5
    have c6 : WA.cell? ⟨bx, 6, none⟩ = some (.slice Bx mx gx) := XB1.out.cell 6
    have c7 : WA.cell? ⟨bx, 7, none⟩ = some (.bool (waitX 0).stop) := XB1.out.cell 7
    have c8 : WA.cell? ⟨bx, 8, none⟩ = some (.int .i64 (waitX 0).cyc) := XB1.out.cell 8

    go_wp2_with fail
    refine (tx_run ⟨Ax, nx, cx, Rx, kx, dx, Bx, mx, gx, rfl, XM1.out⟩ OA.out (K : Int)).mono ?_
    rw [wait_runX K (by omega)]
    rintro e w3 ⟨v3, rfl, b3, hv3⟩
    obtain ⟨Ay, ny, cy, Ry, ky, dy, By, my, gy, rfl, hmy⟩ := hv3
    obtain rfl : nx = ny := XM1.out.ramLen.trans hmy.ramLen.symm
    obtain rfl : kx = ky := XM1.out.romLen.trans hmy.romLen.symm
    obtain ⟨WY, hWY⟩ : ∃ WY, WY = w3.alloc (.cells #[.slice Ay nx cy, .slice Ry kx dy, .int .i64 (waitX K).mem.bank, .int .i64 (waitX K).a, .int .i64 (waitX K).at_, .bool (waitX K).carry, .slice By my gy, .bool (waitX K).stop, .int .i64 (waitX K).cyc] 28) := ⟨_, rfl⟩
    have XB : Hid (Box WY bx 28 [.slice Ax nx cx, .slice Rx kx dx, .int .i64 (waitX 0).mem.bank, .int .i64 (waitX 0).a, .int .i64 (waitX 0).at_, .bool (waitX 0).carry, .slice Bx mx gx, .bool (waitX 0).stop, .int .i64 (waitX 0).cyc]) := by rw [hWY]; exact (XB1.out.below b3).alloc _
    have XM : Hid (MacHere WY Ax nx cx Rx kx dx Bx mx gx (waitX 0)) := by rw [hWY]; exact (XM1.out.below b3).below (below1 w3 _)
    have YB0 : Hid (Box WY w3.heap.size 28 [.slice Ay nx cy, .slice Ry kx dy, .int .i64 (waitX K).mem.bank, .int .i64 (waitX K).a, .int .i64 (waitX K).at_, .bool (waitX K).carry, .slice By my gy, .bool (waitX K).stop, .int .i64 (waitX K).cyc]) := by rw [hWY]; exact Box.new w3 _ _
    have YB : Hid (Box WY w3.heap.size 28 [.slice Ay nx cy, .slice Ry kx dy, .int .i64 0, .int .i64 0, .int .i64 (512 + (K : Int)), .bool false, .slice By my gy, .bool false, .int .i64 (K : Int)]) := YB0.out
    have YM : Hid (MacHere WY Ay nx cy Ry kx dy By my gy (waitX K)) := by rw [hWY]; exact hmy.below (below1 w3 _)
    have BY : Hid (Below w.heap.size w WY) := by rw [hWY]; exact (below_then BA.out b3).alloc (Nat.le_trans BA.out.size b3.size) _
    clear b3 hmy BA XB1 XM1 OA c0 c1 c2 c3 c4 c5 c6 c7 c8
    go_wp2_with fail
    rw [← hWY]
    generalize w3.heap.size = by_ at YB YB0 ⊢
    clear hWY
    have VXX : Hid (VX WY bx (waitX 0)) := ⟨Ax, nx, cx, Rx, kx, dx, Bx, mx, gx, XB.out, XM.out⟩
    have VYY : Hid (VX WY by_ (waitX K)) := ⟨Ay, nx, cy, Ry, kx, dy, By, my, gy, YB0.out, YM.out⟩
    have hw : IntKind.i64.wrap (512 + (K : Int)) = 512 + (K : Int) := IntWalk.i64_in _ (by omega)
    refine wp_region_typed (ClB WY) RlB (Ty [TV (.pointer (some ⟨by_, 4, none⟩)), TV (.int .i64 (512 + (K : Int))), TV (.int .i64 (K : Int)), TV (.int .i64 (512 + (K : Int))), TV (.bool true), TV (.bool true), TV (.pointer (some ⟨by_, 8, none⟩)), TV (.int .i64 (K : Int)), TV (.int .i64 (K : Int)), TV (.bool true), TV (.bool true), TV (.bool true), TV (.pointer (some ⟨by_, 3, none⟩)), TV (.int .i64 0), TV (.bool true), TV (.bool true), TV (.bool true), TV (.pointer (some ⟨by_, 7, none⟩)), TV (.bool false), TV (.bool true), TV (.bool true), TV (.bool true), TV (.pointer (some ⟨by_, 0, none⟩)), TV (.agg #[.slice Ay nx cy, .slice Ry kx dy, .int .i64 0]), TV (.pointer (some ⟨bx, 0, none⟩)), TV (.agg #[.slice Ax nx cx, .slice Rx kx dx, .int .i64 (waitX 0).mem.bank]), TV (.bool true), TV (.bool true), TV (.bool true), TX (waitX K), TX (waitX 0), TV (.int .i64 (K : Int)), TX (waitX K), TV (.bool true), TV (.bool true), TV (.bool true)])
      (by kernel_rfl) (by kernel_rfl) (stab_ty _ ⟨stabB_tv _, stabB_tv _, stabB_tv _, stabB_tv _, stabB_tv _, stabB_tv _, stabB_tv _, stabB_tv _, stabB_tv _, stabB_tv _, stabB_tv _, stabB_tv _, stabB_tv _, stabB_tv _, stabB_tv _, stabB_tv _, stabB_tv _, stabB_tv _, stabB_tv _, stabB_tv _, stabB_tv _, stabB_tv _, stabB_tv _, stabB_tv _, stabB_tv _, stabB_tv _, stabB_tv _, stabB_tv _, stabB_tv _, stabB_x _, stabB_x _, stabB_tv _, stabB_x _, stabB_tv _, stabB_tv _, stabB_tv _, trivial⟩) (Below.refl _ _).drew ?_ ?_
    · refine ⟨?_, ?_, ?_, ?_, ?_, ?_, ?_, ?_, ?_, ?_, ?_, ?_, ?_, ?_, ?_, ?_, ?_, ?_, ?_, ?_, ?_, ?_, ?_, ?_, ?_, ?_, ?_, ?_, ?_, ?_, ?_, ?_, ?_, ?_, ?_, ?_, trivial⟩
      · refine lb_val (.pointer (some ⟨by_, 4, none⟩)) (fun _ _ _ => want_none rfl) fun ρ wx hb hc hx hp => ⟨?_, rfl⟩
        have e1 : ρ (.tmp 7) = .pointer (some ⟨by_, 0, none⟩) := hx 7 rfl
        unfold execOp
        simp only [e1]
        clear hb hc hx hp e1
        go_simp
      · refine lb_val (.int .i64 (512 + (K : Int))) (fun _ _ _ => want_none rfl) fun ρ wx hb hc hx hp => ⟨?_, rfl⟩
        have e1 : ρ (.tmp 25) = .pointer (some ⟨by_, 4, none⟩) := hp.1 rfl
        have c0 : wx.cell? ⟨by_, 4, none⟩ = some (.int .i64 (512 + (K : Int))) := (YB.out.below hb).cell 4
        unfold execOp
        simp only [e1]
        clear hb hc hx hp e1
        go_simp
      · exact lb_move (.tmp 5) (.inl rfl) (fun _ _ _ => want_none rfl) fun ρ wx _ hx _ => hx 5 rfl
      · refine lb_val (.int .i64 (512 + (K : Int))) (fun _ _ _ => want_none rfl) fun ρ wx hb hc hx hp => ⟨?_, rfl⟩
        have e1 : ρ (.tmp 27) = .int .i64 (K : Int) := hp.1 rfl
        have e2 := hc (.int .i64 512)
        unfold execOp
        simp only [e1, e2]
        clear hb hc hx hp e1  e2
        go_simp
      · refine lb_val (.bool true) (fun _ _ _ => want_none rfl) fun ρ wx hb hc hx hp => ⟨?_, rfl⟩
        have e1 : ρ (.tmp 26) = .int .i64 (512 + (K : Int)) := hp.1 rfl
        have e2 : ρ (.tmp 28) = .int .i64 (512 + (K : Int)) := hp.2.1 rfl
        unfold execOp
        simp only [e1, e2]
        clear hb hc hx hp e1  e2
        go_simp
      · exact lb_move (.tmp 29) (.inl rfl) (fun _ _ _ => want_none rfl) fun ρ wx _ _ hp => hp.1 rfl
      · refine lb_val (.pointer (some ⟨by_, 8, none⟩)) (fun ρ wx hp => want_of 5 true 30 rfl rfl (hp.1 rfl)) fun ρ wx hb hc hx hp => ⟨?_, rfl⟩
        have e1 : ρ (.tmp 7) = .pointer (some ⟨by_, 0, none⟩) := hx 7 rfl
        unfold execOp
        simp only [e1]
        clear hb hc hx hp e1
        go_simp
      · refine lb_val (.int .i64 (K : Int)) (fun ρ wx hp => want_of 5 true 30 rfl rfl (hp.2.1 rfl)) fun ρ wx hb hc hx hp => ⟨?_, rfl⟩
        have e1 : ρ (.tmp 31) = .pointer (some ⟨by_, 8, none⟩) := hp.1 rfl
        have c0 : wx.cell? ⟨by_, 8, none⟩ = some (.int .i64 (K : Int)) := (YB.out.below hb).cell 8
        unfold execOp
        simp only [e1]
        clear hb hc hx hp e1
        go_simp
      · exact lb_move (.tmp 5) (.inl rfl) (fun ρ wx hp => want_of 5 true 30 rfl rfl (hp.1 rfl)) fun ρ wx _ hx _ => hx 5 rfl
      · refine lb_val (.bool true) (fun ρ wx hp => want_of 5 true 30 rfl rfl (hp.2.2.1 rfl)) fun ρ wx hb hc hx hp => ⟨?_, rfl⟩
        have e1 : ρ (.tmp 32) = .int .i64 (K : Int) := hp.1 rfl
        have e2 : ρ (.tmp 33) = .int .i64 (K : Int) := hp.2.1 rfl
        unfold execOp
        simp only [e1, e2]
        clear hb hc hx hp e1  e2
        go_simp
      · exact lb_pick (.tmp 30) (.tmp 34) _ rfl true (fun _ _ _ => want_none rfl) fun ρ wx _ hp => ⟨hp.1 rfl, hp.2.1 rfl⟩
      · exact lb_move (.tmp 35) (.inl rfl) (fun _ _ _ => want_none rfl) fun ρ wx _ _ hp => hp.1 rfl
      · refine lb_val (.pointer (some ⟨by_, 3, none⟩)) (fun ρ wx hp => want_of 11 true 36 rfl rfl (hp.1 rfl)) fun ρ wx hb hc hx hp => ⟨?_, rfl⟩
        have e1 : ρ (.tmp 7) = .pointer (some ⟨by_, 0, none⟩) := hx 7 rfl
        unfold execOp
        simp only [e1]
        clear hb hc hx hp e1
        go_simp
      · refine lb_val (.int .i64 0) (fun ρ wx hp => want_of 11 true 36 rfl rfl (hp.2.1 rfl)) fun ρ wx hb hc hx hp => ⟨?_, rfl⟩
        have e1 : ρ (.tmp 37) = .pointer (some ⟨by_, 3, none⟩) := hp.1 rfl
        have c0 : wx.cell? ⟨by_, 3, none⟩ = some (.int .i64 0) := (YB.out.below hb).cell 3
        unfold execOp
        simp only [e1]
        clear hb hc hx hp e1
        go_simp
      · refine lb_val (.bool true) (fun ρ wx hp => want_of 11 true 36 rfl rfl (hp.2.1 rfl)) fun ρ wx hb hc hx hp => ⟨?_, rfl⟩
        have e1 : ρ (.tmp 38) = .int .i64 0 := hp.1 rfl
        have e2 := hc (.int .i64 0)
        unfold execOp
        simp only [e1, e2]
        clear hb hc hx hp e1  e2
        go_simp
      · exact lb_pick (.tmp 36) (.tmp 39) _ rfl true (fun _ _ _ => want_none rfl) fun ρ wx _ hp => ⟨hp.1 rfl, hp.2.1 rfl⟩
      · exact lb_move (.tmp 40) (.inl rfl) (fun _ _ _ => want_none rfl) fun ρ wx _ _ hp => hp.1 rfl
      · refine lb_val (.pointer (some ⟨by_, 7, none⟩)) (fun ρ wx hp => want_of 16 true 41 rfl rfl (hp.1 rfl)) fun ρ wx hb hc hx hp => ⟨?_, rfl⟩
        have e1 : ρ (.tmp 7) = .pointer (some ⟨by_, 0, none⟩) := hx 7 rfl
        unfold execOp
        simp only [e1]
        clear hb hc hx hp e1
        go_simp
      · refine lb_val (.bool false) (fun ρ wx hp => want_of 16 true 41 rfl rfl (hp.2.1 rfl)) fun ρ wx hb hc hx hp => ⟨?_, rfl⟩
        have e1 : ρ (.tmp 42) = .pointer (some ⟨by_, 7, none⟩) := hp.1 rfl
        have c0 : wx.cell? ⟨by_, 7, none⟩ = some (.bool false) := (YB.out.below hb).cell 7
        unfold execOp
        simp only [e1]
        clear hb hc hx hp e1
        go_simp
      · exact lb_unot (.tmp 43) _ false rfl (fun ρ wx hp => want_of 16 true 41 rfl rfl (hp.2.1 rfl)) fun ρ wx hp => ⟨hp.1 rfl, rfl⟩
      · exact lb_pick (.tmp 41) (.tmp 44) _ rfl true (fun _ _ _ => want_none rfl) fun ρ wx _ hp => ⟨hp.1 rfl, hp.2.1 rfl⟩
      · exact lb_move (.tmp 45) (.inl rfl) (fun _ _ _ => want_none rfl) fun ρ wx _ _ hp => hp.1 rfl
      · refine lb_val (.pointer (some ⟨by_, 0, none⟩)) (fun ρ wx hp => want_of 21 true 46 rfl rfl (hp.1 rfl)) fun ρ wx hb hc hx hp => ⟨?_, rfl⟩
        have e1 : ρ (.tmp 7) = .pointer (some ⟨by_, 0, none⟩) := hx 7 rfl
        unfold execOp
        simp only [e1]
        clear hb hc hx hp e1
        go_simp
      · exact lb_val _ (fun ρ wx hp => want_of 21 true 46 rfl rfl (hp.2.1 rfl)) fun ρ wx hb hc hx hp => ⟨load_memIn (YB.out.below hb) ρ (.tmp 47) (hp.1 rfl) rfl, rfl⟩
      · refine lb_val (.pointer (some ⟨bx, 0, none⟩)) (fun ρ wx hp => want_of 21 true 46 rfl rfl (hp.1 rfl)) fun ρ wx hb hc hx hp => ⟨?_, rfl⟩
        have e1 : ρ (.tmp 6) = .pointer (some ⟨bx, 0, none⟩) := hx 6 rfl
        unfold execOp
        simp only [e1]
        clear hb hc hx hp e1
        go_simp
      · exact lb_val _ (fun ρ wx hp => want_of 21 true 46 rfl rfl (hp.2.1 rfl)) fun ρ wx hb hc hx hp => ⟨load_memIn (XB.out.below hb) ρ (.tmp 49) (hp.1 rfl) rfl, rfl⟩
      · refine lb_callT _ _ _ (fun _ _ => by simp [go_sem]) rfl (fun ρ wx hp => want_of 21 true 46 rfl rfl (hp.2.2.2.1 rfl)) (fun ρ wx hb hc hp => ?_) (fun _ => rfl)
        have h1 : ρ (.tmp 48) = .agg #[.slice Ay nx cy, .slice Ry kx dy, .int .i64 0] := hp.1 rfl
        have h2 : ρ (.tmp 50) = .agg #[.slice Ax nx cx, .slice Rx kx dx, .int .i64 (waitX 0).mem.bank] := hp.2.1 rfl
        refine ⟨#[ρ (.tmp 48), ρ (.tmp 50)], by simp, ?_⟩
        obtain ⟨_, ⟨fa1, fr1, fb1, hh1⟩, f1⟩ := YM.out.below hb
        obtain ⟨_, ⟨fa2, fr2, fb2, hh2⟩, _⟩ := XM.out.below hb
        rw [h1, h2]
        exact same_mem Ay Ax nx cy cx Ry Rx kx dy dx (waitX K).mem fa1 fr1 fa2 fr2 wx hh1.ram hh2.ram hh1.rom hh2.rom (by have := f1.n hh1; omega) (by have := f1.k hh1; omega) (fun i => by have := f1.row i; omega)
      · exact lb_pick (.tmp 46) (.tmp 51) _ rfl true (fun _ _ _ => want_none rfl) fun ρ wx _ hp => ⟨hp.1 rfl, hp.2.1 rfl⟩
      · exact lb_move (.tmp 52) (.inl rfl) (fun _ _ _ => want_none rfl) fun ρ wx _ _ hp => hp.1 rfl
      · exact lb_loadX (.tmp 7) by_ (waitX K) rfl VYY.out (fun ρ wx hp => want_of 28 true 53 rfl rfl (hp.1 rfl)) (fun ρ hx => hx 7 rfl) (fun _ _ h => h)
      · exact lb_loadX (.tmp 6) bx (waitX 0) rfl VXX.out (fun ρ wx hp => want_of 28 true 53 rfl rfl (hp.1 rfl)) (fun ρ hx => hx 6 rfl) (fun _ _ h => h)
      · exact lb_move (.tmp 5) (.inl rfl) (fun ρ wx hp => want_of 28 true 53 rfl rfl (hp.1 rfl)) fun ρ wx _ hx _ => hx 5 rfl
      · refine lb_callX (waitX K) _ _ _ (fun _ _ => by simp [go_sem]) rfl (fun ρ wx hp => want_of 28 true 53 rfl rfl (hp.2.2.2.1 rfl)) (fun ρ wx hb hc hp => ?_) (fun _ _ h => h)
        have h1 : TX (waitX 0) (ρ (.tmp 55)) wx := hp.1 rfl
        have h2 : ρ (.tmp 56) = .int .i64 (K : Int) := hp.2.1 rfl
        refine ⟨#[ρ (.tmp 55), .int .i64 (K : Int)], by simp [h2], ?_⟩
        have h := tx_srun h1 (K : Int)
        rw [wait_runX K (by omega)] at h
        exact h
      · refine lb_callT _ _ _ (fun _ _ => by simp [go_sem]) rfl (fun ρ wx hp => want_of 28 true 53 rfl rfl (hp.2.2.2.1 rfl)) (fun ρ wx hb hc hp => ?_) (fun _ => rfl)
        have h1 : TX (waitX K) (ρ (.tmp 54)) wx := hp.1 rfl
        have h2 : TX (waitX K) (ρ (.tmp 57)) wx := hp.2.1 rfl
        refine ⟨#[ρ (.tmp 54), ρ (.tmp 57)], by simp, ?_⟩
        exact tx_same h1 h2
      · exact lb_pick (.tmp 53) (.tmp 58) _ rfl true (fun _ _ _ => want_none rfl) fun ρ wx _ hp => ⟨hp.1 rfl, hp.2.1 rfl⟩
      · exact lb_move (.tmp 59) (.inr rfl) (fun _ _ _ => want_none rfl) fun ρ wx _ _ hp => hp.1 rfl
    · intro vs w7 b5 hF
      obtain ⟨_, _, _, _, _, _, _, _, _, _, _, _, _, _, _, _, _, _, _, _, _, _, _, _, _, _, _, _, _, _, _, _, _, _, _, hn, _⟩ := hF
      replace hn : vs 35 = .bool true := hn
      have B7 := Lib.hid (below_then BY.out b5)
      clear b5
      simp only [putAll, Act.put, List.setIfInBounds_toArray, List.set_cons_zero, List.set_cons_succ, hn]
      clear hn
      go_wp2_with fail
      go_ret
      exact ⟨rfl, B7.out⟩
end Go.Proofs.YtcapfafglikcmaaDoor
