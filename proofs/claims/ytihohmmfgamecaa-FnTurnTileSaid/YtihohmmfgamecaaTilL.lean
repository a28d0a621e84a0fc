/- Laws of chapter 8 on valid, turned and flipped tiles, walked. -/
import Derived.Test.YtihohmmfgamecaaTilO
import Derived.Test.YtihohmmfgamecaaTypedT
import Derived.Test.YtihohmmfgamecaaLater
import Derived.Deep.DeepCutAuto
namespace Go.Proofs.Ytihohmmfgamecaa
open Go.ChangeShapes Go.WideShapes Go.ChangeAt Go.RowKit
set_option linter.unusedVariables false

set_option maxRecDepth 100000 in
set_option maxHeartbeats 8000000 in
theorem walk_FnTileValid (TK : TilOk) (a0 : Option Addr) (len0 cap0 : Nat) (z0 : List Int) (w : World) (w0 : IsRow .u8 w a0 len0 cap0 z0) :
    Calls Try.prog 3 #[.slice a0 len0 cap0] w fun e w' => e = .returned (.bool true) ∧ Below w.heap.size w w' := by
  have H := Lib.hid w0
  have hl0 := isRow_len w0
  clear w0
  by_cases hs : len0 ≤ 1048576
  case neg =>
    have hs' : 1048576 < len0 := by omega
    go_enter Try.func3, Try.ntmps3
    go_wp2_with fail
    go_ret
    exact ⟨rfl, Below.refl _ _⟩
  go_enter Try.func3, Try.ntmps3
  go_wp2_with fail
  refine (draw_tileValid _ _ _ _ _ H.out).mono ?_; rintro e w1 ⟨px, hpx, rfl, b1⟩
  have hl := hpx.1
  have X1 : Hid (Box (w1.alloc (.cells (iv px).toArray 25)) w1.heap.size 25 (iv px)) := Box.new w1 _ _
  have B1 : Hid (Below w.heap.size w (w1.alloc (.cells (iv px).toArray 25))) := b1.alloc b1.size _
  have HB1 := Lib.hid b1.size
  clear b1
  go_upto_region 4 with (first | (refine st_alloc (by rfl) rfl ?_) | (refine st_store (by rfl) _ _ rfl _ rfl px rfl hl (iv z64) (Box.new _ _ _) (by simp [z64_len]) ?_))
  rw [World.setRow_alloc_new]
  generalize w1.alloc (.cells (iv px).toArray 25) = W1 at X1 B1 ⊢
  have HBT : Hid (w.heap.size ≤ w1.heap.size) := HB1.out
  generalize w1.heap.size = bt at X1 HBT ⊢
  obtain ⟨V, hV⟩ : ∃ V, tilB px = V := ⟨_, rfl⟩
  have HV := Lib.hid hV
  clear hV
  go_wp2_with (first | (refine st_load (by rfl) _ rfl _ rfl px hl X1.out ?_))
  refine (TK.valid px _ hl).mono ?_; rintro e w2 ⟨rfl, b2⟩
  rw [HV.out]
  have X2 := Lib.hid (X1.out.below b2)
  have B2 := Lib.hid (below_then B1.out b2)
  clear b2 X1 B1
  go_wp2_with (first | (refine st_load (by rfl) _ rfl _ rfl px hl X2.out ?_))
  refine (spec_tileValid px hl _).mono ?_; rintro e w3 ⟨rfl, b3⟩
  rw [HV.out]
  have X3 := Lib.hid (X2.out.below b3)
  have B3 := Lib.hid (below_then B2.out b3)
  have hbt : w.heap.size ≤ bt := HBT.out
  clear b3 X2 B2
  obtain ⟨j, hj⟩ : ∃ j : Nat, (len0 : Int) % 64 = j := ⟨len0 % 64, by omega⟩
  have hj2 : j < 64 := by omega
  have hj3 : (j : Int) < 64 := by omega
  have hj0 : 0 ≤ (j : Int) := by omega
  have hlen0 : 0 ≤ (len0 : Int) := by omega
  have c0 := til_cell X3.out j (by rw [hl]; exact hj2)
  have g0 := X3.out.frozen j
  obtain ⟨py, hpy⟩ : ∃ py, px.set j 4 = py := ⟨_, rfl⟩
  have hl2 : py.length = 64 := by rw [← hpy, List.length_set]; exact hl
  have HB : Hid (tilB py = false) := tilB_no (px := py) j (by rw [hl2]; exact hj2) (by rw [← hpy, List.getD_eq_getElem?_getD, List.getElem?_set_self (by rw [hl]; exact hj2)]; rfl)
  generalize px.getD j 0 = x at c0
  go_upto_region 8 with (fail)
  have X4 : Hid (Box (w3.setCell ⟨bt, j, none⟩ (.int .i64 4)) bt 25 (iv py)) := by rw [← hpy, ← iv_put]; exact X3.out.set j (.int .i64 4)
  have B4 : Hid (Below w.heap.size w (w3.setCell ⟨bt, j, none⟩ (.int .i64 4))) := B3.out.setCell (show w.heap.size ≤ bt from hbt) _
  generalize w3.setCell ⟨bt, j, none⟩ (.int .i64 4) = w4 at X4 B4 ⊢
  clear c0 g0 X3 B3
  go_wp2_with (first | (refine st_load (by rfl) _ rfl _ rfl py hl2 X4.out ?_))
  refine (TK.valid py _ hl2).mono ?_; rintro e w5 ⟨rfl, b5⟩
  rw [HB.out]
  have B5 := Lib.hid (below_then B4.out b5)
  clear b5
  go_wp2_with fail
  refine (alive_any _).mono ?_; rintro e w' ⟨rfl, rfl⟩
  go_wp2_with fail
  go_ret
  exact ⟨rfl, B5.out⟩
set_option maxRecDepth 100000 in
set_option maxHeartbeats 8000000 in
theorem walk_FnTurnPixels (TK : TilOk) (a0 : Option Addr) (len0 cap0 : Nat) (z0 : List Int) (w : World) (w0 : IsRow .u8 w a0 len0 cap0 z0) :
    Calls Try.prog 10 #[.slice a0 len0 cap0] w fun e w' => e = .returned (.bool true) ∧ Below w.heap.size w w' := by
  have H := Lib.hid w0
  have hl0 := isRow_len w0
  clear w0
  by_cases hs : len0 ≤ 1048576
  case neg =>
    have hs' : 1048576 < len0 := by omega
    go_enter Try.func10, Try.ntmps10
    go_wp2_with fail
    go_ret
    exact ⟨rfl, Below.refl _ _⟩
  go_enter Try.func10, Try.ntmps10
  go_wp2_with fail
  refine (draw_turn _ _ _ _ _ H.out).mono ?_; rintro e w1 ⟨px, hpx, rfl, b1⟩
  have hl := hpx.1
  have X1 : Hid (Box (w1.alloc (.cells (iv px).toArray 25)) w1.heap.size 25 (iv px)) := Box.new w1 _ _
  have B1 : Hid (Below w.heap.size w (w1.alloc (.cells (iv px).toArray 25))) := b1.alloc b1.size _
  clear b1
  go_upto_region 4 with (first | (refine st_alloc (by rfl) rfl ?_) | (refine st_store (by rfl) _ _ rfl _ rfl px rfl hl (iv z64) (Box.new _ _ _) (by simp [z64_len]) ?_))
  rw [World.setRow_alloc_new]
  generalize w1.alloc (.cells (iv px).toArray 25) = W1 at X1 B1 ⊢
  generalize w1.heap.size = bt at X1 ⊢
  obtain ⟨V, hV⟩ : ∃ V, tilB px = V := ⟨_, rfl⟩
  have HV := Lib.hid hV
  clear hV
  go_wp2_with (first | (refine st_load (by rfl) _ rfl _ rfl px hl X1.out ?_))
  refine (TK.turn px _ hl).mono ?_; rintro e w2 ⟨rfl, b2⟩
  have hq : (turnT px).length = 64 := turn_len px
  obtain ⟨qx, hqx⟩ : ∃ qx, turnT px = qx := ⟨_, rfl⟩
  rw [hqx] at hq ⊢
  have HQ := Lib.hid hqx
  clear hqx
  have X2 := Lib.hid ((X1.out.below b2).alloc (.cells (iv qx).toArray 25))
  have Y2 : Hid (Box (w2.alloc (.cells (iv qx).toArray 25)) w2.heap.size 25 (iv qx)) := Box.new w2 _ _
  have B2 := Lib.hid ((below_then B1.out b2).alloc (below_then B1.out b2).size (.cells (iv qx).toArray 25))
  clear b2 X1 B1
  go_upto_region 5 with (first | (refine st_alloc (by rfl) rfl ?_) | (refine st_store (by rfl) _ _ rfl _ rfl qx rfl hq (iv z64) (Box.new _ _ _) (by simp [z64_len]) ?_))
  rw [World.setRow_alloc_new]
  generalize w2.alloc (.cells (iv qx).toArray 25) = W2 at X2 Y2 B2 ⊢
  generalize w2.heap.size = bx at Y2 ⊢
  refine wp_region_typed (ClB W2) RlB (Ty [TV (tilV qx), TV (tilV px), TV (tilV qx), TV (.bool false)])
    (by kernel_rfl) (by kernel_rfl) (stab_ty _ ⟨stabB_k _, stabB_k _, stabB_k _, stabB_k _, trivial⟩) (Below.refl _ _).drew ?_ ?_
  · refine ⟨?_, ?_, ?_, ?_, trivial⟩
    · exact lb_tile (.tmp 4) bx qx rfl hq Y2.out (fun _ _ _ => want_none rfl) fun ρ wx hx hp => ⟨hx 4 rfl, rfl⟩
    · exact lb_tile (.tmp 3) bt px rfl hl X2.out (fun _ _ _ => want_none rfl) fun ρ wx hx hp => ⟨hx 3 rfl, rfl⟩
    · refine lb_known _ _ _ (tilV qx) (fun _ _ => by simp [go_sem]) rfl (fun _ _ _ => want_none rfl) #[tilV px] (fun w hb => HQ.out ▸ spec_turn px hl w) (fun ρ wx hc hx hp => ?_) (fun _ => rfl)
      have h0 : ρ (.tmp 14) = tilV px := hp.1 rfl
      simp only [List.map_toArray, List.map_cons, List.map_nil, h0]
    · exact lb_neqT (.tmp 13) (.tmp 15) _ qx qx false rfl hq hq ((by simp)) (fun _ _ _ => want_none rfl) fun ρ wx hx hp => ⟨hp.1 rfl, hp.2.1 rfl, rfl⟩
  intro vs wx hI hF
  obtain ⟨_, _, _, h3, _⟩ := hF
  replace h3 : vs 3 = .bool false := h3
  have HI : Hid (Below W2.heap.size W2 wx) := hI
  simp only [putAll, Act.put, List.setIfInBounds_toArray, List.set_cons_zero, List.set_cons_succ, h3]
  clear hI h3
  have X3 := Lib.hid (X2.out.below HI.out)
  have Y3 := Lib.hid (Y2.out.below HI.out)
  have B3 := Lib.hid (below_then B2.out HI.out)
  clear X2 Y2 B2 HI
  go_wp2_with (first | (refine st_load (by rfl) _ rfl _ rfl px hl X3.out ?_))
  refine (spec_tileValid px hl _).mono ?_; rintro e w4 ⟨rfl, b4⟩
  rw [HV.out]
  have X4 := Lib.hid (X3.out.below b4)
  have Y4 := Lib.hid (Y3.out.below b4)
  have B4 := Lib.hid (below_then B3.out b4)
  clear b4 X3 Y3 B3
  cases V
  · go_wp2_with fail
    refine (alive_any _).mono ?_; rintro e w' ⟨rfl, rfl⟩
    go_wp2_with fail
    go_ret
    exact ⟨rfl, B4.out⟩
  · have hv := HV.out
    go_wp2_with fail
    go_loopw [2, 5] (fun u i wr => ∃ k : Nat, k ≤ 8 ∧ u = .bool false ∧ i = .int .i64 k ∧ Box wr bt 25 (iv px) ∧ Box wr bx 25 (iv qx) ∧ Below w.heap.size w wr) (fun _ i _ => 8 - (intOf i).toNat)
    case atStart => exact ⟨0, by omega, rfl, rfl, X4.out, Y4.out, B4.out⟩
    case round =>
      obtain ⟨k, hk, rfl, rfl, hx, hy, hb⟩ := hrel
      have XR := Lib.hid hx
      have YR := Lib.hid hy
      have BR := Lib.hid hb
      clear hx hy hb X4 Y4 B4
      by_cases h8 : k < 8
      · have i8 : (k : Int) < 8 := by omega
        have i64' : (k : Int) < 64 := by omega
        have k0 : 0 ≤ (k : Int) := by omega
        obtain ⟨j, hj⟩ : ∃ j : Nat, (7 : Int) - k = j := ⟨7 - k, by omega⟩
        obtain ⟨s, hs⟩ : ∃ s : Nat, (8 : Int) * j = s := ⟨8 * j, by omega⟩
        have s64 : s < 64 := by omega
        have s64' : (s : Int) < 64 := by omega
        have s0 : 0 ≤ (s : Int) := by omega
        have hrow := turn_row hv k h8
        rw [HQ.out, show 8 * (7 - k) = s by omega] at hrow
        obtain ⟨x, hx⟩ : ∃ x, px.getD s 0 = x := ⟨_, rfl⟩
        rw [hx] at hrow
        have cx := til_cell XR.out s (by omega)
        have cy := til_cell YR.out k (by omega)
        rw [hx] at cx
        rw [hrow] at cy
        have c0 : ∀ u : Later wr, u.now.cell? ⟨bt, s, none⟩ = some (.int .i64 x) := later_cell cx
        have c1 : ∀ u : Later wr, u.now.cell? ⟨bx, k, none⟩ = some (.int .i64 x) := later_cell cy
        clear hx hrow cx cy hv
        go_upto_region 12 with (fail)
        refine wp_region_later (by kernel_rfl) (by kernel_rfl) ?_
        repeat (go_big_quiet_step (fail))
        refine wpQuiet_nil ?_
        rintro _ ⟨u, rfl⟩
        have X5 := Lib.hid (XR.out.below u.below)
        have Y5 := Lib.hid (YR.out.below u.below)
        have B5 := Lib.hid (below_then BR.out u.below)
        clear c0 c1 XR YR BR
        generalize u.now = w5 at X5 Y5 B5
        go_wp2_with fail
        go_roundw
        case rel => exact ⟨k + 1, by omega, rfl, by go_num, X5.out, Y5.out, B5.out⟩
        case measure => simp [intOf]; omega
      · obtain rfl : k = 8 := by omega
        go_wp2_with fail
        go_ret
        exact ⟨rfl, BR.out⟩
set_option maxRecDepth 100000 in
set_option maxHeartbeats 8000000 in
theorem walk_FnTurnTile (TK : TilOk) (a0 : Option Addr) (len0 cap0 : Nat) (z0 : List Int) (w : World) (w0 : IsRow .u8 w a0 len0 cap0 z0) :
    Calls Try.prog 7 #[.slice a0 len0 cap0] w fun e w' => e = .returned (.bool true) ∧ Below w.heap.size w w' := by
  have H := Lib.hid w0
  have hl0 := isRow_len w0
  clear w0
  by_cases hs : len0 ≤ 1048576
  case neg =>
    have hs' : 1048576 < len0 := by omega
    go_enter Try.func7, Try.ntmps7
    go_wp2_with fail
    go_ret
    exact ⟨rfl, Below.refl _ _⟩
  go_enter Try.func7, Try.ntmps7
  go_wp2_with fail
  refine (draw_turn _ _ _ _ _ H.out).mono ?_; rintro e w1 ⟨px, hpx, rfl, b1⟩
  have hl := hpx.1
  have X1 : Hid (Box (w1.alloc (.cells (iv px).toArray 25)) w1.heap.size 25 (iv px)) := Box.new w1 _ _
  have B1 : Hid (Below w.heap.size w (w1.alloc (.cells (iv px).toArray 25))) := b1.alloc b1.size _
  clear b1
  go_upto_region 4 with (first | (refine st_alloc (by rfl) rfl ?_) | (refine st_store (by rfl) _ _ rfl _ rfl px rfl hl (iv z64) (Box.new _ _ _) (by simp [z64_len]) ?_))
  rw [World.setRow_alloc_new]
  generalize w1.alloc (.cells (iv px).toArray 25) = W1 at X1 B1 ⊢
  generalize w1.heap.size = bt at X1 ⊢
  obtain ⟨V, hV⟩ : ∃ V, tilB px = V := ⟨_, rfl⟩
  have HV := Lib.hid hV
  clear hV
  go_wp2_with (first | (refine st_load (by rfl) _ rfl _ rfl px hl X1.out ?_))
  refine (TK.turn px _ hl).mono ?_; rintro e w2 ⟨rfl, b2⟩
  have hq : (turnT px).length = 64 := turn_len px
  obtain ⟨qx, hqx⟩ : ∃ qx, turnT px = qx := ⟨_, rfl⟩
  rw [hqx] at hq ⊢
  have HQ := Lib.hid hqx
  clear hqx
  have X2 := Lib.hid ((X1.out.below b2).alloc (.cells (iv qx).toArray 25))
  have Y2 : Hid (Box (w2.alloc (.cells (iv qx).toArray 25)) w2.heap.size 25 (iv qx)) := Box.new w2 _ _
  have B2 := Lib.hid ((below_then B1.out b2).alloc (below_then B1.out b2).size (.cells (iv qx).toArray 25))
  clear b2 X1 B1
  go_upto_region 5 with (first | (refine st_alloc (by rfl) rfl ?_) | (refine st_store (by rfl) _ _ rfl _ rfl qx rfl hq (iv z64) (Box.new _ _ _) (by simp [z64_len]) ?_))
  rw [World.setRow_alloc_new]
  generalize w2.alloc (.cells (iv qx).toArray 25) = W2 at X2 Y2 B2 ⊢
  generalize w2.heap.size = bx at Y2 ⊢
  refine wp_region_typed (ClB W2) RlB (Ty [TV (tilV qx), TV (tilV px), TV (tilV qx), TV (.bool false)])
    (by kernel_rfl) (by kernel_rfl) (stab_ty _ ⟨stabB_k _, stabB_k _, stabB_k _, stabB_k _, trivial⟩) (Below.refl _ _).drew ?_ ?_
  · refine ⟨?_, ?_, ?_, ?_, trivial⟩
    · exact lb_tile (.tmp 4) bx qx rfl hq Y2.out (fun _ _ _ => want_none rfl) fun ρ wx hx hp => ⟨hx 4 rfl, rfl⟩
    · exact lb_tile (.tmp 3) bt px rfl hl X2.out (fun _ _ _ => want_none rfl) fun ρ wx hx hp => ⟨hx 3 rfl, rfl⟩
    · refine lb_known _ _ _ (tilV qx) (fun _ _ => by simp [go_sem]) rfl (fun _ _ _ => want_none rfl) #[tilV px] (fun w hb => HQ.out ▸ spec_turn px hl w) (fun ρ wx hc hx hp => ?_) (fun _ => rfl)
      have h0 : ρ (.tmp 14) = tilV px := hp.1 rfl
      simp only [List.map_toArray, List.map_cons, List.map_nil, h0]
    · exact lb_neqT (.tmp 13) (.tmp 15) _ qx qx false rfl hq hq ((by simp)) (fun _ _ _ => want_none rfl) fun ρ wx hx hp => ⟨hp.1 rfl, hp.2.1 rfl, rfl⟩
  intro vs wx hI hF
  obtain ⟨_, _, _, h3, _⟩ := hF
  replace h3 : vs 3 = .bool false := h3
  have HI : Hid (Below W2.heap.size W2 wx) := hI
  simp only [putAll, Act.put, List.setIfInBounds_toArray, List.set_cons_zero, List.set_cons_succ, h3]
  clear hI h3
  have X3 := Lib.hid (X2.out.below HI.out)
  have Y3 := Lib.hid (Y2.out.below HI.out)
  have B3 := Lib.hid (below_then B2.out HI.out)
  clear X2 Y2 B2 HI
  go_wp2_with (first | (refine st_load (by rfl) _ rfl _ rfl px hl X3.out ?_))
  refine (spec_tileValid px hl _).mono ?_; rintro e w4 ⟨rfl, b4⟩
  rw [HV.out]
  have X4 := Lib.hid (X3.out.below b4)
  have Y4 := Lib.hid (Y3.out.below b4)
  have B4 := Lib.hid (below_then B3.out b4)
  clear b4 X3 Y3 B3
  cases V
  · have HZ : Hid (qx = z64) := by rw [← HQ.out]; exact Lib.hid (if_neg (by rw [HV.out]; simp))
    go_wp2_with (first | (refine st_load (by rfl) _ rfl _ rfl qx hq Y4.out ?_) | (refine st_build (by rfl) rfl ?_) | (refine st_eql (by rfl) _ _ _ rfl _ _ rfl rfl hq z64_len true (by rw [HZ.out]; simp) ?_))
    refine (alive_any _).mono ?_; rintro e w' ⟨rfl, rfl⟩
    go_wp2_with fail
    go_ret
    exact ⟨rfl, B4.out⟩
  · have hv := HV.out
    have v1 := turn_valid hl hv
    go_wp2_with (first | (refine st_load (by rfl) _ rfl _ rfl px hl X4.out ?_))
    refine (TK.flip px true false _ hl).mono ?_; rintro e w5 ⟨rfl, b5⟩
    have X5 := Lib.hid (X4.out.below b5)
    have Y5 := Lib.hid (Y4.out.below b5)
    have B5 := Lib.hid (below_then B4.out b5)
    clear b5 X4 Y4 B4
    go_wp2_with fail
    refine (TK.turn (flipT px true false) _ (flip_len _ _ _)).mono ?_; rintro e w6 ⟨rfl, b6⟩
    obtain ⟨mx, hmx⟩ : ∃ mx, turnT (flipT px true false) = mx := ⟨_, rfl⟩
    have hm : mx.length = 64 := by rw [← hmx]; exact turn_len _
    have E1 : turnT (flipT mx true false) = px := by rw [← hmx]; exact turn_flip hl hv
    have E2 : turnT (turnT (turnT qx)) = px := by rw [← HQ.out]; exact turn_four hl hv
    have E3 : usedT qx = usedT px := by rw [← HQ.out]; exact used_turn hl hv
    rw [hmx]
    have X6 := Lib.hid ((X5.out.below b6).alloc (.cells (iv mx).toArray 25))
    have Y6 := Lib.hid ((Y5.out.below b6).alloc (.cells (iv mx).toArray 25))
    have Z6 : Hid (Box (w6.alloc (.cells (iv mx).toArray 25)) w6.heap.size 25 (iv mx)) := Box.new w6 _ _
    have B6 := Lib.hid ((below_then B5.out b6).alloc (below_then B5.out b6).size (.cells (iv mx).toArray 25))
    clear b6 X5 Y5 B5 hmx
    go_upto_region 10 with (first | (refine st_alloc (by rfl) rfl ?_) | (refine st_store (by rfl) _ _ rfl _ rfl mx rfl hm (iv z64) (Box.new _ _ _) (by simp [z64_len]) ?_))
    rw [World.setRow_alloc_new]
    generalize w6.alloc (.cells (iv mx).toArray 25) = W6 at X6 Y6 Z6 B6 ⊢
    generalize w6.heap.size = bm at Z6 ⊢
    refine wp_region_typed (ClB W6) RlB (Ty [TV (tilV qx), TV (tilV (turnT qx)), TV (tilV (turnT (turnT qx))), TV (tilV (turnT (turnT (turnT qx)))), TV (tilV px), TV (.bool true), TV (.bool true), TV (tilV qx), TV (.int .i64 (usedT qx)), TV (tilV px), TV (.int .i64 (usedT px)), TV (.bool true), TV (.bool true), TV (.bool true), TV (tilV mx), TV (tilV (flipT mx true false)), TV (tilV (turnT (flipT mx true false))), TV (tilV px), TV (.bool true), TV (.bool true), TV (.bool true)])
      (by kernel_rfl) (by kernel_rfl) (stab_ty _ ⟨stabB_k _, stabB_k _, stabB_k _, stabB_k _, stabB_k _, stabB_k _, stabB_k _, stabB_k _, stabB_k _, stabB_k _, stabB_k _, stabB_k _, stabB_k _, stabB_k _, stabB_k _, stabB_k _, stabB_k _, stabB_k _, stabB_k _, stabB_k _, stabB_k _, trivial⟩) (Below.refl _ _).drew ?_ ?_
    · refine ⟨?_, ?_, ?_, ?_, ?_, ?_, ?_, ?_, ?_, ?_, ?_, ?_, ?_, ?_, ?_, ?_, ?_, ?_, ?_, ?_, ?_, trivial⟩
      · exact lb_tile (.tmp 4) bx qx rfl hq Y6.out (fun _ _ _ => want_none rfl) fun ρ wx hx hp => ⟨hx 4 rfl, rfl⟩
      · refine lb_known _ _ _ (tilV (turnT qx)) (fun _ _ => by simp [go_sem]) rfl (fun _ _ _ => want_none rfl) #[tilV qx] (fun w hb => TK.turn qx w hq) (fun ρ wx hc hx hp => ?_) (fun _ => rfl)
        have h0 : ρ (.tmp 29) = tilV qx := hp.1 rfl
        simp only [List.map_toArray, List.map_cons, List.map_nil, h0]
      · refine lb_known _ _ _ (tilV (turnT (turnT qx))) (fun _ _ => by simp [go_sem]) rfl (fun _ _ _ => want_none rfl) #[tilV (turnT qx)] (fun w hb => TK.turn (turnT qx) w (turn_len _)) (fun ρ wx hc hx hp => ?_) (fun _ => rfl)
        have h0 : ρ (.tmp 30) = tilV (turnT qx) := hp.1 rfl
        simp only [List.map_toArray, List.map_cons, List.map_nil, h0]
      · refine lb_known _ _ _ (tilV (turnT (turnT (turnT qx)))) (fun _ _ => by simp [go_sem]) rfl (fun _ _ _ => want_none rfl) #[tilV (turnT (turnT qx))] (fun w hb => TK.turn (turnT (turnT qx)) w (turn_len _)) (fun ρ wx hc hx hp => ?_) (fun _ => rfl)
        have h0 : ρ (.tmp 31) = tilV (turnT (turnT qx)) := hp.1 rfl
        simp only [List.map_toArray, List.map_cons, List.map_nil, h0]
      · exact lb_tile (.tmp 3) bt px rfl hl X6.out (fun _ _ _ => want_none rfl) fun ρ wx hx hp => ⟨hx 3 rfl, rfl⟩
      · exact lb_eqlT (.tmp 32) (.tmp 33) _ (turnT (turnT (turnT qx))) px true rfl (turn_len _) hl ((by rw [E2]; simp)) (fun _ _ _ => want_none rfl) fun ρ wx hx hp => ⟨hp.1 rfl, hp.2.1 rfl, rfl⟩
      · exact lb_move (.tmp 34) (.inl rfl) (fun _ _ _ => want_none rfl) fun ρ wx hc hx hp => hp.1 rfl
      · exact lb_tile (.tmp 4) bx qx rfl hq Y6.out (fun ρ wx hp => want_of 6 true 35 rfl rfl (hp.1 rfl)) fun ρ wx hx hp => ⟨hx 4 rfl, rfl⟩
      · refine lb_known _ _ _ (.int .i64 (usedT qx)) (fun _ _ => by simp [go_sem]) rfl (fun ρ wx hp => want_of 6 true 35 rfl rfl (hp.2.1 rfl)) #[tilV qx] (fun w hb => TK.used qx w hq) (fun ρ wx hc hx hp => ?_) (fun _ => rfl)
        have h0 : ρ (.tmp 36) = tilV qx := hp.1 rfl
        simp only [List.map_toArray, List.map_cons, List.map_nil, h0]
      · exact lb_tile (.tmp 3) bt px rfl hl X6.out (fun ρ wx hp => want_of 6 true 35 rfl rfl (hp.1 rfl)) fun ρ wx hx hp => ⟨hx 3 rfl, rfl⟩
      · refine lb_known _ _ _ (.int .i64 (usedT px)) (fun _ _ => by simp [go_sem]) rfl (fun ρ wx hp => want_of 6 true 35 rfl rfl (hp.2.2.1 rfl)) #[tilV px] (fun w hb => TK.used px w hl) (fun ρ wx hc hx hp => ?_) (fun _ => rfl)
        have h0 : ρ (.tmp 38) = tilV px := hp.1 rfl
        simp only [List.map_toArray, List.map_cons, List.map_nil, h0]
      · exact lb_eqlI (.tmp 37) (.tmp 39) _ (usedT qx) (usedT px) true rfl (by rw [E3]; simp) (fun ρ wx hp => want_of 6 true 35 rfl rfl (hp.2.2.1 rfl)) fun ρ wx hc hx hp => ⟨hp.1 rfl, hp.2.1 rfl, rfl⟩
      · exact lb_pick (.tmp 35) _ _ rfl true (fun _ _ _ => want_none rfl) fun ρ wx hc hp => ⟨hp.1 rfl, hp.2.1 rfl⟩
      · exact lb_move (.tmp 41) (.inl rfl) (fun _ _ _ => want_none rfl) fun ρ wx hc hx hp => hp.1 rfl
      · exact lb_tile (.tmp 5) bm mx rfl hm Z6.out (fun ρ wx hp => want_of 13 true 42 rfl rfl (hp.1 rfl)) fun ρ wx hx hp => ⟨hx 5 rfl, rfl⟩
      · refine lb_known _ _ _ (tilV (flipT mx true false)) (fun _ _ => by simp [go_sem]) rfl (fun ρ wx hp => want_of 13 true 42 rfl rfl (hp.2.1 rfl)) #[tilV mx, .bool true, .bool false] (fun w hb => TK.flip mx true false w hm) (fun ρ wx hc hx hp => ?_) (fun _ => rfl)
        have h0 : ρ (.tmp 43) = tilV mx := hp.1 rfl
        have h1 : ρ (.const (.bool true)) = .bool true := hc _
        have h2 : ρ (.const (.bool false)) = .bool false := hc _
        simp only [List.map_toArray, List.map_cons, List.map_nil, h0, h1, h2]
      · refine lb_known _ _ _ (tilV (turnT (flipT mx true false))) (fun _ _ => by simp [go_sem]) rfl (fun ρ wx hp => want_of 13 true 42 rfl rfl (hp.2.2.1 rfl)) #[tilV (flipT mx true false)] (fun w hb => TK.turn (flipT mx true false) w (flip_len _ _ _)) (fun ρ wx hc hx hp => ?_) (fun _ => rfl)
        have h0 : ρ (.tmp 44) = tilV (flipT mx true false) := hp.1 rfl
        simp only [List.map_toArray, List.map_cons, List.map_nil, h0]
      · exact lb_tile (.tmp 3) bt px rfl hl X6.out (fun ρ wx hp => want_of 13 true 42 rfl rfl (hp.1 rfl)) fun ρ wx hx hp => ⟨hx 3 rfl, rfl⟩
      · exact lb_eqlT (.tmp 45) (.tmp 46) _ (turnT (flipT mx true false)) px true rfl (turn_len _) hl ((by rw [E1]; simp)) (fun ρ wx hp => want_of 13 true 42 rfl rfl (hp.2.2.1 rfl)) fun ρ wx hx hp => ⟨hp.1 rfl, hp.2.1 rfl, rfl⟩
      · exact lb_pick (.tmp 42) _ _ rfl true (fun _ _ _ => want_none rfl) fun ρ wx hc hp => ⟨hp.1 rfl, hp.2.1 rfl⟩
      · exact lb_move (.tmp 48) (.inr rfl) (fun _ _ _ => want_none rfl) fun ρ wx hc hx hp => hp.1 rfl
    intro vs wx hI hF
    obtain ⟨_, _, _, _, _, _, _, _, _, _, _, _, _, _, _, _, _, _, _, _, h20, _⟩ := hF
    replace h20 : vs 20 = .bool true := h20
    have HI : Hid (Below W6.heap.size W6 wx) := hI
    simp only [putAll, Act.put, List.setIfInBounds_toArray, List.set_cons_zero, List.set_cons_succ, h20]
    clear hI h20
    have B7 := Lib.hid (below_then B6.out HI.out)
    go_wp2_with fail
    go_ret
    exact ⟨rfl, B7.out⟩
set_option maxRecDepth 100000 in
set_option maxHeartbeats 8000000 in
theorem walk_FnFlipTile (TK : TilOk) (a0 : Option Addr) (len0 cap0 : Nat) (z0 : List Int) (w : World) (w0 : IsRow .u8 w a0 len0 cap0 z0) :
    Calls Try.prog 6 #[.slice a0 len0 cap0] w fun e w' => e = .returned (.bool true) ∧ Below w.heap.size w w' := by
  have H := Lib.hid w0
  have hl0 := isRow_len w0
  clear w0
  by_cases hs : len0 ≤ 1048576
  case neg =>
    have hs' : 1048576 < len0 := by omega
    go_enter Try.func6, Try.ntmps6
    go_wp2_with fail
    go_ret
    exact ⟨rfl, Below.refl _ _⟩
  go_enter Try.func6, Try.ntmps6
  go_wp2_with fail
  refine (draw_flip _ _ _ _ _ H.out).mono ?_; rintro e w1 ⟨px, a, d, hpx, rfl, b1⟩
  have hl := hpx.1
  have X1 : Hid (Box (w1.alloc (.cells (iv px).toArray 25)) w1.heap.size 25 (iv px)) := Box.new w1 _ _
  have B1 : Hid (Below w.heap.size w (w1.alloc (.cells (iv px).toArray 25))) := b1.alloc b1.size _
  clear b1
  go_upto_region 4 with (first | (refine st_alloc (by rfl) rfl ?_) | (refine st_store (by rfl) _ _ rfl _ rfl px rfl hl (iv z64) (Box.new _ _ _) (by simp [z64_len]) ?_))
  rw [World.setRow_alloc_new]
  generalize w1.alloc (.cells (iv px).toArray 25) = W1 at X1 B1 ⊢
  generalize w1.heap.size = bt at X1 ⊢
  obtain ⟨V, hV⟩ : ∃ V, tilB px = V := ⟨_, rfl⟩
  have HV := Lib.hid hV
  clear hV
  go_wp2_with (first | (refine st_load (by rfl) _ rfl _ rfl px hl X1.out ?_))
  refine (TK.flip px a d _ hl).mono ?_; rintro e w2 ⟨rfl, b2⟩
  have hq : (flipT px a d).length = 64 := flip_len px a d
  obtain ⟨qx, hqx⟩ : ∃ qx, flipT px a d = qx := ⟨_, rfl⟩
  rw [hqx] at hq ⊢
  have HQ := Lib.hid hqx
  clear hqx
  have X2 := Lib.hid ((X1.out.below b2).alloc (.cells (iv qx).toArray 25))
  have Y2 : Hid (Box (w2.alloc (.cells (iv qx).toArray 25)) w2.heap.size 25 (iv qx)) := Box.new w2 _ _
  have B2 := Lib.hid ((below_then B1.out b2).alloc (below_then B1.out b2).size (.cells (iv qx).toArray 25))
  clear b2 X1 B1
  go_upto_region 5 with (first | (refine st_alloc (by rfl) rfl ?_) | (refine st_store (by rfl) _ _ rfl _ rfl qx rfl hq (iv z64) (Box.new _ _ _) (by simp [z64_len]) ?_))
  rw [World.setRow_alloc_new]
  generalize w2.alloc (.cells (iv qx).toArray 25) = W2 at X2 Y2 B2 ⊢
  generalize w2.heap.size = bx at Y2 ⊢
  refine wp_region_typed (ClB W2) RlB (Ty [TV (tilV qx), TV (tilV px), TV (.bool a), TV (.bool d), TV (tilV qx), TV (.bool false)])
    (by kernel_rfl) (by kernel_rfl) (stab_ty _ ⟨stabB_k _, stabB_k _, stabB_k _, stabB_k _, stabB_k _, stabB_k _, trivial⟩) (Below.refl _ _).drew ?_ ?_
  · refine ⟨?_, ?_, ?_, ?_, ?_, ?_, trivial⟩
    · exact lb_tile (.tmp 6) bx qx rfl hq Y2.out (fun _ _ _ => want_none rfl) fun ρ wx hx hp => ⟨hx 6 rfl, rfl⟩
    · exact lb_tile (.tmp 3) bt px rfl hl X2.out (fun _ _ _ => want_none rfl) fun ρ wx hx hp => ⟨hx 3 rfl, rfl⟩
    · exact lb_move (.tmp 4) (.inl rfl) (fun _ _ _ => want_none rfl) fun ρ wx hc hx hp => hx 4 rfl
    · exact lb_move (.tmp 5) (.inl rfl) (fun _ _ _ => want_none rfl) fun ρ wx hc hx hp => hx 5 rfl
    · refine lb_known _ _ _ (tilV qx) (fun _ _ => by simp [go_sem]) rfl (fun _ _ _ => want_none rfl) #[tilV px, .bool a, .bool d] (fun w hb => HQ.out ▸ spec_flip px hl a d w) (fun ρ wx hc hx hp => ?_) (fun _ => rfl)
      have h0 : ρ (.tmp 21) = tilV px := hp.1 rfl
      have h1 : ρ (.tmp 22) = .bool a := hp.2.1 rfl
      have h2 : ρ (.tmp 23) = .bool d := hp.2.2.1 rfl
      simp only [List.map_toArray, List.map_cons, List.map_nil, h0, h1, h2]
    · exact lb_neqT (.tmp 20) (.tmp 24) _ qx qx false rfl hq hq ((by simp)) (fun _ _ _ => want_none rfl) fun ρ wx hx hp => ⟨hp.1 rfl, hp.2.1 rfl, rfl⟩
  intro vs wx hI hF
  obtain ⟨_, _, _, _, _, h5, _⟩ := hF
  replace h5 : vs 5 = .bool false := h5
  have HI : Hid (Below W2.heap.size W2 wx) := hI
  simp only [putAll, Act.put, List.setIfInBounds_toArray, List.set_cons_zero, List.set_cons_succ, h5]
  clear hI h5
  have X3 := Lib.hid (X2.out.below HI.out)
  have Y3 := Lib.hid (Y2.out.below HI.out)
  have B3 := Lib.hid (below_then B2.out HI.out)
  clear X2 Y2 B2 HI
  go_wp2_with (first | (refine st_load (by rfl) _ rfl _ rfl px hl X3.out ?_))
  refine (spec_tileValid px hl _).mono ?_; rintro e w4 ⟨rfl, b4⟩
  rw [HV.out]
  have X4 := Lib.hid (X3.out.below b4)
  have Y4 := Lib.hid (Y3.out.below b4)
  have B4 := Lib.hid (below_then B3.out b4)
  clear b4 X3 Y3 B3
  cases V
  · have HZ : Hid (qx = z64) := by rw [← HQ.out]; exact Lib.hid (if_neg (by rw [HV.out]; simp))
    go_wp2_with (first | (refine st_load (by rfl) _ rfl _ rfl qx hq Y4.out ?_) | (refine st_build (by rfl) rfl ?_) | (refine st_eql (by rfl) _ _ _ rfl _ _ rfl rfl hq z64_len true (by rw [HZ.out]; simp) ?_))
    refine (alive_any _).mono ?_; rintro e w' ⟨rfl, rfl⟩
    go_wp2_with fail
    go_ret
    exact ⟨rfl, B4.out⟩
  · have hv := HV.out
    have E1 : flipT qx a d = px := by rw [← HQ.out]; exact flip_two hl hv a d
    have E2 : flipT px true true = turnT (turnT px) := flip_turn hl hv
    have E3 : flipT px false false = px := flip_none hl hv
    go_upto_region 9 with (fail)
    refine wp_region_typed (ClB w4) RlB (Ty [TV (tilV qx), TV (.bool a), TV (.bool d), TV (tilV (flipT qx a d)), TV (tilV px), TV (.bool true), TV (.bool true), TV (tilV px), TV (tilV (flipT px true true)), TV (tilV px), TV (tilV (turnT px)), TV (tilV (turnT (turnT px))), TV (.bool true), TV (.bool true), TV (.bool true), TV (tilV px), TV (tilV (flipT px false false)), TV (tilV px), TV (.bool true), TV (.bool true), TV (.bool true)])
      (by kernel_rfl) (by kernel_rfl) (stab_ty _ ⟨stabB_k _, stabB_k _, stabB_k _, stabB_k _, stabB_k _, stabB_k _, stabB_k _, stabB_k _, stabB_k _, stabB_k _, stabB_k _, stabB_k _, stabB_k _, stabB_k _, stabB_k _, stabB_k _, stabB_k _, stabB_k _, stabB_k _, stabB_k _, stabB_k _, trivial⟩) (Below.refl _ _).drew ?_ ?_
    · refine ⟨?_, ?_, ?_, ?_, ?_, ?_, ?_, ?_, ?_, ?_, ?_, ?_, ?_, ?_, ?_, ?_, ?_, ?_, ?_, ?_, ?_, trivial⟩
      · exact lb_tile (.tmp 6) bx qx rfl hq Y4.out (fun _ _ _ => want_none rfl) fun ρ wx hx hp => ⟨hx 6 rfl, rfl⟩
      · exact lb_move (.tmp 4) (.inl rfl) (fun _ _ _ => want_none rfl) fun ρ wx hc hx hp => hx 4 rfl
      · exact lb_move (.tmp 5) (.inl rfl) (fun _ _ _ => want_none rfl) fun ρ wx hc hx hp => hx 5 rfl
      · refine lb_known _ _ _ (tilV (flipT qx a d)) (fun _ _ => by simp [go_sem]) rfl (fun _ _ _ => want_none rfl) #[tilV qx, .bool a, .bool d] (fun w hb => TK.flip qx a d w hq) (fun ρ wx hc hx hp => ?_) (fun _ => rfl)
        have h0 : ρ (.tmp 35) = tilV qx := hp.1 rfl
        have h1 : ρ (.tmp 36) = .bool a := hp.2.1 rfl
        have h2 : ρ (.tmp 37) = .bool d := hp.2.2.1 rfl
        simp only [List.map_toArray, List.map_cons, List.map_nil, h0, h1, h2]
      · exact lb_tile (.tmp 3) bt px rfl hl X4.out (fun _ _ _ => want_none rfl) fun ρ wx hx hp => ⟨hx 3 rfl, rfl⟩
      · exact lb_eqlT (.tmp 38) (.tmp 39) _ (flipT qx a d) px true rfl (flip_len _ _ _) hl ((by rw [E1]; simp)) (fun _ _ _ => want_none rfl) fun ρ wx hx hp => ⟨hp.1 rfl, hp.2.1 rfl, rfl⟩
      · exact lb_move (.tmp 40) (.inl rfl) (fun _ _ _ => want_none rfl) fun ρ wx hc hx hp => hp.1 rfl
      · exact lb_tile (.tmp 3) bt px rfl hl X4.out (fun ρ wx hp => want_of 6 true 41 rfl rfl (hp.1 rfl)) fun ρ wx hx hp => ⟨hx 3 rfl, rfl⟩
      · refine lb_known _ _ _ (tilV (flipT px true true)) (fun _ _ => by simp [go_sem]) rfl (fun ρ wx hp => want_of 6 true 41 rfl rfl (hp.2.1 rfl)) #[tilV px, .bool true, .bool true] (fun w hb => TK.flip px true true w hl) (fun ρ wx hc hx hp => ?_) (fun _ => rfl)
        have h0 : ρ (.tmp 42) = tilV px := hp.1 rfl
        have h1 : ρ (.const (.bool true)) = .bool true := hc _
        simp only [List.map_toArray, List.map_cons, List.map_nil, h0, h1]
      · exact lb_tile (.tmp 3) bt px rfl hl X4.out (fun ρ wx hp => want_of 6 true 41 rfl rfl (hp.1 rfl)) fun ρ wx hx hp => ⟨hx 3 rfl, rfl⟩
      · refine lb_known _ _ _ (tilV (turnT px)) (fun _ _ => by simp [go_sem]) rfl (fun ρ wx hp => want_of 6 true 41 rfl rfl (hp.2.2.1 rfl)) #[tilV px] (fun w hb => TK.turn px w hl) (fun ρ wx hc hx hp => ?_) (fun _ => rfl)
        have h0 : ρ (.tmp 44) = tilV px := hp.1 rfl
        simp only [List.map_toArray, List.map_cons, List.map_nil, h0]
      · refine lb_known _ _ _ (tilV (turnT (turnT px))) (fun _ _ => by simp [go_sem]) rfl (fun ρ wx hp => want_of 6 true 41 rfl rfl (hp.2.2.1 rfl)) #[tilV (turnT px)] (fun w hb => TK.turn (turnT px) w (turn_len _)) (fun ρ wx hc hx hp => ?_) (fun _ => rfl)
        have h0 : ρ (.tmp 45) = tilV (turnT px) := hp.1 rfl
        simp only [List.map_toArray, List.map_cons, List.map_nil, h0]
      · exact lb_eqlT (.tmp 43) (.tmp 46) _ (flipT px true true) (turnT (turnT px)) true rfl (flip_len _ _ _) (turn_len _) ((by rw [E2]; simp)) (fun ρ wx hp => want_of 6 true 41 rfl rfl (hp.2.2.1 rfl)) fun ρ wx hx hp => ⟨hp.1 rfl, hp.2.1 rfl, rfl⟩
      · exact lb_pick (.tmp 41) _ _ rfl true (fun _ _ _ => want_none rfl) fun ρ wx hc hp => ⟨hp.1 rfl, hp.2.1 rfl⟩
      · exact lb_move (.tmp 48) (.inl rfl) (fun _ _ _ => want_none rfl) fun ρ wx hc hx hp => hp.1 rfl
      · exact lb_tile (.tmp 3) bt px rfl hl X4.out (fun ρ wx hp => want_of 14 true 49 rfl rfl (hp.1 rfl)) fun ρ wx hx hp => ⟨hx 3 rfl, rfl⟩
      · refine lb_known _ _ _ (tilV (flipT px false false)) (fun _ _ => by simp [go_sem]) rfl (fun ρ wx hp => want_of 14 true 49 rfl rfl (hp.2.1 rfl)) #[tilV px, .bool false, .bool false] (fun w hb => TK.flip px false false w hl) (fun ρ wx hc hx hp => ?_) (fun _ => rfl)
        have h0 : ρ (.tmp 50) = tilV px := hp.1 rfl
        have h1 : ρ (.const (.bool false)) = .bool false := hc _
        simp only [List.map_toArray, List.map_cons, List.map_nil, h0, h1]
      · exact lb_tile (.tmp 3) bt px rfl hl X4.out (fun ρ wx hp => want_of 14 true 49 rfl rfl (hp.1 rfl)) fun ρ wx hx hp => ⟨hx 3 rfl, rfl⟩
      · exact lb_eqlT (.tmp 51) (.tmp 52) _ (flipT px false false) px true rfl (flip_len _ _ _) hl ((by rw [E3]; simp)) (fun ρ wx hp => want_of 14 true 49 rfl rfl (hp.2.2.1 rfl)) fun ρ wx hx hp => ⟨hp.1 rfl, hp.2.1 rfl, rfl⟩
      · exact lb_pick (.tmp 49) _ _ rfl true (fun _ _ _ => want_none rfl) fun ρ wx hc hp => ⟨hp.1 rfl, hp.2.1 rfl⟩
      · exact lb_move (.tmp 54) (.inr rfl) (fun _ _ _ => want_none rfl) fun ρ wx hc hx hp => hp.1 rfl
    intro vs wx hI hF
    obtain ⟨_, _, _, _, _, _, _, _, _, _, _, _, _, _, _, _, _, _, _, _, h20, _⟩ := hF
    replace h20 : vs 20 = .bool true := h20
    have HI : Hid (Below w4.heap.size w4 wx) := hI
    simp only [putAll, Act.put, List.setIfInBounds_toArray, List.set_cons_zero, List.set_cons_succ, h20]
    clear hI h20
    have B7 := Lib.hid (below_then B4.out HI.out)
    go_wp2_with fail
    go_ret
    exact ⟨rfl, B7.out⟩
end Go.Proofs.Ytihohmmfgamecaa
