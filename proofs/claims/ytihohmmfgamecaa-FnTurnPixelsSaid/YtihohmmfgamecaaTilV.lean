/- The law of chapter 8 on used values, walked. -/
import Derived.Test.YtihohmmfgamecaaTilO
import Derived.Test.YtihohmmfgamecaaTypedT
import Derived.Test.YtihohmmfgamecaaLater
import Derived.Deep.DeepCutAuto
namespace Go.Proofs.Ytihohmmfgamecaa
open Go.ChangeShapes Go.WideShapes Go.ChangeAt Go.RowKit
set_option linter.unusedVariables false

theorem flat_mk (x : Int) : mkT id (fun _ => x) 64 = flatT x := mkT_ext (mkT_len _ _ _) (flat_len x) fun i hi => by rw [mkT_at id (fun i h => h) _ i hi, flat_get x i hi]
set_option maxRecDepth 100000 in
set_option maxHeartbeats 8000000 in
theorem walk_FnUsedValues (TK : TilOk) (a0 : Option Addr) (len0 cap0 : Nat) (z0 : List Int) (w : World) (w0 : IsRow .u8 w a0 len0 cap0 z0) :
    Calls Try.prog 8 #[.slice a0 len0 cap0] w fun e w' => e = .returned (.bool true) ∧ Below w.heap.size w w' := by
  have H := Lib.hid w0
  have hl0 := isRow_len w0
  clear w0
  by_cases hs : len0 ≤ 1048576
  case neg =>
    have hs' : 1048576 < len0 := by omega
    go_enter Try.func8, Try.ntmps8
    go_wp2_with fail
    go_ret
    exact ⟨rfl, Below.refl _ _⟩
  go_enter Try.func8, Try.ntmps8
  go_wp2_with fail
  refine (draw_used _ _ _ _ _ H.out).mono ?_; rintro e w1 ⟨px, hpx, rfl, b1⟩
  have hl := hpx.1
  have X1 : Hid (Box (w1.alloc (.cells (iv px).toArray 25)) w1.heap.size 25 (iv px)) := Box.new w1 _ _
  have B1 : Hid (Below w.heap.size w (w1.alloc (.cells (iv px).toArray 25))) := b1.alloc b1.size _
  have HB1 := Lib.hid b1.size
  clear b1
  go_upto_region 4 with (first | (refine st_alloc (by rfl) rfl ?_) | (refine st_store (by rfl) _ _ rfl _ rfl px rfl hl (iv z64) (Box.new _ _ _) (by simp [z64_len]) ?_))
  rw [World.setRow_alloc_new]
  generalize w1.alloc (.cells (iv px).toArray 25) = W1 at X1 B1 ⊢
  have HBT : Hid (w.heap.size ≤ w1.heap.size) := HB1.out
  generalize w1.heap.size = bt at X1 HBT ⊢
  obtain ⟨V, hV⟩ : ∃ V, tilB px = V := ⟨_, rfl⟩
  have HV := Lib.hid hV
  clear hV
  obtain ⟨m, hm⟩ : ∃ m, usedT px = m := ⟨_, rfl⟩
  have HM := Lib.hid hm
  clear hm
  go_wp2_with (first | (refine st_load (by rfl) _ rfl _ rfl px hl X1.out ?_))
  refine (TK.used px _ hl).mono ?_; rintro e w2 ⟨rfl, b2⟩
  rw [HM.out]
  have X2 := Lib.hid (X1.out.below b2)
  have B2 := Lib.hid (below_then B1.out b2)
  clear b2 X1 B1
  go_wp2_with (first | (refine st_load (by rfl) _ rfl _ rfl px hl X2.out ?_))
  refine (spec_used px hl _).mono ?_; rintro e w3 ⟨rfl, b3⟩
  rw [HM.out]
  have X3 := Lib.hid (X2.out.below b3)
  have B3 := Lib.hid (below_then B2.out b3)
  clear b3 X2 B2
  go_wp2_with (first | (refine st_load (by rfl) _ rfl _ rfl px hl X3.out ?_))
  refine (spec_tileValid px hl _).mono ?_; rintro e w4 ⟨rfl, b4⟩
  rw [HV.out]
  have X4 := Lib.hid (X3.out.below b4)
  have B4 := Lib.hid (below_then B3.out b4)
  clear b4 X3 B3
  cases V
  · obtain rfl : m = 0 := by rw [← HM.out]; exact if_neg (by rw [HV.out]; simp)
    go_wp2_with fail
    refine (alive_any _).mono ?_; rintro e w' ⟨rfl, rfl⟩
    go_wp2_with fail
    go_ret
    exact ⟨rfl, B4.out⟩
  · have hv := HV.out
    obtain ⟨m0, m1⟩ : 1 ≤ m ∧ m ≤ 15 := by
      have h := used_bd hl hv
      rw [← HM.out, show usedT px = (usedU px 64 : Int) from if_pos hv]
      omega
    have HH : Hid (∀ k, k < 64 → m / 2 ^ (px.getD k 0).toNat % 2 = 1) := fun k hk => by
      have h := used_has hl hv k hk
      rw [← HM.out, show usedT px = (usedU px 64 : Int) from if_pos hv]
      exact_mod_cast h
    obtain ⟨x, hx⟩ : ∃ x, px.getD 0 0 = x := ⟨_, rfl⟩
    obtain ⟨x0, x1⟩ := til_px hl hv 0 (by omega)
    rw [hx] at x0 x1
    have HX := Lib.hid hx
    clear hx
    have HVV := Lib.hid hv
    clear hv
    go_upto_region 10 with (first | (refine st_alloc (by rfl) rfl ?_) | (refine st_build (by rfl) rfl ?_) | (refine st_store (by rfl) _ _ rfl _ rfl z64 rfl z64_len (iv z64) (Box.new _ _ _) (by simp [z64_len]) ?_))
    have X5 := Lib.hid (X4.out.alloc (.cells (iv z64).toArray 25))
    have Y5 : Hid (Box (w4.alloc (.cells (iv z64).toArray 25)) w4.heap.size 25 (iv (mkT id (fun _ => x) 0))) := by rw [mkT_zero]; exact Box.new w4 _ _
    have B5 := Lib.hid (B4.out.alloc B4.out.size (.cells (iv z64).toArray 25))
    have zt : bt < w4.heap.size := X4.out.lt
    have zw : w.heap.size ≤ w4.heap.size := B4.out.size
    rw [World.setRow_alloc_new]
    generalize w4.alloc (.cells (iv z64).toArray 25) = w5 at X5 Y5 B5 ⊢
    generalize w4.heap.size = bf at Y5 zt zw ⊢
    have HZT : Hid (bt ≠ bf ∧ w.heap.size ≤ bf) := ⟨by omega, zw⟩
    clear X4 B4 zt zw
    go_wp2_with fail
    go_loopw [2, 6] (fun u i wr => ∃ k : Nat, k ≤ 64 ∧ u = .bool false ∧ i = .int .i64 k ∧ Box wr bt 25 (iv px) ∧ Box wr bf 25 (iv (mkT id (fun _ => x) k)) ∧ Below w.heap.size w wr) (fun _ i _ => 64 - (intOf i).toNat)
    case atStart => exact ⟨0, by omega, rfl, rfl, X5.out, Y5.out, B5.out⟩
    case round =>
      obtain ⟨k, hk, rfl, rfl, hx, hy, hb⟩ := hrel
      have XR := Lib.hid hx
      have YR := Lib.hid hy
      have BR := Lib.hid hb
      clear hx hy hb X5 Y5 B5
      by_cases h64 : k < 64
      · have i64' : (k : Int) < 64 := by omega
        have k0 : 0 ≤ (k : Int) := by omega
        have c0 := til_cell XR.out 0 (by omega)
        rw [HX.out] at c0
        have y0 := til_cell YR.out k (by rw [mkT_len]; exact h64)
        rw [mkT_get _ _ _ _ h64, id, if_neg (by omega)] at y0
        have g0 := YR.out.frozen k
        go_upto_region 14 with (fail)
        have X6 := Lib.hid (XR.out.far (b' := bf) (i := k) HZT.out.1 (.int .i64 x))
        have Y6 : Hid (Box (wr.setCell ⟨bf, k, none⟩ (.int .i64 x)) bf 25 (iv (mkT id (fun _ => x) (k + 1)))) := by rw [← mkT_set id (fun _ => x) k k h64 (fun i _ => Iff.rfl), ← iv_put]; exact YR.out.set k _
        have B6 : Hid (Below w.heap.size w (wr.setCell ⟨bf, k, none⟩ (.int .i64 x))) := BR.out.setCell (show w.heap.size ≤ bf from HZT.out.2) _
        generalize wr.setCell ⟨bf, k, none⟩ (.int .i64 x) = w6 at X6 Y6 B6 ⊢
        clear c0 y0 g0 XR YR BR
        have hbit := HH.out k h64
        obtain ⟨y, hy⟩ : ∃ y, px.getD k 0 = y := ⟨_, rfl⟩
        obtain ⟨y0, y1⟩ := til_px hl HVV.out k h64
        have c0 := til_cell X6.out k (by omega)
        rw [hy] at hbit y0 y1 c0
        clear hy
        have hy4 : y = 0 ∨ y = 1 ∨ y = 2 ∨ y = 3 := by omega
        rcases hy4 with rfl | rfl | rfl | rfl
        all_goals
          simp at hbit
          go_wp2_with fail
          go_roundw
          case rel => exact ⟨k + 1, by omega, rfl, by go_num, X6.out, Y6.out, B6.out⟩
          case measure => simp [intOf]; omega
      · obtain rfl : k = 64 := by omega
        have hl2 : (flatT x).length = 64 := flat_len x
        have YF : Hid (Box wr bf 25 (iv (flatT x))) := by rw [← flat_mk x]; exact YR.out
        have E1 := used_flat x x0 x1
        have c0 := til_cell XR.out 0 (by omega)
        rw [HX.out] at c0
        go_upto_region 16 with (fail)
        clear YR
        have hx4 : x = 0 ∨ x = 1 ∨ x = 2 ∨ x = 3 := by omega
        clear HX
        rcases hx4 with rfl | rfl | rfl | rfl
        · have E1 : usedT (flatT 0) = 1 := by simpa using E1
          have tw : IntKind.i64.wrap 1 = 1 := by decide
          refine wp_region_typed (ClB wr) RlB (Ty [TV (.int .i64 m), TV (.bool true), TV (.bool true), TV (.int .i64 m), TV (.bool true), TV (.bool true), TV (.bool true), TV (tilV (flatT 0)), TV (.int .i64 (usedT (flatT 0))), TV (.pointer (some ⟨bt, 0, none⟩)), TV (.pointer (some ⟨bt, 0, none⟩)), TV (.int .i64 0), TV (.int .i64 1), TV (.bool true), TV (.bool true), TV (.bool true)])
            (by kernel_rfl) (by kernel_rfl) (stab_ty _ ⟨stabB_k _, stabB_k _, stabB_k _, stabB_k _, stabB_k _, stabB_k _, stabB_k _, stabB_k _, stabB_k _, stabB_k _, stabB_k _, stabB_k _, stabB_k _, stabB_k _, stabB_k _, stabB_k _, trivial⟩) (Below.refl _ _).drew ?_ ?_
          · refine ⟨?_, ?_, ?_, ?_, ?_, ?_, ?_, ?_, ?_, ?_, ?_, ?_, ?_, ?_, ?_, ?_, trivial⟩
            · exact lb_move (.tmp 4) (.inl rfl) (fun _ _ _ => want_none rfl) fun ρ wx hc hx hp => hx 4 rfl
            · refine lb_val (.bool true) (fun _ _ _ => want_none rfl) fun ρ wx hb hc hx hp => ⟨?_, rfl⟩
              have h0 : ρ (.tmp 45) = .int .i64 m := hp.1 rfl
              have h1 : ρ (.const (.int .i64 1)) = .int .i64 1 := hc _
              unfold execOp
              simp only [h0, h1]
              clear h0 h1 hx hc hp hb c0
              go_simp
            · exact lb_move (.tmp 46) (.inl rfl) (fun _ _ _ => want_none rfl) fun ρ wx hc hx hp => hp.1 rfl
            · exact lb_move (.tmp 4) (.inl rfl) (fun ρ wx hp => want_of 2 true 47 rfl rfl (hp.1 rfl)) fun ρ wx hc hx hp => hx 4 rfl
            · refine lb_val (.bool true) (fun ρ wx hp => want_of 2 true 47 rfl rfl (hp.2.1 rfl)) fun ρ wx hb hc hx hp => ⟨?_, rfl⟩
              have h0 : ρ (.tmp 48) = .int .i64 m := hp.1 rfl
              have h1 : ρ (.const (.int .i64 15)) = .int .i64 15 := hc _
              unfold execOp
              simp only [h0, h1]
              clear h0 h1 hx hc hp hb c0
              go_simp
            · exact lb_pick (.tmp 47) _ _ rfl true (fun _ _ _ => want_none rfl) fun ρ wx hc hp => ⟨hp.1 rfl, hp.2.1 rfl⟩
            · exact lb_move (.tmp 50) (.inl rfl) (fun _ _ _ => want_none rfl) fun ρ wx hc hx hp => hp.1 rfl
            · exact lb_tile (.tmp 5) bf (flatT 0) rfl hl2 YF.out (fun ρ wx hp => want_of 6 true 51 rfl rfl (hp.1 rfl)) fun ρ wx hx hp => ⟨hx 5 rfl, rfl⟩
            · refine lb_known _ _ _ (.int .i64 (usedT (flatT 0))) (fun _ _ => by simp [go_sem]) rfl (fun ρ wx hp => want_of 6 true 51 rfl rfl (hp.2.1 rfl)) #[tilV (flatT 0)] (fun w hb => TK.used (flatT 0) w hl2) (fun ρ wx hc hx hp => ?_) (fun _ => rfl)
              have h0 : ρ (.tmp 52) = tilV (flatT 0) := hp.1 rfl
              simp only [List.map_toArray, List.map_cons, List.map_nil, h0]
            · refine lb_val (.pointer (some ⟨bt, 0, none⟩)) (fun ρ wx hp => want_of 6 true 51 rfl rfl (hp.1 rfl)) fun ρ wx hb hc hx hp => ⟨?_, rfl⟩
              have h0 : ρ (.tmp 3) = .pointer (some ⟨bt, 0, none⟩) := hx 3 rfl
              unfold execOp
              simp only [h0]
              clear h0 hx hc hp hb c0
              go_simp
            · refine lb_val (.pointer (some ⟨bt, 0, none⟩)) (fun ρ wx hp => want_of 6 true 51 rfl rfl (hp.2.1 rfl)) fun ρ wx hb hc hx hp => ⟨?_, rfl⟩
              have h0 : ρ (.tmp 54) = .pointer (some ⟨bt, 0, none⟩) := hp.1 rfl
              have h1 : ρ (.const (.int .i64 0)) = .int .i64 0 := hc _
              unfold execOp
              simp only [h0, h1]
              clear h0 h1 hx hc hp hb c0
              go_simp
            · refine lb_val (.int .i64 0) (fun ρ wx hp => want_of 6 true 51 rfl rfl (hp.2.1 rfl)) fun ρ wx hb hc hx hp => ⟨?_, rfl⟩
              have h0 : ρ (.tmp 55) = .pointer (some ⟨bt, 0, none⟩) := hp.1 rfl
              have ck := (hb.cell (World.block_lt_of_cell? _ _ c0)).trans c0
              unfold execOp
              simp only [h0]
              clear h0 hx hc hp hb c0
              go_simp
            · refine lb_val (.int .i64 1) (fun ρ wx hp => want_of 6 true 51 rfl rfl (hp.2.1 rfl)) fun ρ wx hb hc hx hp => ⟨?_, rfl⟩
              have h0 : ρ (.const (.int .i64 1)) = .int .i64 1 := hc _
              have h1 : ρ (.tmp 56) = .int .i64 0 := hp.1 rfl
              unfold execOp
              simp only [h0, h1]
              clear h0 h1 hx hc hp hb c0
              go_simp
            · exact lb_eqlI (.tmp 53) (.tmp 57) _ (usedT (flatT 0)) 1 true rfl (by rw [E1]; simp) (fun ρ wx hp => want_of 6 true 51 rfl rfl (hp.2.2.1 rfl)) fun ρ wx hc hx hp => ⟨hp.1 rfl, hp.2.1 rfl, rfl⟩
            · exact lb_pick (.tmp 51) _ _ rfl true (fun _ _ _ => want_none rfl) fun ρ wx hc hp => ⟨hp.1 rfl, hp.2.1 rfl⟩
            · exact lb_move (.tmp 59) (.inr rfl) (fun _ _ _ => want_none rfl) fun ρ wx hc hx hp => hp.1 rfl
          intro vs wx hI hF
          obtain ⟨_, _, _, _, _, _, _, _, _, _, _, _, _, _, _, h15, _⟩ := hF
          replace h15 : vs 15 = .bool true := h15
          have HI : Hid (Below wr.heap.size wr wx) := hI
          simp only [putAll, Act.put, List.setIfInBounds_toArray, List.set_cons_zero, List.set_cons_succ, h15]
          clear hI h15
          have B7 := Lib.hid (below_then BR.out HI.out)
          go_wp2_with fail
          go_ret
          exact ⟨rfl, B7.out⟩
        · have E1 : usedT (flatT 1) = 2 := by simpa using E1
          have tw : IntKind.i64.wrap 2 = 2 := by decide
          refine wp_region_typed (ClB wr) RlB (Ty [TV (.int .i64 m), TV (.bool true), TV (.bool true), TV (.int .i64 m), TV (.bool true), TV (.bool true), TV (.bool true), TV (tilV (flatT 1)), TV (.int .i64 (usedT (flatT 1))), TV (.pointer (some ⟨bt, 0, none⟩)), TV (.pointer (some ⟨bt, 0, none⟩)), TV (.int .i64 1), TV (.int .i64 2), TV (.bool true), TV (.bool true), TV (.bool true)])
            (by kernel_rfl) (by kernel_rfl) (stab_ty _ ⟨stabB_k _, stabB_k _, stabB_k _, stabB_k _, stabB_k _, stabB_k _, stabB_k _, stabB_k _, stabB_k _, stabB_k _, stabB_k _, stabB_k _, stabB_k _, stabB_k _, stabB_k _, stabB_k _, trivial⟩) (Below.refl _ _).drew ?_ ?_
          · refine ⟨?_, ?_, ?_, ?_, ?_, ?_, ?_, ?_, ?_, ?_, ?_, ?_, ?_, ?_, ?_, ?_, trivial⟩
            · exact lb_move (.tmp 4) (.inl rfl) (fun _ _ _ => want_none rfl) fun ρ wx hc hx hp => hx 4 rfl
            · refine lb_val (.bool true) (fun _ _ _ => want_none rfl) fun ρ wx hb hc hx hp => ⟨?_, rfl⟩
              have h0 : ρ (.tmp 45) = .int .i64 m := hp.1 rfl
              have h1 : ρ (.const (.int .i64 1)) = .int .i64 1 := hc _
              unfold execOp
              simp only [h0, h1]
              clear h0 h1 hx hc hp hb c0
              go_simp
            · exact lb_move (.tmp 46) (.inl rfl) (fun _ _ _ => want_none rfl) fun ρ wx hc hx hp => hp.1 rfl
            · exact lb_move (.tmp 4) (.inl rfl) (fun ρ wx hp => want_of 2 true 47 rfl rfl (hp.1 rfl)) fun ρ wx hc hx hp => hx 4 rfl
            · refine lb_val (.bool true) (fun ρ wx hp => want_of 2 true 47 rfl rfl (hp.2.1 rfl)) fun ρ wx hb hc hx hp => ⟨?_, rfl⟩
              have h0 : ρ (.tmp 48) = .int .i64 m := hp.1 rfl
              have h1 : ρ (.const (.int .i64 15)) = .int .i64 15 := hc _
              unfold execOp
              simp only [h0, h1]
              clear h0 h1 hx hc hp hb c0
              go_simp
            · exact lb_pick (.tmp 47) _ _ rfl true (fun _ _ _ => want_none rfl) fun ρ wx hc hp => ⟨hp.1 rfl, hp.2.1 rfl⟩
            · exact lb_move (.tmp 50) (.inl rfl) (fun _ _ _ => want_none rfl) fun ρ wx hc hx hp => hp.1 rfl
            · exact lb_tile (.tmp 5) bf (flatT 1) rfl hl2 YF.out (fun ρ wx hp => want_of 6 true 51 rfl rfl (hp.1 rfl)) fun ρ wx hx hp => ⟨hx 5 rfl, rfl⟩
            · refine lb_known _ _ _ (.int .i64 (usedT (flatT 1))) (fun _ _ => by simp [go_sem]) rfl (fun ρ wx hp => want_of 6 true 51 rfl rfl (hp.2.1 rfl)) #[tilV (flatT 1)] (fun w hb => TK.used (flatT 1) w hl2) (fun ρ wx hc hx hp => ?_) (fun _ => rfl)
              have h0 : ρ (.tmp 52) = tilV (flatT 1) := hp.1 rfl
              simp only [List.map_toArray, List.map_cons, List.map_nil, h0]
            · refine lb_val (.pointer (some ⟨bt, 0, none⟩)) (fun ρ wx hp => want_of 6 true 51 rfl rfl (hp.1 rfl)) fun ρ wx hb hc hx hp => ⟨?_, rfl⟩
              have h0 : ρ (.tmp 3) = .pointer (some ⟨bt, 0, none⟩) := hx 3 rfl
              unfold execOp
              simp only [h0]
              clear h0 hx hc hp hb c0
              go_simp
            · refine lb_val (.pointer (some ⟨bt, 0, none⟩)) (fun ρ wx hp => want_of 6 true 51 rfl rfl (hp.2.1 rfl)) fun ρ wx hb hc hx hp => ⟨?_, rfl⟩
              have h0 : ρ (.tmp 54) = .pointer (some ⟨bt, 0, none⟩) := hp.1 rfl
              have h1 : ρ (.const (.int .i64 0)) = .int .i64 0 := hc _
              unfold execOp
              simp only [h0, h1]
              clear h0 h1 hx hc hp hb c0
              go_simp
            · refine lb_val (.int .i64 1) (fun ρ wx hp => want_of 6 true 51 rfl rfl (hp.2.1 rfl)) fun ρ wx hb hc hx hp => ⟨?_, rfl⟩
              have h0 : ρ (.tmp 55) = .pointer (some ⟨bt, 0, none⟩) := hp.1 rfl
              have ck := (hb.cell (World.block_lt_of_cell? _ _ c0)).trans c0
              unfold execOp
              simp only [h0]
              clear h0 hx hc hp hb c0
              go_simp
            · refine lb_val (.int .i64 2) (fun ρ wx hp => want_of 6 true 51 rfl rfl (hp.2.1 rfl)) fun ρ wx hb hc hx hp => ⟨?_, rfl⟩
              have h0 : ρ (.const (.int .i64 1)) = .int .i64 1 := hc _
              have h1 : ρ (.tmp 56) = .int .i64 1 := hp.1 rfl
              unfold execOp
              simp only [h0, h1]
              clear h0 h1 hx hc hp hb c0
              go_simp
            · exact lb_eqlI (.tmp 53) (.tmp 57) _ (usedT (flatT 1)) 2 true rfl (by rw [E1]; simp) (fun ρ wx hp => want_of 6 true 51 rfl rfl (hp.2.2.1 rfl)) fun ρ wx hc hx hp => ⟨hp.1 rfl, hp.2.1 rfl, rfl⟩
            · exact lb_pick (.tmp 51) _ _ rfl true (fun _ _ _ => want_none rfl) fun ρ wx hc hp => ⟨hp.1 rfl, hp.2.1 rfl⟩
            · exact lb_move (.tmp 59) (.inr rfl) (fun _ _ _ => want_none rfl) fun ρ wx hc hx hp => hp.1 rfl
          intro vs wx hI hF
          obtain ⟨_, _, _, _, _, _, _, _, _, _, _, _, _, _, _, h15, _⟩ := hF
          replace h15 : vs 15 = .bool true := h15
          have HI : Hid (Below wr.heap.size wr wx) := hI
          simp only [putAll, Act.put, List.setIfInBounds_toArray, List.set_cons_zero, List.set_cons_succ, h15]
          clear hI h15
          have B7 := Lib.hid (below_then BR.out HI.out)
          go_wp2_with fail
          go_ret
          exact ⟨rfl, B7.out⟩
        · have E1 : usedT (flatT 2) = 4 := by simpa using E1
          have tw : IntKind.i64.wrap 4 = 4 := by decide
          refine wp_region_typed (ClB wr) RlB (Ty [TV (.int .i64 m), TV (.bool true), TV (.bool true), TV (.int .i64 m), TV (.bool true), TV (.bool true), TV (.bool true), TV (tilV (flatT 2)), TV (.int .i64 (usedT (flatT 2))), TV (.pointer (some ⟨bt, 0, none⟩)), TV (.pointer (some ⟨bt, 0, none⟩)), TV (.int .i64 2), TV (.int .i64 4), TV (.bool true), TV (.bool true), TV (.bool true)])
            (by kernel_rfl) (by kernel_rfl) (stab_ty _ ⟨stabB_k _, stabB_k _, stabB_k _, stabB_k _, stabB_k _, stabB_k _, stabB_k _, stabB_k _, stabB_k _, stabB_k _, stabB_k _, stabB_k _, stabB_k _, stabB_k _, stabB_k _, stabB_k _, trivial⟩) (Below.refl _ _).drew ?_ ?_
          · refine ⟨?_, ?_, ?_, ?_, ?_, ?_, ?_, ?_, ?_, ?_, ?_, ?_, ?_, ?_, ?_, ?_, trivial⟩
            · exact lb_move (.tmp 4) (.inl rfl) (fun _ _ _ => want_none rfl) fun ρ wx hc hx hp => hx 4 rfl
            · refine lb_val (.bool true) (fun _ _ _ => want_none rfl) fun ρ wx hb hc hx hp => ⟨?_, rfl⟩
              have h0 : ρ (.tmp 45) = .int .i64 m := hp.1 rfl
              have h1 : ρ (.const (.int .i64 1)) = .int .i64 1 := hc _
              unfold execOp
              simp only [h0, h1]
              clear h0 h1 hx hc hp hb c0
              go_simp
            · exact lb_move (.tmp 46) (.inl rfl) (fun _ _ _ => want_none rfl) fun ρ wx hc hx hp => hp.1 rfl
            · exact lb_move (.tmp 4) (.inl rfl) (fun ρ wx hp => want_of 2 true 47 rfl rfl (hp.1 rfl)) fun ρ wx hc hx hp => hx 4 rfl
            · refine lb_val (.bool true) (fun ρ wx hp => want_of 2 true 47 rfl rfl (hp.2.1 rfl)) fun ρ wx hb hc hx hp => ⟨?_, rfl⟩
              have h0 : ρ (.tmp 48) = .int .i64 m := hp.1 rfl
              have h1 : ρ (.const (.int .i64 15)) = .int .i64 15 := hc _
              unfold execOp
              simp only [h0, h1]
              clear h0 h1 hx hc hp hb c0
              go_simp
            · exact lb_pick (.tmp 47) _ _ rfl true (fun _ _ _ => want_none rfl) fun ρ wx hc hp => ⟨hp.1 rfl, hp.2.1 rfl⟩
            · exact lb_move (.tmp 50) (.inl rfl) (fun _ _ _ => want_none rfl) fun ρ wx hc hx hp => hp.1 rfl
            · exact lb_tile (.tmp 5) bf (flatT 2) rfl hl2 YF.out (fun ρ wx hp => want_of 6 true 51 rfl rfl (hp.1 rfl)) fun ρ wx hx hp => ⟨hx 5 rfl, rfl⟩
            · refine lb_known _ _ _ (.int .i64 (usedT (flatT 2))) (fun _ _ => by simp [go_sem]) rfl (fun ρ wx hp => want_of 6 true 51 rfl rfl (hp.2.1 rfl)) #[tilV (flatT 2)] (fun w hb => TK.used (flatT 2) w hl2) (fun ρ wx hc hx hp => ?_) (fun _ => rfl)
              have h0 : ρ (.tmp 52) = tilV (flatT 2) := hp.1 rfl
              simp only [List.map_toArray, List.map_cons, List.map_nil, h0]
            · refine lb_val (.pointer (some ⟨bt, 0, none⟩)) (fun ρ wx hp => want_of 6 true 51 rfl rfl (hp.1 rfl)) fun ρ wx hb hc hx hp => ⟨?_, rfl⟩
              have h0 : ρ (.tmp 3) = .pointer (some ⟨bt, 0, none⟩) := hx 3 rfl
              unfold execOp
              simp only [h0]
              clear h0 hx hc hp hb c0
              go_simp
            · refine lb_val (.pointer (some ⟨bt, 0, none⟩)) (fun ρ wx hp => want_of 6 true 51 rfl rfl (hp.2.1 rfl)) fun ρ wx hb hc hx hp => ⟨?_, rfl⟩
              have h0 : ρ (.tmp 54) = .pointer (some ⟨bt, 0, none⟩) := hp.1 rfl
              have h1 : ρ (.const (.int .i64 0)) = .int .i64 0 := hc _
              unfold execOp
              simp only [h0, h1]
              clear h0 h1 hx hc hp hb c0
              go_simp
            · refine lb_val (.int .i64 2) (fun ρ wx hp => want_of 6 true 51 rfl rfl (hp.2.1 rfl)) fun ρ wx hb hc hx hp => ⟨?_, rfl⟩
              have h0 : ρ (.tmp 55) = .pointer (some ⟨bt, 0, none⟩) := hp.1 rfl
              have ck := (hb.cell (World.block_lt_of_cell? _ _ c0)).trans c0
              unfold execOp
              simp only [h0]
              clear h0 hx hc hp hb c0
              go_simp
            · refine lb_val (.int .i64 4) (fun ρ wx hp => want_of 6 true 51 rfl rfl (hp.2.1 rfl)) fun ρ wx hb hc hx hp => ⟨?_, rfl⟩
              have h0 : ρ (.const (.int .i64 1)) = .int .i64 1 := hc _
              have h1 : ρ (.tmp 56) = .int .i64 2 := hp.1 rfl
              unfold execOp
              simp only [h0, h1]
              clear h0 h1 hx hc hp hb c0
              go_simp
            · exact lb_eqlI (.tmp 53) (.tmp 57) _ (usedT (flatT 2)) 4 true rfl (by rw [E1]; simp) (fun ρ wx hp => want_of 6 true 51 rfl rfl (hp.2.2.1 rfl)) fun ρ wx hc hx hp => ⟨hp.1 rfl, hp.2.1 rfl, rfl⟩
            · exact lb_pick (.tmp 51) _ _ rfl true (fun _ _ _ => want_none rfl) fun ρ wx hc hp => ⟨hp.1 rfl, hp.2.1 rfl⟩
            · exact lb_move (.tmp 59) (.inr rfl) (fun _ _ _ => want_none rfl) fun ρ wx hc hx hp => hp.1 rfl
          intro vs wx hI hF
          obtain ⟨_, _, _, _, _, _, _, _, _, _, _, _, _, _, _, h15, _⟩ := hF
          replace h15 : vs 15 = .bool true := h15
          have HI : Hid (Below wr.heap.size wr wx) := hI
          simp only [putAll, Act.put, List.setIfInBounds_toArray, List.set_cons_zero, List.set_cons_succ, h15]
          clear hI h15
          have B7 := Lib.hid (below_then BR.out HI.out)
          go_wp2_with fail
          go_ret
          exact ⟨rfl, B7.out⟩
        · have E1 : usedT (flatT 3) = 8 := by simpa using E1
          have tw : IntKind.i64.wrap 8 = 8 := by decide
          refine wp_region_typed (ClB wr) RlB (Ty [TV (.int .i64 m), TV (.bool true), TV (.bool true), TV (.int .i64 m), TV (.bool true), TV (.bool true), TV (.bool true), TV (tilV (flatT 3)), TV (.int .i64 (usedT (flatT 3))), TV (.pointer (some ⟨bt, 0, none⟩)), TV (.pointer (some ⟨bt, 0, none⟩)), TV (.int .i64 3), TV (.int .i64 8), TV (.bool true), TV (.bool true), TV (.bool true)])
            (by kernel_rfl) (by kernel_rfl) (stab_ty _ ⟨stabB_k _, stabB_k _, stabB_k _, stabB_k _, stabB_k _, stabB_k _, stabB_k _, stabB_k _, stabB_k _, stabB_k _, stabB_k _, stabB_k _, stabB_k _, stabB_k _, stabB_k _, stabB_k _, trivial⟩) (Below.refl _ _).drew ?_ ?_
          · refine ⟨?_, ?_, ?_, ?_, ?_, ?_, ?_, ?_, ?_, ?_, ?_, ?_, ?_, ?_, ?_, ?_, trivial⟩
            · exact lb_move (.tmp 4) (.inl rfl) (fun _ _ _ => want_none rfl) fun ρ wx hc hx hp => hx 4 rfl
            · refine lb_val (.bool true) (fun _ _ _ => want_none rfl) fun ρ wx hb hc hx hp => ⟨?_, rfl⟩
              have h0 : ρ (.tmp 45) = .int .i64 m := hp.1 rfl
              have h1 : ρ (.const (.int .i64 1)) = .int .i64 1 := hc _
              unfold execOp
              simp only [h0, h1]
              clear h0 h1 hx hc hp hb c0
              go_simp
            · exact lb_move (.tmp 46) (.inl rfl) (fun _ _ _ => want_none rfl) fun ρ wx hc hx hp => hp.1 rfl
            · exact lb_move (.tmp 4) (.inl rfl) (fun ρ wx hp => want_of 2 true 47 rfl rfl (hp.1 rfl)) fun ρ wx hc hx hp => hx 4 rfl
            · refine lb_val (.bool true) (fun ρ wx hp => want_of 2 true 47 rfl rfl (hp.2.1 rfl)) fun ρ wx hb hc hx hp => ⟨?_, rfl⟩
              have h0 : ρ (.tmp 48) = .int .i64 m := hp.1 rfl
              have h1 : ρ (.const (.int .i64 15)) = .int .i64 15 := hc _
              unfold execOp
              simp only [h0, h1]
              clear h0 h1 hx hc hp hb c0
              go_simp
            · exact lb_pick (.tmp 47) _ _ rfl true (fun _ _ _ => want_none rfl) fun ρ wx hc hp => ⟨hp.1 rfl, hp.2.1 rfl⟩
            · exact lb_move (.tmp 50) (.inl rfl) (fun _ _ _ => want_none rfl) fun ρ wx hc hx hp => hp.1 rfl
            · exact lb_tile (.tmp 5) bf (flatT 3) rfl hl2 YF.out (fun ρ wx hp => want_of 6 true 51 rfl rfl (hp.1 rfl)) fun ρ wx hx hp => ⟨hx 5 rfl, rfl⟩
            · refine lb_known _ _ _ (.int .i64 (usedT (flatT 3))) (fun _ _ => by simp [go_sem]) rfl (fun ρ wx hp => want_of 6 true 51 rfl rfl (hp.2.1 rfl)) #[tilV (flatT 3)] (fun w hb => TK.used (flatT 3) w hl2) (fun ρ wx hc hx hp => ?_) (fun _ => rfl)
              have h0 : ρ (.tmp 52) = tilV (flatT 3) := hp.1 rfl
              simp only [List.map_toArray, List.map_cons, List.map_nil, h0]
            · refine lb_val (.pointer (some ⟨bt, 0, none⟩)) (fun ρ wx hp => want_of 6 true 51 rfl rfl (hp.1 rfl)) fun ρ wx hb hc hx hp => ⟨?_, rfl⟩
              have h0 : ρ (.tmp 3) = .pointer (some ⟨bt, 0, none⟩) := hx 3 rfl
              unfold execOp
              simp only [h0]
              clear h0 hx hc hp hb c0
              go_simp
            · refine lb_val (.pointer (some ⟨bt, 0, none⟩)) (fun ρ wx hp => want_of 6 true 51 rfl rfl (hp.2.1 rfl)) fun ρ wx hb hc hx hp => ⟨?_, rfl⟩
              have h0 : ρ (.tmp 54) = .pointer (some ⟨bt, 0, none⟩) := hp.1 rfl
              have h1 : ρ (.const (.int .i64 0)) = .int .i64 0 := hc _
              unfold execOp
              simp only [h0, h1]
              clear h0 h1 hx hc hp hb c0
              go_simp
            · refine lb_val (.int .i64 3) (fun ρ wx hp => want_of 6 true 51 rfl rfl (hp.2.1 rfl)) fun ρ wx hb hc hx hp => ⟨?_, rfl⟩
              have h0 : ρ (.tmp 55) = .pointer (some ⟨bt, 0, none⟩) := hp.1 rfl
              have ck := (hb.cell (World.block_lt_of_cell? _ _ c0)).trans c0
              unfold execOp
              simp only [h0]
              clear h0 hx hc hp hb c0
              go_simp
            · refine lb_val (.int .i64 8) (fun ρ wx hp => want_of 6 true 51 rfl rfl (hp.2.1 rfl)) fun ρ wx hb hc hx hp => ⟨?_, rfl⟩
              have h0 : ρ (.const (.int .i64 1)) = .int .i64 1 := hc _
              have h1 : ρ (.tmp 56) = .int .i64 3 := hp.1 rfl
              unfold execOp
              simp only [h0, h1]
              clear h0 h1 hx hc hp hb c0
              go_simp
            · exact lb_eqlI (.tmp 53) (.tmp 57) _ (usedT (flatT 3)) 8 true rfl (by rw [E1]; simp) (fun ρ wx hp => want_of 6 true 51 rfl rfl (hp.2.2.1 rfl)) fun ρ wx hc hx hp => ⟨hp.1 rfl, hp.2.1 rfl, rfl⟩
            · exact lb_pick (.tmp 51) _ _ rfl true (fun _ _ _ => want_none rfl) fun ρ wx hc hp => ⟨hp.1 rfl, hp.2.1 rfl⟩
            · exact lb_move (.tmp 59) (.inr rfl) (fun _ _ _ => want_none rfl) fun ρ wx hc hx hp => hp.1 rfl
          intro vs wx hI hF
          obtain ⟨_, _, _, _, _, _, _, _, _, _, _, _, _, _, _, h15, _⟩ := hF
          replace h15 : vs 15 = .bool true := h15
          have HI : Hid (Below wr.heap.size wr wx) := hI
          simp only [putAll, Act.put, List.setIfInBounds_toArray, List.set_cons_zero, List.set_cons_succ, h15]
          clear hI h15
          have B7 := Lib.hid (below_then BR.out HI.out)
          go_wp2_with fail
          go_ret
          exact ⟨rfl, B7.out⟩
end Go.Proofs.Ytihohmmfgamecaa
