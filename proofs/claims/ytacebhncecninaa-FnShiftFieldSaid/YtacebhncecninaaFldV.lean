/- The law of chapter 10 on shifts, walked. -/
import Derived.Test.YtacebhncecninaaFldP
namespace Go.Proofs.Ytacebhncecninaa
open Go.ChangeShapes Go.WideShapes Go.ChangeAt Go.RowKit
set_option linter.unusedVariables false

theorem half_b (d : Int) (h0 : -1000 ≤ d) (h1 : d ≤ 1000) : (0 ≤ d → 0 ≤ Int.tdiv d 2 ∧ Int.tdiv d 2 ≤ d) ∧ (d ≤ 0 → d ≤ Int.tdiv d 2 ∧ Int.tdiv d 2 ≤ 0) := by
  constructor
  · intro h
    rw [Int.tdiv_eq_ediv_of_nonneg h]; omega
  · intro h
    have e : Int.tdiv d 2 = -((-d) / 2) := by
      have := Int.neg_tdiv (a := -d) (b := 2)
      rw [Int.neg_neg, Int.tdiv_eq_ediv_of_nonneg (a := -d) (b := 2) (by omega)] at this
      exact this
    rw [e]; omega
theorem back_line {F : Fld} (h : fldB F = true) (y : Int) : lineT (shF F 0 0) y = lineT F y := by
  unfold lineT
  rw [h, fldB_sh h 0 0]
  by_cases hy : betB y 0 15 = true
  · rw [hy]
    simp only [Bool.and_self, if_true]
    unfold lineF
    congr 1
    funext x
    exact shF_back F x y
  · simp [hy]
theorem sh_len {F : Fld} {dx dy : Int} (h : ¬ (shT F dx dy).xs.length = 0) : fldB F = true ∧ betB dx (-255) 255 = true ∧ betB dy (-255) 255 = true := by
  unfold shT at h
  by_cases k : (fldB F && betB dx (-255) 255 && betB dy (-255) 255) = true
  · simpa [and_assoc] using k
  · rw [if_neg k] at h
    exact absurd rfl h
def TInts (xs : List Int) : Value → World → Prop := fun v w => ∃ A c fp, v = .slice A xs.length c ∧ Ints w A xs.length xs fp
theorem stabB_tints (xs : List Int) : Stab RlB (TInts xs) := fun _ _ _ (hR : Below _ _ _) ⟨A, c, fp, hv, hi⟩ => ⟨A, c, fp, hv, hi.below hR⟩
set_option maxRecDepth 100000 in
set_option maxHeartbeats 8000000 in
theorem walk_FnShiftField (a0 : Option Addr) (len0 cap0 : Nat) (z0 : List Int) (w : World) (w0 : IsRow .u8 w a0 len0 cap0 z0) :
    Calls Try.prog 4 #[.slice a0 len0 cap0] w fun e w' => e = .returned (.bool true) ∧ Below w.heap.size w w' := by
  have H := Lib.hid w0
  have hl := isRow_len w0
  clear w0
  by_cases hs : len0 ≤ 1048576
  · go_enter Try.func4, Try.ntmps4
    go_wp2_with fail
    refine (draw_shiftField _ _ _ _ _ H.out).mono ?_; rintro e w1 ⟨F, A, c, T, d, fa, ft, dx, dy, rfl, hdx, hdy, hx, ht, hxc, htd, hf, b1⟩
    obtain ⟨WX, hWX⟩ : ∃ WX, WX = w1.alloc (.cells #[.int .i64 F.w, .slice A F.xs.length c, .slice T F.nt d, .int .i64 F.sx, .int .i64 F.sy] 26) := ⟨_, rfl⟩
    have B1 : Hid (Below w.heap.size w WX) := by rw [hWX]; exact b1.alloc b1.size _
    have X1 : Hid (Box WX w1.heap.size 26 (fcs F.w A F.xs.length c T F.nt d F.sx F.sy)) := by rw [hWX]; exact Box.new w1 _ _
    have F1 : Hid (FHas WX A T F fa ft) := by rw [hWX]; exact hf.below (below1 _ _)
    have HS : Hid (FSmall F) := Lib.hid ⟨by omega, by omega⟩
    have hbt : w.heap.size ≤ w1.heap.size := b1.size
    clear b1 hf
    go_upto_region 4 with (fail)
    rw [← hWX]
    generalize w1.heap.size = bt at X1 hbt
    clear hWX
    go_wp2_with (first | (refine fs_load (by rfl) _ rfl bt rfl X1.out ?_))
    refine (im_shiftField F A c T d fa ft dx dy _ F1.out HS.out).mono ?_; rintro e w2 ⟨A2, c2, T2, d2, fa2, ft2, rfl, hc2, hd2, hf2, hn2, bl⟩
    obtain ⟨G, hG⟩ : ∃ G, shT F dx dy = G := ⟨_, rfl⟩
    have HG := Lib.hid hG
    have HSG : Hid (FSmall G) := Lib.hid (by have h1 := shT_le F dx dy; have h2 := HS.out; rw [hG] at h1; exact ⟨by have := h2.1; omega, by have := h2.2; omega⟩)
    have gl : G.xs.length ≤ 1000 := by have h1 := (shT_le F dx dy).1; rw [hG] at h1; omega
    rw [hG] at hf2 hc2 hd2 ⊢
    clear hG hc2 hd2 hn2
    have G2 : Hid (FHas w2 A2 T2 G fa2 ft2) := Lib.hid hf2
    clear hf2
    have X2 := Lib.hid (X1.out.below bl)
    have F2 := Lib.hid (F1.out.below bl)
    have B2 := Lib.hid (below_then B1.out bl)
    clear X1 F1 B1 bl
    obtain ⟨W3, hW3⟩ : ∃ W, W = w2.alloc (.cells #[.int .i64 G.w, .slice A2 G.xs.length c2, .slice T2 G.nt d2, .int .i64 G.sx, .int .i64 G.sy] 26) := ⟨_, rfl⟩
    obtain ⟨b6, hb6⟩ : ∃ b, b = w2.heap.size := ⟨_, rfl⟩
    have bl : Below w2.heap.size w2 W3 := by rw [hW3]; exact below1 _ _
    have Y3 : Hid (Box W3 b6 26 (fcs G.w A2 G.xs.length c2 T2 G.nt d2 G.sx G.sy)) := by rw [hW3, hb6]; exact Box.new w2 _ _
    have X3 := Lib.hid (X2.out.below bl)
    have F3 := Lib.hid (F2.out.below bl)
    have G3 := Lib.hid (G2.out.below bl)
    have B3 := Lib.hid (below_then B2.out bl)
    clear X2 F2 G2 B2 bl
    go_upto_region 5 with (fail)
    rw [← hW3, ← hb6]
    clear hW3 hb6
    refine wp_region_typed (ClB W3) RlB (Ty [TV (fv G A2 c2 T2 d2), TV (fv F A c T d), TV (.int .i64 dx), TV (.int .i64 dy), TFld W3.heap.size G, TV (.bool true), TV (.bool false)])
      (by kernel_rfl) (by kernel_rfl) (stab_ty _ ⟨stabB_k _, stabB_k _, stabB_k _, stabB_k _, stabB_fld _ _, stabB_k _, stabB_k _, trivial⟩) (Below.refl _ _).drew ?_ ?_
    · refine ⟨?_, ?_, ?_, ?_, ?_, ?_, ?_, trivial⟩
      · exact lb_fld (.tmp 6) b6 rfl Y3.out (fun _ _ _ => want_none rfl) fun ρ wx hx hp => ⟨hx 6 rfl, rfl⟩
      · exact lb_fld (.tmp 3) bt rfl X3.out (fun _ _ _ => want_none rfl) fun ρ wx hx hp => ⟨hx 3 rfl, rfl⟩
      · exact lb_move (.tmp 4) (.inl rfl) (fun _ _ _ => want_none rfl) fun ρ wx hc hx hp => hx 4 rfl
      · exact lb_move (.tmp 5) (.inl rfl) (fun _ _ _ => want_none rfl) fun ρ wx hc hx hp => hx 5 rfl
      · refine lb_call _ _ _ (fun _ _ => by simp [go_sem]) rfl (fun _ _ _ => want_none rfl) fun ρ wx hb hc hp => ?_
        have h0 : ρ (.tmp 24) = fv F A c T d := hp.1 rfl
        have h1 : ρ (.tmp 25) = .int .i64 dx := hp.2.1 rfl
        have h2 : ρ (.tmp 26) = .int .i64 dy := hp.2.2.1 rfl
        refine ⟨#[fv F A c T d, .int .i64 dx, .int .i64 dy], by simp only [List.map_toArray, List.map_cons, List.map_nil, h0, h1, h2], (spec_shiftField F A c T d fa ft dx dy wx (F3.out.below hb) HS.out).mono ?_⟩
        intro e w' hn
        rw [HG.out] at hn
        obtain ⟨v, rfl⟩ := hn.parts
        have hq := fnew_fld hn hb.size
        exact ⟨v, rfl, hq.1, hq.2⟩
      · refine lb_call _ _ _ (fun _ _ => by simp [go_sem]) rfl (fun _ _ _ => want_none rfl) fun ρ wx hb hc hp => ?_
        have h0 : ρ (.tmp 23) = fv G A2 c2 T2 d2 := hp.1 rfl
        obtain ⟨A5, c5, T5, d5, f5, g5, h1, _, _, hf5, _⟩ : TFld W3.heap.size G (ρ (.tmp 27)) wx := hp.2.1 rfl
        refine ⟨#[fv G A2 c2 T2 d2, fv G A5 c5 T5 d5], by simp only [List.map_toArray, List.map_cons, List.map_nil, h0, h1], (same_fld G A2 A5 c2 c5 T2 T5 d2 d5 fa2 ft2 f5 g5 wx (G3.out.below hb) hf5 HSG.out).mono ?_⟩
        rintro e w' ⟨rfl, b⟩
        exact ⟨_, rfl, b, rfl⟩
      · exact lb_unot (.tmp 28) _ true rfl (fun _ _ _ => want_none rfl) fun ρ wx hp => ⟨hp.1 rfl, rfl⟩
    intro vs w4 hI hF
    obtain ⟨_, _, _, _, _, _, h6, _⟩ := hF
    replace h6 : vs 6 = .bool false := h6
    have bl : Below W3.heap.size W3 w4 := hI
    simp only [putAll, Act.put, List.setIfInBounds_toArray, List.set_cons_zero, List.set_cons_succ, h6]
    clear hI h6
    have X4 := Lib.hid (X3.out.below bl)
    have F4 := Lib.hid (F3.out.below bl)
    have G4 := Lib.hid (G3.out.below bl)
    have Y4 := Lib.hid (Y3.out.below bl)
    have B4 := Lib.hid (below_then B3.out bl)
    clear X3 F3 G3 Y3 B3 bl
    have c1 : w4.cell? ⟨b6, 1, none⟩ = some (.slice A2 G.xs.length c2) := Y4.out.cell 1
    by_cases n0 : G.xs.length = 0
    · have n0' : (G.xs.length : Int) = 0 := by omega
      go_wp2_with fail
      refine (alive_any _).mono ?_; rintro e w' ⟨rfl, rfl⟩
      go_wp2_with fail
      go_ret
      exact ⟨rfl, B4.out⟩
    · have n0' : ¬ (G.xs.length : Int) = 0 := by omega
      obtain ⟨hv, hvx, hvy⟩ := sh_len (by rw [HG.out]; exact n0)
      have HGS : Hid (G = shF F dx dy) := Lib.hid (by rw [← HG.out, shT_yes hv hvx hvy])
      have HGV : Hid (fldB G = true) := Lib.hid (by rw [HGS.out]; exact fldB_sh hv dx dy)
      have HV := Lib.hid hv
      have bx := betB_iff.1 hvx
      have by_ := betB_iff.1 hvy
      have HBK : Hid (shT G (-dx) (-dy) = shF F 0 0) := Lib.hid (by
        rw [shT_yes HGV.out (betB_iff.2 (by omega)) (betB_iff.2 (by omega)), HGS.out, shF_shF, Int.add_right_neg, Int.add_right_neg])
      obtain ⟨qx, hqx⟩ : ∃ q, Int.tdiv dx 2 = q := ⟨_, rfl⟩
      obtain ⟨qy, hqy⟩ : ∃ q, Int.tdiv dy 2 = q := ⟨_, rfl⟩
      have bqx := half_b dx (by omega) (by omega)
      have bqy := half_b dy (by omega) (by omega)
      rw [hqx] at bqx
      rw [hqy] at bqy
      have qb : (-255 ≤ qx ∧ qx ≤ 255) ∧ (-255 ≤ dx - qx ∧ dx - qx ≤ 255) ∧ (-255 ≤ qy ∧ qy ≤ 255) ∧ (-255 ≤ dy - qy ∧ dy - qy ≤ 255) := by
        have i1 : 0 ≤ dx ∨ dx ≤ 0 := by omega
        have i2 : 0 ≤ dy ∨ dy ≤ 0 := by omega
        have j1 : (0 ≤ dx ∧ 0 ≤ qx ∧ qx ≤ dx) ∨ (dx ≤ 0 ∧ dx ≤ qx ∧ qx ≤ 0) := i1.imp (fun h => ⟨h, bqx.1 h⟩) fun h => ⟨h, bqx.2 h⟩
        have j2 : (0 ≤ dy ∧ 0 ≤ qy ∧ qy ≤ dy) ∨ (dy ≤ 0 ∧ dy ≤ qy ∧ qy ≤ 0) := i2.imp (fun h => ⟨h, bqy.1 h⟩) fun h => ⟨h, bqy.2 h⟩
        omega
      obtain ⟨⟨q1, q2⟩, ⟨q3, q4⟩, ⟨q5, q6⟩, q7, q8⟩ := qb
      have H1 : Hid (shT F qx qy = shF F qx qy) := Lib.hid (shT_yes hv (betB_iff.2 ⟨q1, q2⟩) (betB_iff.2 ⟨q5, q6⟩))
      have H2 : Hid (shT (shF F qx qy) (dx - qx) (dy - qy) = G) := Lib.hid (by
        rw [shT_yes (fldB_sh hv _ _) (betB_iff.2 ⟨q3, q4⟩) (betB_iff.2 ⟨q7, q8⟩), shF_shF, HGS.out, show qx + (dx - qx) = dx by omega, show qy + (dy - qy) = dy by omega])
      have HL : Hid (∀ y, lineT (shF F 0 0) y = lineT F y) := Lib.hid fun y => back_line hv y
      have HSB : Hid (FSmall (shF F 0 0)) := HS
      have HSH : Hid (FSmall (shF F qx qy)) := HS
      obtain ⟨Bk, hBk⟩ : ∃ X, shF F 0 0 = X := ⟨_, rfl⟩
      obtain ⟨Hf, hHf⟩ : ∃ X, shF F qx qy = X := ⟨_, rfl⟩
      rw [hBk] at HBK HL HSB
      rw [hHf] at H1 H2 HSH
      clear hBk hHf hv hvx hvy bqx bqy HGS
      have bd1 := hdx.1
      go_upto_region 9 with (fail)
      clear c1
      go_wp2_with (first | (refine fs_load (by rfl) _ rfl b6 rfl Y4.out ?_) | (refine fs_load (by rfl) _ rfl bt rfl X4.out ?_))
      refine (im_shiftField G A2 c2 T2 d2 fa2 ft2 (-dx) (-dy) _ G4.out HSG.out).mono ?_; rintro e w5 ⟨A7, c7, T7, d7, fa7, ft7, rfl, hc7, hd7, hf7, hn7, bl⟩
      rw [HBK.out] at hf7 ⊢
      clear hc7 hd7 hn7
      have K5 : Hid (FHas w5 A7 T7 Bk fa7 ft7) := Lib.hid hf7
      clear hf7
      have X5 := Lib.hid (X4.out.below bl)
      have F5 := Lib.hid (F4.out.below bl)
      have G5 := Lib.hid (G4.out.below bl)
      have Y5 := Lib.hid (Y4.out.below bl)
      have B5 := Lib.hid (below_then B4.out bl)
      clear X4 F4 G4 Y4 B4 bl
      obtain ⟨W6, hW6⟩ : ∃ W, W = w5.alloc (.cells #[.int .i64 Bk.w, .slice A7 Bk.xs.length c7, .slice T7 Bk.nt d7, .int .i64 Bk.sx, .int .i64 Bk.sy] 26) := ⟨_, rfl⟩
      obtain ⟨b7, hb7⟩ : ∃ b, b = w5.heap.size := ⟨_, rfl⟩
      have bl : Below w5.heap.size w5 W6 := by rw [hW6]; exact below1 _ _
      have Z6 : Hid (Box W6 b7 26 (fcs Bk.w A7 Bk.xs.length c7 T7 Bk.nt d7 Bk.sx Bk.sy)) := by rw [hW6, hb7]; exact Box.new w5 _ _
      have X6 := Lib.hid (X5.out.below bl)
      have F6 := Lib.hid (F5.out.below bl)
      have G6 := Lib.hid (G5.out.below bl)
      have Y6 := Lib.hid (Y5.out.below bl)
      have K6 := Lib.hid (K5.out.below bl)
      have B6 := Lib.hid (below_then B5.out bl)
      clear X5 F5 G5 Y5 K5 B5 bl
      go_upto_region 10 with (fail)
      rw [← hW6, ← hb7]
      clear hW6 hb7
      have v1 : IntKind.i64.wrap qx = qx := by rw [IntKind.wrap_i64]; omega
      have v2 : IntKind.i64.wrap qy = qy := by rw [IntKind.wrap_i64]; omega
      go_wp2_with (first | (refine fs_load (by rfl) _ rfl bt rfl X6.out ?_))
      refine (im_shiftField F A c T d fa ft qx qy _ F6.out HS.out).mono ?_; rintro e w7 ⟨Ah, ch, Th, dh, fah, fth, rfl, hch, hdh, hfh, hnh, bl⟩
      rw [H1.out] at hfh ⊢
      clear hch hdh hnh
      have P7 : Hid (FHas w7 Ah Th Hf fah fth) := Lib.hid hfh
      clear hfh
      have X7 := Lib.hid (X6.out.below bl)
      have F7 := Lib.hid (F6.out.below bl)
      have G7 := Lib.hid (G6.out.below bl)
      have Y7 := Lib.hid (Y6.out.below bl)
      have K7 := Lib.hid (K6.out.below bl)
      have Z7 := Lib.hid (Z6.out.below bl)
      have B7 := Lib.hid (below_then B6.out bl)
      clear X6 F6 G6 Y6 K6 Z6 B6 bl
      go_wp2_with fail
      refine (im_shiftField Hf Ah ch Th dh fah fth (dx - qx) (dy - qy) _ P7.out HSH.out).mono ?_; rintro e w8 ⟨A8, c8, T8, d8, fa8, ft8, rfl, hc8, hd8, hf8, hn8, bl⟩
      rw [H2.out] at hf8 ⊢
      clear hc8 hd8 hn8 P7
      have M8 : Hid (FHas w8 A8 T8 G fa8 ft8) := Lib.hid hf8
      clear hf8
      have X8 := Lib.hid (X7.out.below bl)
      have F8 := Lib.hid (F7.out.below bl)
      have G8 := Lib.hid (G7.out.below bl)
      have Y8 := Lib.hid (Y7.out.below bl)
      have K8 := Lib.hid (K7.out.below bl)
      have Z8 := Lib.hid (Z7.out.below bl)
      have B8 := Lib.hid (below_then B7.out bl)
      clear X7 F7 G7 Y7 K7 Z7 B7 bl
      obtain ⟨W9, hW9⟩ : ∃ W, W = w8.alloc (.cells #[.int .i64 G.w, .slice A8 G.xs.length c8, .slice T8 G.nt d8, .int .i64 G.sx, .int .i64 G.sy] 26) := ⟨_, rfl⟩
      obtain ⟨b8, hb8⟩ : ∃ b, b = w8.heap.size := ⟨_, rfl⟩
      have bl : Below w8.heap.size w8 W9 := by rw [hW9]; exact below1 _ _
      have U9 : Hid (Box W9 b8 26 (fcs G.w A8 G.xs.length c8 T8 G.nt d8 G.sx G.sy)) := by rw [hW9, hb8]; exact Box.new w8 _ _
      have X9 := Lib.hid (X8.out.below bl)
      have F9 := Lib.hid (F8.out.below bl)
      have G9 := Lib.hid (G8.out.below bl)
      have Y9 := Lib.hid (Y8.out.below bl)
      have K9 := Lib.hid (K8.out.below bl)
      have Z9 := Lib.hid (Z8.out.below bl)
      have M9 := Lib.hid (M8.out.below bl)
      have B9 := Lib.hid (below_then B8.out bl)
      clear X8 F8 G8 Y8 K8 Z8 M8 B8 bl
      go_upto_region 11 with (fail)
      rw [← hW9, ← hb8]
      clear hW9 hb8
      clear v1 v2 hqx hqy
      go_wp2_with fail
      go_loopw [9] (fun i wr => ∃ k : Nat, k ≤ 20 ∧ k % 5 = 0 ∧ i = .int .i64 k ∧ Below W9.heap.size W9 wr) (fun i _ => 20 - (intOf i).toNat)
      case atStart => exact ⟨0, by omega, rfl, rfl, Below.refl _ _⟩
      case round =>
        obtain ⟨k, hk, hk5, rfl, hbr⟩ := hrel
        have BR := Lib.hid hbr
        clear hbr
        by_cases hlt : k < 16
        · have hlt' : (k : Int) < 16 := by omega
          have XR := Lib.hid (X9.out.below BR.out)
          have ZR := Lib.hid (Z9.out.below BR.out)
          go_wp2_with fail
          refine wp_region_typed (ClB wr) RlB (Ty [TV (fv Bk A7 c7 T7 d7), TV (.int .i64 k), TInts (lineT F k), TV (fv F A c T d), TV (.int .i64 k), TInts (lineT F k), TV (.bool true), TV (.bool false)])
            (by kernel_rfl) (by kernel_rfl) (stab_ty _ ⟨stabB_k _, stabB_k _, stabB_tints _, stabB_k _, stabB_k _, stabB_tints _, stabB_k _, stabB_k _, trivial⟩) (Below.refl _ _).drew ?_ ?_
          · refine ⟨?_, ?_, ?_, ?_, ?_, ?_, ?_, ?_, trivial⟩
            · exact lb_fld (.tmp 7) b7 rfl ZR.out (fun _ _ _ => want_none rfl) fun ρ wx hx hp => ⟨hx 7 rfl, rfl⟩
            · exact lb_move (.tmp 9) (.inl rfl) (fun _ _ _ => want_none rfl) fun ρ wx hc hx hp => hx 9 rfl
            · refine lb_call _ _ _ (fun _ _ => by simp [go_sem]) rfl (fun _ _ _ => want_none rfl) fun ρ wx hb hc hp => ?_
              have h0 : ρ (.tmp 60) = fv Bk A7 c7 T7 d7 := hp.1 rfl
              have h1 : ρ (.tmp 61) = .int .i64 k := hp.2.1 rfl
              refine ⟨#[fv Bk A7 c7 T7 d7, .int .i64 k], by simp only [List.map_toArray, List.map_cons, List.map_nil, h0, h1], (im_fieldLine Bk A7 c7 T7 d7 fa7 ft7 k wx (K9.out.below (below_then BR.out hb)) HSB.out).mono ?_⟩
              rintro e w' ⟨Ax, cx, fx, rfl, _, hix, _, b⟩
              rw [HL.out] at hix ⊢
              exact ⟨_, rfl, b, Ax, cx, fx, rfl, hix⟩
            · exact lb_fld (.tmp 3) bt rfl XR.out (fun _ _ _ => want_none rfl) fun ρ wx hx hp => ⟨hx 3 rfl, rfl⟩
            · exact lb_move (.tmp 9) (.inl rfl) (fun _ _ _ => want_none rfl) fun ρ wx hc hx hp => hx 9 rfl
            · refine lb_call _ _ _ (fun _ _ => by simp [go_sem]) rfl (fun _ _ _ => want_none rfl) fun ρ wx hb hc hp => ?_
              have h0 : ρ (.tmp 63) = fv F A c T d := hp.1 rfl
              have h1 : ρ (.tmp 64) = .int .i64 k := hp.2.1 rfl
              refine ⟨#[fv F A c T d, .int .i64 k], by simp only [List.map_toArray, List.map_cons, List.map_nil, h0, h1], (im_fieldLine F A c T d fa ft k wx (F9.out.below (below_then BR.out hb)) HS.out).mono ?_⟩
              rintro e w' ⟨Ax, cx, fx, rfl, _, hix, _, b⟩
              exact ⟨_, rfl, b, Ax, cx, fx, rfl, hix⟩
            · refine lb_call _ _ _ (fun _ _ => by simp [go_sem]) rfl (fun _ _ _ => want_none rfl) fun ρ wx hb hc hp => ?_
              obtain ⟨Ax, cx, fx, h0, hix⟩ : TInts (lineT F k) (ρ (.tmp 62)) wx := hp.1 rfl
              obtain ⟨Ay, cy, fy, h1, hiy⟩ : TInts (lineT F k) (ρ (.tmp 65)) wx := hp.2.1 rfl
              refine ⟨#[.slice Ax (lineT F k).length cx, .slice Ay (lineT F k).length cy], by simp only [List.map_toArray, List.map_cons, List.map_nil, h0, h1], (same_ints Ax Ay _ cx cy (lineT F k) fx fy wx hix hiy (by have := lineT_le F k; omega)).mono ?_⟩
              rintro e w' ⟨rfl, q, hq⟩
              exact ⟨_, rfl, by rw [hq]; exact below_drewN (Below.refl _ _) _, rfl⟩
            · exact lb_unot (.tmp 66) _ true rfl (fun _ _ _ => want_none rfl) fun ρ wx hp => ⟨hp.1 rfl, rfl⟩
          intro vs wx hI hF
          obtain ⟨_, _, _, _, _, _, _, h7, _⟩ := hF
          replace h7 : vs 7 = .bool false := h7
          have BX : Hid (Below W9.heap.size W9 wx) := Lib.hid (below_then BR.out hI)
          simp only [putAll, Act.put, List.setIfInBounds_toArray, List.set_cons_zero, List.set_cons_succ, h7]
          clear hI h7 XR ZR BR
          go_wp2_with fail
          go_roundw
          case rel => exact ⟨k + 5, by omega, by omega, by go_num, BX.out⟩
          case measure => simp [intOf]; omega
        · have hge : ¬ (k : Int) < 16 := by omega
          have bl := BR.out
          have BZ := Lib.hid (below_then B9.out bl)
          have GZ := Lib.hid (G9.out.below bl)
          have MZ := Lib.hid (M9.out.below bl)
          have YZ := Lib.hid (Y9.out.below bl)
          have UZ := Lib.hid (U9.out.below bl)
          clear bl BR
          go_wp2_with (first | (refine fs_load (by rfl) _ rfl b6 rfl YZ.out ?_))
          refine (im_fieldValid G A2 c2 T2 d2 fa2 ft2 _ GZ.out HSG.out).mono ?_; rintro e w10 ⟨rfl, bl⟩
          rw [HGV.out]
          have BQ := Lib.hid (below_then BZ.out bl)
          have GQ := Lib.hid (GZ.out.below bl)
          have MQ := Lib.hid (MZ.out.below bl)
          have YQ := Lib.hid (YZ.out.below bl)
          have UQ := Lib.hid (UZ.out.below bl)
          clear bl BZ GZ MZ YZ UZ
          have y0 : w10.cell? ⟨b6, 0, none⟩ = some (.int .i64 G.w) := YQ.out.cell 0
          have y1 : w10.cell? ⟨b6, 1, none⟩ = some (.slice A2 G.xs.length c2) := YQ.out.cell 1
          have y2 : w10.cell? ⟨b6, 2, none⟩ = some (.slice T2 G.nt d2) := YQ.out.cell 2
          have y3 : w10.cell? ⟨b6, 3, none⟩ = some (.int .i64 G.sx) := YQ.out.cell 3
          have y4 : w10.cell? ⟨b6, 4, none⟩ = some (.int .i64 G.sy) := YQ.out.cell 4
          have u0 : w10.cell? ⟨b8, 0, none⟩ = some (.int .i64 G.w) := UQ.out.cell 0
          have u1 : w10.cell? ⟨b8, 1, none⟩ = some (.slice A8 G.xs.length c8) := UQ.out.cell 1
          have u2 : w10.cell? ⟨b8, 2, none⟩ = some (.slice T8 G.nt d8) := UQ.out.cell 2
          have u3 : w10.cell? ⟨b8, 3, none⟩ = some (.int .i64 G.sx) := UQ.out.cell 3
          have u4 : w10.cell? ⟨b8, 4, none⟩ = some (.int .i64 G.sy) := UQ.out.cell 4
          go_wp2_with fail
          refine (same_fld G A8 A2 c8 c2 T8 T2 d8 d2 fa8 ft8 fa2 ft2 _ MQ.out GQ.out HSG.out).mono ?_; rintro e w11 ⟨rfl, bl⟩
          have BF := Lib.hid (below_then BQ.out bl)
          clear bl y0 y1 y2 y3 y4 u0 u1 u2 u3 u4
          go_wp2_with fail
          go_ret
          exact ⟨rfl, BF.out⟩
  · have hs' : 1048576 < len0 := by omega
    go_enter Try.func4, Try.ntmps4
    go_wp2_with fail
    go_ret
    exact ⟨rfl, Below.refl _ _⟩
end Go.Proofs.Ytacebhncecninaa
