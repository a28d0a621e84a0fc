/- The laws of chapter 10 on lines and pixels, walked. -/
import Derived.Test.YtlppmcflgbeolaaFldU
import Derived.Test.YtlppmcflgbeolaaFldX
import Derived.Test.YtlppmcflgbeolaaOctet
import Derived.Deep.DeepCutAuto
namespace Go.Proofs.Ytlppmcflgbeolaa
open Go.ChangeShapes Go.WideShapes Go.ChangeAt Go.RowKit
set_option linter.unusedVariables false

theorem FHas.cell {w : World} {A T : Option Addr} {F : Fld} {fa ft : List Nat} (h : FHas w A T F fa ft) {b : Nat} (hb : ∀ z ∈ fa ++ ft, z < b) (i : Nat) (v : Value) : FHas (w.setCell ⟨b, i, none⟩ v) A T F fa ft := by
  have o : Only [b] w (w.setCell ⟨b, i, none⟩ v) := (Only.refl _ _).setCell (.inl (by simp)) _
  have s : Same (fa ++ ft) w (w.setCell ⟨b, i, none⟩ v) := .of_only o fun x hx hs => by
    have := hb x hx
    simp at hs; omega
  exact ⟨h.1.keep (s.sub fun x hx => List.mem_append_left _ hx), h.2.keep (s.sub fun x hx => List.mem_append_right _ hx)⟩
theorem fhas_lt {w : World} {A T : Option Addr} {F : Fld} {fa ft : List Nat} (h : FHas w A T F fa ft) : ∀ z ∈ fa ++ ft, z < w.heap.size := fun z hz => by
  rcases List.mem_append.1 hz with hz | hz
  · exact h.1.lt z hz
  · exact h.2.lt z hz
/-- The same background, shifted otherwise. -/
abbrev Fld.to (F : Fld) (sx sy : Int) : Fld := ⟨F.w, F.xs, F.nt, F.zs, sx, sy⟩
theorem to_ok {F : Fld} (h : FOk F) {sx sy : Int} (h1 : 0 ≤ sx ∧ sx ≤ 255) (h2 : 0 ≤ sy ∧ sy ≤ 255) : FOk (F.to sx sy) := ⟨h.w1, h.w8, h.rem, h.r1, h.r8, h.n1, h.n16, h1.1, h1.2, h2.1, h2.2, h.px, h.known⟩
theorem pix_wide {F : Fld} (x y : Int) : pixF (F.to (F.sx + 8 * F.w) F.sy) x y = pixF F x y := by
  have h1 : atX (F.to (F.sx + 8 * F.w) F.sy) x = atX F x := by
    simp only [atX]
    rw [← Int.add_assoc, Int.add_emod_right]
  have h2 : atY (F.to (F.sx + 8 * F.w) F.sy) y = atY F y := by simp only [atY, Fld.rw_]
  unfold pixF tileN partN cellN
  rw [h1, h2]
theorem pix_one {F : Fld} (x y : Int) : pixF (F.to (F.sx + 1) F.sy) (x - 1) y = pixF F x y := by
  have h1 : atX (F.to (F.sx + 1) F.sy) (x - 1) = atX F x := by
    simp only [atX]
    rw [show x - 1 + (F.sx + 1) = x + F.sx by omega]
  have h2 : atY (F.to (F.sx + 1) F.sy) y = atY F y := by simp only [atY, Fld.rw_]
  unfold pixF tileN partN cellN
  rw [h1, h2]
set_option maxRecDepth 100000 in
set_option maxHeartbeats 8000000 in
theorem walk_FnFieldLine (a0 : Option Addr) (len0 cap0 : Nat) (z0 : List Int) (w : World) (w0 : IsRow .u8 w a0 len0 cap0 z0) :
    Calls Try.prog 5 #[.slice a0 len0 cap0] w fun e w' => e = .returned (.bool true) ∧ Below w.heap.size w w' := by
  have H := Lib.hid w0
  have hl := isRow_len w0
  clear w0
  by_cases hs : len0 ≤ 1048576
  · go_enter Try.func5, Try.ntmps5
    go_wp2_with fail
    refine (draw_fieldLine _ _ _ _ _ H.out).mono ?_; rintro e w1 ⟨F, A, c, T, d, fa, ft, y, rfl, hy, hx, ht, hxc, htd, hf, b1⟩
    obtain ⟨WX, hWX⟩ : ∃ WX, WX = w1.alloc (.cells #[.int .i64 F.w, .slice A F.xs.length c, .slice T F.nt d, .int .i64 F.sx, .int .i64 F.sy] 26) := ⟨_, rfl⟩
    have B1 : Hid (Below w.heap.size w WX) := by rw [hWX]; exact b1.alloc b1.size _
    have X1 : Hid (Box WX w1.heap.size 26 (fcs F.w A F.xs.length c T F.nt d F.sx F.sy)) := by rw [hWX]; exact Box.new w1 _ _
    have F1 : Hid (FHas WX A T F fa ft) := by rw [hWX]; exact hf.below (below1 _ _)
    have HS : Hid (FSmall F) := Lib.hid ⟨by omega, by omega⟩
    have hbt : w.heap.size ≤ w1.heap.size := b1.size
    clear b1 hf
    go_upto_region 4 with (fail)
    rw [← hWX]
    generalize w1.heap.size = bt at X1 hbt
    clear hWX
    go_wp2_with (first | (refine fs_load (by rfl) _ rfl bt rfl X1.out ?_))
    refine (im_fieldLine F A c T d fa ft y _ F1.out HS.out).mono ?_; rintro e w2 ⟨Rg, rg, lg, rfl, hrg, hig, hng, bl⟩
    obtain ⟨n, hnn⟩ : ∃ n, (lineT F y).length = n := ⟨_, rfl⟩
    have HN := Lib.hid hnn
    have n32 : n ≤ 32 := by rw [← hnn]; exact lineT_le F y
    rw [hnn] at hig hrg ⊢
    clear hnn
    have X2 := Lib.hid (X1.out.below bl)
    have F2 := Lib.hid (F1.out.below bl)
    have B2 := Lib.hid (below_then B1.out bl)
    have G2 := Lib.hid hig
    clear X1 F1 B1 bl hig hng hrg
    go_wp2_with (first | (refine fs_load (by rfl) _ rfl bt rfl X2.out ?_))
    refine (spec_fieldLine F A c T d fa ft y _ F2.out HS.out).mono ?_; rintro e w3 ⟨Rw, rw_, lw, rfl, hrw_, hiw, hnw, bl⟩
    rw [HN.out] at hiw hrw_ ⊢
    have X3 := Lib.hid (X2.out.below bl)
    have F3 := Lib.hid (F2.out.below bl)
    have B3 := Lib.hid (below_then B2.out bl)
    have G3 := Lib.hid (G2.out.below bl)
    have W3 := Lib.hid hiw
    clear X2 F2 B2 G2 bl hiw hnw hrw_
    go_wp2_with fail
    refine (same_ints Rg Rw n rg rw_ (lineT F y) lg lw _ G3.out W3.out (by omega)).mono ?_; rintro e w4 ⟨rfl, q, hq⟩
    have bl : Below w3.heap.size w3 w4 := by rw [hq]; exact below_drewN (Below.refl _ _) _
    clear hq
    have X4 := Lib.hid (X3.out.below bl)
    have F4 := Lib.hid (F3.out.below bl)
    have B4 := Lib.hid (below_then B3.out bl)
    have G4 := Lib.hid (G3.out.below bl)
    clear X3 F3 B3 G3 W3 bl
    by_cases n0 : n = 0
    · subst n0
      go_wp2_with fail
      refine (alive_any _).mono ?_; rintro e w' ⟨rfl, rfl⟩
      go_wp2_with fail
      go_ret
      exact ⟨rfl, B4.out⟩
    · have n0' : ¬ (n : Int) = 0 := by omega
      have hok : (fldB F && betB y 0 15) = true := by
        cases e : (fldB F && betB y 0 15)
        · have := HN.out; unfold lineT at this; rw [e] at this; simp at this; omega
        · rfl
      have hv : fldB F = true := (Bool.and_eq_true _ _ ▸ hok).1
      have hy' : betB y 0 15 = true := (Bool.and_eq_true _ _ ▸ hok).2
      have HL := Lib.hid (lineT_yes hv hy')
      have hn32 : n = 32 := by have := HN.out; rw [HL.out, lineF_len] at this; omega
      have HP : Hid (∀ k : Nat, k < 32 → (lineT F y).getD k 0 = pixT F k y) := Lib.hid fun k hk => by
        rw [HL.out, lineF_get F y k hk, pixT_yes hv (betB_iff.2 ⟨by omega, by omega⟩) hy']
      clear hok hv hy' HN n0
      subst hn32
      obtain ⟨p, o, rfl, hf4, hp4, hc4⟩ := G4.out.at_ (by omega)
      have HC := Lib.hid hc4
      clear hc4
      have hpt : p < w4.heap.size := hp4
      go_wp2_with fail
      go_loopw [6] (fun i wr => ∃ k : Nat, k ≤ 32 ∧ i = .int .i64 k ∧ Below w4.heap.size w4 wr) (fun i _ => 32 - (intOf i).toNat)
      case atStart => exact ⟨0, Nat.zero_le _, rfl, Below.refl _ _⟩
      case round =>
        obtain ⟨k, hk, rfl, hbr⟩ := hrel
        have BR := Lib.hid hbr
        clear hbr
        by_cases hlt : k < 32
        · have hlt' : (k : Int) < 32 := by omega
          have XR := Lib.hid (X4.out.below BR.out)
          have CK := HP.out k hlt
          obtain ⟨pk, hpk⟩ : ∃ pk, pixT F k y = pk := ⟨_, rfl⟩
          have KK : Hid (pixT F k y = pk) := Lib.hid hpk
          rw [hpk] at CK
          have CC : Hid (∀ W, Below w4.heap.size w4 W → W.cell? ⟨p, o + k, none⟩ = some (.int .i64 pk)) := Lib.hid fun W hb => by
            rw [hb.cell (by exact hpt), HC.out k hlt, CK]
          clear CK hpk
          go_wp2_with fail
          refine wp_region_typed (ClB wr) RlB (Ty [TV (.slice (some ⟨p, o, none⟩) 32 rg), TV (.int .i64 k), TV (.pointer (some ⟨p, o + k, none⟩)), TV (.int .i64 pk), TV (fv F A c T d), TV (.int .i64 k), TV (.int .i64 y), TV (.int .i64 pk), TV (.bool false)])
            (by kernel_rfl) (by kernel_rfl) (stab_ty _ ⟨stabB_k _, stabB_k _, stabB_k _, stabB_k _, stabB_k _, stabB_k _, stabB_k _, stabB_k _, stabB_k _, trivial⟩) (Below.refl _ _).drew ?_ ?_
          · refine ⟨?_, ?_, ?_, ?_, ?_, ?_, ?_, ?_, ?_, trivial⟩
            · exact lb_move (.tmp 5) (.inl rfl) (fun _ _ _ => want_none rfl) fun ρ wx hc hx hp => hx 5 rfl
            · exact lb_move (.tmp 6) (.inl rfl) (fun _ _ _ => want_none rfl) fun ρ wx hc hx hp => hx 6 rfl
            · refine lb_val (.pointer (some ⟨p, o + k, none⟩)) (fun _ _ _ => want_none rfl) fun ρ wx hb hc hx hp => ⟨?_, rfl⟩
              have h1 : ρ (.tmp 34) = .slice (some ⟨p, o, none⟩) 32 rg := hp.1 rfl
              have h2 : ρ (.tmp 35) = .int .i64 k := hp.2.1 rfl
              unfold execOp
              simp only [h1, h2]
              clear h1 h2 hx hp hc hb
              go_simp
            · refine lb_val (.int .i64 pk) (fun _ _ _ => want_none rfl) fun ρ wx hb hc hx hp => ⟨?_, rfl⟩
              have h1 : ρ (.tmp 36) = .pointer (some ⟨p, o + k, none⟩) := hp.1 rfl
              have c1 := CC.out wx (below_then BR.out hb)
              unfold execOp
              simp only [h1]
              clear h1 hx hp hc hb
              go_simp
            · exact lb_fld (.tmp 3) bt rfl XR.out (fun _ _ _ => want_none rfl) fun ρ wx hx hp => ⟨hx 3 rfl, rfl⟩
            · exact lb_move (.tmp 6) (.inl rfl) (fun _ _ _ => want_none rfl) fun ρ wx hc hx hp => hx 6 rfl
            · exact lb_move (.tmp 4) (.inl rfl) (fun _ _ _ => want_none rfl) fun ρ wx hc hx hp => hx 4 rfl
            · refine lb_call _ _ _ (fun _ _ => by simp [go_sem]) rfl (fun _ _ _ => want_none rfl) fun ρ wx hb hc hp => ?_
              have h0 : ρ (.tmp 38) = fv F A c T d := hp.1 rfl
              have h1 : ρ (.tmp 39) = .int .i64 k := hp.2.1 rfl
              have h2 : ρ (.tmp 40) = .int .i64 y := hp.2.2.1 rfl
              refine ⟨#[fv F A c T d, .int .i64 k, .int .i64 y], by simp only [List.map_toArray, List.map_cons, List.map_nil, h0, h1, h2], (im_fieldPixel F A c T d fa ft k y wx (F4.out.below (below_then BR.out hb)) HS.out).mono ?_⟩
              rintro e w' ⟨rfl, b⟩
              exact ⟨_, rfl, b, by rw [KK.out]; rfl⟩
            · refine lb_val (.bool false) (fun _ _ _ => want_none rfl) fun ρ wx hb hc hx hp => ⟨?_, rfl⟩
              have h1 : ρ (.tmp 37) = .int .i64 pk := hp.1 rfl
              have h2 : ρ (.tmp 41) = .int .i64 pk := hp.2.1 rfl
              unfold execOp
              simp only [h1, h2]
              clear h1 h2 hx hp hc hb
              go_simp
          intro vs w9 hI hF
          obtain ⟨_, _, _, _, _, _, _, _, h8, _⟩ := hF
          replace h8 : vs 8 = .bool false := h8
          have B9 : Hid (Below w4.heap.size w4 w9) := Lib.hid (below_then BR.out hI)
          simp only [putAll, Act.put, List.setIfInBounds_toArray, List.set_cons_zero, List.set_cons_succ, h8]
          clear hI h8 KK CC XR BR
          go_wp2_with fail
          go_roundw
          case rel => exact ⟨k + 1, by omega, by go_num, B9.out⟩
          case measure => simp [intOf]; omega
        · obtain rfl : k = 32 := by omega
          have BZ := Lib.hid (below_then B4.out BR.out)
          go_wp2_with fail
          go_ret
          exact ⟨rfl, BZ.out⟩
  · have hs' : 1048576 < len0 := by omega
    go_enter Try.func5, Try.ntmps5
    go_wp2_with fail
    go_ret
    exact ⟨rfl, Below.refl _ _⟩
set_option maxRecDepth 100000 in
set_option maxHeartbeats 8000000 in
theorem walk_FnFieldPixel (a0 : Option Addr) (len0 cap0 : Nat) (z0 : List Int) (w : World) (w0 : IsRow .u8 w a0 len0 cap0 z0) :
    Calls Try.prog 4 #[.slice a0 len0 cap0] w fun e w' => e = .returned (.bool true) ∧ Below w.heap.size w w' := by
  have H := Lib.hid w0
  have hl := isRow_len w0
  clear w0
  by_cases hs : len0 ≤ 1048576
  · go_enter Try.func4, Try.ntmps4
    go_wp2_with fail
    refine (draw_fieldPixel _ _ _ _ _ H.out).mono ?_; rintro e w1 ⟨F, A, c, T, d, fa, ft, x, y, rfl, hxx, hyy, hx, ht, hxc, htd, hf, b1⟩
    obtain ⟨WX, hWX⟩ : ∃ WX, WX = w1.alloc (.cells #[.int .i64 F.w, .slice A F.xs.length c, .slice T F.nt d, .int .i64 F.sx, .int .i64 F.sy] 26) := ⟨_, rfl⟩
    have B1 : Hid (Below w.heap.size w WX) := by rw [hWX]; exact b1.alloc b1.size _
    have X1 : Hid (Box WX w1.heap.size 26 (fcs F.w A F.xs.length c T F.nt d F.sx F.sy)) := by rw [hWX]; exact Box.new w1 _ _
    have F1 : Hid (FHas WX A T F fa ft) := by rw [hWX]; exact hf.below (below1 _ _)
    have HS : Hid (FSmall F) := Lib.hid ⟨by omega, by omega⟩
    have hbt : w.heap.size ≤ w1.heap.size := b1.size
    clear b1 hf
    go_upto_region 4 with (fail)
    rw [← hWX]
    generalize w1.heap.size = bt at X1 hbt
    clear hWX
    go_wp2_with (first | (refine fs_load (by rfl) _ rfl bt rfl X1.out ?_))
    refine (im_fieldPixel F A c T d fa ft x y _ F1.out HS.out).mono ?_; rintro e w2 ⟨rfl, bl⟩
    have X2 := Lib.hid (X1.out.below bl)
    have F2 := Lib.hid (F1.out.below bl)
    have B2 := Lib.hid (below_then B1.out bl)
    clear X1 F1 B1 bl
    go_wp2_with (first | (refine fs_load (by rfl) _ rfl bt rfl X2.out ?_))
    refine (spec_fieldPixel F A c T d fa ft x y _ F2.out HS.out).mono ?_; rintro e w3 ⟨rfl, bl⟩
    have X3 := Lib.hid (X2.out.below bl)
    have F3 := Lib.hid (F2.out.below bl)
    have B3 := Lib.hid (below_then B2.out bl)
    clear X2 F2 B2 bl
    by_cases hok : (fldB F && betB x 0 31 && betB y 0 15) = true
    · have hv : fldB F = true := by revert hok; cases fldB F <;> simp
      have hx' : betB x 0 31 = true := by revert hok; cases betB x 0 31 <;> simp
      have hy' : betB y 0 15 = true := by revert hok; cases betB y 0 15 <;> simp
      have K := fldB_iff.1 hv
      have HK := Lib.hid K
      have P0 : pixT F x y = pixF F x y := pixT_yes hv hx' hy'
      have hb := pixF_b K F3.out.2.1 x y
      obtain ⟨p, hp⟩ : ∃ p, pixF F x y = p := ⟨_, rfl⟩
      rw [P0]
      rw [hp] at hb ⊢
      have HP := Lib.hid (P0.trans hp)
      have HP' := Lib.hid hp
      obtain ⟨p0, p1⟩ := hb
      have kw1 := K.w1
      have kw8 := K.w8
      have kx0 := K.x0
      have kx1 := K.x1
      have ky0 := K.y0
      have ky1 := K.y1
      have xx := betB_iff.1 hx'
      clear P0 hp hok K
      obtain ⟨W4, hW4⟩ : ∃ W, W = w3.alloc (.cells #[.int .i64 F.w, .slice A F.xs.length c, .slice T F.nt d, .int .i64 F.sx, .int .i64 F.sy] 26) := ⟨_, rfl⟩
      obtain ⟨b7, hb7⟩ : ∃ b, b = w3.heap.size := ⟨_, rfl⟩
      have bl : Below w3.heap.size w3 W4 := by rw [hW4]; exact below1 _ _
      have Y4 : Hid (Box W4 b7 26 (fcs F.w A F.xs.length c T F.nt d F.sx F.sy)) := by rw [hW4, hb7]; exact Box.new w3 _ _
      have hz7 : w.heap.size ≤ b7 := by rw [hb7]; exact B3.out.size
      have hb37 : bt < b7 := by rw [hb7]; exact X3.out.lt
      have NF4 : Hid (∀ z ∈ fa ++ ft, z < b7) := Lib.hid fun z hz => by rw [hb7]; exact fhas_lt F3.out z hz
      have X4 := Lib.hid (X3.out.below bl)
      have F4 := Lib.hid (F3.out.below bl)
      have B4 := Lib.hid (below_then B3.out bl)
      have HX3 := X3
      clear X3 F3 B3 bl
      go_upto_region 10 with (first | (refine fs_load (by rfl) _ rfl bt rfl HX3.out ?_))
      rw [← hW4, ← hb7]
      clear hW4 hb7 HX3
      have s0 : W4.cell? ⟨bt, 0, none⟩ = some (.int .i64 F.w) := X4.out.cell 0
      have s3 : W4.cell? ⟨bt, 3, none⟩ = some (.int .i64 F.sx) := X4.out.cell 3
      have y3 := Y4.out.cell 3
      have g3 := Y4.out.frozen 3
      go_upto_region 11 with (fail)
      have Y5 : Hid (Box (W4.setCell ⟨b7, 3, none⟩ (.int .i64 (F.sx + 8 * F.w))) b7 26 (fcs F.w A F.xs.length c T F.nt d (F.sx + 8 * F.w) F.sy)) := Y4.out.set 3 _
      have X5 := Lib.hid (X4.out.far (b' := b7) (i := 3) (by omega) (.int .i64 (F.sx + 8 * F.w)))
      have B5 := Lib.hid (B4.out.setCell (p := ⟨b7, 3, none⟩) hz7 (.int .i64 (F.sx + 8 * F.w)))
      have F5 := Lib.hid (F4.out.cell NF4.out 3 (.int .i64 (F.sx + 8 * F.w)))
      clear s0 s3 y3 g3 X4 F4 B4 Y4
      generalize W4.setCell ⟨b7, 3, none⟩ (.int .i64 (F.sx + 8 * F.w)) = W5 at X5 F5 B5 Y5 ⊢
      obtain ⟨W6, hW6⟩ : ∃ W, W = W5.alloc (.cells #[.int .i64 F.w, .slice A F.xs.length c, .slice T F.nt d, .int .i64 F.sx, .int .i64 F.sy] 26) := ⟨_, rfl⟩
      obtain ⟨b8, hb8⟩ : ∃ b, b = W5.heap.size := ⟨_, rfl⟩
      have bl : Below W5.heap.size W5 W6 := by rw [hW6]; exact below1 _ _
      have Z6 : Hid (Box W6 b8 26 (fcs F.w A F.xs.length c T F.nt d F.sx F.sy)) := by rw [hW6, hb8]; exact Box.new W5 _ _
      have hz8 : w.heap.size ≤ b8 := by rw [hb8]; exact B5.out.size
      have hb38 : bt < b8 := by rw [hb8]; exact X5.out.lt
      have hb78 : b7 < b8 := by rw [hb8]; exact Y5.out.lt
      have NF6 : Hid (∀ z ∈ fa ++ ft, z < b8) := Lib.hid fun z hz => by rw [hb8]; exact fhas_lt F5.out z hz
      have X6 := Lib.hid (X5.out.below bl)
      have F6 := Lib.hid (F5.out.below bl)
      have B6 := Lib.hid (below_then B5.out bl)
      have Y6 := Lib.hid (Y5.out.below bl)
      have HX5 := X5
      clear X5 F5 B5 Y5 bl
      go_upto_region 12 with (first | (refine fs_load (by rfl) _ rfl bt rfl HX5.out ?_))
      rw [← hW6, ← hb8]
      clear hW6 hb8 HX5
      have s3 : W6.cell? ⟨bt, 3, none⟩ = some (.int .i64 F.sx) := X6.out.cell 3
      have y3 := Z6.out.cell 3
      have g3 := Z6.out.frozen 3
      go_upto_region 13 with (fail)
      have Z7 : Hid (Box (W6.setCell ⟨b8, 3, none⟩ (.int .i64 (F.sx + 1))) b8 26 (fcs F.w A F.xs.length c T F.nt d (F.sx + 1) F.sy)) := Z6.out.set 3 _
      have Y7 := Lib.hid (Y6.out.far (b' := b8) (i := 3) (by omega) (.int .i64 (F.sx + 1)))
      have B7 := Lib.hid (B6.out.setCell (p := ⟨b8, 3, none⟩) hz8 (.int .i64 (F.sx + 1)))
      have F7 := Lib.hid (F6.out.cell NF6.out 3 (.int .i64 (F.sx + 1)))
      clear s3 y3 g3 X6 F6 B6 Y6 Z6
      generalize W6.setCell ⟨b8, 3, none⟩ (.int .i64 (F.sx + 1)) = W7 at F7 B7 Y7 Z7 ⊢
      have y0 : W7.cell? ⟨b7, 0, none⟩ = some (.int .i64 F.w) := Y7.out.cell 0
      have y1 : W7.cell? ⟨b7, 1, none⟩ = some (.slice A F.xs.length c) := Y7.out.cell 1
      have y2 : W7.cell? ⟨b7, 2, none⟩ = some (.slice T F.nt d) := Y7.out.cell 2
      have y3 : W7.cell? ⟨b7, 3, none⟩ = some (.int .i64 (F.sx + 8 * F.w)) := Y7.out.cell 3
      have y4 : W7.cell? ⟨b7, 4, none⟩ = some (.int .i64 F.sy) := Y7.out.cell 4
      have z0 : W7.cell? ⟨b8, 0, none⟩ = some (.int .i64 F.w) := Z7.out.cell 0
      have z1 : W7.cell? ⟨b8, 1, none⟩ = some (.slice A F.xs.length c) := Z7.out.cell 1
      have z2 : W7.cell? ⟨b8, 2, none⟩ = some (.slice T F.nt d) := Z7.out.cell 2
      have z3 : W7.cell? ⟨b8, 3, none⟩ = some (.int .i64 (F.sx + 1)) := Z7.out.cell 3
      have z4 : W7.cell? ⟨b8, 4, none⟩ = some (.int .i64 F.sy) := Z7.out.cell 4
      by_cases c7 : F.sx + 8 * F.w ≤ 255
      · have P7 : Hid (pixT (F.to (F.sx + 8 * F.w) F.sy) x y = p) := Lib.hid ((pixT_yes (fldB_iff.2 (to_ok HK.out ⟨by omega, c7⟩ ⟨ky0, ky1⟩)) hx' hy').trans ((pix_wide x y).trans HP'.out))
        go_wp2_with fail
        refine (im_fieldPixel (F.to (F.sx + 8 * F.w) F.sy) A c T d fa ft x y _ F7.out HS.out).mono ?_; rintro e w8 ⟨rfl, bl⟩
        rw [P7.out]
        have Z8 := Lib.hid (Z7.out.below bl)
        have F8 := Lib.hid (F7.out.below bl)
        have B8 := Lib.hid (below_then B7.out bl)
        clear y0 y1 y2 y3 y4 z0 z1 z2 z3 z4 Z7 F7 B7 Y7 P7 bl
        have z0 : w8.cell? ⟨b8, 0, none⟩ = some (.int .i64 F.w) := Z8.out.cell 0
        have z1 : w8.cell? ⟨b8, 1, none⟩ = some (.slice A F.xs.length c) := Z8.out.cell 1
        have z2 : w8.cell? ⟨b8, 2, none⟩ = some (.slice T F.nt d) := Z8.out.cell 2
        have z3 : w8.cell? ⟨b8, 3, none⟩ = some (.int .i64 (F.sx + 1)) := Z8.out.cell 3
        have z4 : w8.cell? ⟨b8, 4, none⟩ = some (.int .i64 F.sy) := Z8.out.cell 4
        by_cases c8 : F.sx + 1 ≤ 255
        · by_cases cx : x = 0
          · go_wp2_with fail
            go_ret
            exact ⟨rfl, B8.out⟩
          · have P8 : Hid (pixT (F.to (F.sx + 1) F.sy) (x - 1) y = p) := Lib.hid ((pixT_yes (fldB_iff.2 (to_ok HK.out ⟨by omega, c8⟩ ⟨ky0, ky1⟩)) (betB_iff.2 ⟨by omega, by omega⟩) hy').trans ((pix_one x y).trans HP'.out))
            go_wp2_with fail
            refine (im_fieldPixel (F.to (F.sx + 1) F.sy) A c T d fa ft (x - 1) y _ F8.out HS.out).mono ?_; rintro e w9 ⟨rfl, bl⟩
            rw [P8.out]
            have B9 := Lib.hid (below_then B8.out bl)
            clear z0 z1 z2 z3 z4 Z8 F8 B8 P8 bl
            go_wp2_with fail
            go_ret
            exact ⟨rfl, B9.out⟩
        · omega
      · by_cases c8 : F.sx + 1 ≤ 255
        · by_cases cx : x = 0
          · go_wp2_with fail
            go_ret
            exact ⟨rfl, B7.out⟩
          · have P8 : Hid (pixT (F.to (F.sx + 1) F.sy) (x - 1) y = p) := Lib.hid ((pixT_yes (fldB_iff.2 (to_ok HK.out ⟨by omega, c8⟩ ⟨ky0, ky1⟩)) (betB_iff.2 ⟨by omega, by omega⟩) hy').trans ((pix_one x y).trans HP'.out))
            go_wp2_with fail
            refine (im_fieldPixel (F.to (F.sx + 1) F.sy) A c T d fa ft (x - 1) y _ F7.out HS.out).mono ?_; rintro e w9 ⟨rfl, bl⟩
            rw [P8.out]
            have B9 := Lib.hid (below_then B7.out bl)
            clear z0 z1 z2 z3 z4 Z7 F7 B7 P8 bl
            go_wp2_with fail
            go_ret
            exact ⟨rfl, B9.out⟩
        · go_wp2_with fail
          go_ret
          exact ⟨rfl, B7.out⟩
    · have P0 : pixT F x y = -1 := by unfold pixT; rw [if_neg hok]
      rw [P0]
      go_wp2_with fail
      refine (alive_any _).mono ?_; rintro e w' ⟨rfl, rfl⟩
      go_wp2_with fail
      go_ret
      exact ⟨rfl, B3.out⟩
  · have hs' : 1048576 < len0 := by omega
    go_enter Try.func4, Try.ntmps4
    go_wp2_with fail
    go_ret
    exact ⟨rfl, Below.refl _ _⟩
end Go.Proofs.Ytlppmcflgbeolaa
