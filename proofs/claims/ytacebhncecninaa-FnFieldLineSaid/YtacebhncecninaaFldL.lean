/- The laws of chapter 10 on lines and pixels, walked. -/
import Derived.Test.YtacebhncecninaaFldU
import Derived.Test.YtacebhncecninaaFldX
import Derived.Test.YtacebhncecninaaGA
import Derived.Deep.DeepCutAuto
namespace Go.Proofs.Ytacebhncecninaa
open Go.ChangeShapes Go.WideShapes Go.ChangeAt Go.RowKit
set_option linter.unusedVariables false

theorem FHas.cell {w : World} {A T : Option Addr} {F : Fld} {fa ft : List Nat} (h : FHas w A T F fa ft) {b : Nat} (hb : ∀ z ∈ fa ++ ft, z < b) (i : Nat) (v : Value) : FHas (w.setCell ⟨b, i, none⟩ v) A T F fa ft := by
  have o : Only [b] w (w.setCell ⟨b, i, none⟩ v) := (Only.refl _ _).setCell (.inl (by simp)) _
  have s : Same (fa ++ ft) w (w.setCell ⟨b, i, none⟩ v) := .of_only o fun x hx hs => by
    have := hb x hx
    simp at hs; omega
  exact ⟨h.1.keep (s.sub fun x hx => List.mem_append_left _ hx), h.2.keep (s.sub fun x hx => List.mem_append_right _ hx)⟩
theorem fhas_lt {w : World} {A T : Option Addr} {F : Fld} {fa ft : List Nat} (h : FHas w A T F fa ft) : ∀ z ∈ fa ++ ft, z < w.heap.size := fun z hz => by
  rcases List.mem_append.1 hz with hz | hz
  · exact h.1.lt z hz
  · exact h.2.lt z hz
/-- The same background, shifted otherwise. -/
abbrev Fld.to (F : Fld) (sx sy : Int) : Fld := ⟨F.w, F.xs, F.nt, F.zs, sx, sy⟩
theorem to_ok {F : Fld} (h : FOk F) {sx sy : Int} (h1 : 0 ≤ sx ∧ sx ≤ 255) (h2 : 0 ≤ sy ∧ sy ≤ 255) : FOk (F.to sx sy) := ⟨h.w1, h.w8, h.rem, h.r1, h.r8, h.n1, h.n16, h1.1, h1.2, h2.1, h2.2, h.px, h.known⟩
theorem pix_wide {F : Fld} (x y : Int) : pixF (F.to (F.sx + 8 * F.w) F.sy) x y = pixF F x y := by
  have h1 : atX (F.to (F.sx + 8 * F.w) F.sy) x = atX F x := by
    simp only [atX]
    rw [← Int.add_assoc, Int.add_emod_right]
  have h2 : atY (F.to (F.sx + 8 * F.w) F.sy) y = atY F y := by simp only [atY, Fld.rw_]
  unfold pixF tileN partN cellN
  rw [h1, h2]
theorem pix_one {F : Fld} (x y : Int) : pixF (F.to (F.sx + 1) F.sy) (x - 1) y = pixF F x y := by
  have h1 : atX (F.to (F.sx + 1) F.sy) (x - 1) = atX F x := by
    simp only [atX]
    rw [show x - 1 + (F.sx + 1) = x + F.sx by omega]
  have h2 : atY (F.to (F.sx + 1) F.sy) y = atY F y := by simp only [atY, Fld.rw_]
  unfold pixF tileN partN cellN
  rw [h1, h2]
set_option maxRecDepth 100000 in
set_option maxHeartbeats 8000000 in
theorem walk_FnFieldLine (a0 : Option Addr) (len0 cap0 : Nat) (z0 : List Int) (w : World) (w0 : IsRow .u8 w a0 len0 cap0 z0) :
    Calls Try.prog 3 #[.slice a0 len0 cap0] w fun e w' => e = .returned (.bool true) ∧ Below w.heap.size w w' := by
  have H := Lib.hid w0
  have hl := isRow_len w0
  clear w0
  by_cases hs : len0 ≤ 1048576
  · go_enter Try.func3, Try.ntmps3
    go_wp2_with fail
    refine (draw_fieldLine _ _ _ _ _ H.out).mono ?_; rintro e w1 ⟨F, A, c, T, d, fa, ft, y, rfl, hy, hx, ht, hxc, htd, hf, b1⟩
    obtain ⟨WX, hWX⟩ : ∃ WX, WX = w1.alloc (.cells #[.int .i64 F.w, .slice A F.xs.length c, .slice T F.nt d, .int .i64 F.sx, .int .i64 F.sy] 26) := ⟨_, rfl⟩
    have B1 : Hid (Below w.heap.size w WX) := by rw [hWX]; exact b1.alloc b1.size _
    have X1 : Hid (Box WX w1.heap.size 26 (fcs F.w A F.xs.length c T F.nt d F.sx F.sy)) := by rw [hWX]; exact Box.new w1 _ _
    have F1 : Hid (FHas WX A T F fa ft) := by rw [hWX]; exact hf.below (below1 _ _)
    have HS : Hid (FSmall F) := Lib.hid ⟨by omega, by omega⟩
    have hbt : w.heap.size ≤ w1.heap.size := b1.size
    clear b1 hf
    go_upto_region 4 with (fail)
    rw [← hWX]
    generalize w1.heap.size = bt at X1 hbt
    clear hWX
    go_wp2_with (first | (refine fs_load (by rfl) _ rfl bt rfl X1.out ?_))
    refine (im_fieldLine F A c T d fa ft y _ F1.out HS.out).mono ?_; rintro e w2 ⟨Rg, rg, lg, rfl, hrg, hig, hng, bl⟩
    obtain ⟨n, hnn⟩ : ∃ n, (lineT F y).length = n := ⟨_, rfl⟩
    have HN := Lib.hid hnn
    have n32 : n ≤ 32 := by rw [← hnn]; exact lineT_le F y
    rw [hnn] at hig hrg ⊢
    clear hnn
    have X2 := Lib.hid (X1.out.below bl)
    have F2 := Lib.hid (F1.out.below bl)
    have B2 := Lib.hid (below_then B1.out bl)
    have G2 := Lib.hid hig
    clear X1 F1 B1 bl hig hng hrg
    go_wp2_with (first | (refine fs_load (by rfl) _ rfl bt rfl X2.out ?_))
    refine (spec_fieldLine F A c T d fa ft y _ F2.out HS.out).mono ?_; rintro e w3 ⟨Rw, rw_, lw, rfl, hrw_, hiw, hnw, bl⟩
    rw [HN.out] at hiw hrw_ ⊢
    have X3 := Lib.hid (X2.out.below bl)
    have F3 := Lib.hid (F2.out.below bl)
    have B3 := Lib.hid (below_then B2.out bl)
    have G3 := Lib.hid (G2.out.below bl)
    have W3 := Lib.hid hiw
    clear X2 F2 B2 G2 bl hiw hnw hrw_
    go_wp2_with fail
    refine (same_ints Rg Rw n rg rw_ (lineT F y) lg lw _ G3.out W3.out (by omega)).mono ?_; rintro e w4 ⟨rfl, q, hq⟩
    have bl : Below w3.heap.size w3 w4 := by rw [hq]; exact below_drewN (Below.refl _ _) _
    clear hq
    have X4 := Lib.hid (X3.out.below bl)
    have F4 := Lib.hid (F3.out.below bl)
    have B4 := Lib.hid (below_then B3.out bl)
    have G4 := Lib.hid (G3.out.below bl)
    clear X3 F3 B3 G3 W3 bl
    by_cases n0 : n = 0
    · subst n0
      go_wp2_with fail
      refine (alive_any _).mono ?_; rintro e w' ⟨rfl, rfl⟩
      go_wp2_with fail
      go_ret
      exact ⟨rfl, B4.out⟩
    · have n0' : ¬ (n : Int) = 0 := by omega
      have hok : (fldB F && betB y 0 15) = true := by
        cases e : (fldB F && betB y 0 15)
        · have := HN.out; unfold lineT at this; rw [e] at this; simp at this; omega
        · rfl
      have hv : fldB F = true := (Bool.and_eq_true _ _ ▸ hok).1
      have hy' : betB y 0 15 = true := (Bool.and_eq_true _ _ ▸ hok).2
      have HL := Lib.hid (lineT_yes hv hy')
      have hn32 : n = 32 := by have := HN.out; rw [HL.out, lineF_len] at this; omega
      have HP : Hid (∀ k : Nat, k < 32 → (lineT F y).getD k 0 = pixT F k y) := Lib.hid fun k hk => by
        rw [HL.out, lineF_get F y k hk, pixT_yes hv (betB_iff.2 ⟨by omega, by omega⟩) hy']
      clear hok hv hy' HN n0
      subst hn32
      obtain ⟨p, o, rfl, hf4, hp4, hc4⟩ := G4.out.at_ (by omega)
      have HC := Lib.hid hc4
      clear hc4
      have hpt : p < w4.heap.size := hp4
      go_wp2_with fail
      go_loopw [6] (fun i wr => ∃ k : Nat, k ≤ 32 ∧ i = .int .i64 k ∧ Below w4.heap.size w4 wr) (fun i _ => 32 - (intOf i).toNat)
      case atStart => exact ⟨0, Nat.zero_le _, rfl, Below.refl _ _⟩
      case round =>
        obtain ⟨k, hk, rfl, hbr⟩ := hrel
        have BR := Lib.hid hbr
        clear hbr
        by_cases hlt : k < 32
        · have hlt' : (k : Int) < 32 := by omega
          have XR := Lib.hid (X4.out.below BR.out)
          have CK := HP.out k hlt
          obtain ⟨pk, hpk⟩ : ∃ pk, pixT F k y = pk := ⟨_, rfl⟩
          have KK : Hid (pixT F k y = pk) := Lib.hid hpk
          rw [hpk] at CK
          have CC : Hid (∀ W, Below w4.heap.size w4 W → W.cell? ⟨p, o + k, none⟩ = some (.int .i64 pk)) := Lib.hid fun W hb => by
            rw [hb.cell (by exact hpt), HC.out k hlt, CK]
          clear CK hpk
          go_wp2_with fail
          refine wp_region_typed (ClB wr) RlB (Ty [TV (.slice (some ⟨p, o, none⟩) 32 rg), TV (.int .i64 k), TV (.pointer (some ⟨p, o + k, none⟩)), TV (.int .i64 pk), TV (fv F A c T d), TV (.int .i64 k), TV (.int .i64 y), TV (.int .i64 pk), TV (.bool false)])
            (by kernel_rfl) (by kernel_rfl) (stab_ty _ ⟨stabB_k _, stabB_k _, stabB_k _, stabB_k _, stabB_k _, stabB_k _, stabB_k _, stabB_k _, stabB_k _, trivial⟩) (Below.refl _ _).drew ?_ ?_
          · refine ⟨?_, ?_, ?_, ?_, ?_, ?_, ?_, ?_, ?_, trivial⟩
            · exact lb_move (.tmp 5) (.inl rfl) (fun _ _ _ => want_none rfl) fun ρ wx hc hx hp => hx 5 rfl
            · exact lb_move (.tmp 6) (.inl rfl) (fun _ _ _ => want_none rfl) fun ρ wx hc hx hp => hx 6 rfl
            · refine lb_val (.pointer (some ⟨p, o + k, none⟩)) (fun _ _ _ => want_none rfl) fun ρ wx hb hc hx hp => ⟨?_, rfl⟩
              have h1 : ρ (.tmp 34) = .slice (some ⟨p, o, none⟩) 32 rg := hp.1 rfl
              have h2 : ρ (.tmp 35) = .int .i64 k := hp.2.1 rfl
              unfold execOp
              simp only [h1, h2]
              clear h1 h2 hx hp hc hb
              go_simp
            · refine lb_val (.int .i64 pk) (fun _ _ _ => want_none rfl) fun ρ wx hb hc hx hp => ⟨?_, rfl⟩
              have h1 : ρ (.tmp 36) = .pointer (some ⟨p, o + k, none⟩) := hp.1 rfl
              have c1 := CC.out wx (below_then BR.out hb)
              unfold execOp
              simp only [h1]
              clear h1 hx hp hc hb
              go_simp
            · exact lb_fld (.tmp 3) bt rfl XR.out (fun _ _ _ => want_none rfl) fun ρ wx hx hp => ⟨hx 3 rfl, rfl⟩
            · exact lb_move (.tmp 6) (.inl rfl) (fun _ _ _ => want_none rfl) fun ρ wx hc hx hp => hx 6 rfl
            · exact lb_move (.tmp 4) (.inl rfl) (fun _ _ _ => want_none rfl) fun ρ wx hc hx hp => hx 4 rfl
            · refine lb_call _ _ _ (fun _ _ => by simp [go_sem]) rfl (fun _ _ _ => want_none rfl) fun ρ wx hb hc hp => ?_
              have h0 : ρ (.tmp 38) = fv F A c T d := hp.1 rfl
              have h1 : ρ (.tmp 39) = .int .i64 k := hp.2.1 rfl
              have h2 : ρ (.tmp 40) = .int .i64 y := hp.2.2.1 rfl
              refine ⟨#[fv F A c T d, .int .i64 k, .int .i64 y], by simp only [List.map_toArray, List.map_cons, List.map_nil, h0, h1, h2], (im_fieldPixel F A c T d fa ft k y wx (F4.out.below (below_then BR.out hb)) HS.out).mono ?_⟩
              rintro e w' ⟨rfl, b⟩
              exact ⟨_, rfl, b, by rw [KK.out]; rfl⟩
            · refine lb_val (.bool false) (fun _ _ _ => want_none rfl) fun ρ wx hb hc hx hp => ⟨?_, rfl⟩
              have h1 : ρ (.tmp 37) = .int .i64 pk := hp.1 rfl
              have h2 : ρ (.tmp 41) = .int .i64 pk := hp.2.1 rfl
              unfold execOp
              simp only [h1, h2]
              clear h1 h2 hx hp hc hb
              go_simp
          intro vs w9 hI hF
          obtain ⟨_, _, _, _, _, _, _, _, h8, _⟩ := hF
          replace h8 : vs 8 = .bool false := h8
          have B9 : Hid (Below w4.heap.size w4 w9) := Lib.hid (below_then BR.out hI)
          simp only [putAll, Act.put, List.setIfInBounds_toArray, List.set_cons_zero, List.set_cons_succ, h8]
          clear hI h8 KK CC XR BR
          go_wp2_with fail
          go_roundw
          case rel => exact ⟨k + 1, by omega, by go_num, B9.out⟩
          case measure => simp [intOf]; omega
        · obtain rfl : k = 32 := by omega
          have BZ := Lib.hid (below_then B4.out BR.out)
          go_wp2_with fail
          go_ret
          exact ⟨rfl, BZ.out⟩
  · have hs' : 1048576 < len0 := by omega
    go_enter Try.func3, Try.ntmps3
    go_wp2_with fail
    go_ret
    exact ⟨rfl, Below.refl _ _⟩
end Go.Proofs.Ytacebhncecninaa
