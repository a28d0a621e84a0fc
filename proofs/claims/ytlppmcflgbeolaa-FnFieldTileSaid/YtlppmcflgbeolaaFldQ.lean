/- The law of chapter 10 on backgrounds of one tile, walked. -/
import Derived.Test.YtlppmcflgbeolaaFldL
namespace Go.Proofs.Ytlppmcflgbeolaa
open Go.ChangeShapes Go.WideShapes Go.ChangeAt Go.RowKit
set_option linter.unusedVariables false

/-- One background of one tile. -/
def oneF (zs : List Int) (sx sy : Int) : Fld := ⟨1, [0], 1, zs.take 64, sx, sy⟩
theorem one_ok {F : Fld} (h : FOk F) (hz : F.zs.length = 64 * F.nt) : FOk (oneF F.zs F.sx F.sy) := by
  refine ⟨by simp [oneF], by simp [oneF], by simp [oneF], by simp [oneF], by simp [oneF], by simp [oneF], by simp [oneF], h.x0, h.x1, h.y0, h.y1, ?_, rfl⟩
  have := tls_one hz h.px 0 h.n1
  simpa [tl, oneF] using this
theorem one_pix {F : Fld} (x y : Int) : pixF (oneF F.zs F.sx F.sy) x y = F.zs.getD ((y + F.sy) % 8 * 8 + (x + F.sx) % 8).toNat 0 := by
  have h1 : atX (oneF F.zs F.sx F.sy) x = (x + F.sx) % 8 := by simp [atX, oneF]
  have h2 : atY (oneF F.zs F.sx F.sy) y = (y + F.sy) % 8 := by simp [atY, Fld.rw_, oneF]
  have b1 := Int.emod_nonneg (x + F.sx) (show (8 : Int) ≠ 0 by omega)
  have b2 := Int.emod_lt_of_pos (x + F.sx) (show (0 : Int) < 8 by omega)
  have b3 := Int.emod_nonneg (y + F.sy) (show (8 : Int) ≠ 0 by omega)
  have b4 := Int.emod_lt_of_pos (y + F.sy) (show (0 : Int) < 8 by omega)
  have ht : tileN (oneF F.zs F.sx F.sy) x y = 0 := by
    have hc : cellN (oneF F.zs F.sx F.sy) x y = 0 := by
      unfold cellN
      rw [h1, h2]
      show (y + F.sy) % 8 / 8 * 1 + (x + F.sx) % 8 / 8 = 0
      omega
    unfold tileN
    rw [hc]
    rfl
  have hp : partN (oneF F.zs F.sx F.sy) x y = (y + F.sy) % 8 * 8 + (x + F.sx) % 8 := by
    unfold partN
    rw [h1, h2]
    omega
  unfold pixF
  rw [ht, hp]
  show (F.zs.take 64).getD _ 0 = _
  rw [List.getD_eq_getElem?_getD, List.getD_eq_getElem?_getD, List.getElem?_take, if_pos (by omega)]
  congr 3
  omega
theorem ints_first {w : World} {T : Option Addr} {n : Nat} {zs : List Int} {ft : List Nat} (h : Ints w T (64 * n) zs ft) (hn : 1 ≤ n) : Ints w T (64 * 1) (zs.take 64) ft := by
  have hl := h.1
  obtain ⟨p, o, rfl, hf, hp, hc⟩ := h.at_ (by omega)
  refine ⟨by rw [List.length_take]; omega, .inr ⟨by omega, p, o, rfl, hf, hp, fun i hi => ?_⟩⟩
  rw [hc i (by omega), List.getD_eq_getElem?_getD, List.getD_eq_getElem?_getD, List.getElem?_take, if_pos (by omega)]
theorem ints_box0 {w : World} {b : Nat} {u : Int} (h : Box w b 3 [.int .i64 u]) : Ints w (some ⟨b, 0, none⟩) 1 [u] [b] := by
  refine ⟨rfl, .inr ⟨by omega, b, 0, rfl, rfl, h.lt, fun i hi => ?_⟩⟩
  obtain rfl : i = 0 := by omega
  exact h.cell 0
/-- A new slice of one zero; a background with it. -/
def TLit0 : Value → World → Prop := fun v w => ∃ b, v = .slice (some ⟨b, 0, none⟩) 1 1 ∧ Box w b 3 [.int .i64 0]
theorem stabB_lit0 : Stab RlB TLit0 := fun _ _ _ (hR : Below _ _ _) ⟨b, hv, hi⟩ => ⟨b, hv, hi.below hR⟩
def TOneF (T : Option Addr) (d : Nat) (sx sy : Int) : Value → World → Prop := fun v w => ∃ b, v = fldV 1 (some ⟨b, 0, none⟩) 1 1 T 1 d sx sy ∧ Box w b 3 [.int .i64 0]
theorem stabB_onef (T : Option Addr) (d : Nat) (sx sy : Int) : Stab RlB (TOneF T d sx sy) := fun _ _ _ (hR : Below _ _ _) ⟨b, hv, hi⟩ => ⟨b, hv, hi.below hR⟩
section
variable {ops : Array Oper} {Q : Exit → Act → World → Prop} {T : Nat → Value → World → Prop} {a0 : Act} {w0 : World} {i : Nat} {o : Oper}
theorem lb_lit0 (hw : ∀ (ρ : Operand → Value) w, PreR ops T ρ w o.after.toList → wantV ops (slotR ρ) o = true)
    (hrun : ∀ (ρ : Operand → Value) w, (∀ v, ρ (.const v) = v) → (execOp ρ o).run Try.prog w = .ok (.value (.slice (some ⟨w.heap.size, 0, none⟩) 1 1)) (w.alloc (.cells #[.int .i64 0] 3)))
    (hT : ∀ v w, TLit0 v w → T i (dstV o v) w) : Ob Try.prog ops Q (ClB w0) RlB T a0 i o :=
  lb_gen hw fun ρ w hb hc _ _ _ => by
    rw [hrun ρ w hc]
    exact ⟨below1 w _, hT _ _ ⟨_, rfl, Box.new w _ _⟩⟩
end
set_option maxRecDepth 100000 in
set_option maxHeartbeats 8000000 in
theorem walk_FnFieldTile (a0 : Option Addr) (len0 cap0 : Nat) (z0 : List Int) (w : World) (w0 : IsRow .u8 w a0 len0 cap0 z0) :
    Calls Try.prog 7 #[.slice a0 len0 cap0] w fun e w' => e = .returned (.bool true) ∧ Below w.heap.size w w' := by
  have H := Lib.hid w0
  have hl := isRow_len w0
  clear w0
  by_cases hs : len0 ≤ 1048576
  · go_enter Try.func7, Try.ntmps7
    go_wp2_with fail
    refine (draw_fieldPixel _ _ _ _ _ H.out).mono ?_; rintro e w1 ⟨F, A, c, T, d, fa, ft, x, y, rfl, hxx, hyy, hx, ht, hxc, htd, hf, b1⟩
    obtain ⟨WX, hWX⟩ : ∃ WX, WX = w1.alloc (.cells #[.int .i64 F.w, .slice A F.xs.length c, .slice T F.nt d, .int .i64 F.sx, .int .i64 F.sy] 26) := ⟨_, rfl⟩
    have B1 : Hid (Below w.heap.size w WX) := by rw [hWX]; exact b1.alloc b1.size _
    have X1 : Hid (Box WX w1.heap.size 26 (fcs F.w A F.xs.length c T F.nt d F.sx F.sy)) := by rw [hWX]; exact Box.new w1 _ _
    have F1 : Hid (FHas WX A T F fa ft) := by rw [hWX]; exact hf.below (below1 _ _)
    have HS : Hid (FSmall F) := Lib.hid ⟨by omega, by omega⟩
    have hbt : w.heap.size ≤ w1.heap.size := b1.size
    clear b1 hf
    go_upto_region 4 with (fail)
    rw [← hWX]
    generalize w1.heap.size = bt at X1 hbt
    clear hWX
    go_wp2_with (first | (refine fs_load (by rfl) _ rfl bt rfl X1.out ?_))
    refine (spec_fieldValid F A c T d fa ft _ F1.out HS.out).mono ?_; rintro e w2 ⟨rfl, bl⟩
    have X2 := Lib.hid (X1.out.below bl)
    have F2 := Lib.hid (F1.out.below bl)
    have B2 := Lib.hid (below_then B1.out bl)
    clear X1 F1 B1 bl
    obtain ⟨V, hV⟩ : ∃ V, fldB F = V := ⟨_, rfl⟩
    have HV := Lib.hid hV
    rw [hV]
    clear hV
    by_cases hok : V = true ∧ 0 ≤ x ∧ x < 32 ∧ 0 ≤ y ∧ y < 16
    · obtain ⟨rfl, x0, x1, y0, y1⟩ := hok
      have HK := Lib.hid (fldB_iff.1 HV.out)
      have n1 := HK.out.n1
      have kx0 := HK.out.x0
      have kx1 := HK.out.x1
      have ky0 := HK.out.y0
      have ky1 := HK.out.y1
      obtain ⟨pT, oT, rfl, hft, hpl, hct⟩ := F2.out.2.at_ (by omega)
      have HZ := Lib.hid F2.out.2.1
      have HCT := Lib.hid hct
      have HI1 := Lib.hid (ints_first F2.out.2 n1)
      clear hct hft
      have t1 : (1 : Int) ≤ d := by omega
      go_wp2_with fail
      refine wp_region_end (by dsimp only [List.dropLast]) rfl (ClB w2) RlB
        (Ty [TLit0, TV (.pointer (some ⟨bt, 2, none⟩)), TV (.slice (some ⟨pT, oT, none⟩) F.nt d), TV (.slice (some ⟨pT, oT, none⟩) 1 d), TV (.pointer (some ⟨bt, 3, none⟩)), TV (.int .i64 F.sx), TV (.pointer (some ⟨bt, 4, none⟩)), TV (.int .i64 F.sy), TOneF (some ⟨pT, oT, none⟩) d F.sx F.sy, TVar w2.heap.size 26 (fcs 0 none 0 0 none 0 0 0 0)])
        (by kernel_rfl) (by kernel_rfl) (by kernel_rfl) (stab_ty _ ⟨stabB_lit0, stabB_k _, stabB_k _, stabB_k _, stabB_k _, stabB_k _, stabB_k _, stabB_k _, stabB_onef _ _ _ _, stabB_var, trivial⟩) (Below.refl _ _).drew ?_ ?_
      · refine ⟨?_, ?_, ?_, ?_, ?_, ?_, ?_, ?_, ?_, ?_, trivial⟩
        · exact lb_lit0 (fun _ _ _ => want_none rfl) (fun ρ wx hc => by unfold execOp; simp only [List.map_toArray, List.map_cons, List.map_nil, hc]; go_simp) (fun _ _ h => h)
        · refine lb_val (.pointer (some ⟨bt, 2, none⟩)) (fun _ _ _ => want_none rfl) fun ρ wx hb hc hx hp => ⟨?_, rfl⟩
          have h1 : ρ (.tmp 3) = .pointer (some ⟨bt, 0, none⟩) := hx 3 rfl
          unfold execOp
          simp only [h1]
          clear h1 hx hp hc hb
          go_simp
        · refine lb_val (.slice (some ⟨pT, oT, none⟩) F.nt d) (fun _ _ _ => want_none rfl) fun ρ wx hb hc hx hp => ⟨?_, rfl⟩
          have h1 : ρ (.tmp 38) = .pointer (some ⟨bt, 2, none⟩) := hp.1 rfl
          have c1 : wx.cell? ⟨bt, 2, none⟩ = some (.slice (some ⟨pT, oT, none⟩) F.nt d) := (X2.out.below hb).cell 2
          unfold execOp
          simp only [h1]
          clear h1 hx hp hc hb
          go_simp
        · refine lb_val (.slice (some ⟨pT, oT, none⟩) 1 d) (fun _ _ _ => want_none rfl) fun ρ wx hb hc hx hp => ⟨?_, rfl⟩
          have h1 : ρ (.tmp 39) = .slice (some ⟨pT, oT, none⟩) F.nt d := hp.1 rfl
          have h2 := hc (.int .i64 1)
          unfold execOp
          simp only [h1]
          clear h1 hx hp hc hb
          go_simp
        · refine lb_val (.pointer (some ⟨bt, 3, none⟩)) (fun _ _ _ => want_none rfl) fun ρ wx hb hc hx hp => ⟨?_, rfl⟩
          have h1 : ρ (.tmp 3) = .pointer (some ⟨bt, 0, none⟩) := hx 3 rfl
          unfold execOp
          simp only [h1]
          clear h1 hx hp hc hb
          go_simp
        · refine lb_val (.int .i64 F.sx) (fun _ _ _ => want_none rfl) fun ρ wx hb hc hx hp => ⟨?_, rfl⟩
          have h1 : ρ (.tmp 41) = .pointer (some ⟨bt, 3, none⟩) := hp.1 rfl
          have c1 : wx.cell? ⟨bt, 3, none⟩ = some (.int .i64 F.sx) := (X2.out.below hb).cell 3
          unfold execOp
          simp only [h1]
          clear h1 hx hp hc hb
          go_simp
        · refine lb_val (.pointer (some ⟨bt, 4, none⟩)) (fun _ _ _ => want_none rfl) fun ρ wx hb hc hx hp => ⟨?_, rfl⟩
          have h1 : ρ (.tmp 3) = .pointer (some ⟨bt, 0, none⟩) := hx 3 rfl
          unfold execOp
          simp only [h1]
          clear h1 hx hp hc hb
          go_simp
        · refine lb_val (.int .i64 F.sy) (fun _ _ _ => want_none rfl) fun ρ wx hb hc hx hp => ⟨?_, rfl⟩
          have h1 : ρ (.tmp 43) = .pointer (some ⟨bt, 4, none⟩) := hp.1 rfl
          have c1 : wx.cell? ⟨bt, 4, none⟩ = some (.int .i64 F.sy) := (X2.out.below hb).cell 4
          unfold execOp
          simp only [h1]
          clear h1 hx hp hc hb
          go_simp
        · refine lb_some (fun _ _ _ => want_none rfl) fun ρ wx hb hc hx hp => ?_
          obtain ⟨b, h1, hi⟩ : TLit0 (ρ (.tmp 37)) wx := hp.1 rfl
          have h2 : ρ (.tmp 40) = .slice (some ⟨pT, oT, none⟩) 1 d := hp.2.1 rfl
          have h3 : ρ (.tmp 42) = .int .i64 F.sx := hp.2.2.1 rfl
          have h4 : ρ (.tmp 44) = .int .i64 F.sy := hp.2.2.2.1 rfl
          have h5 := hc (.int .i64 1)
          refine ⟨fldV 1 (some ⟨b, 0, none⟩) 1 1 (some ⟨pT, oT, none⟩) 1 d F.sx F.sy, ?_, b, rfl, hi⟩
          unfold execOp
          simp only [List.map_toArray, List.map_cons, List.map_nil, h1, h2, h3, h4, h5]
          clear h1 h2 h3 h4 h5 hx hp hc hb hi
          go_simp
        · exact lb_var (fun _ _ _ => want_none rfl) (fun ρ wx => by unfold execOp; go_simp) (fun _ _ h => h)
      intro vs wx hI hF
      obtain ⟨-, -, -, -, -, -, -, -, ⟨b0, h8, hi0⟩, ⟨b6, h9, hL6, hb6⟩, -⟩ := hF
      replace h8 : vs 8 = fldV 1 (some ⟨b0, 0, none⟩) 1 1 (some ⟨pT, oT, none⟩) 1 d F.sx F.sy := h8
      replace h9 : vs 9 = .pointer (some ⟨b6, 0, none⟩) := h9
      refine ⟨_, exec_storeF _ _ (.tmp 6) (.tmp 45) wx b6 (W := 1) (A := some ⟨b0, 0, none⟩) (n := 1) (c := 1) (Tt := some ⟨pT, oT, none⟩) (m := 1) (d := d) (sx := F.sx) (sy := F.sy) rfl (by simp only [putAll, Act.put, List.setIfInBounds_toArray, List.set_cons_zero, List.set_cons_succ, h9]; rfl) (by simp only [putAll, Act.put, List.setIfInBounds_toArray, List.set_cons_zero, List.set_cons_succ, h8]; rfl) hb6 rfl, ?_⟩
      simp only [putAll, Act.put, List.setIfInBounds_toArray, List.set_cons_zero, List.set_cons_succ, h8, h9]
      have bl : Below w2.heap.size w2 (wx.setRow b6 (fcs 1 (some ⟨b0, 0, none⟩) 1 1 (some ⟨pT, oT, none⟩) 1 d F.sx F.sy).toArray) := below_row hI hL6 _
      have hne : b0 ≠ b6 := by
        rintro rfl
        have h2 := hb6.symm.trans hi0
        simp at h2
      have G3 : Hid (Box (wx.setRow b6 (fcs 1 (some ⟨b0, 0, none⟩) 1 1 (some ⟨pT, oT, none⟩) 1 d F.sx F.sy).toArray) b6 26 (fcs 1 (some ⟨b0, 0, none⟩) 1 1 (some ⟨pT, oT, none⟩) 1 d F.sx F.sy)) := Box.row hb6
      have J3 : Box (wx.setRow b6 (fcs 1 (some ⟨b0, 0, none⟩) 1 1 (some ⟨pT, oT, none⟩) 1 d F.sx F.sy).toArray) b0 3 [.int .i64 0] := hi0.rowFar hne
      have HG3 : Hid (FHas (wx.setRow b6 (fcs 1 (some ⟨b0, 0, none⟩) 1 1 (some ⟨pT, oT, none⟩) 1 d F.sx F.sy).toArray) (some ⟨b0, 0, none⟩) (some ⟨pT, oT, none⟩) (oneF F.zs F.sx F.sy) [b0] ft) := Lib.hid ⟨ints_box0 J3, HI1.out.below bl⟩
      have X3 := Lib.hid (X2.out.below bl)
      have B3 := Lib.hid (below_then B2.out bl)
      have HC3 : Hid (∀ i, i < 64 → (wx.setRow b6 (fcs 1 (some ⟨b0, 0, none⟩) 1 1 (some ⟨pT, oT, none⟩) 1 d F.sx F.sy).toArray).cell? ⟨pT, oT + i, none⟩ = some (.int .i64 (F.zs.getD i 0))) := Lib.hid fun i hi => by rw [bl.cell (by exact hpl), HCT.out i (by omega)]
      have hpT3 : pT < (wx.setRow b6 (fcs 1 (some ⟨b0, 0, none⟩) 1 1 (some ⟨pT, oT, none⟩) 1 d F.sx F.sy).toArray).heap.size := Nat.lt_of_lt_of_le hpl bl.size
      clear hI h8 h9 hi0 hb6 J3 X2 F2 B2 HCT HI1 hpl bl
      generalize wx.setRow b6 (fcs 1 (some ⟨b0, 0, none⟩) 1 1 (some ⟨pT, oT, none⟩) 1 d F.sx F.sy).toArray = w3 at G3 HG3 X3 B3 HC3 hpT3 ⊢
      obtain ⟨m1, hm1⟩ : ∃ m1 : Nat, (y + F.sy) % 8 = m1 := ⟨((y + F.sy) % 8).toNat, by omega⟩
      obtain ⟨m2, hm2⟩ : ∃ m2 : Nat, (x + F.sx) % 8 = m2 := ⟨((x + F.sx) % 8).toNat, by omega⟩
      have l1 : m1 < 8 := by omega
      have l2 : m2 < 8 := by omega
      obtain ⟨p, hp⟩ : ∃ p, F.zs.getD (m1 * 8 + m2) 0 = p := ⟨_, rfl⟩
      have KP : Hid (pixT (oneF F.zs F.sx F.sy) x y = p) := Lib.hid (by
        rw [pixT_yes (fldB_iff.2 (one_ok HK.out HZ.out)) (betB_iff.2 ⟨x0, by omega⟩) (betB_iff.2 ⟨y0, by omega⟩), one_pix, hm1, hm2, ← hp]
        congr 1)
      have CP : Hid (w3.cell? ⟨pT, oT + (m1 * 8 + m2), none⟩ = some (.int .i64 p)) := Lib.hid (by rw [HC3.out _ (by omega), hp])
      have S1 : Hid (FSmall (oneF F.zs F.sx F.sy)) := Lib.hid ⟨by simp [oneF], by simp [oneF]⟩
      clear hp HC3
      have z0 : w3.cell? ⟨b6, 0, none⟩ = some (.int .i64 1) := G3.out.cell 0
      have z1 : w3.cell? ⟨b6, 1, none⟩ = some (.slice (some ⟨b0, 0, none⟩) 1 1) := G3.out.cell 1
      have z2 : w3.cell? ⟨b6, 2, none⟩ = some (.slice (some ⟨pT, oT, none⟩) 1 d) := G3.out.cell 2
      have z3 : w3.cell? ⟨b6, 3, none⟩ = some (.int .i64 F.sx) := G3.out.cell 3
      have z4 : w3.cell? ⟨b6, 4, none⟩ = some (.int .i64 F.sy) := G3.out.cell 4
      go_wp2_with fail
      refine (im_fieldPixel (oneF F.zs F.sx F.sy) (some ⟨b0, 0, none⟩) 1 (some ⟨pT, oT, none⟩) d [b0] ft x y _ HG3.out S1.out).mono ?_; rintro e w4 ⟨rfl, bl⟩
      rw [KP.out]
      have X4 := Lib.hid (X3.out.below bl)
      have G4 := Lib.hid (G3.out.below bl)
      have HG4 := Lib.hid (HG3.out.below bl)
      have B4 := Lib.hid (below_then B3.out bl)
      have CP4 : Hid (w4.cell? ⟨pT, oT + (m1 * 8 + m2), none⟩ = some (.int .i64 p)) := Lib.hid (by rw [bl.cell (by exact hpT3), CP.out])
      clear z0 z1 z2 z3 z4 X3 G3 HG3 B3 CP bl
      have e1 : Int.tmod (y + F.sy) 8 = (m1 : Int) := by rw [Int.tmod_eq_emod_of_nonneg (by omega), hm1]
      have e2 : Int.tmod (x + F.sx) 8 = (m2 : Int) := by rw [Int.tmod_eq_emod_of_nonneg (by omega), hm2]
      have z0 : w4.cell? ⟨b6, 0, none⟩ = some (.int .i64 1) := G4.out.cell 0
      have z1 : w4.cell? ⟨b6, 1, none⟩ = some (.slice (some ⟨b0, 0, none⟩) 1 1) := G4.out.cell 1
      have z2 : w4.cell? ⟨b6, 2, none⟩ = some (.slice (some ⟨pT, oT, none⟩) 1 d) := G4.out.cell 2
      have z3 : w4.cell? ⟨b6, 3, none⟩ = some (.int .i64 F.sx) := G4.out.cell 3
      have z4 : w4.cell? ⟨b6, 4, none⟩ = some (.int .i64 F.sy) := G4.out.cell 4
      have c2 : w4.cell? ⟨bt, 2, none⟩ = some (.slice (some ⟨pT, oT, none⟩) F.nt d) := X4.out.cell 2
      have c3 : w4.cell? ⟨bt, 3, none⟩ = some (.int .i64 F.sx) := X4.out.cell 3
      have c4 : w4.cell? ⟨bt, 4, none⟩ = some (.int .i64 F.sy) := X4.out.cell 4
      have cp := CP4.out
      have n0 : 0 < F.nt := n1
      have v1 : IntKind.i64.wrap (y + F.sy) = y + F.sy := by rw [IntKind.wrap_i64]; omega
      have v2 : IntKind.i64.wrap (x + F.sx) = x + F.sx := by rw [IntKind.wrap_i64]; omega
      have v3 : IntKind.i64.wrap ((m1 : Int) * 8) = (m1 : Int) * 8 := by rw [IntKind.wrap_i64]; omega
      have v4 : IntKind.i64.wrap ((m1 : Int) * 8 + (m2 : Int)) = (m1 : Int) * 8 + (m2 : Int) := by rw [IntKind.wrap_i64]; omega
      have e4 : (m1 : Int) * 8 + (m2 : Int) < 64 := by omega
      have e5 : 0 ≤ (m1 : Int) * 8 + (m2 : Int) := by omega
      have e6 : m1 * 8 + m2 < 64 := by omega
      clear hm1 hm2
      have e3 : ((m1 : Int) * 8 + (m2 : Int)).toNat = m1 * 8 + m2 := by omega
      have HGD : Hid (FHas w4.drew (some ⟨b0, 0, none⟩) (some ⟨pT, oT, none⟩) (oneF F.zs F.sx F.sy) [b0] ft) := HG4
      have BD : Hid (Below w.heap.size w w4.drew) := Lib.hid B4.out.drew
      go_wp2_with fail
      go_region_with (go_at_call 18; refine (spec_fieldPixel (oneF F.zs F.sx F.sy) (some ⟨b0, 0, none⟩) 1 (some ⟨pT, oT, none⟩) d [b0] ft x y _ HGD.out S1.out).mono ?_; rintro e w9 ⟨rfl, bl⟩; rw [KP.out]; have B9 := Lib.hid (below_then BD.out bl); clear bl)
      all_goals
        go_wp2
        go_ret
        exact ⟨rfl, B9.out⟩
    · have hor : V = false ∨ x < 0 ∨ y < 0 ∨ 32 ≤ x ∨ 16 ≤ y := by
        cases V
        · exact .inl rfl
        · right
          have h : ¬ (0 ≤ x ∧ x < 32 ∧ 0 ≤ y ∧ y < 16) := fun h => hok ⟨rfl, h⟩
          omega
      cases V
      · go_wp2_with fail
        refine (alive_any _).mono ?_; rintro e w' ⟨rfl, rfl⟩
        go_wp2_with fail
        go_ret
        exact ⟨rfl, B2.out⟩
      · by_cases x0 : x < 0
        · go_wp2_with fail
          refine (alive_any _).mono ?_; rintro e w' ⟨rfl, rfl⟩
          go_wp2_with fail
          go_ret
          exact ⟨rfl, B2.out⟩
        · by_cases y0 : y < 0
          · go_wp2_with fail
            refine (alive_any _).mono ?_; rintro e w' ⟨rfl, rfl⟩
            go_wp2_with fail
            go_ret
            exact ⟨rfl, B2.out⟩
          · by_cases x1 : 32 ≤ x
            · go_wp2_with fail
              refine (alive_any _).mono ?_; rintro e w' ⟨rfl, rfl⟩
              go_wp2_with fail
              go_ret
              exact ⟨rfl, B2.out⟩
            · have y1 : 16 ≤ y := by
                rcases hor with h | h | h | h | h
                · cases h
                all_goals omega
              go_wp2_with fail
              refine (alive_any _).mono ?_; rintro e w' ⟨rfl, rfl⟩
              go_wp2_with fail
              go_ret
              exact ⟨rfl, B2.out⟩
  · have hs' : 1048576 < len0 := by omega
    go_enter Try.func7, Try.ntmps7
    go_wp2_with fail
    go_ret
    exact ⟨rfl, Below.refl _ _⟩
end Go.Proofs.Ytlppmcflgbeolaa
