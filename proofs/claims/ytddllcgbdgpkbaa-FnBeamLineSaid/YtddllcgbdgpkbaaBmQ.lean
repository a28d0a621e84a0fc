/- MAIN of chapter 13: lines can be drawn in parts; walked. -/
import Derived.Test.YtddllcgbdgpkbaaBmP
namespace Go.Proofs.Ytddllcgbdgpkbaa
open Go.ChangeShapes Go.WideShapes Go.ChangeAt Go.RowKit
set_option linter.unusedVariables false

def TLin (xs : List Int) (n : Nat) : Value → World → Prop := fun v w => ∃ B c fb, v = .slice B n c ∧ Ints w B n xs fb
theorem stabB_lin (xs : List Int) (n : Nat) : Stab RlB (TLin xs n) := fun _ _ _ (hR : Below _ _ _) ⟨B, c, fb, hv, hi⟩ => ⟨B, c, fb, hv, hi.below hR⟩
theorem own_int1 (w : World) (v : Int) (base : Nat) (h : base ≤ w.heap.size) : (w.alloc (.cells #[.int .i64 v] 3)).ownsRow base 3 1 (.slice (some ⟨w.heap.size, 0, none⟩) 1 1) 1 (iv [v]) :=
  ⟨by simp, .inr ⟨w.heap.size, 1, #[.int .i64 v], rfl, h, heap_alloc_new w _, Nat.le_refl _, by unfold maxLen; omega, by simp, by simp⟩⟩
/-- Where a line is cut. -/
def cutL (X : List Int) : List Int := [0] ++ X ++ [32]
theorem cut_facts {F : Fld} {L : List Int} {n : Nat} {y : Int} (hF : FOk F) (hc : chgB L n = true) : ∀ k, k + 1 < (cutL (ptT L n F.sx F.sy)).length → ∃ an bn : Nat, (cutL (ptT L n F.sx F.sy)).getD k 0 = an ∧ (cutL (ptT L n F.sx F.sy)).getD (k + 1) 0 = bn ∧ an ≤ bn ∧ bn ≤ 32 ∧ an ≤ 31 ∧ ∀ x : Nat, an ≤ x → x < bn → bmF F L n x y = pixF (withF F L (cntB L n an)) x y := by
  have hk : chgK L n = true := by unfold chgB at hc; rw [Bool.and_eq_true] at hc; exact hc.1
  have eX : ptT L n F.sx F.sy = (ptK L n F.sx F.sy n).1 := ptT_yes hc (betB_iff.2 ⟨hF.x0, hF.x1⟩) (betB_iff.2 ⟨hF.y0, hF.y1⟩)
  have hbd : ∀ p ∈ (ptK L n F.sx F.sy n).1, 0 ≤ p ∧ p ≤ 31 := fun p hp => by
    obtain ⟨j, h1, rfl, _⟩ := ptK_mem hp
    exact (chg1_iff.1 (chgK_iff.1 hk j h1)).1
  have hb := fun (c x : Int) (hcx : c ≤ x) => @bmF_between F L n hk c x y hcx
  have hs := ptK_asc (x := F.sx) (y := F.sy) hk (Nat.le_refl n)
  rw [eX]
  generalize (ptK L n F.sx F.sy n).1 = X at hbd hb hs
  have hsort : (cutL X).Pairwise (· ≤ ·) := by
    unfold cutL
    refine List.pairwise_append.2 ⟨?_, List.pairwise_singleton _ _, fun a ha b hb' => ?_⟩
    · rw [List.singleton_append, List.pairwise_cons]
      exact ⟨fun p hp => (hbd p hp).1, hs.imp fun h => by omega⟩
    · obtain rfl : b = 32 := by simpa using hb'
      rcases List.mem_append.1 ha with h | h
      · obtain rfl : a = 0 := by simpa using h
        omega
      · have := hbd a h; omega
  have hall : ∀ v ∈ cutL X, 0 ≤ v ∧ v ≤ 32 := fun v hv => by
    unfold cutL at hv
    rcases List.mem_append.1 hv with h | h
    · rcases List.mem_append.1 h with h | h
      · obtain rfl : v = 0 := by simpa using h
        omega
      · have := hbd v h; omega
    · obtain rfl : v = 32 := by simpa using h
      omega
  have h31 : ∀ k, k + 1 < (cutL X).length → (cutL X).getD k 0 ≤ 31 := fun k hkl => by
    have hl : k < ([0] ++ X).length := by unfold cutL at hkl; simp at hkl ⊢; omega
    unfold cutL
    rw [List.getD_eq_getElem?_getD, List.getElem?_append_left hl, List.getElem?_eq_getElem hl]
    show ([0] ++ X)[k] ≤ 31
    rcases List.mem_append.1 (List.getElem_mem hl) with h | h
    · have : ([0] ++ X)[k] = 0 := by simpa using h
      omega
    · exact (hbd _ h).2
  have hmem : ∀ p ∈ X, p ∈ cutL X := fun p hp => List.mem_append_left _ (List.mem_append_right _ hp)
  generalize cutL X = C at hsort hall hmem h31
  intro k hkl
  have hg : ∀ i (h : i < C.length), C.getD i 0 = C[i] := fun i h => by rw [List.getD_eq_getElem?_getD, List.getElem?_eq_getElem h]; rfl
  have ha := hall _ (List.getElem_mem (show k < C.length by omega))
  have hb' := hall _ (List.getElem_mem hkl)
  have hab := List.pairwise_iff_getElem.1 hsort k (k + 1) (by omega) hkl (by omega)
  have h3 := h31 k hkl
  rw [hg k (by omega)] at h3
  refine ⟨C[k].toNat, C[k + 1].toNat, by rw [hg k (by omega)]; omega, by rw [hg (k + 1) hkl]; omega, by omega, by omega, by omega, fun x h1 h2 => ?_⟩
  rw [show ((C[k].toNat : Nat) : Int) = C[k] by omega]
  refine hb _ _ (by omega) fun p hp hh => ?_
  obtain ⟨i, hi, rfl⟩ := List.mem_iff_getElem.1 (hmem p hp)
  by_cases hik : i ≤ k
  · by_cases e : i = k
    · subst e; omega
    · have := List.pairwise_iff_getElem.1 hsort i k hi (by omega) (by omega)
      omega
  · by_cases e : i = k + 1
    · subst e; omega
    · have := List.pairwise_iff_getElem.1 hsort (k + 1) i hkl hi (by omega)
      omega
theorem part_same {F : Fld} {L : List Int} {n m an bn : Nat} {y : Int} (hb : bn ≤ 32) (h : ∀ x : Nat, an ≤ x → x < bn → bmF F L n x y = pixF (withF F L m) x y) : ((bmL F L n y).drop an).take (bn - an) = ((lineF (withF F L m) y).drop an).take (bn - an) := by
  apply List.ext_getElem?
  intro i
  rw [List.getElem?_take, List.getElem?_take]
  by_cases hi : i < bn - an
  · rw [if_pos hi, if_pos hi, List.getElem?_drop, List.getElem?_drop]
    unfold bmL lineF
    rw [List.getElem?_map, List.getElem?_map, List.getElem?_range (by omega)]
    show some (bmF F L n ((an + i : Nat) : Int) y) = some (pixF (withF F L m) ((an + i : Nat) : Int) y)
    rw [h (an + i) (by omega) (by omega)]
  · rw [if_neg hi, if_neg hi]
theorem part_ints {w : World} {p o m : Nat} {xs : List Int} {fp : List Nat} (h : Ints w (some ⟨p, o, none⟩) m xs fp) {a b : Nat} (hab : a ≤ b) (hb : b ≤ m) (hm : 0 < m) : ∃ fq, Ints w (some ⟨p, o + a, none⟩) (b - a) ((xs.drop a).take (b - a)) fq := by
  by_cases h0 : b - a = 0
  · rw [h0, List.take_zero]
    exact ⟨[], Ints.nil w _⟩
  · obtain ⟨p', o', he, hf, hp, hc⟩ := h.at_ hm
    injection he with he
    injection he with e1 e2 _
    subst e1 e2
    refine ⟨[p], by rw [List.length_take, List.length_drop, h.1]; omega, .inr ⟨by omega, p, o + a, rfl, rfl, hp, fun i hi => ?_⟩⟩
    rw [show o + a + i = o + (a + i) by omega, hc (a + i) (by omega), List.getD_eq_getElem?_getD, List.getD_eq_getElem?_getD, List.getElem?_take, if_pos hi, List.getElem?_drop]
theorem min_with {F : Fld} {L : List Int} {n m j : Nat} (h : j < n) : (j < m → withF F L (min (j + 1) m) = ⟨F.w, F.xs, F.nt, F.zs, cX L j, cY L j⟩) ∧ (m ≤ j → withF F L (min (j + 1) m) = withF F L (min j m)) := by
  constructor
  · intro hj
    rw [show min (j + 1) m = j + 1 by omega, with_step]
  · intro hj
    rw [show min (j + 1) m = m by omega, show min j m = m by omega]
set_option maxRecDepth 100000 in
set_option maxHeartbeats 16000000 in
theorem walk_FnBeamLine (a0 : Option Addr) (len0 cap0 : Nat) (z0 : List Int) (w : World) (w0 : IsRow .u8 w a0 len0 cap0 z0) :
    Calls Try.prog 4 #[.slice a0 len0 cap0] w fun e w' => e = .returned (.bool true) ∧ Below w.heap.size w w' := by
  have H := Lib.hid w0
  have hl := isRow_len w0
  clear w0
  by_cases hs : len0 ≤ 1048576
  · go_enter Try.func4, Try.ntmps4
    go_wp2_with fail
    refine (draw_beamLine _ _ _ _ _ H.out).mono ?_; rintro e w1 ⟨F, A, c, T, d, fa, ft, y, Al, n, c', L, fl, rfl, hy, hx1, ht1, hxc, htd, hn, hnc, hF, hL, hb⟩
    have HS : Hid (FSmall F) := Lib.hid ⟨by omega, by omega⟩
    obtain ⟨w2, hw2⟩ : ∃ W, W = w1.alloc (.cells #[.int .i64 F.w, .slice A F.xs.length c, .slice T F.nt d, .int .i64 F.sx, .int .i64 F.sy] 33) := ⟨_, rfl⟩
    have hbt : w.heap.size ≤ w1.heap.size := hb.size
    have X2 : Hid (Box w2 w1.heap.size 33 (fcs F.w A F.xs.length c T F.nt d F.sx F.sy)) := Lib.hid (by rw [hw2]; exact Box.new _ _ _)
    have F2 : Hid (FHas w2 A T F fa ft) := Lib.hid (by rw [hw2]; exact hF.below (below1 _ _))
    have L2 : Hid (Ints w2 Al (3 * n) L fl) := Lib.hid (by rw [hw2]; exact hL.below (below1 _ _))
    have B2 : Hid (Below w.heap.size w w2) := Lib.hid (by rw [hw2]; exact hb.alloc hb.size _)
    have hn9 : n ≤ 1000000000 := by omega
    clear hF hL hb
    go_upto_region 4 with (fail)
    rw [← hw2]
    generalize w1.heap.size = bs at X2 hbt
    clear hw2
    go_wp2_with (first | (refine fs_load (by rfl) _ rfl bs rfl X2.out ?_))
    refine (im_bmLine F A c T d fa ft Al n c' L fl y _ F2.out L2.out HS.out hn9).mono ?_; rintro e w3 ⟨R, r, fr, rfl, hr, hi, _, bl⟩
    have J3 := Lib.hid hi
    have X3 := Lib.hid (X2.out.below bl)
    have F3 := Lib.hid (F2.out.below bl)
    have L3 := Lib.hid (L2.out.below bl)
    have B3 := Lib.hid (below_then B2.out bl)
    clear hi bl X2 F2 L2 B2
    go_wp2_with (first | (refine fs_load (by rfl) _ rfl bs rfl X3.out ?_))
    refine (spec_bmLine F A c T d fa ft Al n c' L fl y _ F3.out L3.out HS.out hn9).mono ?_; rintro e w4 ⟨R', r', fr', rfl, _, hi', _, bl⟩
    have K4 := Lib.hid hi'
    have J4 := Lib.hid (J3.out.below bl)
    have X4 := Lib.hid (X3.out.below bl)
    have F4 := Lib.hid (F3.out.below bl)
    have L4 := Lib.hid (L3.out.below bl)
    have B4 := Lib.hid (below_then B3.out bl)
    clear hi' bl J3 X3 F3 L3 B3
    go_wp2_with fail
    refine (same_ints R R' _ r r' (bmT F L n y) fr fr' _ J4.out K4.out (by have := bmT_le F L n y; omega)).mono ?_; rintro e w5 ⟨rfl, q, hq⟩
    have bl : Below w4.heap.size w4 w5 := by rw [hq]; exact below_drewN (Below.refl _ _) _
    have J5 := Lib.hid (J4.out.below bl)
    have X5 := Lib.hid (X4.out.below bl)
    have F5 := Lib.hid (F4.out.below bl)
    have L5 := Lib.hid (L4.out.below bl)
    have B5 := Lib.hid (below_then B4.out bl)
    clear hq bl J4 K4 X4 F4 L4 B4
    cases hok : (fldB F && chgB L n && betB y 0 15)
    · have HT : Hid (bmT F L n y = []) := Lib.hid (bmT_no hok)
      rw [HT.out]
      clear hok
      go_wp2_with fail
      refine (alive_any _).mono ?_; rintro e w' ⟨rfl, rfl⟩
      go_wp2_with fail
      go_ret
      exact ⟨rfl, B5.out⟩
    simp only [Bool.and_eq_true] at hok
    obtain ⟨⟨hv, hcv⟩, hyv⟩ := hok
    have J5' := J5.out
    rw [bmT_yes hv hcv hyv, bmL_len] at J5' hr ⊢
    have HOK := Lib.hid (fldB_iff.1 hv)
    have hkv : chgK L n = true := by unfold chgB at hcv; rw [Bool.and_eq_true] at hcv; exact hcv.1
    have HKV := Lib.hid hkv
    have HLT : Hid (lineT F y = lineF F y) := Lib.hid (lineT_yes hv hyv)
    have HGT : Hid (∀ m, m ≤ n → lineT (withF F L m) y = lineF (withF F L m) y) := Lib.hid fun m hm => lineT_yes (fldB_iff.2 (with_ok HOK.out hkv hm)) hyv
    have HCF := Lib.hid (cut_facts (y := y) HOK.out hcv)
    have HQN := (ptT_facts L n F.sx F.sy).2.2
    obtain ⟨pl, ol, rfl, _, hpl, _⟩ := J5'.at_ (by omega)
    have I5 := Lib.hid J5'
    clear J5 J5' hv hcv hyv hkv
    obtain ⟨q, hq⟩ : ∃ q, (ptT L n F.sx F.sy).length = q := ⟨_, rfl⟩
    have HN := Lib.hid hq
    rw [hq] at HQN
    clear hq
    obtain ⟨X, hX⟩ : ∃ X, ptT L n F.sx F.sy = X := ⟨_, rfl⟩
    rw [hX] at HCF
    have HX := Lib.hid hX
    have HXL : Hid (X.length = q) := Lib.hid (by rw [← HX.out]; exact HN.out)
    clear hX
    have k3 := (X5.out.alloc (.cells #[.int .i64 0] 3)).cell 3
    have k4 := (X5.out.alloc (.cells #[.int .i64 0] 3)).cell 4
    have OW := Lib.hid (own_int1 w5 0 w5.heap.size (Nat.le_refl _))
    have LA := Lib.hid (L5.out.below (below1 w5 (.cells #[.int .i64 0] 3)))
    have BA := Lib.hid (below1 w5 (.cells #[.int .i64 0] 3))
    go_wp2_with fail
    clear k3 k4
    refine (im_bmParts Al n c' L fl F.sx F.sy _ LA.out hn9).mono ?_; rw [HN.out, HX.out]; rintro e w6 ⟨Rp, rp, fp, rfl, _, hip, _, bl⟩
    have IP := Lib.hid hip
    have O6 := Lib.hid (own_keep OW.out bl)
    have B6 := Lib.hid (below_then BA.out bl)
    clear hip bl LA BA OW
    have s6 := B6.out.size
    go_upto_region 10 with (first
      | (at_builtin; refine wpList_append_ints rfl _ _ rfl w5.heap.size (.slice (some ⟨w5.heap.size, 0, none⟩) 1 1) 1 [0] rfl O6.out Rp q rp X fp rfl IP.out (by omega) s6 ?_; intro v1 w7 own7 gr7 _; have O7 := Lib.hid own7; have B7 : Hid (Below w5.heap.size w5 w7) := Lib.hid (below_grownC B6.out gr7 (fun q hq => (own_block O6.out q hq).1) (Nat.le_refl _)); have s7 := B7.out.size; clear own7 gr7)
      | (at_builtin; refine wpList_append_ints rfl _ _ rfl w5.heap.size v1 (1 + q) ([0] ++ X) rfl (own_keep O7.out (below1 w7 _)) _ 1 1 [32] [w7.heap.size] rfl (lone_int w7 32) (by omega) (by simp; omega) ?_; intro v2 w8 own8 gr8 _; obtain ⟨Ac, dc, fc, rfl, hdc, _, hic, _⟩ := own_ints own8; have IC := Lib.hid hic; have B8 : Hid (Below w5.heap.size w5 w8) := Lib.hid (below_grownC (B7.out.alloc s7 _) gr8 (fun q hq => (own_block O7.out q hq).1) (Nat.le_refl _)); clear own8 gr8 hic))
    clear O6 B6 IP O7 B7 s6 s7
    obtain ⟨N, hN⟩ : ∃ N, 1 + q + 1 = N := ⟨_, rfl⟩
    have HNN : Hid (N = q + 2) := Lib.hid (by omega)
    have HCL : Hid ((cutL X).length = N) := Lib.hid (by unfold cutL; simp; have := HXL.out; omega)
    rw [hN] at IC ⊢
    rw [HCL.out] at HCF
    obtain ⟨C, hC⟩ : ∃ C, cutL X = C := ⟨_, rfl⟩
    rw [hC] at HCF
    rw [show [0] ++ X ++ [32] = C from hC] at IC
    have hNp : 0 < N := by omega
    have hNs : N ≤ 1000 := by have := HNN.out; omega
    clear hC hN HCL
    obtain ⟨pc, oc, rfl, _, _, _⟩ := IC.out.at_ hNp
    have X8 := Lib.hid (X5.out.below B8.out)
    have F8 := Lib.hid (F5.out.below B8.out)
    have L8 := Lib.hid (L5.out.below B8.out)
    have I8 := Lib.hid (I5.out.below B8.out)
    have B9 := Lib.hid (below_then B5.out B8.out)
    clear X5 F5 L5 I5 B5 B8
    go_wp2_with fail
    go_loopw [8] (fun i wr => ∃ k : Nat, k + 1 ≤ N ∧ i = .int .i64 k ∧ Below w8.heap.size w8 wr) (fun i _ => N - (intOf i).toNat)
    case atStart => exact ⟨0, by omega, rfl, Below.refl _ _⟩
    case round =>
      obtain ⟨k, hk, rfl, hb⟩ := hrel
      have BR := Lib.hid hb
      clear hb
      have hw1 : IntKind.i64.wrap ((k : Int) + 1) = ((k + 1 : Nat) : Int) := by rw [IntKind.wrap_i64]; omega
      by_cases hkN : k + 1 < N
      · obtain ⟨an, bn, ha, hbn, hab, hb32, ha31, hpx⟩ := HCF.out k hkN
        have hcell : ∀ i, i < N → ∀ wx, Below w8.heap.size w8 wx → wx.cell? ⟨pc, oc + i, none⟩ = some (.int .i64 (C.getD i 0)) := fun i hi wx hb => by
          obtain ⟨p', o', he, _, _, hcz⟩ := (IC.out.below hb).at_ hNp
          injection he with he
          injection he with e1 e2 _
          subst e1 e2
          exact hcz i hi
        have HA0 := Lib.hid (by have := hcell k (by omega); rw [ha] at this; exact this)
        have HB0 := Lib.hid (by have := hcell (k + 1) hkN; rw [hbn] at this; exact this)
        obtain ⟨m, hm⟩ : ∃ m, cntB L n (an : Int) = m := ⟨_, rfl⟩
        have hmn : m ≤ n := by rw [← hm]; exact cnt_le L n _
        have hch := cnt_char HKV.out (an : Int)
        rw [hm] at hpx hch
        have HCH := Lib.hid hch
        have HPS := Lib.hid (part_same (m := m) hb32 hpx)
        have hk1N : (k : Int) + 1 < N := by omega
        have hkNn : (k : Int) < N := by omega
        clear ha hbn hm hpx hch hcell
        have hk1' : ((k + 1 : Nat) : Int) < N := by omega
        have XR := Lib.hid (X8.out.below BR.out)
        have hx8 := XR.out.lt
        have GR : Hid (Box (wr.alloc (.cells #[.int .i64 F.w, .slice A F.xs.length c, .slice T F.nt d, .int .i64 F.sx, .int .i64 F.sy] 33)) wr.heap.size 33 (wcs (withF F L (min 0 m)) A c T d)) := Lib.hid (by rw [Nat.zero_min, with_zero]; exact Box.new _ _ _)
        have hbg : w8.heap.size ≤ wr.heap.size := BR.out.size
        have BG := Lib.hid (BR.out.alloc BR.out.size (.cells #[.int .i64 F.w, .slice A F.xs.length c, .slice T F.nt d, .int .i64 F.sx, .int .i64 F.sy] 33))
        go_upto_region 14 with (first | (refine fs_load (by rfl) _ rfl bs rfl XR.out ?_))
        generalize wr.alloc (.cells #[.int .i64 F.w, .slice A F.xs.length c, .slice T F.nt d, .int .i64 F.sx, .int .i64 F.sy] 33) = wg at GR BG ⊢
        generalize wr.heap.size = bg at GR hbg hx8 ⊢
        clear XR BR hw1
        go_wp2_with fail
        go_loopw [10] (fun i wr => ∃ j : Nat, j ≤ n ∧ i = .int .i64 j ∧ Box wr bg 33 (wcs (withF F L (min j m)) A c T d) ∧ Below w8.heap.size w8 wr) (fun i _ => n - (intOf i).toNat)
        case atStart => exact ⟨0, by omega, rfl, GR.out, BG.out⟩
        case round =>
          obtain ⟨j, hj, rfl, hgb, hb⟩ := hrel
          have GW := Lib.hid hgb
          have BW := Lib.hid hb
          clear hgb hb GR BG
          have HCA : Hid (∀ wx, Below wr.heap.size wr wx → wx.cell? ⟨pc, oc + k, none⟩ = some (.int .i64 (an : Int))) := Lib.hid fun wx hb => HA0.out wx (below_then BW.out hb)
          have HKN := Lib.hid hkNn
          by_cases hjn : j < n
          · have hjn' : (j : Int) < n := by omega
            have HJN := Lib.hid hjn'
            obtain ⟨p, o, rfl, _, _, hcz⟩ := (L8.out.below BW.out).at_ (by omega)
            clear hcz
            have HCJ : Hid (∀ wx, Below wr.heap.size wr wx → wx.cell? ⟨p, o + j * 3, none⟩ = some (.int .i64 (cC L j))) := Lib.hid fun wx hb => (chg_cell (L8.out.below (below_then BW.out hb)) hjn).1
            have HC1 : Hid (∀ wx, Below wr.heap.size wr wx → wx.cell? ⟨p, o + j * 3 + 1, none⟩ = some (.int .i64 (cX L j))) := Lib.hid fun wx hb => (chg_cell (L8.out.below (below_then BW.out hb)) hjn).2.1
            have HC2 : Hid (∀ wx, Below wr.heap.size wr wx → wx.cell? ⟨p, o + j * 3 + 2, none⟩ = some (.int .i64 (cY L j))) := Lib.hid fun wx hb => (chg_cell (L8.out.below (below_then BW.out hb)) hjn).2.2
            have hmw := min_with (F := F) (L := L) (m := m) hjn
            have hpbg : p ≠ bg := by have := (L8.out.lt p (by obtain ⟨p', o', he, hf, _, _⟩ := L8.out.at_ (by omega); injection he with he; injection he with e1 e2 _; subst e1; rw [hf]; simp)); omega
            by_cases hjm : j < m
            · have HLE := Lib.hid (HCH.out.1 j hjm)
              have HG2 : Hid (wcs (withF F L (min (j + 1) m)) A c T d = fcs F.w A F.xs.length c T F.nt d (cX L j) (cY L j)) := Lib.hid (by rw [hmw.1 hjm])
              have hs1 := with_same F L (min j m)
              have HSM : Hid (wcs (withF F L (min j m)) A c T d = fcs F.w A F.xs.length c T F.nt d (withF F L (min j m)).sx (withF F L (min j m)).sy) := Lib.hid (by show fcs _ _ _ _ _ _ _ _ _ = _; rw [hs1.1, hs1.2.1, hs1.2.2.1])
              generalize cC L j = cj at HCJ HLE
              generalize cX L j = cx at HC1 HG2
              generalize cY L j = cy at HC2 HG2
              clear hmw hs1
              go_upto_region 17 with fail
              refine wp_region_typed (ClB wr) RlB (Ty [TV (.slice (some ⟨p, o, none⟩) n c'), TV (.int .i64 (j : Int)), TV (.pointer (some ⟨p, o + j * 3, none⟩)), TV (.pointer (some ⟨p, o + j * 3, none⟩)), TV (.int .i64 cj), TV (.slice (some ⟨pc, oc, none⟩) N dc), TV (.int .i64 (k : Int)), TV (.pointer (some ⟨pc, oc + k, none⟩)), TV (.int .i64 (an : Int)), TV (.bool true)])
                (by kernel_rfl) (by kernel_rfl) (stab_ty _ ⟨stabB_k _, stabB_k _, stabB_k _, stabB_k _, stabB_k _, stabB_k _, stabB_k _, stabB_k _, stabB_k _, stabB_k _, trivial⟩) (Below.refl _ _).drew ?_ ?_
              · refine ⟨?_, ?_, ?_, ?_, ?_, ?_, ?_, ?_, ?_, ?_, trivial⟩
                · exact lb_move (.tmp 5) (.inl rfl) (fun _ _ _ => want_none rfl) fun ρ wx hc hx hp => hx 5 rfl
                · exact lb_move (.tmp 10) (.inl rfl) (fun _ _ _ => want_none rfl) fun ρ wx hc hx hp => hx 10 rfl
                · refine lb_val (.pointer (some ⟨p, o + j * 3, none⟩)) (fun _ _ _ => want_none rfl) fun ρ wx hb hc hx hp => ⟨?_, rfl⟩
                  have h60 : ρ (.tmp 60) = .slice (some ⟨p, o, none⟩) n c' := hp.1 rfl
                  have h61 : ρ (.tmp 61) = .int .i64 (j : Int) := hp.2.1 rfl
                  have h0 := HJN.out
                  unfold execOp
                  simp only [h60, h61]
                  clear h60 h61 hx hp hc hb
                  go_simp
                · refine lb_val (.pointer (some ⟨p, o + j * 3, none⟩)) (fun _ _ _ => want_none rfl) fun ρ wx hb hc hx hp => ⟨?_, rfl⟩
                  have h62 : ρ (.tmp 62) = .pointer (some ⟨p, o + j * 3, none⟩) := hp.1 rfl
                  unfold execOp
                  simp only [h62]
                  clear h62 hx hp hc hb
                  go_simp
                · refine lb_val (.int .i64 cj) (fun _ _ _ => want_none rfl) fun ρ wx hb hc hx hp => ⟨?_, rfl⟩
                  have h63 : ρ (.tmp 63) = .pointer (some ⟨p, o + j * 3, none⟩) := hp.1 rfl
                  have c1 := HCJ.out wx hb
                  unfold execOp
                  simp only [h63]
                  clear h63 hx hp hc hb
                  go_simp
                · exact lb_move (.tmp 7) (.inl rfl) (fun _ _ _ => want_none rfl) fun ρ wx hc hx hp => hx 7 rfl
                · exact lb_move (.tmp 8) (.inl rfl) (fun _ _ _ => want_none rfl) fun ρ wx hc hx hp => hx 8 rfl
                · refine lb_val (.pointer (some ⟨pc, oc + k, none⟩)) (fun _ _ _ => want_none rfl) fun ρ wx hb hc hx hp => ⟨?_, rfl⟩
                  have h65 : ρ (.tmp 65) = .slice (some ⟨pc, oc, none⟩) N dc := hp.1 rfl
                  have h66 : ρ (.tmp 66) = .int .i64 (k : Int) := hp.2.1 rfl
                  have h0 := HKN.out
                  unfold execOp
                  simp only [h65, h66]
                  clear h65 h66 hx hp hc hb
                  go_simp
                · refine lb_val (.int .i64 (an : Int)) (fun _ _ _ => want_none rfl) fun ρ wx hb hc hx hp => ⟨?_, rfl⟩
                  have h67 : ρ (.tmp 67) = .pointer (some ⟨pc, oc + k, none⟩) := hp.1 rfl
                  have c1 := HCA.out wx hb
                  unfold execOp
                  simp only [h67]
                  clear h67 hx hp hc hb
                  go_simp
                · refine lb_val (.bool true) (fun _ _ _ => want_none rfl) fun ρ wx hb hc hx hp => ⟨?_, rfl⟩
                  have h64 : ρ (.tmp 64) = .int .i64 cj := hp.1 rfl
                  have h68 : ρ (.tmp 68) = .int .i64 (an : Int) := hp.2.1 rfl
                  have h0 := HLE.out
                  unfold execOp
                  simp only [h64, h68]
                  clear h64 h68 hx hp hc hb
                  go_simp
              intro vs wx hI hF
              obtain ⟨-, -, -, -, -, -, -, -, -, h9, -⟩ := hF
              replace h9 : vs 9 = .bool true := h9
              have bl : Below wr.heap.size wr wx := hI
              simp only [putAll, Act.put, List.setIfInBounds_toArray, List.set_cons_zero, List.set_cons_succ, h9]
              clear hI h9
              have BX := Lib.hid (below_then BW.out bl)
              have GX0 := Lib.hid (GW.out.below bl)
              have GX : Hid (Box wx bg 33 (fcs F.w A F.xs.length c T F.nt d (withF F L (min j m)).sx (withF F L (min j m)).sy)) := Lib.hid (by rw [← HSM.out]; exact GX0.out)
              have c1 := HC1.out wx bl
              have c2' := HC2.out wx bl
              clear bl GX0
              generalize (withF F L (min j m)).sx = o1 at GX
              generalize (withF F L (min j m)).sy = o2 at GX
              have e3 : wx.cell? ⟨bg, 3, none⟩ = some (.int .i64 o1) := GX.out.cell 3
              have g3 := GX.out.frozen 3
              have e4 : (wx.setCell ⟨bg, 3, none⟩ (.int .i64 cx)).cell? ⟨bg, 4, none⟩ = some (.int .i64 o2) := (GX.out.set 3 (.int .i64 cx)).cell 4
              have g4 := GX.out.frozen 4
              have c2 : (wx.setCell ⟨bg, 3, none⟩ (.int .i64 cx)).cell? ⟨p, o + j * 3 + 2, none⟩ = some (.int .i64 cy) := by
                rw [World.cell?_setCell_other _ _ _ _ (by intro e; injection e with e1; exact hpbg e1.symm)]
                exact c2'
              have GY : Hid (Box ((wx.setCell ⟨bg, 3, none⟩ (.int .i64 cx)).setCell ⟨bg, 4, none⟩ (.int .i64 cy)) bg 33 (wcs (withF F L (min (j + 1) m)) A c T d)) := Lib.hid (by rw [HG2.out]; exact (GX.out.set 3 (.int .i64 cx)).set 4 (.int .i64 cy))
              have BY := Lib.hid ((BX.out.setCell (p := ⟨bg, 3, none⟩) (by exact hbg) (.int .i64 cx)).setCell (p := ⟨bg, 4, none⟩) (by exact hbg) (.int .i64 cy))
              clear c2' GX BX
              go_wp2_with fail
              go_roundw
              case rel => exact ⟨j + 1, by omega, by go_num, GY.out, BY.out⟩
              case measure => simp [intOf]; omega
            · have HLE : Hid ((an : Int) < cC L j) := Lib.hid (HCH.out.2 j (by omega) hjn)
              have HG2 : Hid (withF F L (min (j + 1) m) = withF F L (min j m)) := Lib.hid (hmw.2 (by omega))
              generalize cC L j = cj at HCJ HLE
              clear hmw
              go_upto_region 17 with fail
              refine wp_region_typed (ClB wr) RlB (Ty [TV (.slice (some ⟨p, o, none⟩) n c'), TV (.int .i64 (j : Int)), TV (.pointer (some ⟨p, o + j * 3, none⟩)), TV (.pointer (some ⟨p, o + j * 3, none⟩)), TV (.int .i64 cj), TV (.slice (some ⟨pc, oc, none⟩) N dc), TV (.int .i64 (k : Int)), TV (.pointer (some ⟨pc, oc + k, none⟩)), TV (.int .i64 (an : Int)), TV (.bool false)])
                (by kernel_rfl) (by kernel_rfl) (stab_ty _ ⟨stabB_k _, stabB_k _, stabB_k _, stabB_k _, stabB_k _, stabB_k _, stabB_k _, stabB_k _, stabB_k _, stabB_k _, trivial⟩) (Below.refl _ _).drew ?_ ?_
              · refine ⟨?_, ?_, ?_, ?_, ?_, ?_, ?_, ?_, ?_, ?_, trivial⟩
                · exact lb_move (.tmp 5) (.inl rfl) (fun _ _ _ => want_none rfl) fun ρ wx hc hx hp => hx 5 rfl
                · exact lb_move (.tmp 10) (.inl rfl) (fun _ _ _ => want_none rfl) fun ρ wx hc hx hp => hx 10 rfl
                · refine lb_val (.pointer (some ⟨p, o + j * 3, none⟩)) (fun _ _ _ => want_none rfl) fun ρ wx hb hc hx hp => ⟨?_, rfl⟩
                  have h60 : ρ (.tmp 60) = .slice (some ⟨p, o, none⟩) n c' := hp.1 rfl
                  have h61 : ρ (.tmp 61) = .int .i64 (j : Int) := hp.2.1 rfl
                  have h0 := HJN.out
                  unfold execOp
                  simp only [h60, h61]
                  clear h60 h61 hx hp hc hb
                  go_simp
                · refine lb_val (.pointer (some ⟨p, o + j * 3, none⟩)) (fun _ _ _ => want_none rfl) fun ρ wx hb hc hx hp => ⟨?_, rfl⟩
                  have h62 : ρ (.tmp 62) = .pointer (some ⟨p, o + j * 3, none⟩) := hp.1 rfl
                  unfold execOp
                  simp only [h62]
                  clear h62 hx hp hc hb
                  go_simp
                · refine lb_val (.int .i64 cj) (fun _ _ _ => want_none rfl) fun ρ wx hb hc hx hp => ⟨?_, rfl⟩
                  have h63 : ρ (.tmp 63) = .pointer (some ⟨p, o + j * 3, none⟩) := hp.1 rfl
                  have c1 := HCJ.out wx hb
                  unfold execOp
                  simp only [h63]
                  clear h63 hx hp hc hb
                  go_simp
                · exact lb_move (.tmp 7) (.inl rfl) (fun _ _ _ => want_none rfl) fun ρ wx hc hx hp => hx 7 rfl
                · exact lb_move (.tmp 8) (.inl rfl) (fun _ _ _ => want_none rfl) fun ρ wx hc hx hp => hx 8 rfl
                · refine lb_val (.pointer (some ⟨pc, oc + k, none⟩)) (fun _ _ _ => want_none rfl) fun ρ wx hb hc hx hp => ⟨?_, rfl⟩
                  have h65 : ρ (.tmp 65) = .slice (some ⟨pc, oc, none⟩) N dc := hp.1 rfl
                  have h66 : ρ (.tmp 66) = .int .i64 (k : Int) := hp.2.1 rfl
                  have h0 := HKN.out
                  unfold execOp
                  simp only [h65, h66]
                  clear h65 h66 hx hp hc hb
                  go_simp
                · refine lb_val (.int .i64 (an : Int)) (fun _ _ _ => want_none rfl) fun ρ wx hb hc hx hp => ⟨?_, rfl⟩
                  have h67 : ρ (.tmp 67) = .pointer (some ⟨pc, oc + k, none⟩) := hp.1 rfl
                  have c1 := HCA.out wx hb
                  unfold execOp
                  simp only [h67]
                  clear h67 hx hp hc hb
                  go_simp
                · refine lb_val (.bool false) (fun _ _ _ => want_none rfl) fun ρ wx hb hc hx hp => ⟨?_, rfl⟩
                  have h64 : ρ (.tmp 64) = .int .i64 cj := hp.1 rfl
                  have h68 : ρ (.tmp 68) = .int .i64 (an : Int) := hp.2.1 rfl
                  have h0 := HLE.out
                  unfold execOp
                  simp only [h64, h68]
                  clear h64 h68 hx hp hc hb
                  go_simp
              intro vs wx hI hF
              obtain ⟨-, -, -, -, -, -, -, -, -, h9, -⟩ := hF
              replace h9 : vs 9 = .bool false := h9
              have bl : Below wr.heap.size wr wx := hI
              simp only [putAll, Act.put, List.setIfInBounds_toArray, List.set_cons_zero, List.set_cons_succ, h9]
              clear hI h9
              have BX := Lib.hid (below_then BW.out bl)
              have GX := Lib.hid (GW.out.below bl)
              clear bl
              go_wp2_with fail
              go_roundw
              case rel => exact ⟨j + 1, by omega, by go_num, by rw [HG2.out]; exact GX.out, BX.out⟩
              case measure => simp [intOf]; omega
          · obtain rfl : j = n := by omega
            have HMM : Hid (min j m = m) := Lib.hid (by omega)
            have GM : Hid (Box wr bg 33 (wcs (withF F L m) A c T d)) := Lib.hid (by have := GW.out; rwa [HMM.out] at this)
            have FW := Lib.hid (with_has (F8.out.below BW.out) L m)
            have HSG : Hid (FSmall (withF F L m)) := Lib.hid (by have h1 := with_same F L m; have h2 := HS.out; unfold FSmall at h2 ⊢; rw [h1.2.1, h1.2.2.1]; exact h2)
            clear GW HMM
            go_wp2_with (first | (refine fs_load (by rfl) _ rfl bg rfl GM.out ?_))
            refine (im_fieldLine (withF F L m) A c T d fa ft y _ FW.out HSG.out).mono ?_
            rw [HGT.out m hmn, lineF_len]
            rintro e w9 ⟨R2, r2, l2, rfl, hr2, hi2, _, bl⟩
            have J9 := Lib.hid hi2
            have BX0 := Lib.hid (below_then BW.out bl)
            have I9 := Lib.hid (I8.out.below BX0.out)
            obtain ⟨ph, oh, rfl, _, _, _⟩ := hi2.at_ (by omega)
            have HP1 : Hid (∀ wx, Below w9.heap.size w9 wx → ∃ f1, Ints wx (some ⟨pl, ol + an, none⟩) (bn - an) (((bmL F L j y).drop an).take (bn - an)) f1) := Lib.hid fun wx hb => part_ints (I9.out.below hb) hab hb32 (by omega)
            have HP2 : Hid (∀ wx, Below w9.heap.size w9 wx → ∃ f2, Ints wx (some ⟨ph, oh + an, none⟩) (bn - an) (((bmL F L j y).drop an).take (bn - an)) f2) := Lib.hid fun wx hb => by
              rw [HPS.out]
              exact part_ints (J9.out.below hb) hab hb32 (by omega)
            generalize ((bmL F L j y).drop an).take (bn - an) = Z at HP1 HP2
            have HCA : Hid (∀ wx, Below w9.heap.size w9 wx → wx.cell? ⟨pc, oc + k, none⟩ = some (.int .i64 (an : Int))) := Lib.hid fun wx hb => HA0.out wx (below_then BX0.out hb)
            have HCB : Hid (∀ wx, Below w9.heap.size w9 wx → wx.cell? ⟨pc, oc + (k + 1), none⟩ = some (.int .i64 (bn : Int))) := Lib.hid fun wx hb => HB0.out wx (below_then BX0.out hb)
            have HK1N := Lib.hid hk1N
            have HW1 : Hid (IntKind.i64.wrap ((k : Int) + 1) = ((k + 1 : Nat) : Int)) := Lib.hid (by rw [IntKind.wrap_i64]; omega)
            have HAB : Hid ((an : Int) ≤ (bn : Int)) := Lib.hid (by omega)
            have HAB1 : Hid ((bn : Int) ≤ (r : Int)) := Lib.hid (by omega)
            have HAB2 : Hid ((bn : Int) ≤ (r2 : Int)) := Lib.hid (by omega)
            have HAB3 : Hid (0 ≤ (an : Int)) := Lib.hid (by omega)
            have HAB4 : Hid (0 ≤ (bn : Int)) := Lib.hid (by omega)
            have HAB5 : Hid ((bn : Int) ≤ 32) := Lib.hid (by omega)
            have HNE1 : Hid (¬ r = an) := Lib.hid (by omega)
            have HNE2 : Hid (¬ r2 = an) := Lib.hid (by omega)
            clear hi2 bl GM FW HSG J9 I9 BW
            go_upto_region 21 with fail
            refine wp_region_typed (ClB w9) RlB (Ty [TV (.slice (some ⟨pc, oc, none⟩) N dc), TV (.int .i64 (k : Int)), TV (.int .i64 ((k + 1 : Nat) : Int)), TV (.pointer (some ⟨pc, oc + (k + 1), none⟩)), TV (.int .i64 (bn : Int)), TV (.slice (some ⟨pc, oc, none⟩) N dc), TV (.int .i64 (k : Int)), TV (.pointer (some ⟨pc, oc + k, none⟩)), TV (.int .i64 (an : Int)), TV (.bool false), TV (.bool false), TV (.slice (some ⟨pc, oc, none⟩) N dc), TV (.int .i64 (k : Int)), TV (.int .i64 ((k + 1 : Nat) : Int)), TV (.pointer (some ⟨pc, oc + (k + 1), none⟩)), TV (.int .i64 (bn : Int)), TV (.slice (some ⟨pl, ol, none⟩) 32 r), TV (.int .i64 32), TV (.bool false), TV (.bool false), TV (.bool false), TV (.slice (some ⟨ph, oh, none⟩) 32 r2), TV (.int .i64 32), TV (.slice (some ⟨pl, ol, none⟩) 32 r), TV (.int .i64 32), TV (.bool false), TV (.bool false), TV (.bool false), TV (.slice (some ⟨pl, ol, none⟩) 32 r), TV (.slice (some ⟨pc, oc, none⟩) N dc), TV (.int .i64 (k : Int)), TV (.pointer (some ⟨pc, oc + k, none⟩)), TV (.int .i64 (an : Int)), TV (.slice (some ⟨pc, oc, none⟩) N dc), TV (.int .i64 (k : Int)), TV (.int .i64 ((k + 1 : Nat) : Int)), TV (.pointer (some ⟨pc, oc + (k + 1), none⟩)), TV (.int .i64 (bn : Int)), TV (.slice (some ⟨pl, ol + an, none⟩) (bn - an) (r - an)), TV (.slice (some ⟨ph, oh, none⟩) 32 r2), TV (.slice (some ⟨pc, oc, none⟩) N dc), TV (.int .i64 (k : Int)), TV (.pointer (some ⟨pc, oc + k, none⟩)), TV (.int .i64 (an : Int)), TV (.slice (some ⟨pc, oc, none⟩) N dc), TV (.int .i64 (k : Int)), TV (.int .i64 ((k + 1 : Nat) : Int)), TV (.pointer (some ⟨pc, oc + (k + 1), none⟩)), TV (.int .i64 (bn : Int)), TV (.slice (some ⟨ph, oh + an, none⟩) (bn - an) (r2 - an)), TV (.bool true), TV (.bool false), TV (.bool false)])
              (by kernel_rfl) (by kernel_rfl) (stab_ty _ ⟨stabB_k _, stabB_k _, stabB_k _, stabB_k _, stabB_k _, stabB_k _, stabB_k _, stabB_k _, stabB_k _, stabB_k _, stabB_k _, stabB_k _, stabB_k _, stabB_k _, stabB_k _, stabB_k _, stabB_k _, stabB_k _, stabB_k _, stabB_k _, stabB_k _, stabB_k _, stabB_k _, stabB_k _, stabB_k _, stabB_k _, stabB_k _, stabB_k _, stabB_k _, stabB_k _, stabB_k _, stabB_k _, stabB_k _, stabB_k _, stabB_k _, stabB_k _, stabB_k _, stabB_k _, stabB_k _, stabB_k _, stabB_k _, stabB_k _, stabB_k _, stabB_k _, stabB_k _, stabB_k _, stabB_k _, stabB_k _, stabB_k _, stabB_k _, stabB_k _, stabB_k _, stabB_k _, trivial⟩) (Below.refl _ _).drew ?_ ?_
            · refine ⟨?_, ?_, ?_, ?_, ?_, ?_, ?_, ?_, ?_, ?_, ?_, ?_, ?_, ?_, ?_, ?_, ?_, ?_, ?_, ?_, ?_, ?_, ?_, ?_, ?_, ?_, ?_, ?_, ?_, ?_, ?_, ?_, ?_, ?_, ?_, ?_, ?_, ?_, ?_, ?_, ?_, ?_, ?_, ?_, ?_, ?_, ?_, ?_, ?_, ?_, ?_, ?_, ?_, trivial⟩
              · exact lb_move (.tmp 7) (.inl rfl) (fun _ _ _ => want_none rfl) fun ρ wx hc hx hp => hx 7 rfl
              · exact lb_move (.tmp 8) (.inl rfl) (fun _ _ _ => want_none rfl) fun ρ wx hc hx hp => hx 8 rfl
              · refine lb_val (.int .i64 ((k + 1 : Nat) : Int)) (fun _ _ _ => want_none rfl) fun ρ wx hb hc hx hp => ⟨?_, rfl⟩
                have h86 : ρ (.tmp 86) = .int .i64 (k : Int) := hp.1 rfl
                have hk0 := hc (.int .i64 1)
                have h0 := HW1.out
                unfold execOp
                simp only [h86, hk0]
                clear h86 hk0 hx hp hc hb
                go_simp
              · refine lb_val (.pointer (some ⟨pc, oc + (k + 1), none⟩)) (fun _ _ _ => want_none rfl) fun ρ wx hb hc hx hp => ⟨?_, rfl⟩
                have h85 : ρ (.tmp 85) = .slice (some ⟨pc, oc, none⟩) N dc := hp.1 rfl
                have h87 : ρ (.tmp 87) = .int .i64 ((k + 1 : Nat) : Int) := hp.2.1 rfl
                have h0 := HK1N.out
                have h00 : 0 ≤ (k : Int) + 1 := by omega
                unfold execOp
                simp only [h85, h87]
                clear h85 h87 hx hp hc hb
                go_simp
              · refine lb_val (.int .i64 (bn : Int)) (fun _ _ _ => want_none rfl) fun ρ wx hb hc hx hp => ⟨?_, rfl⟩
                have h88 : ρ (.tmp 88) = .pointer (some ⟨pc, oc + (k + 1), none⟩) := hp.1 rfl
                have c1 := HCB.out wx hb
                unfold execOp
                simp only [h88]
                clear h88 hx hp hc hb
                go_simp
              · exact lb_move (.tmp 7) (.inl rfl) (fun _ _ _ => want_none rfl) fun ρ wx hc hx hp => hx 7 rfl
              · exact lb_move (.tmp 8) (.inl rfl) (fun _ _ _ => want_none rfl) fun ρ wx hc hx hp => hx 8 rfl
              · refine lb_val (.pointer (some ⟨pc, oc + k, none⟩)) (fun _ _ _ => want_none rfl) fun ρ wx hb hc hx hp => ⟨?_, rfl⟩
                have h90 : ρ (.tmp 90) = .slice (some ⟨pc, oc, none⟩) N dc := hp.1 rfl
                have h91 : ρ (.tmp 91) = .int .i64 (k : Int) := hp.2.1 rfl
                have h0 := HKN.out
                unfold execOp
                simp only [h90, h91]
                clear h90 h91 hx hp hc hb
                go_simp
              · refine lb_val (.int .i64 (an : Int)) (fun _ _ _ => want_none rfl) fun ρ wx hb hc hx hp => ⟨?_, rfl⟩
                have h92 : ρ (.tmp 92) = .pointer (some ⟨pc, oc + k, none⟩) := hp.1 rfl
                have c1 := HCA.out wx hb
                unfold execOp
                simp only [h92]
                clear h92 hx hp hc hb
                go_simp
              · refine lb_val (.bool false) (fun _ _ _ => want_none rfl) fun ρ wx hb hc hx hp => ⟨?_, rfl⟩
                have h89 : ρ (.tmp 89) = .int .i64 (bn : Int) := hp.1 rfl
                have h93 : ρ (.tmp 93) = .int .i64 (an : Int) := hp.2.1 rfl
                have h0 := HAB.out
                unfold execOp
                simp only [h89, h93]
                clear h89 h93 hx hp hc hb
                go_simp
              · exact lb_move (.tmp 94) (.inl rfl) (fun _ _ _ => want_none rfl) fun ρ wx hc hx hp => hp.1 rfl
              · exact lb_move (.tmp 7) (.inl rfl) (fun ρ wx hp => want_of 10 false 95 rfl rfl (hp.1 rfl)) fun ρ wx hc hx hp => hx 7 rfl
              · exact lb_move (.tmp 8) (.inl rfl) (fun ρ wx hp => want_of 10 false 95 rfl rfl (hp.1 rfl)) fun ρ wx hc hx hp => hx 8 rfl
              · refine lb_val (.int .i64 ((k + 1 : Nat) : Int)) (fun ρ wx hp => want_of 10 false 95 rfl rfl (hp.2.1 rfl)) fun ρ wx hb hc hx hp => ⟨?_, rfl⟩
                have h97 : ρ (.tmp 97) = .int .i64 (k : Int) := hp.1 rfl
                have hk0 := hc (.int .i64 1)
                have h0 := HW1.out
                unfold execOp
                simp only [h97, hk0]
                clear h97 hk0 hx hp hc hb
                go_simp
              · refine lb_val (.pointer (some ⟨pc, oc + (k + 1), none⟩)) (fun ρ wx hp => want_of 10 false 95 rfl rfl (hp.2.2.1 rfl)) fun ρ wx hb hc hx hp => ⟨?_, rfl⟩
                have h96 : ρ (.tmp 96) = .slice (some ⟨pc, oc, none⟩) N dc := hp.1 rfl
                have h98 : ρ (.tmp 98) = .int .i64 ((k + 1 : Nat) : Int) := hp.2.1 rfl
                have h0 := HK1N.out
                have h00 : 0 ≤ (k : Int) + 1 := by omega
                unfold execOp
                simp only [h96, h98]
                clear h96 h98 hx hp hc hb
                go_simp
              · refine lb_val (.int .i64 (bn : Int)) (fun ρ wx hp => want_of 10 false 95 rfl rfl (hp.2.1 rfl)) fun ρ wx hb hc hx hp => ⟨?_, rfl⟩
                have h99 : ρ (.tmp 99) = .pointer (some ⟨pc, oc + (k + 1), none⟩) := hp.1 rfl
                have c1 := HCB.out wx hb
                unfold execOp
                simp only [h99]
                clear h99 hx hp hc hb
                go_simp
              · exact lb_move (.tmp 6) (.inl rfl) (fun ρ wx hp => want_of 10 false 95 rfl rfl (hp.1 rfl)) fun ρ wx hc hx hp => hx 6 rfl
              · refine lb_val (.int .i64 32) (fun ρ wx hp => want_of 10 false 95 rfl rfl (hp.2.1 rfl)) fun ρ wx hb hc hx hp => ⟨?_, rfl⟩
                have h101 : ρ (.tmp 101) = .slice (some ⟨pl, ol, none⟩) 32 r := hp.1 rfl
                unfold execOp
                clear hx hp hc hb
                go_simp
              · refine lb_val (.bool false) (fun ρ wx hp => want_of 10 false 95 rfl rfl (hp.2.2.1 rfl)) fun ρ wx hb hc hx hp => ⟨?_, rfl⟩
                have h100 : ρ (.tmp 100) = .int .i64 (bn : Int) := hp.1 rfl
                have h102 : ρ (.tmp 102) = .int .i64 32 := hp.2.1 rfl
                have h0 := HAB5.out
                unfold execOp
                simp only [h100, h102]
                clear h100 h102 hx hp hc hb
                go_simp
              · exact lb_pick (.tmp 95) (.const (.bool true)) (.tmp 103) rfl false (fun _ _ _ => want_none rfl) fun ρ wx hc hp => ⟨hp.1 rfl, hp.2.1 rfl⟩
              · exact lb_move (.tmp 104) (.inl rfl) (fun _ _ _ => want_none rfl) fun ρ wx hc hx hp => hp.1 rfl
              · exact lb_move (.tmp 11) (.inl rfl) (fun ρ wx hp => want_of 20 false 105 rfl rfl (hp.1 rfl)) fun ρ wx hc hx hp => hx 11 rfl
              · refine lb_val (.int .i64 32) (fun ρ wx hp => want_of 20 false 105 rfl rfl (hp.2.1 rfl)) fun ρ wx hb hc hx hp => ⟨?_, rfl⟩
                have h106 : ρ (.tmp 106) = .slice (some ⟨ph, oh, none⟩) 32 r2 := hp.1 rfl
                unfold execOp
                clear hx hp hc hb
                go_simp
              · exact lb_move (.tmp 6) (.inl rfl) (fun ρ wx hp => want_of 20 false 105 rfl rfl (hp.1 rfl)) fun ρ wx hc hx hp => hx 6 rfl
              · refine lb_val (.int .i64 32) (fun ρ wx hp => want_of 20 false 105 rfl rfl (hp.2.1 rfl)) fun ρ wx hb hc hx hp => ⟨?_, rfl⟩
                have h108 : ρ (.tmp 108) = .slice (some ⟨pl, ol, none⟩) 32 r := hp.1 rfl
                unfold execOp
                clear hx hp hc hb
                go_simp
              · refine lb_val (.bool false) (fun ρ wx hp => want_of 20 false 105 rfl rfl (hp.2.2.1 rfl)) fun ρ wx hb hc hx hp => ⟨?_, rfl⟩
                have h107 : ρ (.tmp 107) = .int .i64 32 := hp.1 rfl
                have h109 : ρ (.tmp 109) = .int .i64 32 := hp.2.1 rfl
                unfold execOp
                simp only [h107, h109]
                clear h107 h109 hx hp hc hb
                go_simp
              · exact lb_pick (.tmp 105) (.const (.bool true)) (.tmp 110) rfl false (fun _ _ _ => want_none rfl) fun ρ wx hc hp => ⟨hp.1 rfl, hp.2.1 rfl⟩
              · exact lb_move (.tmp 111) (.inl rfl) (fun _ _ _ => want_none rfl) fun ρ wx hc hx hp => hp.1 rfl
              · exact lb_move (.tmp 6) (.inl rfl) (fun ρ wx hp => want_of 27 false 112 rfl rfl (hp.1 rfl)) fun ρ wx hc hx hp => hx 6 rfl
              · exact lb_move (.tmp 7) (.inl rfl) (fun ρ wx hp => want_of 27 false 112 rfl rfl (hp.1 rfl)) fun ρ wx hc hx hp => hx 7 rfl
              · exact lb_move (.tmp 8) (.inl rfl) (fun ρ wx hp => want_of 27 false 112 rfl rfl (hp.1 rfl)) fun ρ wx hc hx hp => hx 8 rfl
              · refine lb_val (.pointer (some ⟨pc, oc + k, none⟩)) (fun ρ wx hp => want_of 27 false 112 rfl rfl (hp.2.2.1 rfl)) fun ρ wx hb hc hx hp => ⟨?_, rfl⟩
                have h114 : ρ (.tmp 114) = .slice (some ⟨pc, oc, none⟩) N dc := hp.1 rfl
                have h115 : ρ (.tmp 115) = .int .i64 (k : Int) := hp.2.1 rfl
                have h0 := HKN.out
                unfold execOp
                simp only [h114, h115]
                clear h114 h115 hx hp hc hb
                go_simp
              · refine lb_val (.int .i64 (an : Int)) (fun ρ wx hp => want_of 27 false 112 rfl rfl (hp.2.1 rfl)) fun ρ wx hb hc hx hp => ⟨?_, rfl⟩
                have h116 : ρ (.tmp 116) = .pointer (some ⟨pc, oc + k, none⟩) := hp.1 rfl
                have c1 := HCA.out wx hb
                unfold execOp
                simp only [h116]
                clear h116 hx hp hc hb
                go_simp
              · exact lb_move (.tmp 7) (.inl rfl) (fun ρ wx hp => want_of 27 false 112 rfl rfl (hp.1 rfl)) fun ρ wx hc hx hp => hx 7 rfl
              · exact lb_move (.tmp 8) (.inl rfl) (fun ρ wx hp => want_of 27 false 112 rfl rfl (hp.1 rfl)) fun ρ wx hc hx hp => hx 8 rfl
              · refine lb_val (.int .i64 ((k + 1 : Nat) : Int)) (fun ρ wx hp => want_of 27 false 112 rfl rfl (hp.2.1 rfl)) fun ρ wx hb hc hx hp => ⟨?_, rfl⟩
                have h119 : ρ (.tmp 119) = .int .i64 (k : Int) := hp.1 rfl
                have hk0 := hc (.int .i64 1)
                have h0 := HW1.out
                unfold execOp
                simp only [h119, hk0]
                clear h119 hk0 hx hp hc hb
                go_simp
              · refine lb_val (.pointer (some ⟨pc, oc + (k + 1), none⟩)) (fun ρ wx hp => want_of 27 false 112 rfl rfl (hp.2.2.1 rfl)) fun ρ wx hb hc hx hp => ⟨?_, rfl⟩
                have h118 : ρ (.tmp 118) = .slice (some ⟨pc, oc, none⟩) N dc := hp.1 rfl
                have h120 : ρ (.tmp 120) = .int .i64 ((k + 1 : Nat) : Int) := hp.2.1 rfl
                have h0 := HK1N.out
                have h00 : 0 ≤ (k : Int) + 1 := by omega
                unfold execOp
                simp only [h118, h120]
                clear h118 h120 hx hp hc hb
                go_simp
              · refine lb_val (.int .i64 (bn : Int)) (fun ρ wx hp => want_of 27 false 112 rfl rfl (hp.2.1 rfl)) fun ρ wx hb hc hx hp => ⟨?_, rfl⟩
                have h121 : ρ (.tmp 121) = .pointer (some ⟨pc, oc + (k + 1), none⟩) := hp.1 rfl
                have c1 := HCB.out wx hb
                unfold execOp
                simp only [h121]
                clear h121 hx hp hc hb
                go_simp
              · refine lb_val (.slice (some ⟨pl, ol + an, none⟩) (bn - an) (r - an)) (fun ρ wx hp => want_of 27 false 112 rfl rfl (hp.2.2.2.1 rfl)) fun ρ wx hb hc hx hp => ⟨?_, rfl⟩
                have h113 : ρ (.tmp 113) = .slice (some ⟨pl, ol, none⟩) 32 r := hp.1 rfl
                have h117 : ρ (.tmp 117) = .int .i64 (an : Int) := hp.2.1 rfl
                have h122 : ρ (.tmp 122) = .int .i64 (bn : Int) := hp.2.2.1 rfl
                have h0 := HAB.out
                have h1 := HAB1.out
                have h2 := HAB2.out
                have h3 := HAB3.out
                have h4 := HAB4.out
                have h5 := HAB5.out
                have h6 := HNE1.out
                unfold execOp
                simp only [h113, h117, h122, Option.map_some, Option.map_none]
                clear h113 h117 h122 hx hp hc hb
                go_simp
              · exact lb_move (.tmp 11) (.inl rfl) (fun ρ wx hp => want_of 27 false 112 rfl rfl (hp.1 rfl)) fun ρ wx hc hx hp => hx 11 rfl
              · exact lb_move (.tmp 7) (.inl rfl) (fun ρ wx hp => want_of 27 false 112 rfl rfl (hp.1 rfl)) fun ρ wx hc hx hp => hx 7 rfl
              · exact lb_move (.tmp 8) (.inl rfl) (fun ρ wx hp => want_of 27 false 112 rfl rfl (hp.1 rfl)) fun ρ wx hc hx hp => hx 8 rfl
              · refine lb_val (.pointer (some ⟨pc, oc + k, none⟩)) (fun ρ wx hp => want_of 27 false 112 rfl rfl (hp.2.2.1 rfl)) fun ρ wx hb hc hx hp => ⟨?_, rfl⟩
                have h125 : ρ (.tmp 125) = .slice (some ⟨pc, oc, none⟩) N dc := hp.1 rfl
                have h126 : ρ (.tmp 126) = .int .i64 (k : Int) := hp.2.1 rfl
                have h0 := HKN.out
                unfold execOp
                simp only [h125, h126]
                clear h125 h126 hx hp hc hb
                go_simp
              · refine lb_val (.int .i64 (an : Int)) (fun ρ wx hp => want_of 27 false 112 rfl rfl (hp.2.1 rfl)) fun ρ wx hb hc hx hp => ⟨?_, rfl⟩
                have h127 : ρ (.tmp 127) = .pointer (some ⟨pc, oc + k, none⟩) := hp.1 rfl
                have c1 := HCA.out wx hb
                unfold execOp
                simp only [h127]
                clear h127 hx hp hc hb
                go_simp
              · exact lb_move (.tmp 7) (.inl rfl) (fun ρ wx hp => want_of 27 false 112 rfl rfl (hp.1 rfl)) fun ρ wx hc hx hp => hx 7 rfl
              · exact lb_move (.tmp 8) (.inl rfl) (fun ρ wx hp => want_of 27 false 112 rfl rfl (hp.1 rfl)) fun ρ wx hc hx hp => hx 8 rfl
              · refine lb_val (.int .i64 ((k + 1 : Nat) : Int)) (fun ρ wx hp => want_of 27 false 112 rfl rfl (hp.2.1 rfl)) fun ρ wx hb hc hx hp => ⟨?_, rfl⟩
                have h130 : ρ (.tmp 130) = .int .i64 (k : Int) := hp.1 rfl
                have hk0 := hc (.int .i64 1)
                have h0 := HW1.out
                unfold execOp
                simp only [h130, hk0]
                clear h130 hk0 hx hp hc hb
                go_simp
              · refine lb_val (.pointer (some ⟨pc, oc + (k + 1), none⟩)) (fun ρ wx hp => want_of 27 false 112 rfl rfl (hp.2.2.1 rfl)) fun ρ wx hb hc hx hp => ⟨?_, rfl⟩
                have h129 : ρ (.tmp 129) = .slice (some ⟨pc, oc, none⟩) N dc := hp.1 rfl
                have h131 : ρ (.tmp 131) = .int .i64 ((k + 1 : Nat) : Int) := hp.2.1 rfl
                have h0 := HK1N.out
                have h00 : 0 ≤ (k : Int) + 1 := by omega
                unfold execOp
                simp only [h129, h131]
                clear h129 h131 hx hp hc hb
                go_simp
              · refine lb_val (.int .i64 (bn : Int)) (fun ρ wx hp => want_of 27 false 112 rfl rfl (hp.2.1 rfl)) fun ρ wx hb hc hx hp => ⟨?_, rfl⟩
                have h132 : ρ (.tmp 132) = .pointer (some ⟨pc, oc + (k + 1), none⟩) := hp.1 rfl
                have c1 := HCB.out wx hb
                unfold execOp
                simp only [h132]
                clear h132 hx hp hc hb
                go_simp
              · refine lb_val (.slice (some ⟨ph, oh + an, none⟩) (bn - an) (r2 - an)) (fun ρ wx hp => want_of 27 false 112 rfl rfl (hp.2.2.2.1 rfl)) fun ρ wx hb hc hx hp => ⟨?_, rfl⟩
                have h124 : ρ (.tmp 124) = .slice (some ⟨ph, oh, none⟩) 32 r2 := hp.1 rfl
                have h128 : ρ (.tmp 128) = .int .i64 (an : Int) := hp.2.1 rfl
                have h133 : ρ (.tmp 133) = .int .i64 (bn : Int) := hp.2.2.1 rfl
                have h0 := HAB.out
                have h1 := HAB1.out
                have h2 := HAB2.out
                have h3 := HAB3.out
                have h4 := HAB4.out
                have h5 := HAB5.out
                have h6 := HNE2.out
                unfold execOp
                simp only [h124, h128, h133, Option.map_some, Option.map_none]
                clear h124 h128 h133 hx hp hc hb
                go_simp
              · refine lb_call _ _ _ (fun _ _ => by simp [go_sem]) rfl (fun ρ wx hp => want_of 27 false 112 rfl rfl (hp.2.2.1 rfl)) fun ρ wx hb hc hp => ?_
                have h0 : ρ (.tmp 123) = .slice (some ⟨pl, ol + an, none⟩) (bn - an) (r - an) := hp.1 rfl
                have h1 : ρ (.tmp 134) = .slice (some ⟨ph, oh + an, none⟩) (bn - an) (r2 - an) := hp.2.1 rfl
                obtain ⟨f1, hi1⟩ := HP1.out wx hb
                obtain ⟨f2, hi2⟩ := HP2.out wx hb
                refine ⟨_, by simp only [List.map_toArray, List.map_cons, List.map_nil, h0, h1], (same_ints _ _ (bn - an) (r - an) (r2 - an) Z f1 f2 wx hi1 hi2 (by have := HAB5.out; omega)).mono ?_⟩
                rintro e w' ⟨rfl, q, rfl⟩
                exact ⟨_, rfl, below_drewN (Below.refl _ _) _, rfl⟩
              · refine lb_val (.bool false) (fun ρ wx hp => want_of 27 false 112 rfl rfl (hp.2.1 rfl)) fun ρ wx hb hc hx hp => ⟨?_, rfl⟩
                have h135 : ρ (.tmp 135) = .bool true := hp.1 rfl
                unfold execOp
                simp only [h135]
                clear h135 hx hp hc hb
                go_simp
              · exact lb_pick (.tmp 112) (.const (.bool true)) (.tmp 136) rfl false (fun _ _ _ => want_none rfl) fun ρ wx hc hp => ⟨hp.1 rfl, hp.2.1 rfl⟩
            intro vs wx hI hF
            obtain ⟨-, -, -, -, -, -, -, -, -, -, -, -, -, -, -, -, -, -, -, -, -, -, -, -, -, -, -, -, -, -, -, -, -, -, -, -, -, -, -, -, -, -, -, -, -, -, -, -, -, -, -, -, h52, -⟩ := hF
            replace h52 : vs 52 = .bool false := h52
            have bl : Below w9.heap.size w9 wx := hI
            simp only [putAll, Act.put, List.setIfInBounds_toArray, List.set_cons_zero, List.set_cons_succ, h52]
            clear hI h52
            have BX := Lib.hid (below_then BX0.out bl)
            have hw1 := HW1.out
            clear bl
            go_wp2_with fail
            go_roundw
            case rel => exact ⟨k + 1, by omega, by go_num, BX.out⟩
            case measure => simp [intOf]; omega
      · obtain ⟨e, rfl⟩ : ∃ e, N = e := ⟨N, rfl⟩
        have hkE : ¬ (k : Int) + 1 < N := by omega
        have XE := Lib.hid (X8.out.below BR.out)
        have FE := Lib.hid (F8.out.below BR.out)
        have BE := Lib.hid (below_then B9.out BR.out)
        have bmNil : ∀ wx, FHas wx A T F fa ft → Calls Try.prog 15 #[fv F A c T d, .int .i64 y, .slice none 0 0] wx (Copied (lineT F y) (lineT F y).length wx) := fun wx hf => by
          have := im_bmLine F A c T d fa ft none 0 0 [] [] y wx hf (Ints.nil _ _) HS.out (by omega)
          rwa [bmT_nil] at this
        have hkd : decide (((k + 1 : Nat) : Int) < N) = false := decide_eq_false (by omega)
        go_upto_region 23 with fail
        refine wp_region_typed (ClB wr) RlB (Ty [TV (fv F A c T d), TV (.int .i64 y), TLin (lineF F y) 32, TV (fv F A c T d), TV (.int .i64 y), TLin (lineF F y) 32, TV (.bool true), TV (.bool true), TV (.slice (some ⟨pl, ol, none⟩) 32 r), TV (.int .i64 32), TV (.bool true), TV (.bool true), TV (.bool true)])
          (by kernel_rfl) (by kernel_rfl) (stab_ty _ ⟨stabB_k _, stabB_k _, stabB_lin _ _, stabB_k _, stabB_k _, stabB_lin _ _, stabB_k _, stabB_k _, stabB_k _, stabB_k _, stabB_k _, stabB_k _, stabB_k _, trivial⟩) (Below.refl _ _).drew ?_ ?_
        · refine ⟨?_, ?_, ?_, ?_, ?_, ?_, ?_, ?_, ?_, ?_, ?_, ?_, ?_, trivial⟩
          · exact lb_fld (.tmp 3) bs rfl XE.out (fun _ _ _ => want_none rfl) fun ρ wx hx hp => ⟨hx 3 rfl, rfl⟩
          · exact lb_move (.tmp 4) (.inl rfl) (fun _ _ _ => want_none rfl) fun ρ wx hc hx hp => hx 4 rfl
          · refine lb_call _ _ _ (fun _ _ => by simp [go_sem]) rfl (fun _ _ _ => want_none rfl) fun ρ wx hb hc hp => ?_
            have h0 : ρ (.tmp 138) = fv F A c T d := hp.1 rfl
            have h1 : ρ (.tmp 139) = .int .i64 y := hp.2.1 rfl
            have h2 := hc (.slice none 0 0)
            refine ⟨_, by simp only [List.map_toArray, List.map_cons, List.map_nil, h0, h1, h2], (bmNil wx (FE.out.below hb)).mono ?_⟩
            rw [HLT.out, lineF_len]
            rintro e w' ⟨R2, r2, l2, rfl, _, hi2, _, bl⟩
            exact ⟨_, rfl, bl, R2, r2, l2, rfl, hi2⟩
          · exact lb_fld (.tmp 3) bs rfl XE.out (fun _ _ _ => want_none rfl) fun ρ wx hx hp => ⟨hx 3 rfl, rfl⟩
          · exact lb_move (.tmp 4) (.inl rfl) (fun _ _ _ => want_none rfl) fun ρ wx hc hx hp => hx 4 rfl
          · refine lb_call _ _ _ (fun _ _ => by simp [go_sem]) rfl (fun _ _ _ => want_none rfl) fun ρ wx hb hc hp => ?_
            have h0 : ρ (.tmp 141) = fv F A c T d := hp.1 rfl
            have h1 : ρ (.tmp 142) = .int .i64 y := hp.2.1 rfl
            refine ⟨_, by simp only [List.map_toArray, List.map_cons, List.map_nil, h0, h1], (im_fieldLine F A c T d fa ft y wx (FE.out.below hb) HS.out).mono ?_⟩
            rw [HLT.out, lineF_len]
            rintro e w' ⟨R2, r2, l2, rfl, _, hi2, _, bl⟩
            exact ⟨_, rfl, bl, R2, r2, l2, rfl, hi2⟩
          · refine lb_call _ _ _ (fun _ _ => by simp [go_sem]) rfl (fun _ _ _ => want_none rfl) fun ρ wx hb hc hp => ?_
            obtain ⟨R2, r2, l2, h0, hi2⟩ : TLin (lineF F y) 32 (ρ (.tmp 140)) wx := hp.1 rfl
            obtain ⟨R3, r3, l3, h1, hi3⟩ : TLin (lineF F y) 32 (ρ (.tmp 143)) wx := hp.2.1 rfl
            refine ⟨_, by simp only [List.map_toArray, List.map_cons, List.map_nil, h0, h1], (same_ints R2 R3 32 r2 r3 (lineF F y) l2 l3 wx hi2 hi3 (by omega)).mono ?_⟩
            rintro e w' ⟨rfl, q, rfl⟩
            exact ⟨_, rfl, below_drewN (Below.refl _ _) _, rfl⟩
          · exact lb_move (.tmp 144) (.inl rfl) (fun _ _ _ => want_none rfl) fun ρ wx hc hx hp => hp.1 rfl
          · exact lb_move (.tmp 6) (.inl rfl) (fun ρ wx hp => want_of 7 true 145 rfl rfl (hp.1 rfl)) fun ρ wx hc hx hp => hx 6 rfl
          · refine lb_val (.int .i64 32) (fun ρ wx hp => want_of 7 true 145 rfl rfl (hp.2.1 rfl)) fun ρ wx hb hc hx hp => ⟨?_, rfl⟩
            have h146 : ρ (.tmp 146) = .slice (some ⟨pl, ol, none⟩) 32 r := hp.1 rfl
            unfold execOp
            clear hx hp hc hb
            go_simp
          · refine lb_val (.bool true) (fun ρ wx hp => want_of 7 true 145 rfl rfl (hp.2.1 rfl)) fun ρ wx hb hc hx hp => ⟨?_, rfl⟩
            have h147 : ρ (.tmp 147) = .int .i64 32 := hp.1 rfl
            have hk0 := hc (.int .i64 32)
            unfold execOp
            simp only [h147, hk0]
            clear h147 hk0 hx hp hc hb
            go_simp
          · exact lb_pick (.tmp 145) (.tmp 148) (.const (.bool false)) rfl true (fun _ _ _ => want_none rfl) fun ρ wx hc hp => ⟨hp.1 rfl, hp.2.1 rfl⟩
          · exact lb_move (.tmp 149) (.inr rfl) (fun _ _ _ => want_none rfl) fun ρ wx hc hx hp => hp.1 rfl
        intro vs wx hI hF
        obtain ⟨-, -, -, -, -, -, -, -, -, -, -, -, h12, -⟩ := hF
        replace h12 : vs 12 = .bool true := h12
        have bl : Below wr.heap.size wr wx := hI
        simp only [putAll, Act.put, List.setIfInBounds_toArray, List.set_cons_zero, List.set_cons_succ, h12]
        clear hI h12
        have BX := Lib.hid (below_then BE.out bl)
        go_wp2_with fail
        go_ret
        exact ⟨rfl, BX.out⟩
  · have hs' : 1048576 < len0 := by omega
    go_enter Try.func4, Try.ntmps4
    go_wp2_with fail
    go_ret
    exact ⟨rfl, Below.refl _ _⟩
end Go.Proofs.Ytddllcgbdgpkbaa
