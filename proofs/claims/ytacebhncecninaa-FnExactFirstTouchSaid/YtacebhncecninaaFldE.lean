/- The model's pixels: l10Pixel, FieldPixel, FieldLine. -/
import Derived.Test.YtacebhncecninaaFldC
import Derived.Test.YtacebhncecninaaGD
namespace Go.Proofs.Ytacebhncecninaa
open Go.ChangeShapes Go.WideShapes Go.ChangeAt Go.RowKit
set_option linter.unusedVariables false

set_option maxHeartbeats 4000000 in
theorem spec_pix_raw (W : Int) (p o n c q o2 m d : Nat) (sx sy x y i j : Int) (s t g : Nat) (v : Int) (w : World) (h1 : 1 ≤ W) (h8 : W ≤ 8) (hn : n ≤ 64) (hi : (x + sx) % (8 * W) = i) (i0 : 0 ≤ i) (i1 : i < 64) (hj : (y + sy) % (8 * ((n : Int) / W)) = j) (j0 : 0 ≤ j) (j1 : j < 64)
    (x0 : 0 ≤ x + sx) (x1 : x + sx ≤ 300) (y0 : 0 ≤ y + sy) (y1 : y + sy ≤ 300) (r1 : 1 ≤ (n : Int) / W) (r8 : (n : Int) / W ≤ 8) (hs : j / 8 * W + i / 8 = s) (s1 : s < n) (hp : p < w.heap.size) (hc : w.cell? ⟨p, o + s, none⟩ = some (.int .i64 (t : Int))) (t1 : t < m) (m1 : m ≤ 16)
    (hgg : j % 8 * 8 + i % 8 = g) (hq : q < w.heap.size) (hv : w.cell? ⟨q, o2 + t * 64 + g, none⟩ = some (.int .i64 v)) :
    Calls Try.prog 58 #[fldV W (some ⟨p, o, none⟩) n c (some ⟨q, o2, none⟩) m d sx sy, .int .i64 x, .int .i64 y] w fun e w' => e = .returned (.int .i64 v) ∧ Below w.heap.size w w' := by
  have B1 := Lib.hid (below1 w (.cells #[.int .i64 W, .slice (some ⟨p, o, none⟩) n c, .slice (some ⟨q, o2, none⟩) m d, .int .i64 sx, .int .i64 sy] 26))
  have X1 := Lib.hid (Box.new w #[.int .i64 W, .slice (some ⟨p, o, none⟩) n c, .slice (some ⟨q, o2, none⟩) m d, .int .i64 sx, .int .i64 sy] 26)
  have HC := Lib.hid ((B1.out.cell (p := ⟨p, o + s, none⟩) hp).trans hc)
  have HV := Lib.hid ((B1.out.cell (p := ⟨q, o2 + t * 64 + g, none⟩) hq).trans hv)
  have n0 : (0 : Int) ≤ n := by omega
  have wne : W ≠ 0 := by omega
  clear hc hv
  obtain ⟨R, hR⟩ : ∃ R, (n : Int) / W = R := ⟨_, rfl⟩
  rw [hR] at hj r1 r8
  have hw0 : 8 * W ≠ 0 := by omega
  have hr0 : 8 * R ≠ 0 := by omega
  go_enter Try.func58, Try.ntmps58
  go_upto_region 2 with (fail)
  generalize w.alloc (.cells #[.int .i64 W, .slice (some ⟨p, o, none⟩) n c, .slice (some ⟨q, o2, none⟩) m d, .int .i64 sx, .int .i64 sy] 26) = w1 at X1 B1 HC HV ⊢
  generalize hbb : w.heap.size = bb at X1 B1 ⊢
  have c0 : w1.cell? ⟨bb, 0, none⟩ = some (.int .i64 W) := X1.out.cell 0
  have c1 : w1.cell? ⟨bb, 1, none⟩ = some (.slice (some ⟨p, o, none⟩) n c) := X1.out.cell 1
  have c2 : w1.cell? ⟨bb, 2, none⟩ = some (.slice (some ⟨q, o2, none⟩) m d) := X1.out.cell 2
  have c3 : w1.cell? ⟨bb, 3, none⟩ = some (.int .i64 sx) := X1.out.cell 3
  have c4 : w1.cell? ⟨bb, 4, none⟩ = some (.int .i64 sy) := X1.out.cell 4
  go_quiet (fail)
  rw [hi, hj]
  clear hi hj
  have p0 : 0 ≤ j / 8 * W := Int.mul_nonneg (by omega) (by omega)
  have p1 : j / 8 * W ≤ 64 := by omega
  obtain ⟨jq, hjq⟩ : ∃ jq, j / 8 = jq := ⟨_, rfl⟩
  rw [hjq] at p0 p1 hs
  obtain ⟨pw, hpw⟩ : ∃ pw, jq * W = pw := ⟨_, rfl⟩
  rw [hpw] at p0 p1 hs
  obtain ⟨iq, hiq⟩ : ∃ iq, i / 8 = iq := ⟨_, rfl⟩
  rw [hiq] at hs
  obtain ⟨f, hf⟩ : ∃ f : Nat, j % 8 * 8 = f := ⟨(j % 8 * 8).toNat, by omega⟩
  rw [hf] at hgg
  obtain ⟨jr, hjr⟩ : ∃ jr, j % 8 = jr := ⟨_, rfl⟩
  rw [hjr] at hf
  have f1 : f ≤ 56 := by omega
  obtain ⟨ir, hir⟩ : ∃ ir, i % 8 = ir := ⟨_, rfl⟩
  have ir1 : 0 ≤ ir ∧ ir < 8 := by omega
  rw [hir] at hgg
  have g1 : g ≤ 63 := by omega
  have e1 := HC.out
  have e2 := HV.out
  clear hR
  go_wp2_with fail
  go_quiet (fail)
  go_wp2_with fail
  go_ret
  exact ⟨rfl, by first | exact below_drewN (below_drewN B1.out _) _ | (rw [hbb]; exact below_drewN (below_drewN B1.out _) _)⟩
theorem spec_pix (F : Fld) (A : Option Addr) (c : Nat) (T : Option Addr) (d : Nat) (fa ft : List Nat) (x y : Int) (w : World) (hF : FHas w A T F fa ft) (h : FOk F) (x0 : 0 ≤ x) (x1 : x ≤ 31) (y0 : 0 ≤ y) (y1 : y ≤ 15) :
    Calls Try.prog 58 #[fv F A c T d, .int .i64 x, .int .i64 y] w fun e w' => e = .returned (.int .i64 (pixF F x y)) ∧ Below w.heap.size w w' := by
  obtain ⟨a0, a1⟩ := atX_b h x
  obtain ⟨b0, b1⟩ := atY_b h y
  obtain ⟨k0, k1⟩ := cellN_b h x y
  obtain ⟨t0, t1⟩ := tileN_b h x y
  obtain ⟨p0, p1⟩ := partN_b h x y
  obtain ⟨hrw, r1, r8⟩ := h.rows
  have w1 := h.w1
  have w8 := h.w8
  have n16 := h.n16
  have sx0 := h.x0
  have sx1 := h.x1
  have sy0 := h.y0
  have sy1 := h.y1
  have hn : F.xs.length ≤ 64 := by
    have := mul8 (F.rw_ - 1) F.w (by omega) 8 (by omega) (by omega)
    have e : F.rw_ * F.w = (F.rw_ - 1) * F.w + F.w := by rw [Int.sub_mul]; omega
    omega
  obtain ⟨p, o, hA, rfl, hp, hc⟩ := hF.1.at_ (by omega)
  obtain ⟨q, o2, hT, rfl, hq, hz⟩ := hF.2.at_ (by omega)
  obtain ⟨s, hs⟩ := Int.eq_ofNat_of_zero_le k0
  obtain ⟨t, ht⟩ := Int.eq_ofNat_of_zero_le t0
  obtain ⟨g, hg⟩ := Int.eq_ofNat_of_zero_le p0
  have c1 := hc s (by omega)
  have ex : F.xs.getD s 0 = (t : Int) := by
    rw [← ht]; unfold tileN; rw [hs]; rfl
  rw [ex] at c1
  have c2 := hz (64 * t + g) (by omega)
  have ez : F.zs.getD (64 * t + g) 0 = pixF F x y := by
    unfold pixF
    rw [ht, hg, show ((64 * (t : Int) + (g : Int)).toNat) = 64 * t + g by omega]
  rw [ez, show o2 + (64 * t + g) = o2 + t * 64 + g by omega] at c2
  subst hA hT
  exact spec_pix_raw F.w p o F.xs.length c q o2 F.nt d F.sx F.sy x y (atX F x) (atY F y) s t g _ w w1 w8 hn rfl a0 (by omega) rfl b0 (by omega) (by omega) (by omega) (by omega) (by omega) r1 r8 hs (by omega) hp c1 (by omega) n16 hg hq c2
theorem lone_int (w : World) (u : Int) : Ints (w.alloc (.cells #[.int .i64 u] 3)) (some ⟨w.heap.size, 0, none⟩) 1 [u] [w.heap.size] := by
  refine ⟨rfl, .inr ⟨by omega, w.heap.size, 0, rfl, rfl, by simp, fun i hi => ?_⟩⟩
  obtain rfl : i = 0 := by omega
  rw [World.cell?_alloc_new]
  rfl
theorem lineF_take (F : Fld) (y : Int) (k : Nat) (h : k < 32) : (lineF F y).take (k + 1) = (lineF F y).take k ++ [pixF F k y] := by
  rw [List.take_succ_eq_append_getElem (by rw [lineF_len]; exact h)]
  have := lineF_get F y k h
  rw [List.getD_eq_getElem?_getD, List.getElem?_eq_getElem (by rw [lineF_len]; exact h)] at this
  rw [show (lineF F y)[k]'(by rw [lineF_len]; exact h) = pixF F k y from this]
set_option maxHeartbeats 2000000 in
theorem spec_fieldLine (F : Fld) (A : Option Addr) (c : Nat) (T : Option Addr) (d : Nat) (fa ft : List Nat) (y : Int) (w : World) (hF : FHas w A T F fa ft) (hs : FSmall F) :
    Calls Try.prog 18 #[fv F A c T d, .int .i64 y] w (Copied (lineT F y) (lineT F y).length w) := by
  obtain ⟨w1, hw1⟩ : ∃ w1, w1 = (w.alloc (.cells #[.int .i64 F.w, .slice A F.xs.length c, .slice T F.nt d, .int .i64 F.sx, .int .i64 F.sy] 26)).alloc (.cells #[] 3) := ⟨_, rfl⟩
  have X1 : Hid (Box w1 w.heap.size 26 [.int .i64 F.w, .slice A F.xs.length c, .slice T F.nt d, .int .i64 F.sx, .int .i64 F.sy]) := by rw [hw1]; exact (Box.new w _ _).alloc _
  have E1 : Hid (w1.ownsRow (w.heap.size + 1) 3 1 (.slice (some ⟨w.heap.size + 1, 0, none⟩) 0 0) 0 (iv [])) := by
    rw [hw1]
    have := own_empty (w.alloc (.cells #[.int .i64 F.w, .slice A F.xs.length c, .slice T F.nt d, .int .i64 F.sx, .int .i64 F.sy] 26)) 3 (w.heap.size + 1) (by simp)
    exact Lib.hid (by simpa using this)
  have B1 : Hid (Below w.heap.size w w1) := by rw [hw1]; exact below2 w _ _
  have HF := Lib.hid hF
  have HS := Lib.hid hs
  clear hF hs
  go_enter Try.func18, Try.ntmps18
  go_wp2_with fail
  rw [← hw1]
  clear hw1
  have HFR : Hid (∀ W, Below w.heap.size w W → FHas W A T F fa ft) := Lib.hid fun W h => HF.out.below h
  by_cases hv : fldB F = true ∧ betB y 0 15 = true
  · have HV := Lib.hid hv
    have HT := Lib.hid (lineT_yes hv.1 hv.2)
    have HL : Hid ((lineF F y).take 0 = []) := Lib.hid (List.take_zero)
    clear hv
    go_loopw [5, 6] (fun v i wr => ∃ (k : Nat) (A2 : Option Addr) (d2 : Nat), k ≤ 32 ∧ v = .slice A2 k d2 ∧ i = .int .i64 k ∧ wr.ownsRow (w.heap.size + 1) 3 1 (.slice A2 k d2) k (iv ((lineF F y).take k)) ∧ Box wr w.heap.size 26 [.int .i64 F.w, .slice A F.xs.length c, .slice T F.nt d, .int .i64 F.sx, .int .i64 F.sy] ∧ Below w.heap.size w wr) (fun _ i _ => 32 - (intOf i).toNat)
    case atStart => exact ⟨0, _, _, by omega, rfl, rfl, by rw [HL.out]; exact E1.out, X1.out, B1.out⟩
    case round =>
      obtain ⟨k, A2, d2, hk, rfl, rfl, ho, hx, hb⟩ := hrel
      have OR := Lib.hid ho
      have XR := Lib.hid hx
      have BR := Lib.hid hb
      clear ho hx hb X1 E1 B1
      by_cases h32 : k < 32
      · have i32 : (k : Int) < 32 := by omega
        have k0 := XR.out.cell 0
        have k1 := XR.out.cell 1
        have k2 := XR.out.cell 2
        have k3 := XR.out.cell 3
        have k4 := XR.out.cell 4
        go_wp2_with fail
        clear k0 k1 k2 k3 k4
        refine (spec_fieldValid F A c T d fa ft _ (HFR.out _ BR.out) HS.out).mono ?_; rintro e w2 ⟨rfl, b2⟩
        rw [HV.out.1]
        have X2 := Lib.hid (XR.out.below b2)
        have O2 := Lib.hid (own_keep OR.out b2)
        have B2 := Lib.hid (below_then BR.out b2)
        clear b2 XR OR BR
        go_wp2_with fail
        refine (l1In_any y 0 15 _).mono ?_; rintro e w3 ⟨rfl, rfl⟩
        rw [HV.out.2]
        have k0 := X2.out.cell 0
        have k1 := X2.out.cell 1
        have k2 := X2.out.cell 2
        have k3 := X2.out.cell 3
        have k4 := X2.out.cell 4
        go_wp2_with fail
        clear k0 k1 k2 k3 k4
        have hy := betB_iff.1 HV.out.2
        refine (spec_pix F A c T d fa ft (k : Int) y _ (HFR.out _ B2.out) (fldB_iff.1 HV.out.1) (by omega) (by omega) hy.1 hy.2).mono ?_; rintro e w3 ⟨rfl, b3⟩
        clear hy
        have HN := Lib.hid (lineF_take F y k h32)
        generalize pixF F (k : Int) y = n at HN ⊢
        have s3 : w.heap.size + 1 ≤ w3.heap.size := by have := X2.out.lt; have := b3.size; omega
        have O3 := Lib.hid (own_keep (own_keep O2.out b3) (below1 w3 (.cells #[.int .i64 n] 3)))
        have I3 : Hid (Ints (w3.alloc (.cells #[.int .i64 n] 3)) (some ⟨w3.heap.size, 0, none⟩) 1 [n] [w3.heap.size]) := Lib.hid (lone_int w3 n)
        have X3 := Lib.hid ((X2.out.below b3).alloc (.cells #[.int .i64 n] 3))
        have B3 := Lib.hid ((below_then B2.out b3).alloc (by omega) (.cells #[.int .i64 n] 3))
        have hb1 : w.heap.size + 1 ≤ (w3.alloc (.cells #[.int .i64 n] 3)).heap.size := by simp; omega
        clear b3 X2 O2 B2
        go_wp2_with (at_builtin; refine wpList_append_ints rfl _ _ rfl (w.heap.size + 1) _ k _ rfl O3.out _ _ _ [n] _ rfl I3.out (by omega) hb1 ?_; intro v' w5 own5 gr5 _; obtain ⟨A3, d3, _, rfl, _⟩ := own_ints own5; have b5 := below_grown (Below.refl (w.heap.size + 1) _) gr5 hb1 (fun b hb => (own_lt O3.out b hb).1); have X5 := Lib.hid (X3.out.keep b5 (by omega)); have B5 := Lib.hid (B3.out.trans (b5.mono (by omega))); have O5 := Lib.hid own5; clear own5 gr5 b5 X3 B3 O3 I3)
        go_roundw
        case rel => exact ⟨k + 1, _, _, by omega, rfl, by go_num, by rw [HN.out]; exact O5.out, X5.out, B5.out⟩
        case measure => simp [intOf]; omega
      · obtain rfl : k = 32 := by omega
        have OF : Hid (Copied (lineT F y) (lineT F y).length w (.returned (.slice A2 32 d2)) wr) := by
          have h := OR.out
          rw [List.take_of_length_le (by rw [lineF_len]; omega)] at h
          rw [HT.out, lineF_len]
          exact copied_own (own_down h (by omega)) BR.out
        go_wp2_with fail
        go_ret
        exact OF.out
  · have HT : Hid (lineT F y = []) := Lib.hid (by
      unfold lineT
      rw [if_neg]
      intro h
      exact hv (by simpa using h))
    have HV : Hid (fldB F = false ∨ betB y 0 15 = false) := Lib.hid (by
      cases h1 : fldB F
      · exact .inl rfl
      · cases h2 : betB y 0 15
        · exact .inr rfl
        · exact absurd ⟨h1, h2⟩ hv)
    clear hv
    go_loopw [5, 6] (fun v i wr => v = .slice (some ⟨w.heap.size + 1, 0, none⟩) 0 0 ∧ i = .int .i64 0 ∧ wr = w1) (fun _ _ _ => 0)
    case atStart => exact ⟨rfl, rfl, rfl⟩
    case round =>
      obtain ⟨rfl, rfl, rfl⟩ := hrel
      have k0 := X1.out.cell 0
      have k1 := X1.out.cell 1
      have k2 := X1.out.cell 2
      have k3 := X1.out.cell 3
      have k4 := X1.out.cell 4
      go_wp2_with fail
      clear k0 k1 k2 k3 k4
      refine (spec_fieldValid F A c T d fa ft _ (HFR.out _ B1.out) HS.out).mono ?_; rintro e w2 ⟨rfl, b2⟩
      have B2 := Lib.hid (below_then B1.out b2)
      clear b2
      cases hq : fldB F
      · clear hq
        go_wp2_with fail
        go_ret
        rw [HT.out]
        show Copied [] 0 w _ _
        exact ⟨_, 0, [], rfl, by omega, Ints.nil _ _, .nil _ _, B2.out⟩
      · have HY : Hid (betB y 0 15 = false) := Lib.hid (by rcases HV.out with h | h; · rw [h] at hq; cases hq
                                                           · exact h)
        clear hq
        go_wp2_with fail
        refine (l1In_any y 0 15 _).mono ?_; rintro e w3 ⟨rfl, rfl⟩
        rw [HY.out]
        go_wp2_with fail
        go_ret
        rw [HT.out]
        show Copied [] 0 w _ _
        exact ⟨_, 0, [], rfl, by omega, Ints.nil _ _, .nil _ _, B2.out⟩
end Go.Proofs.Ytacebhncecninaa
