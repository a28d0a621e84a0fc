/- The model's pixels: l10Pixel, FieldPixel, FieldLine. -/
import Derived.Test.YtddllcgbdgpkbaaFldC
import Derived.Test.YtddllcgbdgpkbaaFldG
namespace Go.Proofs.Ytddllcgbdgpkbaa
open Go.ChangeShapes Go.WideShapes Go.ChangeAt Go.RowKit
set_option linter.unusedVariables false

set_option maxHeartbeats 4000000 in
theorem spec_pix_raw (W : Int) (p o n c q o2 m d : Nat) (sx sy x y i j : Int) (s t g : Nat) (v : Int) (w : World) (h1 : 1 ≤ W) (h8 : W ≤ 8) (hn : n ≤ 64) (hi : (x + sx) % (8 * W) = i) (i0 : 0 ≤ i) (i1 : i < 64) (hj : (y + sy) % (8 * ((n : Int) / W)) = j) (j0 : 0 ≤ j) (j1 : j < 64)
    (x0 : 0 ≤ x + sx) (x1 : x + sx ≤ 300) (y0 : 0 ≤ y + sy) (y1 : y + sy ≤ 300) (r1 : 1 ≤ (n : Int) / W) (r8 : (n : Int) / W ≤ 8) (hs : j / 8 * W + i / 8 = s) (s1 : s < n) (hp : p < w.heap.size) (hc : w.cell? ⟨p, o + s, none⟩ = some (.int .i64 (t : Int))) (t1 : t < m) (m1 : m ≤ 16)
    (hgg : j % 8 * 8 + i % 8 = g) (hq : q < w.heap.size) (hv : w.cell? ⟨q, o2 + t * 64 + g, none⟩ = some (.int .i64 v)) :
    Calls Try.prog 46 #[fldV W (some ⟨p, o, none⟩) n c (some ⟨q, o2, none⟩) m d sx sy, .int .i64 x, .int .i64 y] w fun e w' => e = .returned (.int .i64 v) ∧ Below w.heap.size w w' := by
  have B1 := Lib.hid (below1 w (.cells #[.int .i64 W, .slice (some ⟨p, o, none⟩) n c, .slice (some ⟨q, o2, none⟩) m d, .int .i64 sx, .int .i64 sy] 33))
  have X1 := Lib.hid (Box.new w #[.int .i64 W, .slice (some ⟨p, o, none⟩) n c, .slice (some ⟨q, o2, none⟩) m d, .int .i64 sx, .int .i64 sy] 33)
  have HC := Lib.hid ((B1.out.cell (p := ⟨p, o + s, none⟩) hp).trans hc)
  have HV := Lib.hid ((B1.out.cell (p := ⟨q, o2 + t * 64 + g, none⟩) hq).trans hv)
  have n0 : (0 : Int) ≤ n := by omega
  have wne : W ≠ 0 := by omega
  clear hc hv
  obtain ⟨R, hR⟩ : ∃ R, (n : Int) / W = R := ⟨_, rfl⟩
  rw [hR] at hj r1 r8
  have hw0 : 8 * W ≠ 0 := by omega
  have hr0 : 8 * R ≠ 0 := by omega
  go_enter Try.func46, Try.ntmps46
  go_upto_region 2 with (fail)
  generalize w.alloc (.cells #[.int .i64 W, .slice (some ⟨p, o, none⟩) n c, .slice (some ⟨q, o2, none⟩) m d, .int .i64 sx, .int .i64 sy] 33) = w1 at X1 B1 HC HV ⊢
  generalize hbb : w.heap.size = bb at X1 B1 ⊢
  have c0 : w1.cell? ⟨bb, 0, none⟩ = some (.int .i64 W) := X1.out.cell 0
  have c1 : w1.cell? ⟨bb, 1, none⟩ = some (.slice (some ⟨p, o, none⟩) n c) := X1.out.cell 1
  have c2 : w1.cell? ⟨bb, 2, none⟩ = some (.slice (some ⟨q, o2, none⟩) m d) := X1.out.cell 2
  have c3 : w1.cell? ⟨bb, 3, none⟩ = some (.int .i64 sx) := X1.out.cell 3
  have c4 : w1.cell? ⟨bb, 4, none⟩ = some (.int .i64 sy) := X1.out.cell 4
  go_quiet (fail)
  rw [hi, hj]
  clear hi hj
  have p0 : 0 ≤ j / 8 * W := Int.mul_nonneg (by omega) (by omega)
  have p1 : j / 8 * W ≤ 64 := by omega
  obtain ⟨jq, hjq⟩ : ∃ jq, j / 8 = jq := ⟨_, rfl⟩
  rw [hjq] at p0 p1 hs
  obtain ⟨pw, hpw⟩ : ∃ pw, jq * W = pw := ⟨_, rfl⟩
  rw [hpw] at p0 p1 hs
  obtain ⟨iq, hiq⟩ : ∃ iq, i / 8 = iq := ⟨_, rfl⟩
  rw [hiq] at hs
  obtain ⟨f, hf⟩ : ∃ f : Nat, j % 8 * 8 = f := ⟨(j % 8 * 8).toNat, by omega⟩
  rw [hf] at hgg
  obtain ⟨jr, hjr⟩ : ∃ jr, j % 8 = jr := ⟨_, rfl⟩
  rw [hjr] at hf
  have f1 : f ≤ 56 := by omega
  obtain ⟨ir, hir⟩ : ∃ ir, i % 8 = ir := ⟨_, rfl⟩
  have ir1 : 0 ≤ ir ∧ ir < 8 := by omega
  rw [hir] at hgg
  have g1 : g ≤ 63 := by omega
  have e1 := HC.out
  have e2 := HV.out
  clear hR
  go_wp2_with fail
  go_quiet (fail)
  go_wp2_with fail
  go_ret
  exact ⟨rfl, by first | exact below_drewN (below_drewN B1.out _) _ | (rw [hbb]; exact below_drewN (below_drewN B1.out _) _)⟩
theorem spec_pix (F : Fld) (A : Option Addr) (c : Nat) (T : Option Addr) (d : Nat) (fa ft : List Nat) (x y : Int) (w : World) (hF : FHas w A T F fa ft) (h : FOk F) (x0 : 0 ≤ x) (x1 : x ≤ 31) (y0 : 0 ≤ y) (y1 : y ≤ 15) :
    Calls Try.prog 46 #[fv F A c T d, .int .i64 x, .int .i64 y] w fun e w' => e = .returned (.int .i64 (pixF F x y)) ∧ Below w.heap.size w w' := by
  obtain ⟨a0, a1⟩ := atX_b h x
  obtain ⟨b0, b1⟩ := atY_b h y
  obtain ⟨k0, k1⟩ := cellN_b h x y
  obtain ⟨t0, t1⟩ := tileN_b h x y
  obtain ⟨p0, p1⟩ := partN_b h x y
  obtain ⟨hrw, r1, r8⟩ := h.rows
  have w1 := h.w1
  have w8 := h.w8
  have n16 := h.n16
  have sx0 := h.x0
  have sx1 := h.x1
  have sy0 := h.y0
  have sy1 := h.y1
  have hn : F.xs.length ≤ 64 := by
    have := mul8 (F.rw_ - 1) F.w (by omega) 8 (by omega) (by omega)
    have e : F.rw_ * F.w = (F.rw_ - 1) * F.w + F.w := by rw [Int.sub_mul]; omega
    omega
  obtain ⟨p, o, hA, rfl, hp, hc⟩ := hF.1.at_ (by omega)
  obtain ⟨q, o2, hT, rfl, hq, hz⟩ := hF.2.at_ (by omega)
  obtain ⟨s, hs⟩ := Int.eq_ofNat_of_zero_le k0
  obtain ⟨t, ht⟩ := Int.eq_ofNat_of_zero_le t0
  obtain ⟨g, hg⟩ := Int.eq_ofNat_of_zero_le p0
  have c1 := hc s (by omega)
  have ex : F.xs.getD s 0 = (t : Int) := by
    rw [← ht]; unfold tileN; rw [hs]; rfl
  rw [ex] at c1
  have c2 := hz (64 * t + g) (by omega)
  have ez : F.zs.getD (64 * t + g) 0 = pixF F x y := by
    unfold pixF
    rw [ht, hg, show ((64 * (t : Int) + (g : Int)).toNat) = 64 * t + g by omega]
  rw [ez, show o2 + (64 * t + g) = o2 + t * 64 + g by omega] at c2
  subst hA hT
  exact spec_pix_raw F.w p o F.xs.length c q o2 F.nt d F.sx F.sy x y (atX F x) (atY F y) s t g _ w w1 w8 hn rfl a0 (by omega) rfl b0 (by omega) (by omega) (by omega) (by omega) (by omega) r1 r8 hs (by omega) hp c1 (by omega) n16 hg hq c2
theorem lone_int (w : World) (u : Int) : Ints (w.alloc (.cells #[.int .i64 u] 3)) (some ⟨w.heap.size, 0, none⟩) 1 [u] [w.heap.size] := by
  refine ⟨rfl, .inr ⟨by omega, w.heap.size, 0, rfl, rfl, by simp, fun i hi => ?_⟩⟩
  obtain rfl : i = 0 := by omega
  rw [World.cell?_alloc_new]
  rfl
theorem lineF_take (F : Fld) (y : Int) (k : Nat) (h : k < 32) : (lineF F y).take (k + 1) = (lineF F y).take k ++ [pixF F k y] := by
  rw [List.take_succ_eq_append_getElem (by rw [lineF_len]; exact h)]
  have := lineF_get F y k h
  rw [List.getD_eq_getElem?_getD, List.getElem?_eq_getElem (by rw [lineF_len]; exact h)] at this
  rw [show (lineF F y)[k]'(by rw [lineF_len]; exact h) = pixF F k y from this]
end Go.Proofs.Ytddllcgbdgpkbaa
