/- The walk of the exact law of Disassemble. -/
import Derived.Test.YtmdldoofljdakaaDoorDisI
import Derived.Test.YtmdldoofljdakaaDoorStrH
namespace Go.Proofs.YtmdldoofljdakaaDoor
open Go.ChangeShapes Go.WideShapes Go.ChangeAt Go.RowKit

theorem strs_drewM {w : World} {A : Option Addr} {n : Nat} {xs : List ByteArray} {fp : List Nat} (h : Strs w A n xs fp) (m : Nat) : Strs (w.drewN m) A n xs fp := h
theorem ints_drewM {w : World} {A : Option Addr} {n : Nat} {xs : List Int} {fp : List Nat} (h : Ints w A n xs fp) (m : Nat) : Ints (w.drewN m) A n xs fp := h
theorem new_drewM {L : Nat} {w : World} {fp : List Nat} (h : New L w fp) (m : Nat) : New L (w.drewN m) fp := ⟨h.once, h.lt, h.free⟩
set_option maxHeartbeats 4000000 in
theorem walk_FnExactDisassemble (A : Option Addr) (N c : Nat) (xs : List Int) (fa : List Nat) (w : World) (hN : N ≤ 9223372036854775807) (ha : Ints w A N xs fa) (h : Env w) :
    Calls Tryd.prog 10 #[.slice A N c] w fun e w' => e = .returned (.bool true) ∧ Below w.heap.size w w' := by
  have HA := Lib.hid ha
  have H := Lib.hid h
  clear ha h
  by_cases hN1 : N ≤ 1048576
  · go_enter Tryd.func10, Tryd.ntmps10
    go_wp2_with fail
    refine (to_ints _ _ _ _ _ _ HA.out (by omega)).mono ?_; rintro e w2 ⟨SA, sc, sf, rfl, hsc, si, sn, b2⟩
    have S2 := Lib.hid si
    have B2 := Lib.hid b2
    clear si sn b2
    go_wp2_with fail
    refine (spec_dis _ _ _ _ _ _ S2.out (by omega)).mono ?_; rintro e w3 ⟨WA, n, wc, wf, rfl, hwc, hn, wi, wn, b3⟩
    have W3 := Lib.hid wi
    have B3 := Lib.hid (below_then B2.out b3)
    have wl : Hid (∀ b ∈ wf, b < w3.heap.size) := wi.lt
    clear wi wn b3
    generalize hq : disOk xs = q
    have HQ := Lib.hid hq
    clear hq
    go_wp2_with fail
    refine (to_ints _ _ _ _ _ _ (HA.out.below B3.out) (by omega)).mono ?_; rintro e w4 ⟨XA, xc, xf, rfl, hxc, xi, xn, b4⟩
    have X4 := Lib.hid xi
    have XN := Lib.hid xn
    have W4 := Lib.hid (W3.out.below b4)
    have B4 := Lib.hid (below_then B3.out b4)
    have xl : Hid (∀ b ∈ xf, b < w4.heap.size) := xi.lt
    have z4 : w3.heap.size ≤ w4.heap.size := b4.size
    clear xi xn b4 W3
    go_wp2_with fail
    refine (impl_dis _ _ _ _ _ _ X4.out (by omega) hxc (H.out.below B4.out)).mono ?_; rintro e w5 ⟨GA, n', gc, gf, rfl, hgc, hn', gi, gn, b5⟩
    obtain rfl : n' = n := gi.1.symm.trans W4.out.1
    rw [HQ.out]
    have G5 := Lib.hid gi
    have GN := Lib.hid gn
    have X5 := Lib.hid (X4.out.below b5)
    have X5N := Lib.hid (XN.out.keep (.of_below b5))
    have W5 := Lib.hid (W4.out.below b5)
    have B5 := Lib.hid (below_then B4.out b5)
    have z5 : w4.heap.size ≤ w5.heap.size := b5.size
    clear gi gn b5 X4 W4 XN
    cases q
    all_goals
      go_wp2_with fail
      refine (eq_strs _ _ _ _ _ _ _ _ _ G5.out W5.out (by omega)).mono ?_; rintro e w6 ⟨rfl, m6, rfl⟩
      have G6 := Lib.hid (strs_drewM G5.out m6)
      have GN6 := Lib.hid (new_drewM GN.out m6)
      have X6 := Lib.hid (ints_drewM X5.out m6)
      have X6N := Lib.hid (new_drewM X5N.out m6)
      have W6 := Lib.hid (strs_drewM W5.out m6)
      have B6 := Lib.hid (below_drewN B5.out m6)
      generalize w5.drewN m6 = w6 at G6 GN6 X6 X6N W6 B6
      clear G5 GN X5 X5N W5 B5
      go_wp2_with fail
      refine (to_ints _ _ _ _ _ _ (HA.out.below B6.out) (by omega)).mono ?_; rintro e w7 ⟨YA, yc, yf, rfl, hyc, yi, yn, b7⟩
      have Y7 := Lib.hid yi
      have X7 := Lib.hid (X6.out.below b7)
      have X7N := Lib.hid (X6N.out.keep (.of_below b7))
      have G7 := Lib.hid (G6.out.below b7)
      have GN7 := Lib.hid (GN6.out.keep (.of_below b7))
      have W7 := Lib.hid (W6.out.below b7)
      have B7 := Lib.hid (below_then B6.out b7)
      clear yi yn b7 X6 X6N G6 GN6 W6 B6
      go_wp2_with fail
      refine (eq_ints _ _ _ _ _ _ _ _ _ X7.out Y7.out (by omega)).mono ?_; rintro e w8 ⟨rfl, m8, rfl⟩
      have G8 := Lib.hid (strs_drewM G7.out m8)
      have GN8 := Lib.hid (new_drewM GN7.out m8)
      have X8 := Lib.hid (ints_drewM X7.out m8)
      have X8N := Lib.hid (new_drewM X7N.out m8)
      have W8 := Lib.hid (strs_drewM W7.out m8)
      have B8 := Lib.hid (below_drewN B7.out m8)
      generalize w7.drewN m8 = w8 at G8 GN8 X8 X8N W8 B8
      clear G7 GN7 X7 X7N W7 B7 Y7
      go_wp2_with fail
      refine (mark_ints _ _ _ 1 _ _ _ X8.out X8N.out.free (by omega) (by omega) (by omega)).mono ?_; rintro e w9 ⟨rfl, o9, x9, f9⟩
      have dXG : Hid (∀ b ∈ gf, b ∉ xf) := fun b hb hx => by have := (GN8.out.lt b hb).1; have := xl.out b hx; omega
      have dXW : Hid (∀ b ∈ wf, b ∉ xf) := fun b hb hx => by have := (X8N.out.lt b hx).1; have := wl.out b hb; omega
      have G9 := Lib.hid (G8.out.keep (.of_only o9 dXG.out))
      have GN9 := Lib.hid (GN8.out.keep (.of_only o9 dXG.out))
      have W9 := Lib.hid (W8.out.keep (.of_only o9 dXW.out))
      have B9 : Hid (Below w.heap.size w w9) := B8.out.trans (o9.below (fun b hb => by have := (X8N.out.lt b hb).1; have := B3.out.size; omega) B8.out.size)
      clear o9 x9 f9 G8 GN8 X8 W8 B8 X8N
      go_wp2_with fail
      refine (eq_strs _ _ _ _ _ _ _ _ _ G9.out W9.out (by omega)).mono ?_; rintro e w10 ⟨rfl, m10, rfl⟩
      have G10 := Lib.hid (strs_drewM G9.out m10)
      have GN10 := Lib.hid (new_drewM GN9.out m10)
      have W10 := Lib.hid (strs_drewM W9.out m10)
      have B10 := Lib.hid (below_drewN B9.out m10)
      generalize w9.drewN m10 = w10 at G10 GN10 W10 B10
      clear G9 GN9 W9 B9
      go_wp2_with fail
      refine (mark_strs _ _ _ 1 _ _ _ G10.out GN10.out.free (by omega) (by omega) (by omega)).mono ?_; rintro e w11 ⟨rfl, o11, g11, f11⟩
      have dGW : Hid (∀ b ∈ wf, b ∉ gf) := fun b hb hg => by have := (GN10.out.lt b hg).1; have := wl.out b hb; omega
      have G11 := Lib.hid g11
      have W11 := Lib.hid (W10.out.keep (.of_only o11 dGW.out))
      have B11 : Hid (Below w.heap.size w w11) := B10.out.trans (o11.below (fun b hb => by have := (GN10.out.lt b hb).1; have := B4.out.size; omega) B10.out.size)
      clear o11 g11 f11 G10 GN10 W10 B10
      go_wp2_with fail
      refine (held_strs _ _ _ 1 _ _ G11.out (by omega) (by omega) (by omega)).mono ?_; rintro e w12 ⟨rfl, b12⟩
      have G12 := Lib.hid (G11.out.below b12)
      have W12 := Lib.hid (W11.out.below b12)
      have B12 := Lib.hid (below_then B11.out b12)
      clear b12 G11 W11 B11
      go_wp2_with fail
      refine (to_ints _ _ _ _ _ _ (HA.out.below B12.out) (by omega)).mono ?_; rintro e w13 ⟨ZA, zc, zf, rfl, hzc, zi, zn, b13⟩
      have Z13 := Lib.hid zi
      have G13 := Lib.hid (G12.out.below b13)
      have W13 := Lib.hid (W12.out.below b13)
      have B13 := Lib.hid (below_then B12.out b13)
      clear zi zn b13 G12 W12 B12
      go_wp2_with fail
      refine (impl_dis _ _ _ _ _ _ Z13.out (by omega) hzc (H.out.below B13.out)).mono ?_; rintro e w14 ⟨HA2, n2, hc2, hf2, rfl, hhc, hn2, hi2, hnw, b14⟩
      obtain rfl : n2 = n' := hi2.1.symm.trans W13.out.1
      rw [HQ.out]
      have H14 := Lib.hid hi2
      have G14 := Lib.hid (G13.out.below b14)
      have W14 := Lib.hid (W13.out.below b14)
      have B14 := Lib.hid (below_then B13.out b14)
      clear hi2 hnw b14 G13 W13 B13 Z13
      go_wp2_with fail
      refine (eq_strs _ _ _ _ _ _ _ _ _ H14.out W14.out (by omega)).mono ?_; rintro e w15 ⟨rfl, m15, rfl⟩
      have G15 := Lib.hid (strs_drewM G14.out m15)
      have B15 := Lib.hid (below_drewN B14.out m15)
      generalize w14.drewN m15 = w15 at G15 B15
      go_wp2_with fail
      refine (held_strs _ _ _ 1 _ _ G15.out (by omega) (by omega) (by omega)).mono ?_; rintro e w16 ⟨rfl, b16⟩
      have B16 := Lib.hid (below_then B15.out b16)
      clear b16
      go_wp2_with fail
      go_ret
      exact ⟨rfl, B16.out⟩
  · have hN2 : (1048576 : Int) < (N : Int) := by omega
    go_enter Tryd.func10, Tryd.ntmps10
    go_wp2_with fail
    go_ret
    exact ⟨rfl, Below.refl _ _⟩
end Go.Proofs.YtmdldoofljdakaaDoor
