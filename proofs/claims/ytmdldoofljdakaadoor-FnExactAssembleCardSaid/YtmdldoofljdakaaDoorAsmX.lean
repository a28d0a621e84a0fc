/- The walk of the exact law of Assemble. -/
import Derived.Test.YtmdldoofljdakaaDoorAsm
namespace Go.Proofs.YtmdldoofljdakaaDoor
open Go.ChangeShapes Go.WideShapes Go.ChangeAt Go.RowKit

theorem strs_drewN {w : World} {A : Option Addr} {n : Nat} {xs : List ByteArray} {fp : List Nat} (h : Strs w A n xs fp) (m : Nat) : Strs (w.drewN m) A n xs fp := h
theorem ints_drewN {w : World} {A : Option Addr} {n : Nat} {xs : List Int} {fp : List Nat} (h : Ints w A n xs fp) (m : Nat) : Ints (w.drewN m) A n xs fp := h
theorem new_drewN {L : Nat} {w : World} {fp : List Nat} (h : New L w fp) (m : Nat) : New L (w.drewN m) fp := ⟨h.once, h.lt, h.free⟩
set_option maxHeartbeats 4000000 in
theorem walk_FnExactAssemble (A : Option Addr) (N c : Nat) (xs : List ByteArray) (fa : List Nat) (w : World) (hN : N ≤ 9223372036854775807) (ha : Strs w A N xs fa) (hx : ∀ i, i < N → (xs.getD i ByteArray.empty).size ≤ 9223372036854775807) (h : NumEnv w) :
    Calls Tryd.prog 9 #[.slice A N c] w fun e w' => e = .returned (.bool true) ∧ Below w.heap.size w w' := by
  have HA := Lib.hid ha
  have HX := Lib.hid hx
  have H := Lib.hid h
  have hfa : Hid (∀ b ∈ fa, b < w.heap.size) := ha.lt
  clear ha hx h
  go_enter Tryd.func9, Tryd.ntmps9
  go_wp2_with fail
  refine (sz_strs _ _ _ _ _ _ HA.out hN HX.out).mono ?_; rintro e w1 ⟨t, rfl, rfl, ht, hbd⟩
  by_cases t0 : 0 ≤ t
  · obtain ⟨hN1, hs⟩ := hbd t0
    have HS := Lib.hid hs
    clear hbd hs HX
    go_wp2_with fail
    refine (to_strs _ _ _ _ _ _ HA.out (by omega)).mono ?_; rintro e w2 ⟨SA, sc, sf, rfl, hsc, si, sn, b2⟩
    have S2 := Lib.hid si
    have B2 := Lib.hid b2
    clear si sn b2
    go_wp2_with fail
    refine (spec_asm _ _ _ _ _ _ S2.out hN1 HS.out).mono ?_; rintro e w3 ⟨WA, n, wc, wf, rfl, hwc, hn, wi, wn, b3⟩
    have W3 := Lib.hid wi
    have B3 := Lib.hid (below_then B2.out b3)
    have wl : Hid (∀ b ∈ wf, b < w3.heap.size) := wi.lt
    clear wi wn b3
    generalize hq : asmBad xs = q
    have HQ := Lib.hid hq
    clear hq
    go_wp2_with fail
    refine (to_strs _ _ _ _ _ _ (HA.out.below B3.out) (by omega)).mono ?_; rintro e w4 ⟨XA, xc, xf, rfl, hxc, xi, xn, b4⟩
    have X4 := Lib.hid xi
    have XN := Lib.hid xn
    have W4 := Lib.hid (W3.out.below b4)
    have B4 := Lib.hid (below_then B3.out b4)
    have xl : Hid (∀ b ∈ xf, b < w4.heap.size) := xi.lt
    have z4 : w3.heap.size ≤ w4.heap.size := b4.size
    clear xi xn b4 W3
    go_wp2_with fail
    refine (impl_asm _ _ _ _ _ _ X4.out hN1 HS.out (H.out.below B4.out)).mono ?_; rintro e w5 ⟨GA, n', gc, gf, rfl, hgc, hn', gi, gn, b5⟩
    obtain rfl : n' = n := gi.1.symm.trans W4.out.1
    rw [HQ.out]
    have G5 := Lib.hid gi
    have GN := Lib.hid gn
    have X5 := Lib.hid (X4.out.below b5)
    have X5N := Lib.hid (XN.out.keep (.of_below b5))
    have W5 := Lib.hid (W4.out.below b5)
    have B5 := Lib.hid (below_then B4.out b5)
    have z5 : w4.heap.size ≤ w5.heap.size := b5.size
    clear gi gn b5 X4 W4 XN
    go_wp2_with fail
    refine (eq_ints _ _ _ _ _ _ _ _ _ G5.out W5.out (by omega)).mono ?_; rintro e w6 ⟨rfl, m6, rfl⟩
    have G6 := Lib.hid (ints_drewN G5.out m6)
    have GN6 := Lib.hid (new_drewN GN.out m6)
    have X6 := Lib.hid (strs_drewN X5.out m6)
    have X6N := Lib.hid (new_drewN X5N.out m6)
    have W6 := Lib.hid (ints_drewN W5.out m6)
    have B6 := Lib.hid (below_drewN B5.out m6)
    generalize w5.drewN m6 = w6 at G6 GN6 X6 X6N W6 B6
    clear G5 GN X5 X5N W5 B5
    go_wp2_with fail
    refine (to_strs _ _ _ _ _ _ (HA.out.below B6.out) (by omega)).mono ?_; rintro e w7 ⟨YA, yc, yf, rfl, hyc, yi, yn, b7⟩
    have Y7 := Lib.hid yi
    have X7 := Lib.hid (X6.out.below b7)
    have X7N := Lib.hid (X6N.out.keep (.of_below b7))
    have G7 := Lib.hid (G6.out.below b7)
    have GN7 := Lib.hid (GN6.out.keep (.of_below b7))
    have W7 := Lib.hid (W6.out.below b7)
    have B7 := Lib.hid (below_then B6.out b7)
    clear yi yn b7 X6 X6N G6 GN6 W6 B6
    go_wp2_with fail
    refine (eq_strs _ _ _ _ _ _ _ _ _ X7.out Y7.out (by omega)).mono ?_; rintro e w8 ⟨rfl, m8, rfl⟩
    have G8 := Lib.hid (ints_drewN G7.out m8)
    have GN8 := Lib.hid (new_drewN GN7.out m8)
    have X8 := Lib.hid (strs_drewN X7.out m8)
    have X8N := Lib.hid (new_drewN X7N.out m8)
    have W8 := Lib.hid (ints_drewN W7.out m8)
    have B8 := Lib.hid (below_drewN B7.out m8)
    generalize w7.drewN m8 = w8 at G8 GN8 X8 X8N W8 B8
    clear G7 GN7 X7 X7N W7 B7 Y7
    go_wp2_with fail
    refine (mark_strs _ _ _ 1 _ _ _ X8.out X8N.out.free (by omega) (by omega) (by omega)).mono ?_; rintro e w9 ⟨rfl, o9, x9, f9⟩
    have dXG : Hid (∀ b ∈ gf, b ∉ xf) := fun b hb hx => by have := (GN8.out.lt b hb).1; have := xl.out b hx; omega
    have dXW : Hid (∀ b ∈ wf, b ∉ xf) := fun b hb hx => by have := (X8N.out.lt b hx).1; have := wl.out b hb; omega
    have G9 := Lib.hid (G8.out.keep (.of_only o9 dXG.out))
    have GN9 := Lib.hid (GN8.out.keep (.of_only o9 dXG.out))
    have W9 := Lib.hid (W8.out.keep (.of_only o9 dXW.out))
    have B9 : Hid (Below w.heap.size w w9) := B8.out.trans (o9.below (fun b hb => by have := (X8N.out.lt b hb).1; have := B3.out.size; omega) B8.out.size)
    clear o9 x9 f9 G8 GN8 X8 W8 B8 X8N
    go_wp2_with fail
    refine (eq_ints _ _ _ _ _ _ _ _ _ G9.out W9.out (by omega)).mono ?_; rintro e w10 ⟨rfl, m10, rfl⟩
    have G10 := Lib.hid (ints_drewN G9.out m10)
    have GN10 := Lib.hid (new_drewN GN9.out m10)
    have W10 := Lib.hid (ints_drewN W9.out m10)
    have B10 := Lib.hid (below_drewN B9.out m10)
    generalize w9.drewN m10 = w10 at G10 GN10 W10 B10
    clear G9 GN9 W9 B9
    go_wp2_with fail
    refine (mark_ints _ _ _ 1 _ _ _ G10.out GN10.out.free (by omega) (by omega) (by omega)).mono ?_; rintro e w11 ⟨rfl, o11, g11, f11⟩
    have dGW : Hid (∀ b ∈ wf, b ∉ gf) := fun b hb hg => by have := (GN10.out.lt b hg).1; have := wl.out b hb; omega
    have G11 := Lib.hid g11
    have W11 := Lib.hid (W10.out.keep (.of_only o11 dGW.out))
    have B11 : Hid (Below w.heap.size w w11) := B10.out.trans (o11.below (fun b hb => by have := (GN10.out.lt b hb).1; have := B4.out.size; omega) B10.out.size)
    clear o11 g11 f11 G10 GN10 W10 B10
    go_wp2_with fail
    refine (held_ints _ _ _ 1 _ _ G11.out (by omega) (by omega) (by omega)).mono ?_; rintro e w' ⟨rfl, rfl⟩
    go_wp2_with fail
    refine (to_strs _ _ _ _ _ _ (HA.out.below B11.out) (by omega)).mono ?_; rintro e w13 ⟨ZA, zc, zf, rfl, hzc, zi, zn, b13⟩
    have Z13 := Lib.hid zi
    have G13 := Lib.hid (G11.out.below b13)
    have W13 := Lib.hid (W11.out.below b13)
    have B13 := Lib.hid (below_then B11.out b13)
    clear zi zn b13 G11 W11 B11
    go_wp2_with fail
    refine (impl_asm _ _ _ _ _ _ Z13.out hN1 HS.out (H.out.below B13.out)).mono ?_; rintro e w14 ⟨HA2, n2, hc2, hf2, rfl, hhc, hn2, hi2, hnw, b14⟩
    obtain rfl : n2 = n' := hi2.1.symm.trans W13.out.1
    rw [HQ.out]
    have H14 := Lib.hid hi2
    have G14 := Lib.hid (G13.out.below b14)
    have W14 := Lib.hid (W13.out.below b14)
    have B14 := Lib.hid (below_then B13.out b14)
    clear hi2 hnw b14 G13 W13 B13 Z13
    go_wp2_with fail
    refine (eq_ints _ _ _ _ _ _ _ _ _ H14.out W14.out (by omega)).mono ?_; rintro e w15 ⟨rfl, m15, rfl⟩
    have G15 := Lib.hid (ints_drewN G14.out m15)
    go_wp2_with fail
    refine (held_ints _ _ _ 1 _ _ G15.out (by omega) (by omega) (by omega)).mono ?_; rintro e w' ⟨rfl, rfl⟩
    go_wp2_with fail
    go_ret
    exact ⟨rfl, below_drewN B14.out m15⟩
  · have ht1 : t < 0 := by omega
    go_wp2_with fail
    go_ret
    exact ⟨rfl, Below.refl _ _⟩
end Go.Proofs.YtmdldoofljdakaaDoor
