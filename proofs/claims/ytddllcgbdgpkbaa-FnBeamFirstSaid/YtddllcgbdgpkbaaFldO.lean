/- The laws' own functions on backgrounds. -/
import Derived.Test.YtddllcgbdgpkbaaFldK
namespace Go.Proofs.Ytddllcgbdgpkbaa
open Go.ChangeShapes Go.WideShapes Go.ChangeAt Go.RowKit
set_option linter.unusedVariables false

theorem sz_fld_yes (W : Int) (A : Option Addr) (n c : Nat) (T : Option Addr) (m d : Nat) (sx sy left : Int) (w : World) (h : (n : Int) + m ≤ left) (hl : left ≤ 1000000000) :
    Calls Try.prog 26 #[fldV W A n c T m d sx sy, .int .i64 left] w fun e w' => e = .returned (.int .i64 (left - n - m)) ∧ Below w.heap.size w w' := by
  have X1 := Lib.hid (Box.new w #[.int .i64 W, .slice A n c, .slice T m d, .int .i64 sx, .int .i64 sy] 50)
  have B1 := Lib.hid (below1 w (.cells #[.int .i64 W, .slice A n c, .slice T m d, .int .i64 sx, .int .i64 sy] 50))
  go_enter Try.func26, Try.ntmps26
  go_wp2_with fail
  refine (sz_ints_yes A n c left _ (by omega) hl).mono ?_; rintro e w1 ⟨rfl, rfl⟩
  obtain ⟨l2, hl2⟩ : ∃ l2, left - n = l2 := ⟨_, rfl⟩
  rw [hl2]
  have l0 : 0 ≤ l2 := by omega
  have l1 : (m : Int) ≤ l2 := by omega
  have l3 : l2 ≤ 1000000000 := by omega
  have HL := Lib.hid hl2
  clear hl2
  go_wp2_with fail
  refine (sz_tiles_yes T m d l2 _ l1 l3).mono ?_; rintro e w1 ⟨rfl, rfl⟩
  have l4 : 0 ≤ l2 - m := by omega
  go_wp2_with fail
  go_ret
  exact ⟨ret_int (by rw [HL.out]), B1.out⟩
theorem sz_fld_no (W : Int) (A : Option Addr) (n c : Nat) (T : Option Addr) (m d : Nat) (sx sy left : Int) (w : World) (h : left < (n : Int) + m) (h0 : 0 ≤ left) (hl : left ≤ 1000000000) (hn : n ≤ 9223372036854775807) (hm : m ≤ 9223372036854775807) :
    Calls Try.prog 26 #[fldV W A n c T m d sx sy, .int .i64 left] w fun e w' => e = .returned (.int .i64 (-1)) ∧ Below w.heap.size w w' := by
  have X1 := Lib.hid (Box.new w #[.int .i64 W, .slice A n c, .slice T m d, .int .i64 sx, .int .i64 sy] 50)
  have B1 := Lib.hid (below1 w (.cells #[.int .i64 W, .slice A n c, .slice T m d, .int .i64 sx, .int .i64 sy] 50))
  go_enter Try.func26, Try.ntmps26
  go_wp2_with fail
  by_cases hln : left < n
  · refine (sz_ints_no A n c left _ hln (by omega) hn).mono ?_; rintro e w1 ⟨rfl, rfl⟩
    go_wp2_with fail
    go_ret
    exact ⟨rfl, B1.out⟩
  · refine (sz_ints_yes A n c left _ (by omega) hl).mono ?_; rintro e w1 ⟨rfl, rfl⟩
    obtain ⟨l2, hl2⟩ : ∃ l2, left - n = l2 := ⟨_, rfl⟩
    rw [hl2]
    have l0 : 0 ≤ l2 := by omega
    have l1 : l2 < m := by omega
    clear hl2
    go_wp2_with fail
    refine (sz_tiles_no T m d l2 _ l1 (by omega) hm).mono ?_; rintro e w1 ⟨rfl, rfl⟩
    go_wp2_with fail
    go_ret
    exact ⟨rfl, B1.out⟩
set_option maxHeartbeats 2000000 in
theorem to_fld (F : Fld) (A : Option Addr) (c : Nat) (T : Option Addr) (d : Nat) (fa ft : List Nat) (w : World) (hF : FHas w A T F fa ft) (hs : FSmall F) :
    Calls Try.prog 27 #[fv F A c T d] w (FNew F w) := by
  obtain ⟨w1, hw1⟩ : ∃ w1, w1 = ((w.alloc (.cells #[.int .i64 F.w, .slice A F.xs.length c, .slice T F.nt d, .int .i64 F.sx, .int .i64 F.sy] 50)).alloc (.cells #[.int .i64 0, .slice none 0 0, .slice none 0 0, .int .i64 0, .int .i64 0] 33)).alloc (.cells #[.int .i64 0, .slice none 0 0, .slice none 0 0, .int .i64 0, .int .i64 0] 33) := ⟨_, rfl⟩
  have X1 : Hid (Box w1 w.heap.size 50 (fcs F.w A F.xs.length c T F.nt d F.sx F.sy)) := by rw [hw1]; exact ((Box.new w _ _).alloc _).alloc _
  have Y1 : Hid (Box w1 (w.heap.size + 1) 33 (fcs 0 none 0 0 none 0 0 0 0)) := by rw [hw1]; exact (Box.new_at _ _ _ _ (by simp)).alloc _
  have Z1 : Hid (Box w1 (w.heap.size + 1 + 1) 33 (fcs 0 none 0 0 none 0 0 0 0)) := by rw [hw1]; exact Box.new_at _ _ _ _ (by simp)
  have B1 : Hid (Below w.heap.size w w1) := by rw [hw1]; exact below3 w _ _ _
  have HFR : Hid (∀ W, Below w.heap.size w W → FHas W A T F fa ft) := Lib.hid fun W h => hF.below h
  have HS := Lib.hid hs
  clear hF hs
  generalize hb0 : w.heap.size = b0 at X1 Y1 Z1 B1 HFR
  generalize hb1 : b0 + 1 = b1 at Y1 Z1
  generalize hb2 : b1 + 1 = b2 at Z1
  have HBB := Lib.hid (And.intro hb0 (And.intro hb1 hb2))
  have hne : b0 ≠ b1 ∧ b0 ≠ b2 ∧ b1 ≠ b2 := by omega
  obtain ⟨n01, n02, n12⟩ := hne
  have x0 : w1.cell? ⟨b0, 0, none⟩ = some (.int .i64 F.w) := X1.out.cell 0
  have x1 : w1.cell? ⟨b0, 1, none⟩ = some (.slice A F.xs.length c) := X1.out.cell 1
  have z0 : w1.cell? ⟨b2, 0, none⟩ = some (.int .i64 0) := Z1.out.cell 0
  have z1 : w1.cell? ⟨b2, 1, none⟩ = some (.slice none 0 0) := Z1.out.cell 1
  have u0 := Z1.out.frozen 0
  have u1 := Z1.out.frozen 1
  go_enter Try.func27, Try.ntmps27
  go_upto_region 2 with (fail)
  rw [← hw1]
  clear hw1 hb0 hb1 hb2
  go_wp2_with fail
  have X2 := Lib.hid (X1.out.far (b' := b2) (i := 0) n02 (.int .i64 F.w))
  have Y2 := Lib.hid (Y1.out.far (b' := b2) (i := 0) n12 (.int .i64 F.w))
  have Z2 : Hid (Box (w1.setCell ⟨b2, 0, none⟩ (.int .i64 F.w)) b2 33 (fcs F.w none 0 0 none 0 0 0 0)) := Lib.hid (Z1.out.set 0 (.int .i64 F.w))
  have B2 := Lib.hid (B1.out.setCell (p := ⟨b2, 0, none⟩) (show b0 ≤ b2 by have := HBB.out; omega) (.int .i64 F.w))
  clear X1 Y1 Z1 B1 x0 x1 z0 z1 u0 u1
  generalize w1.setCell ⟨b2, 0, none⟩ (.int .i64 F.w) = w2 at X2 Y2 Z2 B2 ⊢
  have h2 := HFR.out _ B2.out
  refine (to_ints A F.xs.length c F.xs fa _ h2.1 HS.out.1).mono ?_; rintro e w3 ⟨A3, c3, f3, rfl, hc3, i3, n3, bl3⟩
  have X3 := Lib.hid (X2.out.below bl3)
  have Y3 := Lib.hid (Y2.out.below bl3)
  have Z3 := Lib.hid (Z2.out.below bl3)
  have L2 : b2 < w2.heap.size := Z2.out.lt
  have B3 : Hid (Below b0 w w3) := Lib.hid (B2.out.trans (bl3.mono (by have := X2.out.lt; omega)))
  have I3 := Lib.hid i3
  have N3 := Lib.hid n3
  have HC3 := Lib.hid hc3
  have x2 : w3.cell? ⟨b0, 2, none⟩ = some (.slice T F.nt d) := X3.out.cell 2
  have z1 : w3.cell? ⟨b2, 1, none⟩ = some (.slice none 0 0) := Z3.out.cell 1
  have u1 := Z3.out.frozen 1
  have L3 : w2.heap.size ≤ w3.heap.size := bl3.size
  clear h2 hc3 i3 n3 bl3
  go_wp2_with fail
  clear x2 z1 u1
  have X4 := Lib.hid (X3.out.far (b' := b2) (i := 1) n02 (.slice A3 F.xs.length c3))
  have Y4 := Lib.hid (Y3.out.far (b' := b2) (i := 1) n12 (.slice A3 F.xs.length c3))
  have Z4 : Hid (Box (w3.setCell ⟨b2, 1, none⟩ (.slice A3 F.xs.length c3)) b2 33 (fcs F.w A3 F.xs.length c3 none 0 0 0 0)) := Lib.hid (Z3.out.set 1 (.slice A3 F.xs.length c3))
  have B4 := Lib.hid (B3.out.setCell (p := ⟨b2, 1, none⟩) (show b0 ≤ b2 by have := HBB.out; omega) (.slice A3 F.xs.length c3))
  have O4 := Lib.hid ((Only.refl [b1, b2] w3).setCell (q := b2) (j := 1) (.inl (by simp)) (.slice A3 F.xs.length c3))
  have L4 : (w3.setCell ⟨b2, 1, none⟩ (.slice A3 F.xs.length c3)).heap.size = w3.heap.size := by simp
  clear X3 Y3 Z3 B3 X2 Y2 Z2 B2
  generalize w3.setCell ⟨b2, 1, none⟩ (.slice A3 F.xs.length c3) = w4 at X4 Y4 Z4 B4 O4 L4 ⊢
  have h4 := HFR.out _ B4.out
  refine (to_tiles T F.nt d F.zs ft _ h4.2 HS.out.2).mono ?_; rintro e w5 ⟨A5, c5, f5, rfl, hc5, i5, n5, bl5⟩
  have X5 := Lib.hid (X4.out.below bl5)
  have Y5 := Lib.hid (Y4.out.below bl5)
  have Z5 := Lib.hid (Z4.out.below bl5)
  have B5 : Hid (Below b0 w w5) := Lib.hid (B4.out.trans (bl5.mono (by have := X4.out.lt; omega)))
  have O5 := Lib.hid (O4.out.trans (.of_below bl5))
  have I5 := Lib.hid i5
  have N5 := Lib.hid n5
  have HC5 := Lib.hid hc5
  have x3 : w5.cell? ⟨b0, 3, none⟩ = some (.int .i64 F.sx) := X5.out.cell 3
  have x4 : w5.cell? ⟨b0, 4, none⟩ = some (.int .i64 F.sy) := X5.out.cell 4
  have z2 : w5.cell? ⟨b2, 2, none⟩ = some (.slice none 0 0) := Z5.out.cell 2
  have z3 : w5.cell? ⟨b2, 3, none⟩ = some (.int .i64 0) := Z5.out.cell 3
  have z4 : w5.cell? ⟨b2, 4, none⟩ = some (.int .i64 0) := Z5.out.cell 4
  have u2 := Z5.out.frozen 2
  have u3 := Z5.out.frozen 3
  have u4 := Z5.out.frozen 4
  have n20 : b2 ≠ b0 := by omega
  clear h4 hc5 i5 n5 bl5 X4 Y4 Z4 B4 O4
  go_upto_region 7 with (fail)
  clear x3 x4 z2 z3 z4 u2 u3 u4
  have Y6 := Lib.hid (((Y5.out.far (b' := b2) (i := 2) n12 (.slice A5 F.nt c5)).far (b' := b2) (i := 3) n12 (.int .i64 F.sx)).far (b' := b2) (i := 4) n12 (.int .i64 F.sy))
  have Z6 : Hid (Box (((w5.setCell ⟨b2, 2, none⟩ (.slice A5 F.nt c5)).setCell ⟨b2, 3, none⟩ (.int .i64 F.sx)).setCell ⟨b2, 4, none⟩ (.int .i64 F.sy)) b2 33 (fcs F.w A3 F.xs.length c3 A5 F.nt c5 F.sx F.sy)) := Lib.hid (((Z5.out.set 2 (.slice A5 F.nt c5)).set 3 (.int .i64 F.sx)).set 4 (.int .i64 F.sy))
  have hle : b0 ≤ b2 := by have := HBB.out; omega
  have B6 := Lib.hid (((B5.out.setCell (p := ⟨b2, 2, none⟩) hle (.slice A5 F.nt c5)).setCell (p := ⟨b2, 3, none⟩) hle (.int .i64 F.sx)).setCell (p := ⟨b2, 4, none⟩) hle (.int .i64 F.sy))
  have O6 := Lib.hid ((((Only.refl [b1, b2] w5).setCell (q := b2) (j := 2) (.inl (by simp)) (.slice A5 F.nt c5)).setCell (q := b2) (j := 3) (.inl (by simp)) (.int .i64 F.sx)).setCell (q := b2) (j := 4) (.inl (by simp)) (.int .i64 F.sy))
  clear Y5 Z5 B5 X5
  generalize ((w5.setCell ⟨b2, 2, none⟩ (.slice A5 F.nt c5)).setCell ⟨b2, 3, none⟩ (.int .i64 F.sx)).setCell ⟨b2, 4, none⟩ (.int .i64 F.sy) = w6 at Y6 Z6 B6 O6 ⊢
  go_wp2_with (first | (refine fs_load (by rfl) _ rfl b2 rfl Z6.out ?_) | (refine fs_store (by rfl) _ _ rfl b1 rfl rfl _ Y6.out rfl ?_))
  refine bodyPost_ret (v := fv F A3 c3 A5 c5) (fld_ret rfl rfl (Box.row Y6.out)) rfl ?_
  have O7 := O6.out.row (g := b1) (.inl (by simp)) (fcs F.w A3 F.xs.length c3 A5 F.nt c5 F.sx F.sy).toArray
  have O8 := O5.out.trans O7
  have hb := HBB.out
  have s3 : Same f3 w3 _ := .of_only O8 fun b hb3 hs => by
    have := (N3.out.lt b hb3).1
    simp only [List.mem_cons, List.mem_nil_iff, or_false] at hs
    omega
  have s5 : Same f5 w5 _ := .of_only O7 fun b hb3 hs => by
    have := (N5.out.lt b hb3).1
    simp only [List.mem_cons, List.mem_nil_iff, or_false] at hs
    omega
  refine ⟨A3, c3, A5, c5, f3, f5, rfl, HC3.out, HC5.out, ⟨I3.out.keep s3, I5.out.keep s5⟩, (((N3.out.mono (by omega)).keep s3).append ((N5.out.mono (by omega)).keep s5) fun b h3 h5 => ?_), ?_⟩
  · have := (N3.out.lt b h3).2
    have := (N5.out.lt b h5).1
    omega
  · rw [hb.1]
    exact below_row B6.out (by omega) _
set_option maxHeartbeats 2000000 in
theorem eq_fld (F : Fld) (A B : Option Addr) (c e' : Nat) (T U : Option Addr) (d f' : Nat) (fa ft ga gt : List Nat) (w : World) (hF : FHas w A T F fa ft) (hG : FHas w B U F ga gt) (hs : FSmall F) :
    Calls Try.prog 29 #[fv F A c T d, fv F B e' U f'] w fun e w' => e = .returned (.bool true) ∧ Below w.heap.size w w' := by
  obtain ⟨w1, hw1⟩ : ∃ w1, w1 = (w.alloc (.cells #[.int .i64 F.w, .slice A F.xs.length c, .slice T F.nt d, .int .i64 F.sx, .int .i64 F.sy] 33)).alloc (.cells #[.int .i64 F.w, .slice B F.xs.length e', .slice U F.nt f', .int .i64 F.sx, .int .i64 F.sy] 33) := ⟨_, rfl⟩
  have X1 : Hid (Box w1 w.heap.size 33 (fcs F.w A F.xs.length c T F.nt d F.sx F.sy)) := by rw [hw1]; exact (Box.new w _ _).alloc _
  have Y1 : Hid (Box w1 (w.heap.size + 1) 33 (fcs F.w B F.xs.length e' U F.nt f' F.sx F.sy)) := by rw [hw1]; exact Box.new_at _ _ _ _ (by simp)
  have B1 : Hid (Below w.heap.size w w1) := by rw [hw1]; exact below2 w _ _
  have HF := Lib.hid (FHas.below hF B1.out)
  have HG := Lib.hid (FHas.below hG B1.out)
  have HS := Lib.hid hs
  clear hF hG hs
  have x0 : w1.cell? ⟨w.heap.size, 0, none⟩ = some (.int .i64 F.w) := X1.out.cell 0
  have x1 : w1.cell? ⟨w.heap.size, 1, none⟩ = some (.slice A F.xs.length c) := X1.out.cell 1
  have y0 : w1.cell? ⟨w.heap.size + 1, 0, none⟩ = some (.int .i64 F.w) := Y1.out.cell 0
  have y1 : w1.cell? ⟨w.heap.size + 1, 1, none⟩ = some (.slice B F.xs.length e') := Y1.out.cell 1
  go_enter Try.func29, Try.ntmps29
  go_upto_region 1 with (fail)
  rw [← hw1]
  clear hw1
  go_wp2_with fail
  refine (eq_ints A B F.xs.length c e' F.xs fa ga _ HF.out.1 HG.out.1 HS.out.1).mono ?_; rintro e w2 ⟨rfl, q, rfl⟩
  have x2 : (w1.drewN q).cell? ⟨w.heap.size, 2, none⟩ = some (.slice T F.nt d) := X1.out.cell 2
  have y2 : (w1.drewN q).cell? ⟨w.heap.size + 1, 2, none⟩ = some (.slice U F.nt f') := Y1.out.cell 2
  have X2 : Hid (Box (w1.drewN q) w.heap.size 33 (fcs F.w A F.xs.length c T F.nt d F.sx F.sy)) := Lib.hid X1.out
  have Y2 : Hid (Box (w1.drewN q) (w.heap.size + 1) 33 (fcs F.w B F.xs.length e' U F.nt f' F.sx F.sy)) := Lib.hid Y1.out
  have B2 := Lib.hid (below_drewN B1.out q)
  have HF2 := Lib.hid (HF.out.2.below (below_drewN (Below.refl w1.heap.size w1) q))
  have HG2 := Lib.hid (HG.out.2.below (below_drewN (Below.refl w1.heap.size w1) q))
  clear x0 x1 y0 y1 X1 Y1 B1 HF HG
  generalize w1.drewN q = w2 at x2 y2 X2 Y2 B2 HF2 HG2 ⊢
  go_wp2_with fail
  refine (eq_tiles T U F.nt d f' F.zs ft gt _ HF2.out HG2.out HS.out.2).mono ?_; rintro e w3 ⟨rfl, b3⟩
  have x3 : w3.cell? ⟨w.heap.size, 3, none⟩ = some (.int .i64 F.sx) := (X2.out.below b3).cell 3
  have x4 : w3.cell? ⟨w.heap.size, 4, none⟩ = some (.int .i64 F.sy) := (X2.out.below b3).cell 4
  have y3 : w3.cell? ⟨w.heap.size + 1, 3, none⟩ = some (.int .i64 F.sx) := (Y2.out.below b3).cell 3
  have y4 : w3.cell? ⟨w.heap.size + 1, 4, none⟩ = some (.int .i64 F.sy) := (Y2.out.below b3).cell 4
  have B3 := Lib.hid (below_then B2.out b3)
  clear x2 y2 X2 Y2 B2 HF2 HG2 b3
  go_wp2_with fail
  go_ret
  exact ⟨rfl, B3.out⟩
/-- What marking a background leaves. -/
def MarkedF (F : Fld) (A T : Option Addr) (k : Int) (fa ft : List Nat) (w : World) (e : Ending) (w' : World) : Prop :=
  e = .returned (.int .i64 (k + F.xs.length + (64 * F.nt : Nat))) ∧ Only (fa ++ ft) w w' ∧ Ints w' A F.xs.length (upFrom k F.xs.length) fa ∧ Ints w' T (64 * F.nt) (upFrom (k + F.xs.length) (64 * F.nt)) ft
set_option maxHeartbeats 1000000 in
theorem mark_fld (F : Fld) (A : Option Addr) (c : Nat) (T : Option Addr) (d : Nat) (k : Int) (fa ft : List Nat) (w : World) (hF : FHas w A T F fa ft) (hn : New 0 w (fa ++ ft)) (h1 : F.xs.length ≤ 100000000) (h2 : F.nt ≤ 100000000) (k0 : 0 ≤ k) (k1 : k ≤ 1000000000) :
    Calls Try.prog 30 #[fv F A c T d, .int .i64 k] w (MarkedF F A T k fa ft w) := by
  have X1 := Lib.hid (Box.new w #[.int .i64 F.w, .slice A F.xs.length c, .slice T F.nt d, .int .i64 F.sx, .int .i64 F.sy] 33)
  have O1 := Lib.hid ((Only.refl (fa ++ ft) w).alloc (.cells #[.int .i64 F.w, .slice A F.xs.length c, .slice T F.nt d, .int .i64 F.sx, .int .i64 F.sy] 33))
  have HF := Lib.hid (FHas.below hF (below1 w (.cells #[.int .i64 F.w, .slice A F.xs.length c, .slice T F.nt d, .int .i64 F.sx, .int .i64 F.sy] 33)))
  have HN := Lib.hid (hn.keep (.of_below (below1 w (.cells #[.int .i64 F.w, .slice A F.xs.length c, .slice T F.nt d, .int .i64 F.sx, .int .i64 F.sy] 33))))
  have HL := Lib.hid (fun b hb => (hn.lt b hb).2)
  clear hF hn
  go_enter Try.func30, Try.ntmps30
  go_wp2_with fail
  generalize w.alloc (.cells #[.int .i64 F.w, .slice A F.xs.length c, .slice T F.nt d, .int .i64 F.sx, .int .i64 F.sy] 33) = w1 at X1 O1 HF HN ⊢
  have hnd := List.nodup_append.1 HN.out.once
  refine (mark_ints A F.xs.length c k F.xs fa _ HF.out.1 (fun b hb o => HN.out.free b (List.mem_append_left _ hb) o) (by omega) k0 (by omega)).mono ?_; rintro e w2 ⟨rfl, o2, i2, fr2⟩
  have hxb : w.heap.size ∉ fa := fun hb => by have := HL.out _ (List.mem_append_left _ hb); omega
  have X2 := Lib.hid (X1.out.only o2 hxb)
  have hdj : ∀ b ∈ ft, b ∉ fa := fun b hb ha => hnd.2.2 b ha b hb rfl
  have HT2 := Lib.hid (HF.out.2.keep (.of_only o2 hdj))
  have HN2 := Lib.hid (fun b (hb : b ∈ ft) o => (World.frozen?_of_block (a := ⟨b, o, none⟩) (o2.block b (HF.out.2.lt b hb) (hdj b hb))).trans (HN.out.free b (List.mem_append_right _ hb) o))
  have I2 := Lib.hid i2
  have O2 := Lib.hid (O1.out.trans (o2.mono fun b hb => List.mem_append_left _ hb))
  have HD := Lib.hid hdj
  have x2 : w2.cell? ⟨w.heap.size, 2, none⟩ = some (.slice T F.nt d) := X2.out.cell 2
  clear o2 i2 fr2 hnd X1 HF HN O1 hxb hdj
  go_wp2_with fail
  refine (mark_tiles T F.nt d (k + F.xs.length) F.zs ft _ HT2.out HN2.out h2 (by omega) (by omega)).mono ?_; rintro e w3 ⟨rfl, o3, i3, fr3⟩
  have I3 := Lib.hid i3
  have J3 := Lib.hid (I2.out.keep (.of_only o3 fun b hb ht => HD.out b ht hb))
  have O3 := Lib.hid (O2.out.trans (o3.mono fun b hb => List.mem_append_right _ hb))
  clear o3 i3 fr3 x2
  go_wp2_with fail
  go_ret
  exact ⟨rfl, O3.out, J3.out, I3.out⟩
end Go.Proofs.Ytddllcgbdgpkbaa
