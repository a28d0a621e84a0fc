/- The exact laws of chapter 8, walked. -/
import Derived.Test.YtihohmmfgamecaaTilO
import Derived.Test.YtihohmmfgamecaaTilS
import Derived.Test.YtihohmmfgamecaaSliceK
import Derived.Deep.DeepCutAuto
namespace Go.Proofs.Ytihohmmfgamecaa
open Go.ChangeShapes Go.WideShapes Go.ChangeAt Go.RowKit
set_option linter.unusedVariables false

theorem usedT_any (px : List Int) : ∃ u, usedT px = u := ⟨_, rfl⟩
set_option maxRecDepth 100000 in
set_option maxHeartbeats 4000000 in
theorem walk_FnExactTileValid (TK : TilOk) (px : List Int) (w : World) (hp : px.length = 64) : Calls Try.prog 11 #[tilV px] w fun e w' => e = .returned (.bool true) ∧ Below w.heap.size w w' := by
  go_enter Try.func11, Try.ntmps11
  go_wp2_with (first | (refine st_loadL (by rfl) _ rfl _ rfl px hp (Box.new w (iv px).toArray _) ?_))
  refine (to_til px hp _).mono ?_; rintro e w1 ⟨rfl, b1⟩
  have X1 : Hid (Box w1 w.heap.size 41 (iv px)) := (Box.new w _ _).below b1
  have B1 : Hid (Below w.heap.size w w1) := (below1 w _).trans (b1.mono (by simp))
  clear b1
  go_wp2_with fail
  refine (spec_tileValid px hp _).mono ?_; rintro e w2 ⟨rfl, b2⟩
  have X2 := Lib.hid (X1.out.below b2)
  have B2 := Lib.hid (below_then B1.out b2)
  clear b2
  go_wp2_with (first | (refine st_loadL (by rfl) _ rfl _ rfl px hp X2.out ?_))
  refine (to_til px hp _).mono ?_; rintro e w3 ⟨rfl, b3⟩
  have B3 := Lib.hid (below_then B2.out b3)
  clear b3
  go_wp2_with fail
  refine (TK.valid px _ hp).mono ?_; rintro e w4 ⟨rfl, b4⟩
  have B4 := Lib.hid (below_then B3.out b4)
  clear b4
  generalize tilB px = V
  cases V
  all_goals
    go_wp2_with fail
    go_ret
    exact ⟨rfl, B4.out⟩
set_option maxRecDepth 100000 in
set_option maxHeartbeats 4000000 in
theorem walk_FnExactUsedValues (TK : TilOk) (px : List Int) (w : World) (hp : px.length = 64) : Calls Try.prog 16 #[tilV px] w fun e w' => e = .returned (.bool true) ∧ Below w.heap.size w w' := by
  go_enter Try.func16, Try.ntmps16
  go_wp2_with (first | (refine st_loadL (by rfl) _ rfl _ rfl px hp (Box.new w (iv px).toArray _) ?_))
  refine (to_til px hp _).mono ?_; rintro e w1 ⟨rfl, b1⟩
  have X1 : Hid (Box w1 w.heap.size 41 (iv px)) := (Box.new w _ _).below b1
  have B1 : Hid (Below w.heap.size w w1) := (below1 w _).trans (b1.mono (by simp))
  clear b1
  go_wp2_with fail
  refine (spec_used px hp _).mono ?_; rintro e w2 ⟨rfl, b2⟩
  have X2 := Lib.hid (X1.out.below b2)
  have B2 := Lib.hid (below_then B1.out b2)
  clear b2
  go_wp2_with (first | (refine st_loadL (by rfl) _ rfl _ rfl px hp X2.out ?_))
  refine (to_til px hp _).mono ?_; rintro e w3 ⟨rfl, b3⟩
  have B3 := Lib.hid (below_then B2.out b3)
  clear b3
  go_wp2_with fail
  refine (TK.used px _ hp).mono ?_; rintro e w4 ⟨rfl, b4⟩
  have B4 := Lib.hid (below_then B3.out b4)
  clear b4
  generalize usedT px = V
  go_wp2_with fail
  go_ret
  exact ⟨rfl, B4.out⟩
set_option maxRecDepth 100000 in
set_option maxHeartbeats 4000000 in
theorem walk_FnExactTurnTile (TK : TilOk) (px : List Int) (w : World) (hp : px.length = 64) : Calls Try.prog 15 #[tilV px] w fun e w' => e = .returned (.bool true) ∧ Below w.heap.size w w' := by
  go_enter Try.func15, Try.ntmps15
  obtain ⟨qx, hqx⟩ : ∃ qx, turnT px = qx := ⟨_, rfl⟩
  have hq : qx.length = 64 := by rw [← hqx]; exact turn_len px
  have HQ := Lib.hid hqx
  clear hqx
  go_wp2_with (first | (refine st_loadL (by rfl) _ rfl _ rfl px hp (Box.new w (iv px).toArray _) ?_))
  refine (to_til px hp _).mono ?_; rintro e w1 ⟨rfl, b1⟩
  have X1 : Hid (Box w1 w.heap.size 41 (iv px)) := (Box.new w _ _).below b1
  have B1 : Hid (Below w.heap.size w w1) := (below1 w _).trans (b1.mono (by simp))
  clear b1
  go_wp2_with fail
  refine (spec_turn px hp _).mono ?_; rintro e w2 ⟨rfl, b2⟩
  rw [HQ.out]
  have X2 := Lib.hid (X1.out.below b2)
  have B2 := Lib.hid (below_then B1.out b2)
  clear b2
  have X3 := Lib.hid (X2.out.alloc (.cells (iv qx).toArray 25))
  have Y3 : Hid (Box (w2.alloc (.cells (iv qx).toArray 25)) w2.heap.size 25 (iv qx)) := Box.new w2 _ _
  have B3 := Lib.hid (B2.out.alloc B2.out.size (.cells (iv qx).toArray 25))
  clear X2 B2 X1 B1
  go_upto_region 2 with (first | (refine st_alloc (by rfl) rfl ?_) | (refine st_store (by rfl) _ _ rfl _ rfl qx rfl hq (iv z64) (Box.new _ _ _) (by simp [z64_len]) ?_))
  rw [World.setRow_alloc_new]
  generalize w2.alloc (.cells (iv qx).toArray 25) = w3 at X3 Y3 B3 ⊢
  generalize w2.heap.size = by3 at Y3 ⊢
  go_wp2_with (first | (refine st_loadL (by rfl) _ rfl _ rfl px hp X3.out ?_))
  refine (to_til px hp _).mono ?_; rintro e w4 ⟨rfl, b4⟩
  have Y4 := Lib.hid (Y3.out.below b4)
  have B4 := Lib.hid (below_then B3.out b4)
  clear b4
  go_wp2_with fail
  refine (TK.turn px _ hp).mono ?_; rintro e w5 ⟨rfl, b5⟩
  rw [HQ.out]
  have Y5 := Lib.hid (Y4.out.below b5)
  have B5 := Lib.hid (below_then B4.out b5)
  clear b5
  have Y6 := Lib.hid (Y5.out.alloc (.cells (iv qx).toArray 25))
  have Z6 : Hid (Box (w5.alloc (.cells (iv qx).toArray 25)) w5.heap.size 25 (iv qx)) := Box.new w5 _ _
  have B6 := Lib.hid (B5.out.alloc B5.out.size (.cells (iv qx).toArray 25))
  clear Y5 B5 Y4 B4 Y3 B3 X3
  go_upto_region 3 with (first | (refine st_alloc (by rfl) rfl ?_) | (refine st_store (by rfl) _ _ rfl _ rfl qx rfl hq (iv z64) (Box.new _ _ _) (by simp [z64_len]) ?_))
  rw [World.setRow_alloc_new]
  generalize w5.alloc (.cells (iv qx).toArray 25) = w6 at Y6 Z6 B6 ⊢
  generalize w5.heap.size = bz6 at Z6 ⊢
  go_wp2_with (first | (refine st_load (by rfl) _ rfl _ rfl qx hq Y6.out ?_) | (refine st_load (by rfl) _ rfl _ rfl qx hq Z6.out ?_))
  refine (eq_til qx hq _).mono ?_; rintro e w7 ⟨rfl, b7⟩
  have B7 := Lib.hid (below_then B6.out b7)
  clear b7
  go_wp2_with fail
  go_ret
  exact ⟨rfl, B7.out⟩
set_option maxRecDepth 100000 in
set_option maxHeartbeats 4000000 in
theorem walk_FnExactFlipTile (TK : TilOk) (px : List Int) (a d : Bool) (w : World) (hp : px.length = 64) : Calls Try.prog 14 #[tilV px, .bool a, .bool d] w fun e w' => e = .returned (.bool true) ∧ Below w.heap.size w w' := by
  go_enter Try.func14, Try.ntmps14
  obtain ⟨qx, hqx⟩ : ∃ qx, flipT px a d = qx := ⟨_, rfl⟩
  have hq : qx.length = 64 := by rw [← hqx]; exact flip_len px a d
  have HQ := Lib.hid hqx
  clear hqx
  go_wp2_with (first | (refine st_loadL (by rfl) _ rfl _ rfl px hp (Box.new w (iv px).toArray _) ?_))
  refine (to_til px hp _).mono ?_; rintro e w1 ⟨rfl, b1⟩
  have X1 : Hid (Box w1 w.heap.size 41 (iv px)) := (Box.new w _ _).below b1
  have B1 : Hid (Below w.heap.size w w1) := (below1 w _).trans (b1.mono (by simp))
  clear b1
  go_wp2_with fail
  refine (spec_flip px hp a d _).mono ?_; rintro e w2 ⟨rfl, b2⟩
  rw [HQ.out]
  have X2 := Lib.hid (X1.out.below b2)
  have B2 := Lib.hid (below_then B1.out b2)
  clear b2
  have X3 := Lib.hid (X2.out.alloc (.cells (iv qx).toArray 25))
  have Y3 : Hid (Box (w2.alloc (.cells (iv qx).toArray 25)) w2.heap.size 25 (iv qx)) := Box.new w2 _ _
  have B3 := Lib.hid (B2.out.alloc B2.out.size (.cells (iv qx).toArray 25))
  clear X2 B2 X1 B1
  go_upto_region 2 with (first | (refine st_alloc (by rfl) rfl ?_) | (refine st_store (by rfl) _ _ rfl _ rfl qx rfl hq (iv z64) (Box.new _ _ _) (by simp [z64_len]) ?_))
  rw [World.setRow_alloc_new]
  generalize w2.alloc (.cells (iv qx).toArray 25) = w3 at X3 Y3 B3 ⊢
  generalize w2.heap.size = by3 at Y3 ⊢
  go_wp2_with (first | (refine st_loadL (by rfl) _ rfl _ rfl px hp X3.out ?_))
  refine (to_til px hp _).mono ?_; rintro e w4 ⟨rfl, b4⟩
  have Y4 := Lib.hid (Y3.out.below b4)
  have B4 := Lib.hid (below_then B3.out b4)
  clear b4
  go_wp2_with fail
  refine (TK.flip px a d _ hp).mono ?_; rintro e w5 ⟨rfl, b5⟩
  rw [HQ.out]
  have Y5 := Lib.hid (Y4.out.below b5)
  have B5 := Lib.hid (below_then B4.out b5)
  clear b5
  have Y6 := Lib.hid (Y5.out.alloc (.cells (iv qx).toArray 25))
  have Z6 : Hid (Box (w5.alloc (.cells (iv qx).toArray 25)) w5.heap.size 25 (iv qx)) := Box.new w5 _ _
  have B6 := Lib.hid (B5.out.alloc B5.out.size (.cells (iv qx).toArray 25))
  clear Y5 B5 Y4 B4 Y3 B3 X3
  go_upto_region 3 with (first | (refine st_alloc (by rfl) rfl ?_) | (refine st_store (by rfl) _ _ rfl _ rfl qx rfl hq (iv z64) (Box.new _ _ _) (by simp [z64_len]) ?_))
  rw [World.setRow_alloc_new]
  generalize w5.alloc (.cells (iv qx).toArray 25) = w6 at Y6 Z6 B6 ⊢
  generalize w5.heap.size = bz6 at Z6 ⊢
  go_wp2_with (first | (refine st_load (by rfl) _ rfl _ rfl qx hq Y6.out ?_) | (refine st_load (by rfl) _ rfl _ rfl qx hq Z6.out ?_))
  refine (eq_til qx hq _).mono ?_; rintro e w7 ⟨rfl, b7⟩
  have B7 := Lib.hid (below_then B6.out b7)
  clear b7
  go_wp2_with fail
  go_ret
  exact ⟨rfl, B7.out⟩
set_option maxRecDepth 100000 in
set_option maxHeartbeats 4000000 in
theorem walk_FnExactReadTile (TK : TilOk) (A : Option Addr) (n c : Nat) (xs : List Int) (fa : List Nat) (w : World) (hn : n ≤ 9223372036854775807) (ha : Ints w A n xs fa) : Calls Try.prog 13 #[.slice A n c] w fun e w' => e = .returned (.bool true) ∧ Below w.heap.size w w' := by
  have HA := Lib.hid ha
  clear ha
  by_cases hs : n ≤ 1048576
  case neg =>
    go_enter Try.func13, Try.ntmps13
    go_wp2_with fail
    go_ret
    exact ⟨rfl, Below.refl _ _⟩
  obtain ⟨V, hV⟩ : ∃ V, sixB xs = V := ⟨_, rfl⟩
  obtain ⟨qx, hqx⟩ : ∃ qx, readT xs = qx := ⟨_, rfl⟩
  have hq : qx.length = 64 := by rw [← hqx]; exact read_len xs
  have HV := Lib.hid hV
  have HQ := Lib.hid hqx
  clear hV hqx
  go_enter Try.func13, Try.ntmps13
  go_wp2_with fail
  refine (to_ints _ _ _ _ _ _ HA.out (by omega)).mono ?_; rintro e w1 ⟨SA, sc, sfp, rfl, hsc, si, sn, b1⟩
  have B1 := Lib.hid b1
  have S1 := Lib.hid si
  clear b1 si sn
  go_wp2_with fail
  refine (spec_read _ _ _ _ _ _ S1.out (by omega) hsc).mono ?_; rintro e w2 ⟨rfl, b2⟩
  rw [HV.out, HQ.out]
  have B2 := Lib.hid (below_then B1.out b2)
  have Y3 : Hid (Box (w2.alloc (.cells (iv qx).toArray 25)) w2.heap.size 25 (iv qx)) := Box.new w2 _ _
  have B3 := Lib.hid (B2.out.alloc B2.out.size (.cells (iv qx).toArray 25))
  clear b2 S1 B1 B2
  go_upto_region 4 with (first | (refine st_alloc (by rfl) rfl ?_) | (refine st_store (by rfl) _ _ rfl _ rfl qx rfl hq (iv z64) (Box.new _ _ _) (by simp [z64_len]) ?_))
  rw [World.setRow_alloc_new]
  generalize w2.alloc (.cells (iv qx).toArray 25) = w3 at Y3 B3 ⊢
  generalize w2.heap.size = by3 at Y3 ⊢
  go_wp2_with fail
  refine (to_ints _ _ _ _ _ _ (HA.out.below B3.out) (by omega)).mono ?_; rintro e w4 ⟨XA, xc, xfp, rfl, hxc, xi, xn, b4⟩
  have B4 := Lib.hid (below_then B3.out b4)
  have Y4 := Lib.hid (Y3.out.below b4)
  have I4 := Lib.hid xi
  clear b4 xi xn B3 Y3
  go_wp2_with fail
  refine (TK.read _ _ _ _ _ _ I4.out (by omega) hxc).mono ?_; rintro e w5 ⟨rfl, b5⟩
  rw [HV.out, HQ.out]
  have B5 := Lib.hid (below_then B4.out b5)
  have Y5 := Lib.hid (Y4.out.below b5)
  have I5 := Lib.hid (I4.out.below b5)
  have Y6 := Lib.hid (Y5.out.alloc (.cells (iv qx).toArray 25))
  have Z6 : Hid (Box (w5.alloc (.cells (iv qx).toArray 25)) w5.heap.size 25 (iv qx)) := Box.new w5 _ _
  have I6 := Lib.hid (I5.out.below (below1 w5 (.cells (iv qx).toArray 25)))
  have B6 := Lib.hid (B5.out.alloc B5.out.size (.cells (iv qx).toArray 25))
  clear b5 B4 Y4 I4 B5 Y5 I5
  go_upto_region 6 with (first | (refine st_alloc (by rfl) rfl ?_) | (refine st_store (by rfl) _ _ rfl _ rfl qx rfl hq (iv z64) (Box.new _ _ _) (by simp [z64_len]) ?_))
  rw [World.setRow_alloc_new]
  generalize w5.alloc (.cells (iv qx).toArray 25) = w6 at Y6 Z6 B6 I6 ⊢
  generalize w5.heap.size = bz6 at Z6 ⊢
  go_wp2_with (first | (refine st_load (by rfl) _ rfl _ rfl qx hq Y6.out ?_) | (refine st_load (by rfl) _ rfl _ rfl qx hq Z6.out ?_))
  refine (eq_til qx hq _).mono ?_; rintro e w7 ⟨rfl, b7⟩
  have B7 := Lib.hid (below_then B6.out b7)
  have I7 := Lib.hid (I6.out.below b7)
  clear b7 Y6 Z6 B6 I6
  cases V
  all_goals
    go_wp2_with fail
    refine (to_ints _ _ _ _ _ _ (HA.out.below B7.out) (by omega)).mono ?_; rintro e w8 ⟨YA, yc, yfp, rfl, hyc, yi, yn, b8⟩
    have B8 := Lib.hid (below_then B7.out b8)
    have I8 := Lib.hid (I7.out.below b8)
    have J8 := Lib.hid yi
    clear b8 yi yn
    go_wp2_with fail
    refine (eq_ints _ _ _ _ _ _ _ _ _ I8.out J8.out (by omega)).mono ?_; rintro e w9 ⟨rfl, m9, rfl⟩
    go_wp2_with fail
    go_ret
    exact ⟨rfl, below_drewN B8.out m9⟩
set_option maxRecDepth 100000 in
set_option maxHeartbeats 4000000 in
theorem walk_FnExactTileBytes (TK : TilOk) (px : List Int) (w : World) (hp : px.length = 64) : Calls Try.prog 12 #[tilV px] w fun e w' => e = .returned (.bool true) ∧ Below w.heap.size w w' := by
  obtain ⟨ys, hys⟩ : ∃ ys, bytesT px = ys := ⟨_, rfl⟩
  have hn16 : ys.length ≤ 16 := by
    rw [← hys]; unfold bytesT
    split
    · rw [bytT_len]; omega
    · simp
  have HY := Lib.hid hys
  clear hys
  go_enter Try.func12, Try.ntmps12
  go_wp2_with (first | (refine st_loadL (by rfl) _ rfl _ rfl px hp (Box.new w (iv px).toArray _) ?_))
  refine (to_til px hp _).mono ?_; rintro e w1 ⟨rfl, b1⟩
  have X1 : Hid (Box w1 w.heap.size 41 (iv px)) := (Box.new w _ _).below b1
  have B1 : Hid (Below w.heap.size w w1) := (below1 w _).trans (b1.mono (by simp))
  clear b1
  go_wp2_with fail
  refine (spec_bytes px hp _).mono ?_; rintro e w2 ⟨SA, sc, sfp, rfl, hsc, si, sn, b2⟩
  rw [HY.out] at hsc si ⊢
  have X2 := Lib.hid (X1.out.below b2)
  have B2 := Lib.hid (below_then B1.out b2)
  have S2 := Lib.hid si
  clear b2 si sn X1 B1
  go_wp2_with (first | (refine st_loadL (by rfl) _ rfl _ rfl px hp X2.out ?_))
  refine (to_til px hp _).mono ?_; rintro e w3 ⟨rfl, b3⟩
  have B3 := Lib.hid (below_then B2.out b3)
  have X3 := Lib.hid (X2.out.below b3)
  have S3 := Lib.hid (S2.out.below b3)
  clear b3 X2 B2 S2
  go_wp2_with fail
  refine (TK.bytes px _ hp).mono ?_; rintro e w4 ⟨GA, gc, gfp, rfl, hgc, gi, gn, b4⟩
  rw [HY.out] at hgc gi ⊢
  have B4 := Lib.hid (below_then B3.out b4)
  have X4 := Lib.hid (X3.out.below b4)
  have S4 := Lib.hid (S3.out.below b4)
  have G4 := Lib.hid gi
  have N4 := Lib.hid gn
  have sl : Hid (∀ b ∈ sfp, b < w3.heap.size) := S3.out.lt
  clear b4 gi gn
  go_wp2_with fail
  refine (eq_ints _ _ _ _ _ _ _ _ _ G4.out S4.out (by omega)).mono ?_; rintro e w5 ⟨rfl, m5, rfl⟩
  go_wp2_with fail
  refine (mark_ints _ _ _ 1 _ _ _ (show Ints (w4.drewN m5) _ _ _ _ from G4.out) (fun b hb o => N4.out.free b hb o) (by omega) (by omega) (by omega)).mono ?_; rintro e w6 ⟨rfl, o6, g6, f6⟩
  have O6 : Hid (Only gfp w4 w6) := ⟨o6.os, o6.tape, o6.output, o6.size, o6.block⟩
  have G6 := Lib.hid g6
  clear o6 g6 f6
  generalize hK : ys.length = K at hn16 G6 S4
  have HK := Lib.hid hK
  clear hK G4 S3
  have X6 := Lib.hid (X4.out.only O6.out (fun hb => by have := (N4.out.lt _ hb).1; have := X3.out.lt; omega))
  have B6 : Hid (Below w.heap.size w w6) := B4.out.trans (O6.out.below (fun b hb => by have := (N4.out.lt b hb).1; have := B3.out.size; omega) B4.out.size)
  have S6 := Lib.hid (S4.out.keep (.of_only O6.out (fun b hb hg => by have := (N4.out.lt b hg).1; have := sl.out b hb; omega)))
  go_wp2_with fail
  refine (held_ints _ _ _ 1 _ _ G6.out (by omega) (by omega) (by omega)).mono ?_; rintro e w' ⟨rfl, rfl⟩
  go_wp2_with (first | (refine st_loadL (by rfl) _ rfl _ rfl px hp X6.out ?_))
  refine (to_til px hp _).mono ?_; rintro e w7 ⟨rfl, b7⟩
  have B7 := Lib.hid (below_then B6.out b7)
  have S7 := Lib.hid (S6.out.below b7)
  have G7 := Lib.hid (G6.out.below b7)
  clear b7
  go_wp2_with fail
  refine (TK.bytes px _ hp).mono ?_; rintro e w8 ⟨HA, hc, hfp, rfl, hhc, hi, hnw, b8⟩
  rw [HY.out] at hhc hi ⊢
  have B8 := Lib.hid (below_then B7.out b8)
  have S8 := Lib.hid (S7.out.below b8)
  have G8 := Lib.hid (G7.out.below b8)
  rw [HK.out] at hi hhc ⊢
  have H8 := Lib.hid hi
  clear b8 hi hnw
  go_wp2_with fail
  refine (eq_ints _ _ _ _ _ _ _ _ _ H8.out S8.out (by omega)).mono ?_; rintro e w9 ⟨rfl, m9, rfl⟩
  have G9 : Hid (Ints (w8.drewN m9) GA K (upFrom 1 K) gfp) := G8.out
  go_wp2_with fail
  refine (held_ints _ _ _ 1 _ _ G9.out (by omega) (by omega) (by omega)).mono ?_; rintro e w' ⟨rfl, rfl⟩
  go_wp2_with fail
  go_ret
  exact ⟨rfl, below_drewN B8.out m9⟩
end Go.Proofs.Ytihohmmfgamecaa
