/- The laws of chapter 8 on a tile's bytes, walked. -/
import Derived.Test.YtihohmmfgamecaaTilO
import Derived.Test.YtihohmmfgamecaaTypedT
import Derived.Test.YtihohmmfgamecaaLater
import Derived.Test.YtihohmmfgamecaaTilK
import Derived.Deep.DeepCutAuto
namespace Go.Proofs.Ytihohmmfgamecaa
open Go.ChangeShapes Go.WideShapes Go.ChangeAt Go.RowKit
set_option linter.unusedVariables false

set_option maxRecDepth 100000 in
set_option maxHeartbeats 8000000 in
theorem walk_FnTileBytes (TK : TilOk) (a0 : Option Addr) (len0 cap0 : Nat) (z0 : List Int) (w : World) (w0 : IsRow .u8 w a0 len0 cap0 z0) :
    Calls Try.prog 4 #[.slice a0 len0 cap0] w fun e w' => e = .returned (.bool true) ∧ Below w.heap.size w w' := by
  have H := Lib.hid w0
  have hl0 := isRow_len w0
  clear w0
  by_cases hs : len0 ≤ 1048576
  case neg =>
    have hs' : 1048576 < len0 := by omega
    go_enter Try.func4, Try.ntmps4
    go_wp2_with fail
    go_ret
    exact ⟨rfl, Below.refl _ _⟩
  go_enter Try.func4, Try.ntmps4
  go_wp2_with fail
  refine (draw_tileBytes _ _ _ _ _ H.out).mono ?_; rintro e w1 ⟨px, hpx, rfl, b1⟩
  have hl := hpx.1
  have X1 : Hid (Box (w1.alloc (.cells (iv px).toArray 25)) w1.heap.size 25 (iv px)) := Box.new w1 _ _
  have B1 : Hid (Below w.heap.size w (w1.alloc (.cells (iv px).toArray 25))) := b1.alloc b1.size _
  clear b1
  go_upto_region 4 with (first | (refine st_alloc (by rfl) rfl ?_) | (refine st_store (by rfl) _ _ rfl _ rfl px rfl hl (iv z64) (Box.new _ _ _) (by simp [z64_len]) ?_))
  rw [World.setRow_alloc_new]
  generalize w1.alloc (.cells (iv px).toArray 25) = W1 at X1 B1 ⊢
  generalize w1.heap.size = bt at X1 ⊢
  obtain ⟨V, hV⟩ : ∃ V, tilB px = V := ⟨_, rfl⟩
  have HV := Lib.hid hV
  clear hV
  obtain ⟨n, hn⟩ : ∃ n, (bytesT px).length = n := ⟨_, rfl⟩
  have hn16 : n ≤ 16 := by
    rw [← hn]; unfold bytesT
    split
    · rw [bytT_len]; omega
    · simp
  go_wp2_with (first | (refine st_load (by rfl) _ rfl _ rfl px hl X1.out ?_))
  refine (TK.bytes px _ hl).mono ?_; rintro e w2 ⟨A, c, fp, rfl, hc, hi, _, b2⟩
  rw [hn] at hc hi ⊢
  have X2 := Lib.hid (X1.out.below b2)
  have B2 := Lib.hid (below_then B1.out b2)
  have I2 := Lib.hid hi
  clear b2 hi X1 B1
  go_wp2_with (first | (refine st_load (by rfl) _ rfl _ rfl px hl X2.out ?_))
  refine (spec_bytes px hl _).mono ?_; rintro e w3 ⟨A', c', fp', rfl, hc', hi', _, b3⟩
  rw [hn] at hc' hi' ⊢
  have X3 := Lib.hid (X2.out.below b3)
  have B3 := Lib.hid (below_then B2.out b3)
  have I3 := Lib.hid (I2.out.below b3)
  have J3 := Lib.hid hi'
  clear b3 hi' X2 B2 I2
  go_wp2_with fail
  refine (same_ints _ _ _ _ _ _ _ _ _ I3.out J3.out (by omega)).mono ?_; rintro e w4 ⟨rfl, mm, rfl⟩
  have X4 : Hid (Box (w3.drewN mm) bt 25 (iv px)) := X3.out
  have B4 : Hid (Below w.heap.size w (w3.drewN mm)) := below_drewN B3.out mm
  have I4 : Hid (Ints (w3.drewN mm) A n (bytesT px) fp) := I3.out
  generalize w3.drewN mm = w4 at X4 B4 I4 ⊢
  clear X3 B3 I3 J3
  go_wp2_with (first | (refine st_load (by rfl) _ rfl _ rfl px hl X4.out ?_))
  refine (spec_tileValid px hl _).mono ?_; rintro e w5 ⟨rfl, b5⟩
  rw [HV.out]
  have X5 := Lib.hid (X4.out.below b5)
  have B5 := Lib.hid (below_then B4.out b5)
  have I5 := Lib.hid (I4.out.below b5)
  clear b5 X4 B4 I4
  cases V
  · obtain rfl : n = 0 := by rw [← hn, show bytesT px = [] from if_neg (by rw [HV.out]; simp)]; rfl
    go_wp2_with fail
    refine (alive_any _).mono ?_; rintro e w' ⟨rfl, rfl⟩
    go_wp2_with fail
    go_ret
    exact ⟨rfl, B5.out⟩
  · have hv := HV.out
    have EB : bytesT px = bytT px := if_pos hv
    obtain rfl : n = 16 := by rw [← hn, EB, bytT_len]
    rw [EB] at I5
    have ER := read_bytes hl hv
    have ES := bytT_six px
    clear hn EB
    go_wp2_with fail
    refine (TK.read _ _ _ _ _ _ I5.out (by omega) hc).mono ?_; rintro e w6 ⟨rfl, b6⟩
    rw [ER, ES]
    have X6 := Lib.hid ((X5.out.below b6).alloc (.cells (iv px).toArray 25))
    have Y6 : Hid (Box (w6.alloc (.cells (iv px).toArray 25)) w6.heap.size 25 (iv px)) := Box.new w6 _ _
    have B6 := Lib.hid ((below_then B5.out b6).alloc (below_then B5.out b6).size (.cells (iv px).toArray 25))
    clear b6 X5 B5 I5
    go_upto_region 10 with (first | (refine st_alloc (by rfl) rfl ?_) | (refine st_store (by rfl) _ _ rfl _ rfl px rfl hl (iv z64) (Box.new _ _ _) (by simp [z64_len]) ?_))
    rw [World.setRow_alloc_new]
    generalize w6.alloc (.cells (iv px).toArray 25) = W6 at X6 Y6 B6 ⊢
    generalize w6.heap.size = bx at Y6 ⊢
    go_wp2_with (first | (refine st_load (by rfl) _ rfl _ rfl px hl X6.out ?_) | (refine st_load (by rfl) _ rfl _ rfl px hl Y6.out ?_) | (refine st_eql (by rfl) _ _ _ rfl _ _ rfl rfl hl hl true (by simp) ?_))
    go_ret
    exact ⟨rfl, B6.out⟩
set_option maxRecDepth 100000 in
set_option maxHeartbeats 8000000 in
theorem walk_FnReadTile (TK : TilOk) (a0 : Option Addr) (len0 cap0 : Nat) (z0 : List Int) (w : World) (w0 : IsRow .u8 w a0 len0 cap0 z0) :
    Calls Try.prog 5 #[.slice a0 len0 cap0] w fun e w' => e = .returned (.bool true) ∧ Below w.heap.size w w' := by
  have H := Lib.hid w0
  have hl0 := isRow_len w0
  clear w0
  by_cases hs : len0 ≤ 1048576
  case neg =>
    have hs' : 1048576 < len0 := by omega
    go_enter Try.func5, Try.ntmps5
    go_wp2_with fail
    go_ret
    exact ⟨rfl, Below.refl _ _⟩
  go_enter Try.func5, Try.ntmps5
  go_wp2_with fail
  refine (draw_readTile _ _ _ _ _ H.out).mono ?_; rintro e w1 ⟨A, n, c, xs, fp, rfl, hc, hn, hi, b1⟩
  have B1 := Lib.hid b1
  have I1 := Lib.hid hi
  clear b1 hi
  obtain ⟨V, hV⟩ : ∃ V, sixB xs = V := ⟨_, rfl⟩
  obtain ⟨qx, hqx⟩ : ∃ qx, readT xs = qx := ⟨_, rfl⟩
  have hq : qx.length = 64 := by rw [← hqx]; exact read_len xs
  have HV := Lib.hid hV
  have HQ := Lib.hid hqx
  clear hV hqx
  go_wp2_with fail
  refine (TK.read _ _ _ _ _ _ I1.out (by omega) hc).mono ?_; rintro e w2 ⟨rfl, b2⟩
  rw [HV.out, HQ.out]
  have Y2 : Hid (Box (w2.alloc (.cells (iv qx).toArray 25)) w2.heap.size 25 (iv qx)) := Box.new w2 _ _
  have B2 := Lib.hid ((below_then B1.out b2).alloc (below_then B1.out b2).size (.cells (iv qx).toArray 25))
  have I2 := Lib.hid ((I1.out.below b2).below (below1 w2 (.cells (iv qx).toArray 25)))
  clear b2 B1 I1
  go_upto_region 5 with (first | (refine st_alloc (by rfl) rfl ?_) | (refine st_store (by rfl) _ _ rfl _ rfl qx rfl hq (iv z64) (Box.new _ _ _) (by simp [z64_len]) ?_))
  rw [World.setRow_alloc_new]
  generalize w2.alloc (.cells (iv qx).toArray 25) = W2 at Y2 B2 I2 ⊢
  generalize w2.heap.size = bx at Y2 ⊢
  go_wp2_with fail
  refine (spec_read _ _ _ _ _ _ I2.out (by omega) hc).mono ?_; rintro e w3 ⟨rfl, b3⟩
  rw [HV.out, HQ.out]
  have Y3 := Lib.hid ((Y2.out.below b3).alloc (.cells (iv qx).toArray 25))
  have Z3 : Hid (Box (w3.alloc (.cells (iv qx).toArray 25)) w3.heap.size 25 (iv qx)) := Box.new w3 _ _
  have B3 := Lib.hid ((below_then B2.out b3).alloc (below_then B2.out b3).size (.cells (iv qx).toArray 25))
  have I3 := Lib.hid ((I2.out.below b3).below (below1 w3 (.cells (iv qx).toArray 25)))
  clear b3 Y2 B2 I2
  go_upto_region 6 with (first | (refine st_alloc (by rfl) rfl ?_) | (refine st_store (by rfl) _ _ rfl _ rfl qx rfl hq (iv z64) (Box.new _ _ _) (by simp [z64_len]) ?_))
  rw [World.setRow_alloc_new]
  generalize w3.alloc (.cells (iv qx).toArray 25) = W3 at Y3 Z3 B3 I3 ⊢
  generalize w3.heap.size = bz at Z3 ⊢
  cases V
  · have HZ : Hid (qx = z64) := by rw [← HQ.out]; exact Lib.hid (if_neg (by rw [HV.out]; simp))
    go_wp2_with (first | (refine st_load (by rfl) _ rfl _ rfl qx hq Y3.out ?_) | (refine st_load (by rfl) _ rfl _ rfl qx hq Z3.out ?_) | (refine st_neq (by rfl) _ _ _ rfl _ _ rfl rfl hq hq false (by simp) ?_) | (refine st_build (by rfl) rfl ?_) | (refine st_eql (by rfl) _ _ _ rfl _ _ rfl rfl hq z64_len true (by rw [HZ.out]; simp) ?_))
    refine (alive_any _).mono ?_; rintro e w' ⟨rfl, rfl⟩
    go_wp2_with fail
    go_ret
    exact ⟨rfl, B3.out⟩
  · have hx := HV.out
    have E1 : tilB qx = true := by rw [← HQ.out]; exact read_valid hx
    have E2 : bytesT qx = xs := by rw [← HQ.out, show bytesT (readT xs) = bytT (readT xs) from if_pos (read_valid hx)]; exact bytes_read hx
    have h16 : n = 16 := by have := (sixB_iff.1 hx).2; have := I3.out.1; omega
    have hxl : xs.length = 16 := (sixB_iff.1 hx).2
    subst h16
    go_wp2_with (first | (refine st_load (by rfl) _ rfl _ rfl qx hq Y3.out ?_) | (refine st_load (by rfl) _ rfl _ rfl qx hq Z3.out ?_) | (refine st_neq (by rfl) _ _ _ rfl _ _ rfl rfl hq hq false (by simp) ?_))
    refine (TK.valid qx _ hq).mono ?_; rintro e w4 ⟨rfl, b4⟩
    rw [E1]
    have Y4 := Lib.hid (Y3.out.below b4)
    have B4 := Lib.hid (below_then B3.out b4)
    have I4 := Lib.hid (I3.out.below b4)
    clear b4 Y3 Z3 B3 I3
    go_wp2_with (first | (refine st_load (by rfl) _ rfl _ rfl qx hq Y4.out ?_))
    refine (TK.bytes qx _ hq).mono ?_; rintro e w5 ⟨A', c', fp', rfl, hc', hi', _, b5⟩
    rw [E2] at hi' hc' ⊢
    rw [hxl] at hi' hc' ⊢
    have B5 := Lib.hid (below_then B4.out b5)
    have I5 := Lib.hid (I4.out.below b5)
    have J5 := Lib.hid hi'
    clear b5 hi' Y4 B4 I4
    go_wp2_with fail
    refine (same_ints _ _ _ _ _ _ _ _ _ J5.out I5.out (by omega)).mono ?_; rintro e w6 ⟨rfl, mm, rfl⟩
    have B6 := Lib.hid (below_drewN B5.out mm)
    go_wp2_with fail
    go_ret
    exact ⟨rfl, B6.out⟩
end Go.Proofs.Ytihohmmfgamecaa
