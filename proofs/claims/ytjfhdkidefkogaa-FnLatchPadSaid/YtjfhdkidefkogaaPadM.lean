/- Latched buttons are read: the law on latching, walked. -/
import Derived.Test.YtjfhdkidefkogaaPadD
import Derived.Test.YtjfhdkidefkogaaPadA
import Derived.Test.YtjfhdkidefkogaaLater
import Derived.Deep.DeepCutAuto
namespace Go.Proofs.Ytjfhdkidefkogaa
open Go.ChangeShapes Go.WideShapes Go.ChangeAt Go.RowKit
set_option linter.unusedVariables false

set_option maxRecDepth 100000 in
set_option maxHeartbeats 4000000 in
theorem walk_FnLatchPad (a0 : Option Addr) (len0 cap0 : Nat) (z0 : List Int) (w : World) (w0 : IsRow .u8 w a0 len0 cap0 z0) :
    Calls Try.prog 5 #[.slice a0 len0 cap0] w fun e w' => e = .returned (.bool true) ∧ Below w.heap.size w w' := by
  have H := Lib.hid w0
  have hl := isRow_len w0
  clear w0
  by_cases hs : len0 ≤ 1048576
  · go_enter Try.func5, Try.ntmps5
    go_wp2_with fail
    refine (drawLatchPad _ _ _ _ _ H.out).mono ?_; rintro e w1 ⟨p, t, r, rfl, hp, ht, hr, b1⟩
    obtain ⟨WX, hWX⟩ : ∃ WX, WX = w1.alloc (.cells #[.int .i64 p, .int .i64 t, .int .i64 r] 24) := ⟨_, rfl⟩
    have B1 : Hid (Below w.heap.size w WX) := by rw [hWX]; exact b1.alloc b1.size _
    have X1 : Hid (Box WX w1.heap.size 24 [.int .i64 p, .int .i64 t, .int .i64 r]) := by rw [hWX]; exact Box.new w1 _ _
    clear b1
    go_upto_region 4 with (fail)
    rw [← hWX]
    generalize w1.heap.size = bt at X1
    clear hWX
    by_cases hv : padB p t r = true
    · have HV := Lib.hid hv
      obtain ⟨⟨p0, p1⟩, _, _⟩ := padB_iff.1 hv
      have HP : Hid (LatchTo p t r p p 0) := by
        obtain ⟨x0, x1, x2, h⟩ := latch_to p t r
        obtain ⟨e0, e1, e2⟩ := latch_yes h hv
        rw [e0, e1, e2] at h
        exact h
      clear hv
      have c0 : WX.cell? ⟨bt, 0, none⟩ = some (.int .i64 p) := X1.out.cell 0
      have c1 : WX.cell? ⟨bt, 1, none⟩ = some (.int .i64 t) := X1.out.cell 1
      have c2 : WX.cell? ⟨bt, 2, none⟩ = some (.int .i64 r) := X1.out.cell 2
      go_wp2_with fail
      refine (impl_latch _ _ _ _ _ _ _ HP.out).mono ?_; rintro e w2 ⟨rfl, b2⟩
      obtain ⟨W2, hW2⟩ : ∃ W2, W2 = w2.alloc (.cells #[.int .i64 p, .int .i64 p, .int .i64 0] 24) := ⟨_, rfl⟩
      have X2 : Hid (Box W2 bt 24 [.int .i64 p, .int .i64 t, .int .i64 r]) := by rw [hW2]; exact (X1.out.below b2).alloc _
      have Y2 : Hid (Box W2 w2.heap.size 24 [.int .i64 p, .int .i64 p, .int .i64 0]) := by rw [hW2]; exact Box.new w2 _ _
      have B2 : Hid (Below w.heap.size w W2) := by rw [hW2]; exact (below_then B1.out b2).alloc (below_then B1.out b2).size _
      have HNE : Hid (bt ≠ w2.heap.size) := by have h1 := X1.out.lt; have h2 := b2.size; exact Lib.hid (by omega)
      have HLE : Hid (w.heap.size ≤ w2.heap.size) := (below_then B1.out b2).size
      clear b2 c0 c1 c2 X1 B1
      go_upto_region 5 with (fail)
      rw [← hW2]
      clear hW2
      generalize w2.heap.size = bx at Y2 HNE HLE ⊢
      have VS : Hid (∀ u : Later W2, Calls Try.prog 24 #[.agg #[.int .i64 p, .int .i64 t, .int .i64 r]] u.now fun e w' => e = .returned (.agg #[.int .i64 p, .int .i64 p, .int .i64 0]) ∧ Below u.now.heap.size u.now w') := fun u => spec_latch _ _ _ _ _ _ _ HP.out
      have c0 : ∀ u : Later W2, u.now.cell? ⟨bt, 0, none⟩ = some (.int .i64 p) := later_cell (X2.out.cell 0)
      have c1 : ∀ u : Later W2, u.now.cell? ⟨bt, 1, none⟩ = some (.int .i64 t) := later_cell (X2.out.cell 1)
      have c2 : ∀ u : Later W2, u.now.cell? ⟨bt, 2, none⟩ = some (.int .i64 r) := later_cell (X2.out.cell 2)
      have d0 : ∀ u : Later W2, u.now.cell? ⟨bx, 0, none⟩ = some (.int .i64 p) := later_cell (Y2.out.cell 0)
      have d1 : ∀ u : Later W2, u.now.cell? ⟨bx, 1, none⟩ = some (.int .i64 p) := later_cell (Y2.out.cell 1)
      have d2 : ∀ u : Later W2, u.now.cell? ⟨bx, 2, none⟩ = some (.int .i64 0) := later_cell (Y2.out.cell 2)
      refine wp_region_later (by kernel_rfl) (by kernel_rfl) ?_
      repeat (go_big_quiet_step ((first
        | (go_at_call 24; exact Calls.later (VS.out _)))))
      refine wpQuiet_nil ?_
      rintro _ ⟨u, rfl⟩
      have X3 := Lib.hid (X2.out.below u.below)
      have Y3 := Lib.hid (Y2.out.below u.below)
      have B3 := Lib.hid (below_then B2.out u.below)
      clear c0 c1 c2 d0 d1 d2 VS X2 Y2 B2
      generalize u.now = w3 at X3 Y3 B3
      have c0 : w3.cell? ⟨bt, 0, none⟩ = some (.int .i64 p) := X3.out.cell 0
      have c1 : w3.cell? ⟨bt, 1, none⟩ = some (.int .i64 t) := X3.out.cell 1
      have c2 : w3.cell? ⟨bt, 2, none⟩ = some (.int .i64 r) := X3.out.cell 2
      go_wp2_with fail
      refine (spec_padValid _ _ _ _).mono ?_; rintro e w4 ⟨rfl, b4⟩
      rw [HV.out]
      have X4 := Lib.hid (X3.out.below b4)
      have Y4 := Lib.hid (Y3.out.below b4)
      have B4 := Lib.hid (below_then B3.out b4)
      clear b4 c0 c1 c2 X3 Y3 B3
      have d0 : w4.cell? ⟨bx, 0, none⟩ = some (.int .i64 p) := Y4.out.cell 0
      have d1 : w4.cell? ⟨bx, 1, none⟩ = some (.int .i64 p) := Y4.out.cell 1
      have d2 : w4.cell? ⟨bx, 2, none⟩ = some (.int .i64 0) := Y4.out.cell 2
      clear d0 d1 d2
      go_wp2_with fail
      go_loopw [2, 5] (fun u i wr => ∃ (k : Nat) (v m : Int), k ≤ 10 ∧ u = .bool false ∧ i = .int .i64 k ∧ (0 ≤ v ∧ v ≤ 255) ∧ (k ≤ 8 → m = k) ∧ (8 ≤ k → m = 8) ∧ Box wr bx 24 [.int .i64 v, .int .i64 p, .int .i64 m] ∧ Box wr bt 24 [.int .i64 p, .int .i64 t, .int .i64 r] ∧ Below w.heap.size w wr) (fun _ i _ => 10 - (intOf i).toNat)
      case atStart => exact ⟨0, p, 0, by omega, rfl, rfl, ⟨p0, p1⟩, fun _ => rfl, fun h => by omega, Y4.out, X4.out, B4.out⟩
      case round =>
        obtain ⟨k, v, m, hk, rfl, rfl, ⟨v0, v1⟩, hm1, hm2, hy, hx, hb⟩ := hrel
        have XR := Lib.hid hx
        have YR := Lib.hid hy
        have BR := Lib.hid hb
        clear hx hy hb X4 Y4 B4
        by_cases h10 : k < 10
        · have i10 : (k : Int) < 10 := by omega
          have q0 : 0 ≤ 37 * (k : Int) % 256 := Int.emod_nonneg _ (by omega)
          have q1 : 37 * (k : Int) % 256 ≤ 255 := by have := Int.emod_lt_of_pos (37 * (k : Int)) (show (0 : Int) < 256 by omega); omega
          have hk0 : 0 ≤ (k : Int) := by omega
          have HQ := Lib.hid (byteB_mk q0 q1)
          by_cases h8 : k < 8
          · obtain rfl : m = k := hm1 (by omega)
            have i8 : (k : Int) < 8 := by omega
            have HG := Lib.hid (show padB v p k = true from padB_iff.2 ⟨⟨v0, v1⟩, ⟨p0, p1⟩, by omega, by omega⟩)
            have HG2 := Lib.hid (show padB (37 * (k : Int) % 256) p k = true from padB_iff.2 ⟨⟨q0, q1⟩, ⟨p0, p1⟩, by omega, by omega⟩)
            have HP1 : Hid (PressTo v p k (37 * (k : Int) % 256) (37 * (k : Int) % 256) p k) := by
              obtain ⟨x0, x1, x2, h⟩ := press_to v p k (37 * (k : Int) % 256)
              obtain ⟨e0, e1, e2⟩ := press_yes h HG.out HQ.out
              rw [e0, e1, e2] at h
              exact h
            have HP2 : Hid (ReadTo (37 * (k : Int) % 256) p k (37 * (k : Int) % 256) p (k + 1) (p / 2 ^ k % 2)) := by
              obtain ⟨x0, x1, x2, x3, h⟩ := read_to (37 * (k : Int) % 256) p k
              obtain ⟨e0, e1, e2, e3⟩ := read_next h HG2.out (by omega)
              rw [e0, e1, e2, e3, Int.toNat_natCast] at h
              exact h
            obtain ⟨s0, s1⟩ := shr_bd p k p0 p1
            clear hm1 hm2
            have c0 : wr.cell? ⟨bx, 0, none⟩ = some (.int .i64 v) := YR.out.cell 0
            have c1 : wr.cell? ⟨bx, 1, none⟩ = some (.int .i64 p) := YR.out.cell 1
            have c2 : wr.cell? ⟨bx, 2, none⟩ = some (.int .i64 ↑k) := YR.out.cell 2
            go_wp2_with fail
            refine (impl_press _ _ _ _ _ _ _ _ HP1.out).mono ?_; rintro e w5 ⟨rfl, b5⟩
            have X5 := Lib.hid (XR.out.below b5)
            have Y5 := Lib.hid (YR.out.below b5)
            have B5 := Lib.hid (below_then BR.out b5)
            clear b5 c0 c1 c2 XR YR BR
            go_wp2_with fail
            refine (impl_read _ _ _ _ _ _ _ _ HP2.out).mono ?_; rintro e w6 ⟨rfl, b6⟩
            obtain ⟨W7, hW7⟩ : ∃ W7, W7 = w6.alloc (.cells #[.int .i64 (37 * (k : Int) % 256), .int .i64 p, .int .i64 (↑k + 1)] 24) := ⟨_, rfl⟩
            have X7 : Hid (Box W7 bt 24 [.int .i64 p, .int .i64 t, .int .i64 r]) := by rw [hW7]; exact (X5.out.below b6).alloc _
            have Y7 : Hid (Box W7 bx 24 [.int .i64 v, .int .i64 p, .int .i64 ↑k]) := by rw [hW7]; exact (Y5.out.below b6).alloc _
            have Z7 : Hid (Box W7 w6.heap.size 24 [.int .i64 (37 * (k : Int) % 256), .int .i64 p, .int .i64 (↑k + 1)]) := by rw [hW7]; exact Box.new w6 _ _
            have B7 : Hid (Below w.heap.size w W7) := by rw [hW7]; exact (below_then B5.out b6).alloc (below_then B5.out b6).size _
            have zx : bx < w6.heap.size := (Y5.out.below b6).lt
            clear b6 X5 Y5 B5
            go_upto_region 13 with (fail)
            rw [← hW7]
            clear hW7
            generalize w6.heap.size = bz at Z7 zx ⊢
            have c0 : W7.cell? ⟨bt, 0, none⟩ = some (.int .i64 p) := X7.out.cell 0
            have c1 : W7.cell? ⟨bt, 1, none⟩ = some (.int .i64 t) := X7.out.cell 1
            have c2 : W7.cell? ⟨bt, 2, none⟩ = some (.int .i64 r) := X7.out.cell 2
            have d0 : W7.cell? ⟨bx, 0, none⟩ = some (.int .i64 v) := Y7.out.cell 0
            have d1 : W7.cell? ⟨bx, 1, none⟩ = some (.int .i64 p) := Y7.out.cell 1
            have d2 : W7.cell? ⟨bx, 2, none⟩ = some (.int .i64 ↑k) := Y7.out.cell 2
            have g0 := Y7.out.frozen 0
            have g1 := Y7.out.frozen 1
            have g2 := Y7.out.frozen 2
            have f0 : W7.cell? ⟨bz, 0, none⟩ = some (.int .i64 (37 * (k : Int) % 256)) := Z7.out.cell 0
            have f1 : W7.cell? ⟨bz, 1, none⟩ = some (.int .i64 p) := Z7.out.cell 1
            have f2 : W7.cell? ⟨bz, 2, none⟩ = some (.int .i64 (↑k + 1)) := Z7.out.cell 2
            have zt : bt ≠ bx := HNE.out
            have zt0 : w.heap.size ≤ bx := HLE.out
            go_wp2_with fail
            go_roundw
            case rel =>
              refine ⟨k + 1, (37 * (k : Int) % 256), (↑k + 1), by omega, rfl, by go_num, ⟨q0, q1⟩, fun _ => by omega, fun h => by omega, ((Y7.out.set 0 _).set 1 _).set 2 _, ((X7.out.far zt _).far zt _).far zt _, ((B7.out.setCell zt0 _).setCell zt0 _).setCell zt0 _⟩
            case measure => simp [intOf]; omega
          · obtain rfl : m = 8 := hm2 (by omega)
            have i8 : ¬ (k : Int) < 8 := by omega
            have HG := Lib.hid (show padB v p 8 = true from padB_iff.2 ⟨⟨v0, v1⟩, ⟨p0, p1⟩, by omega, by omega⟩)
            have HG2 := Lib.hid (show padB (37 * (k : Int) % 256) p 8 = true from padB_iff.2 ⟨⟨q0, q1⟩, ⟨p0, p1⟩, by omega, by omega⟩)
            have HP1 : Hid (PressTo v p 8 (37 * (k : Int) % 256) (37 * (k : Int) % 256) p 8) := by
              obtain ⟨x0, x1, x2, h⟩ := press_to v p 8 (37 * (k : Int) % 256)
              obtain ⟨e0, e1, e2⟩ := press_yes h HG.out HQ.out
              rw [e0, e1, e2] at h
              exact h
            have HP2 : Hid (ReadTo (37 * (k : Int) % 256) p 8 (37 * (k : Int) % 256) p 8 1) := by
              obtain ⟨x0, x1, x2, x3, h⟩ := read_to (37 * (k : Int) % 256) p 8
              obtain ⟨e0, e1, e2, e3⟩ := read_end h HG2.out rfl
              rw [e0, e1, e2, e3] at h
              exact h
            clear hm1 hm2
            have c0 : wr.cell? ⟨bx, 0, none⟩ = some (.int .i64 v) := YR.out.cell 0
            have c1 : wr.cell? ⟨bx, 1, none⟩ = some (.int .i64 p) := YR.out.cell 1
            have c2 : wr.cell? ⟨bx, 2, none⟩ = some (.int .i64 8) := YR.out.cell 2
            go_wp2_with fail
            refine (impl_press _ _ _ _ _ _ _ _ HP1.out).mono ?_; rintro e w5 ⟨rfl, b5⟩
            have X5 := Lib.hid (XR.out.below b5)
            have Y5 := Lib.hid (YR.out.below b5)
            have B5 := Lib.hid (below_then BR.out b5)
            clear b5 c0 c1 c2 XR YR BR
            go_wp2_with fail
            refine (impl_read _ _ _ _ _ _ _ _ HP2.out).mono ?_; rintro e w6 ⟨rfl, b6⟩
            obtain ⟨W7, hW7⟩ : ∃ W7, W7 = w6.alloc (.cells #[.int .i64 (37 * (k : Int) % 256), .int .i64 p, .int .i64 8] 24) := ⟨_, rfl⟩
            have X7 : Hid (Box W7 bt 24 [.int .i64 p, .int .i64 t, .int .i64 r]) := by rw [hW7]; exact (X5.out.below b6).alloc _
            have Y7 : Hid (Box W7 bx 24 [.int .i64 v, .int .i64 p, .int .i64 8]) := by rw [hW7]; exact (Y5.out.below b6).alloc _
            have Z7 : Hid (Box W7 w6.heap.size 24 [.int .i64 (37 * (k : Int) % 256), .int .i64 p, .int .i64 8]) := by rw [hW7]; exact Box.new w6 _ _
            have B7 : Hid (Below w.heap.size w W7) := by rw [hW7]; exact (below_then B5.out b6).alloc (below_then B5.out b6).size _
            have zx : bx < w6.heap.size := (Y5.out.below b6).lt
            clear b6 X5 Y5 B5
            go_upto_region 13 with (fail)
            rw [← hW7]
            clear hW7
            generalize w6.heap.size = bz at Z7 zx ⊢
            have c0 : W7.cell? ⟨bt, 0, none⟩ = some (.int .i64 p) := X7.out.cell 0
            have c1 : W7.cell? ⟨bt, 1, none⟩ = some (.int .i64 t) := X7.out.cell 1
            have c2 : W7.cell? ⟨bt, 2, none⟩ = some (.int .i64 r) := X7.out.cell 2
            have d0 : W7.cell? ⟨bx, 0, none⟩ = some (.int .i64 v) := Y7.out.cell 0
            have d1 : W7.cell? ⟨bx, 1, none⟩ = some (.int .i64 p) := Y7.out.cell 1
            have d2 : W7.cell? ⟨bx, 2, none⟩ = some (.int .i64 8) := Y7.out.cell 2
            have g0 := Y7.out.frozen 0
            have g1 := Y7.out.frozen 1
            have g2 := Y7.out.frozen 2
            have f0 : W7.cell? ⟨bz, 0, none⟩ = some (.int .i64 (37 * (k : Int) % 256)) := Z7.out.cell 0
            have f1 : W7.cell? ⟨bz, 1, none⟩ = some (.int .i64 p) := Z7.out.cell 1
            have f2 : W7.cell? ⟨bz, 2, none⟩ = some (.int .i64 8) := Z7.out.cell 2
            have zt : bt ≠ bx := HNE.out
            have zt0 : w.heap.size ≤ bx := HLE.out
            go_wp2_with fail
            go_roundw
            case rel =>
              refine ⟨k + 1, (37 * (k : Int) % 256), 8, by omega, rfl, by go_num, ⟨q0, q1⟩, fun h => by omega, fun _ => rfl, ((Y7.out.set 0 _).set 1 _).set 2 _, ((X7.out.far zt _).far zt _).far zt _, ((B7.out.setCell zt0 _).setCell zt0 _).setCell zt0 _⟩
            case measure => simp [intOf]; omega
        · obtain rfl : k = 10 := by omega
          obtain rfl : m = 8 := hm2 (by omega)
          have c0 := YR.out.cell 2
          go_wp2_with fail
          go_ret
          exact ⟨rfl, BR.out⟩
    · have HV := Lib.hid (show padB p t r = false by simpa using hv)
      have HP : Hid (LatchTo p t r 0 0 0) := by
        obtain ⟨x0, x1, x2, h⟩ := latch_to p t r
        obtain ⟨rfl, rfl, rfl⟩ := latch_no h HV.out
        exact h
      clear hv
      have c0 : WX.cell? ⟨bt, 0, none⟩ = some (.int .i64 p) := X1.out.cell 0
      have c1 : WX.cell? ⟨bt, 1, none⟩ = some (.int .i64 t) := X1.out.cell 1
      have c2 : WX.cell? ⟨bt, 2, none⟩ = some (.int .i64 r) := X1.out.cell 2
      go_wp2_with fail
      refine (impl_latch _ _ _ _ _ _ _ HP.out).mono ?_; rintro e w2 ⟨rfl, b2⟩
      obtain ⟨W2, hW2⟩ : ∃ W2, W2 = w2.alloc (.cells #[.int .i64 0, .int .i64 0, .int .i64 0] 24) := ⟨_, rfl⟩
      have X2 : Hid (Box W2 bt 24 [.int .i64 p, .int .i64 t, .int .i64 r]) := by rw [hW2]; exact (X1.out.below b2).alloc _
      have Y2 : Hid (Box W2 w2.heap.size 24 [.int .i64 0, .int .i64 0, .int .i64 0]) := by rw [hW2]; exact Box.new w2 _ _
      have B2 : Hid (Below w.heap.size w W2) := by rw [hW2]; exact (below_then B1.out b2).alloc (below_then B1.out b2).size _
      clear b2 c0 c1 c2 X1 B1
      go_upto_region 5 with (fail)
      rw [← hW2]
      clear hW2
      generalize w2.heap.size = bx at Y2 ⊢
      have VS : Hid (∀ u : Later W2, Calls Try.prog 24 #[.agg #[.int .i64 p, .int .i64 t, .int .i64 r]] u.now fun e w' => e = .returned (.agg #[.int .i64 0, .int .i64 0, .int .i64 0]) ∧ Below u.now.heap.size u.now w') := fun u => spec_latch _ _ _ _ _ _ _ HP.out
      have c0 : ∀ u : Later W2, u.now.cell? ⟨bt, 0, none⟩ = some (.int .i64 p) := later_cell (X2.out.cell 0)
      have c1 : ∀ u : Later W2, u.now.cell? ⟨bt, 1, none⟩ = some (.int .i64 t) := later_cell (X2.out.cell 1)
      have c2 : ∀ u : Later W2, u.now.cell? ⟨bt, 2, none⟩ = some (.int .i64 r) := later_cell (X2.out.cell 2)
      have d0 : ∀ u : Later W2, u.now.cell? ⟨bx, 0, none⟩ = some (.int .i64 0) := later_cell (Y2.out.cell 0)
      have d1 : ∀ u : Later W2, u.now.cell? ⟨bx, 1, none⟩ = some (.int .i64 0) := later_cell (Y2.out.cell 1)
      have d2 : ∀ u : Later W2, u.now.cell? ⟨bx, 2, none⟩ = some (.int .i64 0) := later_cell (Y2.out.cell 2)
      refine wp_region_later (by kernel_rfl) (by kernel_rfl) ?_
      repeat (go_big_quiet_step ((first
        | (go_at_call 24; exact Calls.later (VS.out _)))))
      refine wpQuiet_nil ?_
      rintro _ ⟨u, rfl⟩
      have X3 := Lib.hid (X2.out.below u.below)
      have Y3 := Lib.hid (Y2.out.below u.below)
      have B3 := Lib.hid (below_then B2.out u.below)
      clear c0 c1 c2 d0 d1 d2 VS X2 Y2 B2
      generalize u.now = w3 at X3 Y3 B3
      have c0 : w3.cell? ⟨bt, 0, none⟩ = some (.int .i64 p) := X3.out.cell 0
      have c1 : w3.cell? ⟨bt, 1, none⟩ = some (.int .i64 t) := X3.out.cell 1
      have c2 : w3.cell? ⟨bt, 2, none⟩ = some (.int .i64 r) := X3.out.cell 2
      go_wp2_with fail
      refine (spec_padValid _ _ _ _).mono ?_; rintro e w4 ⟨rfl, b4⟩
      rw [HV.out]
      have X4 := Lib.hid (X3.out.below b4)
      have Y4 := Lib.hid (Y3.out.below b4)
      have B4 := Lib.hid (below_then B3.out b4)
      clear b4 c0 c1 c2 X3 Y3 B3
      have d0 : w4.cell? ⟨bx, 0, none⟩ = some (.int .i64 0) := Y4.out.cell 0
      have d1 : w4.cell? ⟨bx, 1, none⟩ = some (.int .i64 0) := Y4.out.cell 1
      have d2 : w4.cell? ⟨bx, 2, none⟩ = some (.int .i64 0) := Y4.out.cell 2
      go_wp2_with fail
      refine (alive_any _).mono ?_; rintro e w' ⟨rfl, rfl⟩
      go_wp2_with fail
      go_ret
      exact ⟨rfl, B4.out⟩
  · have hs' : 1048576 < len0 := by omega
    go_enter Try.func5, Try.ntmps5
    go_wp2_with fail
    go_ret
    exact ⟨rfl, Below.refl _ _⟩
end Go.Proofs.Ytjfhdkidefkogaa
