/- The model's functions on colors, and the laws' own. -/
import Derived.Test.YtbboebmfdahgpaaColA
namespace Go.Proofs.Ytbboebmfdahgpaa
open Go.ChangeShapes Go.WideShapes Go.ChangeAt Go.RowKit
set_option linter.unusedVariables false

theorem spec_valid (r g b : Int) (w : World) : Calls Try.prog 16 #[.agg #[.int .i64 r, .int .i64 g, .int .i64 b]] w fun e w' => e = .returned (.bool (colB r g b)) ∧ Below w.heap.size w w' := by
  by_cases h0 : betB r 0 31 = true
  · have K0 := Lib.hid h0
    clear h0
    by_cases h1 : betB g 0 31 = true
    · have K1 := Lib.hid h1
      clear h1
      obtain ⟨v, hv⟩ : ∃ v, betB b 0 31 = v := ⟨_, rfl⟩
      have K2 := Lib.hid hv
      clear hv
      have HF := Lib.hid (show colB r g b = v by simp [colB, K0.out, K1.out, K2.out])
      go_enter Try.func16, Try.ntmps16
      go_wp2_with fail
      refine (l1In_any _ _ _ _).mono ?_; rintro e w' ⟨rfl, rfl⟩
      rw [K0.out]
      go_wp2_with fail
      refine (l1In_any _ _ _ _).mono ?_; rintro e w' ⟨rfl, rfl⟩
      rw [K1.out]
      go_wp2_with fail
      refine (l1In_any _ _ _ _).mono ?_; rintro e w' ⟨rfl, rfl⟩
      rw [K2.out]
      go_wp2_with fail
      go_ret
      exact ⟨ret_bool HF.out.symm, below1 w _⟩
    · have K1 := Lib.hid (show betB g 0 31 = false by simpa using h1)
      clear h1
      have HF := Lib.hid (show colB r g b = false by simp [colB, K1.out])
      go_enter Try.func16, Try.ntmps16
      go_wp2_with fail
      refine (l1In_any _ _ _ _).mono ?_; rintro e w' ⟨rfl, rfl⟩
      rw [K0.out]
      go_wp2_with fail
      refine (l1In_any _ _ _ _).mono ?_; rintro e w' ⟨rfl, rfl⟩
      rw [K1.out]
      go_wp2_with fail
      go_ret
      exact ⟨ret_bool HF.out.symm, below1 w _⟩
  · have K0 := Lib.hid (show betB r 0 31 = false by simpa using h0)
    clear h0
    have HF := Lib.hid (show colB r g b = false by simp [colB, K0.out])
    go_enter Try.func16, Try.ntmps16
    go_wp2_with fail
    refine (l1In_any _ _ _ _).mono ?_; rintro e w' ⟨rfl, rfl⟩
    rw [K0.out]
    go_wp2_with fail
    go_ret
    exact ⟨ret_bool HF.out.symm, below1 w _⟩
theorem spec_pack (r g b : Int) (w : World) : Calls Try.prog 20 #[.agg #[.int .i64 r, .int .i64 g, .int .i64 b]] w fun e w' => e = .returned (.int .i64 (packT r g b)) ∧ Below w.heap.size w w' := by
  by_cases k : colB r g b = true
  · have K := Lib.hid k
    rw [packT_yes k]
    obtain ⟨⟨r0, r1⟩, ⟨g0, g1⟩, y0, y1⟩ := colB_iff.1 k
    clear k
    go_enter Try.func20, Try.ntmps20
    go_wp2_with fail
    refine (spec_valid _ _ _ _).mono ?_; rintro e w1 ⟨rfl, b1⟩
    rw [K.out]
    have X1 : Hid (Box w1 w.heap.size 24 [.int .i64 r, .int .i64 g, .int .i64 b]) := (Box.new w _ _).below b1
    have B1 : Hid (Below w.heap.size w w1) := (below1 w _).trans (b1.mono (by simp))
    clear b1
    have c0x : w1.cell? ⟨w.heap.size, 0, none⟩ = some (.int .i64 r) := X1.out.cell 0
    have f0x := X1.out.frozen 0
    have c1x : w1.cell? ⟨w.heap.size, 1, none⟩ = some (.int .i64 g) := X1.out.cell 1
    have f1x := X1.out.frozen 1
    have c2x : w1.cell? ⟨w.heap.size, 2, none⟩ = some (.int .i64 b) := X1.out.cell 2
    have f2x := X1.out.frozen 2
    go_wp2_with fail
    go_ret
    exact ⟨rfl, B1.out⟩
  · have K := Lib.hid (show colB r g b = false by simpa using k)
    rw [packT_no K.out]
    clear k
    go_enter Try.func20, Try.ntmps20
    go_wp2_with fail
    refine (spec_valid _ _ _ _).mono ?_; rintro e w1 ⟨rfl, b1⟩
    rw [K.out]
    have X1 : Hid (Box w1 w.heap.size 24 [.int .i64 r, .int .i64 g, .int .i64 b]) := (Box.new w _ _).below b1
    have B1 : Hid (Below w.heap.size w w1) := (below1 w _).trans (b1.mono (by simp))
    clear b1
    go_wp2_with fail
    go_ret
    exact ⟨rfl, B1.out⟩
theorem spec_unp (n x0 x1 x2 : Int) (v : Bool) (w : World) (h : UnpTo n x0 x1 x2 v) : Calls Try.prog 23 #[.int .i64 n] w fun e w' => e = .returned (.tuple #[.agg #[.int .i64 x0, .int .i64 x1, .int .i64 x2], .bool v]) ∧ Below w.heap.size w w' := by
  have BB := Lib.hid (below1 w (.cells #[.int .i64 0, .int .i64 0, .int .i64 0] 24))
  by_cases k : betB n 0 32767 = true
  · obtain ⟨rfl, rfl, rfl, rfl⟩ := unp_yes h k
    obtain ⟨n0, n1⟩ := betB_yes k
    have K := Lib.hid k
    clear h k
    go_enter Try.func23, Try.ntmps23
    go_wp2_with fail
    refine (l1In_any _ _ _ _).mono ?_; rintro e w' ⟨rfl, rfl⟩
    rw [K.out]
    go_wp2_with fail
    refine bodyPost_ret (v := .tuple #[.agg #[.int .i64 (n % 32), .int .i64 (n / 32 % 32), .int .i64 (n / 1024)], .bool true]) (by simp [results, Try.results23, go_sem]) rfl ⟨rfl, ?_⟩
    repeat (first | with_reducible exact BB.out | with_reducible exact below1 w _ | with_reducible exact below2 w _ _ | with_reducible exact below3 w _ _ _ | with_reducible refine Below.setCell ?_ (by simp <;> omega) _ | with_reducible refine Below.drew ?_ | with_reducible refine below_drewN ?_ _)
  · have K := Lib.hid (show betB n 0 32767 = false by simpa using k)
    obtain ⟨rfl, rfl, rfl, rfl⟩ := unp_no h K.out
    clear h k
    go_enter Try.func23, Try.ntmps23
    go_wp2_with fail
    refine (l1In_any _ _ _ _).mono ?_; rintro e w' ⟨rfl, rfl⟩
    rw [K.out]
    go_wp2_with fail
    refine bodyPost_ret (v := .tuple #[.agg #[.int .i64 0, .int .i64 0, .int .i64 0], .bool false]) (by simp [results, Try.results23, go_sem]) rfl ⟨rfl, ?_⟩
    repeat (first | with_reducible exact BB.out | with_reducible exact below1 w _ | with_reducible exact below2 w _ _ | with_reducible exact below3 w _ _ _ | with_reducible refine Below.setCell ?_ (by simp <;> omega) _ | with_reducible refine Below.drew ?_ | with_reducible refine below_drewN ?_ _)
theorem spec_mix (r g b r' g' b' x0 x1 x2 : Int) (w : World) (h : MixTo r g b r' g' b' x0 x1 x2) : Calls Try.prog 26 #[.agg #[.int .i64 r, .int .i64 g, .int .i64 b], .agg #[.int .i64 r', .int .i64 g', .int .i64 b']] w fun e w' => e = .returned (.agg #[.int .i64 x0, .int .i64 x1, .int .i64 x2]) ∧ Below w.heap.size w w' := by
  have BB := Lib.hid (below3 w (.cells #[.int .i64 r, .int .i64 g, .int .i64 b] 24) (.cells #[.int .i64 r', .int .i64 g', .int .i64 b'] 24) (.cells #[.int .i64 0, .int .i64 0, .int .i64 0] 24))
  by_cases k : colB r g b = true
  · have K := Lib.hid k
    by_cases k' : colB r' g' b' = true
    · obtain ⟨rfl, rfl, rfl⟩ := mix_yes h k k'
      have K' := Lib.hid k'
      obtain ⟨⟨r0, r1⟩, ⟨g0, g1⟩, y0, y1⟩ := colB_iff.1 k
      obtain ⟨⟨r2, r3⟩, ⟨g2, g3⟩, y2, y3⟩ := colB_iff.1 k'
      clear h k k'
      go_enter Try.func26, Try.ntmps26
      go_wp2_with fail
      refine (spec_valid _ _ _ _).mono ?_; rintro e w1 ⟨rfl, b1⟩
      rw [K.out]
      have V1 : Hid (Box w1 w.heap.size 24 [.int .i64 r, .int .i64 g, .int .i64 b]) := (((Box.new w _ _).alloc _).alloc _).below b1
      have X1 : Hid (Box w1 (w.heap.size + 1) 24 [.int .i64 r', .int .i64 g', .int .i64 b']) := ((Box.new_at _ _ _ _ (by simp)).alloc _).below b1
      have Y1 : Hid (Box w1 (w.heap.size + 2) 24 [.int .i64 0, .int .i64 0, .int .i64 0]) := (Box.new_at _ _ _ _ (by simp)).below b1
      have B1 : Hid (Below w.heap.size w w1) := BB.out.trans (b1.mono (by simp; omega))
      clear b1
      have c0v : w1.cell? ⟨w.heap.size, 0, none⟩ = some (.int .i64 r) := V1.out.cell 0
      have f0v := V1.out.frozen 0
      have c1v : w1.cell? ⟨w.heap.size, 1, none⟩ = some (.int .i64 g) := V1.out.cell 1
      have f1v := V1.out.frozen 1
      have c2v : w1.cell? ⟨w.heap.size, 2, none⟩ = some (.int .i64 b) := V1.out.cell 2
      have f2v := V1.out.frozen 2
      have c0x : w1.cell? ⟨w.heap.size + 1, 0, none⟩ = some (.int .i64 r') := X1.out.cell 0
      have f0x := X1.out.frozen 0
      have c1x : w1.cell? ⟨w.heap.size + 1, 1, none⟩ = some (.int .i64 g') := X1.out.cell 1
      have f1x := X1.out.frozen 1
      have c2x : w1.cell? ⟨w.heap.size + 1, 2, none⟩ = some (.int .i64 b') := X1.out.cell 2
      have f2x := X1.out.frozen 2
      have c0y : w1.cell? ⟨w.heap.size + 2, 0, none⟩ = some (.int .i64 0) := Y1.out.cell 0
      have f0y := Y1.out.frozen 0
      have c1y : w1.cell? ⟨w.heap.size + 2, 1, none⟩ = some (.int .i64 0) := Y1.out.cell 1
      have f1y := Y1.out.frozen 1
      have c2y : w1.cell? ⟨w.heap.size + 2, 2, none⟩ = some (.int .i64 0) := Y1.out.cell 2
      have f2y := Y1.out.frozen 2
      have z1 : w.heap.size + 2 < w1.heap.size := Y1.out.lt
      go_wp2_with fail
      refine (spec_valid _ _ _ _).mono ?_; rintro e w2 ⟨rfl, b2⟩
      rw [K'.out]
      have V2 := Lib.hid (V1.out.below b2)
      have X2 := Lib.hid (X1.out.below b2)
      have Y2 := Lib.hid (Y1.out.below b2)
      have B2 := Lib.hid (below_then B1.out b2)
      have z2 : w.heap.size + 2 < w2.heap.size := Y2.out.lt
      clear b2
      clear c0v c1v c2v f0v f1v f2v c0x c1x c2x f0x f1x f2x c0y c1y c2y f0y f1y f2y
      have c0v : w2.cell? ⟨w.heap.size, 0, none⟩ = some (.int .i64 r) := V2.out.cell 0
      have f0v := V2.out.frozen 0
      have c1v : w2.cell? ⟨w.heap.size, 1, none⟩ = some (.int .i64 g) := V2.out.cell 1
      have f1v := V2.out.frozen 1
      have c2v : w2.cell? ⟨w.heap.size, 2, none⟩ = some (.int .i64 b) := V2.out.cell 2
      have f2v := V2.out.frozen 2
      have c0x : w2.cell? ⟨w.heap.size + 1, 0, none⟩ = some (.int .i64 r') := X2.out.cell 0
      have f0x := X2.out.frozen 0
      have c1x : w2.cell? ⟨w.heap.size + 1, 1, none⟩ = some (.int .i64 g') := X2.out.cell 1
      have f1x := X2.out.frozen 1
      have c2x : w2.cell? ⟨w.heap.size + 1, 2, none⟩ = some (.int .i64 b') := X2.out.cell 2
      have f2x := X2.out.frozen 2
      have c0y : w2.cell? ⟨w.heap.size + 2, 0, none⟩ = some (.int .i64 0) := Y2.out.cell 0
      have f0y := Y2.out.frozen 0
      have c1y : w2.cell? ⟨w.heap.size + 2, 1, none⟩ = some (.int .i64 0) := Y2.out.cell 1
      have f1y := Y2.out.frozen 1
      have c2y : w2.cell? ⟨w.heap.size + 2, 2, none⟩ = some (.int .i64 0) := Y2.out.cell 2
      have f2y := Y2.out.frozen 2
      go_wp2_with fail
      refine bodyPost_ret (v := .agg #[.int .i64 ((r + r') / 2), .int .i64 ((g + g') / 2), .int .i64 ((b + b') / 2)]) (by simp [results, Try.results26, go_sem, c0y, c1y, c2y]) rfl ⟨rfl, ?_⟩
      repeat (first | with_reducible exact B2.out | with_reducible exact below1 w _ | with_reducible exact below2 w _ _ | with_reducible exact below3 w _ _ _ | with_reducible refine Below.setCell ?_ (by simp <;> omega) _ | with_reducible refine Below.drew ?_ | with_reducible refine below_drewN ?_ _)
    · have K' := Lib.hid (show colB r' g' b' = false by simpa using k')
      obtain ⟨rfl, rfl, rfl⟩ := mix_no h (.inr K'.out)
      clear h k k'
      go_enter Try.func26, Try.ntmps26
      go_wp2_with fail
      refine (spec_valid _ _ _ _).mono ?_; rintro e w1 ⟨rfl, b1⟩
      rw [K.out]
      have V1 : Hid (Box w1 w.heap.size 24 [.int .i64 r, .int .i64 g, .int .i64 b]) := (((Box.new w _ _).alloc _).alloc _).below b1
      have X1 : Hid (Box w1 (w.heap.size + 1) 24 [.int .i64 r', .int .i64 g', .int .i64 b']) := ((Box.new_at _ _ _ _ (by simp)).alloc _).below b1
      have Y1 : Hid (Box w1 (w.heap.size + 2) 24 [.int .i64 0, .int .i64 0, .int .i64 0]) := (Box.new_at _ _ _ _ (by simp)).below b1
      have B1 : Hid (Below w.heap.size w w1) := BB.out.trans (b1.mono (by simp; omega))
      clear b1
      have c0v : w1.cell? ⟨w.heap.size, 0, none⟩ = some (.int .i64 r) := V1.out.cell 0
      have f0v := V1.out.frozen 0
      have c1v : w1.cell? ⟨w.heap.size, 1, none⟩ = some (.int .i64 g) := V1.out.cell 1
      have f1v := V1.out.frozen 1
      have c2v : w1.cell? ⟨w.heap.size, 2, none⟩ = some (.int .i64 b) := V1.out.cell 2
      have f2v := V1.out.frozen 2
      have c0x : w1.cell? ⟨w.heap.size + 1, 0, none⟩ = some (.int .i64 r') := X1.out.cell 0
      have f0x := X1.out.frozen 0
      have c1x : w1.cell? ⟨w.heap.size + 1, 1, none⟩ = some (.int .i64 g') := X1.out.cell 1
      have f1x := X1.out.frozen 1
      have c2x : w1.cell? ⟨w.heap.size + 1, 2, none⟩ = some (.int .i64 b') := X1.out.cell 2
      have f2x := X1.out.frozen 2
      have c0y : w1.cell? ⟨w.heap.size + 2, 0, none⟩ = some (.int .i64 0) := Y1.out.cell 0
      have f0y := Y1.out.frozen 0
      have c1y : w1.cell? ⟨w.heap.size + 2, 1, none⟩ = some (.int .i64 0) := Y1.out.cell 1
      have f1y := Y1.out.frozen 1
      have c2y : w1.cell? ⟨w.heap.size + 2, 2, none⟩ = some (.int .i64 0) := Y1.out.cell 2
      have f2y := Y1.out.frozen 2
      have z1 : w.heap.size + 2 < w1.heap.size := Y1.out.lt
      go_wp2_with fail
      refine (spec_valid _ _ _ _).mono ?_; rintro e w2 ⟨rfl, b2⟩
      rw [K'.out]
      have V2 := Lib.hid (V1.out.below b2)
      have X2 := Lib.hid (X1.out.below b2)
      have Y2 := Lib.hid (Y1.out.below b2)
      have B2 := Lib.hid (below_then B1.out b2)
      have z2 : w.heap.size + 2 < w2.heap.size := Y2.out.lt
      clear b2
      clear c0v c1v c2v f0v f1v f2v c0x c1x c2x f0x f1x f2x c0y c1y c2y f0y f1y f2y
      have c0v : w2.cell? ⟨w.heap.size, 0, none⟩ = some (.int .i64 r) := V2.out.cell 0
      have f0v := V2.out.frozen 0
      have c1v : w2.cell? ⟨w.heap.size, 1, none⟩ = some (.int .i64 g) := V2.out.cell 1
      have f1v := V2.out.frozen 1
      have c2v : w2.cell? ⟨w.heap.size, 2, none⟩ = some (.int .i64 b) := V2.out.cell 2
      have f2v := V2.out.frozen 2
      have c0x : w2.cell? ⟨w.heap.size + 1, 0, none⟩ = some (.int .i64 r') := X2.out.cell 0
      have f0x := X2.out.frozen 0
      have c1x : w2.cell? ⟨w.heap.size + 1, 1, none⟩ = some (.int .i64 g') := X2.out.cell 1
      have f1x := X2.out.frozen 1
      have c2x : w2.cell? ⟨w.heap.size + 1, 2, none⟩ = some (.int .i64 b') := X2.out.cell 2
      have f2x := X2.out.frozen 2
      have c0y : w2.cell? ⟨w.heap.size + 2, 0, none⟩ = some (.int .i64 0) := Y2.out.cell 0
      have f0y := Y2.out.frozen 0
      have c1y : w2.cell? ⟨w.heap.size + 2, 1, none⟩ = some (.int .i64 0) := Y2.out.cell 1
      have f1y := Y2.out.frozen 1
      have c2y : w2.cell? ⟨w.heap.size + 2, 2, none⟩ = some (.int .i64 0) := Y2.out.cell 2
      have f2y := Y2.out.frozen 2
      go_wp2_with fail
      refine bodyPost_ret (v := .agg #[.int .i64 0, .int .i64 0, .int .i64 0]) (by simp [results, Try.results26, go_sem, c0y, c1y, c2y]) rfl ⟨rfl, ?_⟩
      repeat (first | with_reducible exact B2.out | with_reducible exact below1 w _ | with_reducible exact below2 w _ _ | with_reducible exact below3 w _ _ _ | with_reducible refine Below.setCell ?_ (by simp <;> omega) _ | with_reducible refine Below.drew ?_ | with_reducible refine below_drewN ?_ _)
  · have K := Lib.hid (show colB r g b = false by simpa using k)
    obtain ⟨rfl, rfl, rfl⟩ := mix_no h (.inl K.out)
    clear h k
    go_enter Try.func26, Try.ntmps26
    go_wp2_with fail
    refine (spec_valid _ _ _ _).mono ?_; rintro e w1 ⟨rfl, b1⟩
    rw [K.out]
    have V1 : Hid (Box w1 w.heap.size 24 [.int .i64 r, .int .i64 g, .int .i64 b]) := (((Box.new w _ _).alloc _).alloc _).below b1
    have X1 : Hid (Box w1 (w.heap.size + 1) 24 [.int .i64 r', .int .i64 g', .int .i64 b']) := ((Box.new_at _ _ _ _ (by simp)).alloc _).below b1
    have Y1 : Hid (Box w1 (w.heap.size + 2) 24 [.int .i64 0, .int .i64 0, .int .i64 0]) := (Box.new_at _ _ _ _ (by simp)).below b1
    have B1 : Hid (Below w.heap.size w w1) := BB.out.trans (b1.mono (by simp; omega))
    clear b1
    have c0v : w1.cell? ⟨w.heap.size, 0, none⟩ = some (.int .i64 r) := V1.out.cell 0
    have f0v := V1.out.frozen 0
    have c1v : w1.cell? ⟨w.heap.size, 1, none⟩ = some (.int .i64 g) := V1.out.cell 1
    have f1v := V1.out.frozen 1
    have c2v : w1.cell? ⟨w.heap.size, 2, none⟩ = some (.int .i64 b) := V1.out.cell 2
    have f2v := V1.out.frozen 2
    have c0x : w1.cell? ⟨w.heap.size + 1, 0, none⟩ = some (.int .i64 r') := X1.out.cell 0
    have f0x := X1.out.frozen 0
    have c1x : w1.cell? ⟨w.heap.size + 1, 1, none⟩ = some (.int .i64 g') := X1.out.cell 1
    have f1x := X1.out.frozen 1
    have c2x : w1.cell? ⟨w.heap.size + 1, 2, none⟩ = some (.int .i64 b') := X1.out.cell 2
    have f2x := X1.out.frozen 2
    have c0y : w1.cell? ⟨w.heap.size + 2, 0, none⟩ = some (.int .i64 0) := Y1.out.cell 0
    have f0y := Y1.out.frozen 0
    have c1y : w1.cell? ⟨w.heap.size + 2, 1, none⟩ = some (.int .i64 0) := Y1.out.cell 1
    have f1y := Y1.out.frozen 1
    have c2y : w1.cell? ⟨w.heap.size + 2, 2, none⟩ = some (.int .i64 0) := Y1.out.cell 2
    have f2y := Y1.out.frozen 2
    have z1 : w.heap.size + 2 < w1.heap.size := Y1.out.lt
    go_wp2_with fail
    refine bodyPost_ret (v := .agg #[.int .i64 0, .int .i64 0, .int .i64 0]) (by simp [results, Try.results26, go_sem, c0y, c1y, c2y]) rfl ⟨rfl, ?_⟩
    repeat (first | with_reducible exact B1.out | with_reducible exact below1 w _ | with_reducible exact below2 w _ _ | with_reducible exact below3 w _ _ _ | with_reducible refine Below.setCell ?_ (by simp <;> omega) _ | with_reducible refine Below.drew ?_ | with_reducible refine below_drewN ?_ _)
theorem spec_fade (r g b l x0 x1 x2 : Int) (w : World) (h : FadeTo r g b l x0 x1 x2) : Calls Try.prog 29 #[.agg #[.int .i64 r, .int .i64 g, .int .i64 b], .int .i64 l] w fun e w' => e = .returned (.agg #[.int .i64 x0, .int .i64 x1, .int .i64 x2]) ∧ Below w.heap.size w w' := by
  have BB := Lib.hid (below2 w (.cells #[.int .i64 r, .int .i64 g, .int .i64 b] 24) (.cells #[.int .i64 0, .int .i64 0, .int .i64 0] 24))
  by_cases k : colB r g b = true
  · have K := Lib.hid k
    by_cases k' : betB l 0 16 = true
    · obtain ⟨rfl, rfl, rfl⟩ := fade_yes h k k'
      have K' := Lib.hid k'
      obtain ⟨l0, l1⟩ := betB_yes k'
      obtain ⟨⟨r0, r1⟩, ⟨g0, g1⟩, y0, y1⟩ := colB_iff.1 k
      obtain ⟨e0, e1, e2, e3⟩ := fade_bd r0 r1 l0 l1
      obtain ⟨e4, e5, e6, e7⟩ := fade_bd g0 g1 l0 l1
      obtain ⟨e8, e9, ea, eb⟩ := fade_bd y0 y1 l0 l1
      clear h k k'
      go_enter Try.func29, Try.ntmps29
      go_wp2_with fail
      refine (spec_valid _ _ _ _).mono ?_; rintro e w1 ⟨rfl, b1⟩
      rw [K.out]
      have V1 : Hid (Box w1 w.heap.size 24 [.int .i64 r, .int .i64 g, .int .i64 b]) := ((Box.new w _ _).alloc _).below b1
      have Y1 : Hid (Box w1 (w.heap.size + 1) 24 [.int .i64 0, .int .i64 0, .int .i64 0]) := (Box.new_at _ _ _ _ (by simp)).below b1
      have B1 : Hid (Below w.heap.size w w1) := BB.out.trans (b1.mono (by simp; omega))
      clear b1
      have c0v : w1.cell? ⟨w.heap.size, 0, none⟩ = some (.int .i64 r) := V1.out.cell 0
      have f0v := V1.out.frozen 0
      have c1v : w1.cell? ⟨w.heap.size, 1, none⟩ = some (.int .i64 g) := V1.out.cell 1
      have f1v := V1.out.frozen 1
      have c2v : w1.cell? ⟨w.heap.size, 2, none⟩ = some (.int .i64 b) := V1.out.cell 2
      have f2v := V1.out.frozen 2
      have c0y : w1.cell? ⟨w.heap.size + 1, 0, none⟩ = some (.int .i64 0) := Y1.out.cell 0
      have f0y := Y1.out.frozen 0
      have c1y : w1.cell? ⟨w.heap.size + 1, 1, none⟩ = some (.int .i64 0) := Y1.out.cell 1
      have f1y := Y1.out.frozen 1
      have c2y : w1.cell? ⟨w.heap.size + 1, 2, none⟩ = some (.int .i64 0) := Y1.out.cell 2
      have f2y := Y1.out.frozen 2
      have z1 : w.heap.size + 1 < w1.heap.size := Y1.out.lt
      go_wp2_with fail
      refine (l1In_any _ _ _ _).mono ?_; rintro e w' ⟨rfl, rfl⟩
      rw [K'.out]
      go_wp2_with fail
      refine bodyPost_ret (v := .agg #[.int .i64 (r * l / 16), .int .i64 (g * l / 16), .int .i64 (b * l / 16)]) (by simp [results, Try.results29, go_sem, c0y, c1y, c2y]) rfl ⟨rfl, ?_⟩
      repeat (first | with_reducible exact B1.out | with_reducible exact below1 w _ | with_reducible exact below2 w _ _ | with_reducible exact below3 w _ _ _ | with_reducible refine Below.setCell ?_ (by simp <;> omega) _ | with_reducible refine Below.drew ?_ | with_reducible refine below_drewN ?_ _)
    · have K' := Lib.hid (show betB l 0 16 = false by simpa using k')
      obtain ⟨rfl, rfl, rfl⟩ := fade_no h (.inr K'.out)
      clear h k k'
      go_enter Try.func29, Try.ntmps29
      go_wp2_with fail
      refine (spec_valid _ _ _ _).mono ?_; rintro e w1 ⟨rfl, b1⟩
      rw [K.out]
      have V1 : Hid (Box w1 w.heap.size 24 [.int .i64 r, .int .i64 g, .int .i64 b]) := ((Box.new w _ _).alloc _).below b1
      have Y1 : Hid (Box w1 (w.heap.size + 1) 24 [.int .i64 0, .int .i64 0, .int .i64 0]) := (Box.new_at _ _ _ _ (by simp)).below b1
      have B1 : Hid (Below w.heap.size w w1) := BB.out.trans (b1.mono (by simp; omega))
      clear b1
      have c0v : w1.cell? ⟨w.heap.size, 0, none⟩ = some (.int .i64 r) := V1.out.cell 0
      have f0v := V1.out.frozen 0
      have c1v : w1.cell? ⟨w.heap.size, 1, none⟩ = some (.int .i64 g) := V1.out.cell 1
      have f1v := V1.out.frozen 1
      have c2v : w1.cell? ⟨w.heap.size, 2, none⟩ = some (.int .i64 b) := V1.out.cell 2
      have f2v := V1.out.frozen 2
      have c0y : w1.cell? ⟨w.heap.size + 1, 0, none⟩ = some (.int .i64 0) := Y1.out.cell 0
      have f0y := Y1.out.frozen 0
      have c1y : w1.cell? ⟨w.heap.size + 1, 1, none⟩ = some (.int .i64 0) := Y1.out.cell 1
      have f1y := Y1.out.frozen 1
      have c2y : w1.cell? ⟨w.heap.size + 1, 2, none⟩ = some (.int .i64 0) := Y1.out.cell 2
      have f2y := Y1.out.frozen 2
      have z1 : w.heap.size + 1 < w1.heap.size := Y1.out.lt
      go_wp2_with fail
      refine (l1In_any _ _ _ _).mono ?_; rintro e w' ⟨rfl, rfl⟩
      rw [K'.out]
      go_wp2_with fail
      refine bodyPost_ret (v := .agg #[.int .i64 0, .int .i64 0, .int .i64 0]) (by simp [results, Try.results29, go_sem, c0y, c1y, c2y]) rfl ⟨rfl, ?_⟩
      repeat (first | with_reducible exact B1.out | with_reducible exact below1 w _ | with_reducible exact below2 w _ _ | with_reducible exact below3 w _ _ _ | with_reducible refine Below.setCell ?_ (by simp <;> omega) _ | with_reducible refine Below.drew ?_ | with_reducible refine below_drewN ?_ _)
  · have K := Lib.hid (show colB r g b = false by simpa using k)
    obtain ⟨rfl, rfl, rfl⟩ := fade_no h (.inl K.out)
    clear h k
    go_enter Try.func29, Try.ntmps29
    go_wp2_with fail
    refine (spec_valid _ _ _ _).mono ?_; rintro e w1 ⟨rfl, b1⟩
    rw [K.out]
    have V1 : Hid (Box w1 w.heap.size 24 [.int .i64 r, .int .i64 g, .int .i64 b]) := ((Box.new w _ _).alloc _).below b1
    have Y1 : Hid (Box w1 (w.heap.size + 1) 24 [.int .i64 0, .int .i64 0, .int .i64 0]) := (Box.new_at _ _ _ _ (by simp)).below b1
    have B1 : Hid (Below w.heap.size w w1) := BB.out.trans (b1.mono (by simp; omega))
    clear b1
    have c0v : w1.cell? ⟨w.heap.size, 0, none⟩ = some (.int .i64 r) := V1.out.cell 0
    have f0v := V1.out.frozen 0
    have c1v : w1.cell? ⟨w.heap.size, 1, none⟩ = some (.int .i64 g) := V1.out.cell 1
    have f1v := V1.out.frozen 1
    have c2v : w1.cell? ⟨w.heap.size, 2, none⟩ = some (.int .i64 b) := V1.out.cell 2
    have f2v := V1.out.frozen 2
    have c0y : w1.cell? ⟨w.heap.size + 1, 0, none⟩ = some (.int .i64 0) := Y1.out.cell 0
    have f0y := Y1.out.frozen 0
    have c1y : w1.cell? ⟨w.heap.size + 1, 1, none⟩ = some (.int .i64 0) := Y1.out.cell 1
    have f1y := Y1.out.frozen 1
    have c2y : w1.cell? ⟨w.heap.size + 1, 2, none⟩ = some (.int .i64 0) := Y1.out.cell 2
    have f2y := Y1.out.frozen 2
    have z1 : w.heap.size + 1 < w1.heap.size := Y1.out.lt
    go_wp2_with fail
    refine bodyPost_ret (v := .agg #[.int .i64 0, .int .i64 0, .int .i64 0]) (by simp [results, Try.results29, go_sem, c0y, c1y, c2y]) rfl ⟨rfl, ?_⟩
    repeat (first | with_reducible exact B1.out | with_reducible exact below1 w _ | with_reducible exact below2 w _ _ | with_reducible exact below3 w _ _ _ | with_reducible refine Below.setCell ?_ (by simp <;> omega) _ | with_reducible refine Below.drew ?_ | with_reducible refine below_drewN ?_ _)
theorem toColor_any (r g b : Int) (w : World) : Calls Try.prog 30 #[.agg #[.int .i64 r, .int .i64 g, .int .i64 b]] w fun e w' => e = .returned (.agg #[.int .i64 r, .int .i64 g, .int .i64 b]) ∧ Below w.heap.size w w' := by
  go_enter Try.func30, Try.ntmps30
  go_wp2_with fail
  refine bodyPost_ret (v := .agg #[.int .i64 r, .int .i64 g, .int .i64 b]) (by simp [results, Try.results30, go_sem]) rfl ⟨rfl, ?_⟩
  exact below3 w _ _ _
theorem eqColor_any (r g b : Int) (w : World) : Calls Try.prog 31 #[.agg #[.int .i64 r, .int .i64 g, .int .i64 b], .agg #[.int .i64 r, .int .i64 g, .int .i64 b]] w fun e w' => e = .returned (.bool true) ∧ Below w.heap.size w w' := by
  have BB := Lib.hid (below2 w (.cells #[.int .i64 r, .int .i64 g, .int .i64 b] 24) (.cells #[.int .i64 r, .int .i64 g, .int .i64 b] 24))
  go_enter Try.func31, Try.ntmps31
  go_wp2_with fail
  go_ret
  exact ⟨rfl, BB.out⟩
end Go.Proofs.Ytbboebmfdahgpaa
