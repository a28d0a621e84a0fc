/- The laws on mixed and faded colors, walked. -/
import Derived.Test.YtbboebmfdahgpaaColD
import Derived.Test.YtbboebmfdahgpaaColS
import Derived.Test.YtbboebmfdahgpaaTypedC
import Derived.Deep.DeepCutAuto
namespace Go.Proofs.Ytbboebmfdahgpaa
open Go.ChangeShapes Go.WideShapes Go.ChangeAt Go.RowKit
set_option linter.unusedVariables false

theorem half_mix {r g b x0 x1 x2 : Int} (h : FadeTo r g b 8 x0 x1 x2) : MixTo r g b 0 0 0 x0 x1 x2 := by
  by_cases k : colB r g b = true
  · obtain ⟨rfl, rfl, rfl⟩ := fade_yes h k (by decide)
    unfold MixTo
    rw [if_pos (by rw [k]; decide)]
    omega
  · have k' : colB r g b = false := by simpa using k
    obtain ⟨rfl, rfl, rfl⟩ := fade_no h (.inl k')
    unfold MixTo
    rw [if_neg (by rw [k']; simp)]
    exact ⟨rfl, rfl, rfl⟩
theorem mix_swap {r g b r' g' b' x0 x1 x2 : Int} (h : MixTo r g b r' g' b' x0 x1 x2) : MixTo r' g' b' r g b x0 x1 x2 := by
  unfold MixTo at h ⊢
  rw [Bool.and_comm, Int.add_comm r' r, Int.add_comm g' g, Int.add_comm b' b]
  exact h
theorem mix_same {r g b : Int} (k : colB r g b = true) : MixTo r g b r g b r g b := by
  unfold MixTo
  rw [if_pos (by rw [k]; rfl)]
  omega
theorem fade_full {r g b : Int} (k : colB r g b = true) : FadeTo r g b 16 r g b := by
  unfold FadeTo
  rw [if_pos (by rw [k]; decide)]
  omega
theorem fade_none {r g b : Int} (k : colB r g b = true) : FadeTo r g b 0 0 0 0 := by
  unfold FadeTo
  rw [if_pos (by rw [k]; decide)]
  omega
theorem fade_at' {r g b l : Int} (k : colB r g b = true) (l0 : 0 ≤ l) (l1 : l ≤ 16) : FadeTo r g b l (r * l / 16) (g * l / 16) (b * l / 16) := by
  unfold FadeTo
  rw [if_pos (by rw [k]; simp [betB, l0, l1])]
  exact ⟨rfl, rfl, rfl⟩
set_option maxRecDepth 100000 in
set_option maxHeartbeats 8000000 in
theorem walk_FnFadeHalf (a0 : Option Addr) (len0 cap0 : Nat) (z0 : List Int) (w : World) (w0 : IsRow .u8 w a0 len0 cap0 z0) :
    Calls Try.prog 8 #[.slice a0 len0 cap0] w fun e w' => e = .returned (.bool true) ∧ Below w.heap.size w w' := by
  have H := Lib.hid w0
  have hl := isRow_len w0
  clear w0
  by_cases hs : len0 ≤ 1048576
  · go_enter Try.func8, Try.ntmps8
    go_wp2_with fail
    refine (drawFadeColor _ _ _ _ _ H.out).mono ?_; rintro e w1 ⟨r, g, b, n, rfl, hr, hg, hb, hn, b1⟩
    obtain ⟨WX, hWX⟩ : ∃ WX, WX = w1.alloc (.cells #[.int .i64 r, .int .i64 g, .int .i64 b] 24) := ⟨_, rfl⟩
    have B1 : Hid (Below w.heap.size w WX) := by rw [hWX]; exact b1.alloc b1.size _
    have X1 : Hid (Box WX w1.heap.size 24 [.int .i64 r, .int .i64 g, .int .i64 b]) := by rw [hWX]; exact Box.new w1 _ _
    have hbt : w.heap.size ≤ w1.heap.size := b1.size
    clear b1
    go_upto_region 4 with (fail)
    rw [← hWX]
    generalize w1.heap.size = bt at X1 hbt
    clear hWX
    obtain ⟨x0, x1, x2, h⟩ := fade_to r g b 8
    have HF := Lib.hid h
    have HM := Lib.hid (half_mix h)
    clear h
    have c0 : WX.cell? ⟨bt, 0, none⟩ = some (.int .i64 r) := X1.out.cell 0
    have c1 : WX.cell? ⟨bt, 1, none⟩ = some (.int .i64 g) := X1.out.cell 1
    have c2 : WX.cell? ⟨bt, 2, none⟩ = some (.int .i64 b) := X1.out.cell 2
    go_wp2_with fail
    refine (impl_fade _ _ _ _ _ _ _ _ HF.out).mono ?_; rintro e w2 ⟨rfl, b2⟩
    obtain ⟨W2, hW2⟩ : ∃ W2, W2 = w2.alloc (.cells #[.int .i64 x0, .int .i64 x1, .int .i64 x2] 24) := ⟨_, rfl⟩
    have X2 := Lib.hid (show Box W2 _ _ _ by rw [hW2]; exact (X1.out.below b2).alloc _)
    have Y2 : Hid (Box W2 w2.heap.size 24 [.int .i64 x0, .int .i64 x1, .int .i64 x2]) := by rw [hW2]; exact Box.new w2 _ _
    have B2 : Hid (Below w.heap.size w W2) := by rw [hW2]; exact (below_then B1.out b2).alloc (below_then B1.out b2).size _
    clear b2
    go_upto_region 5 with (fail)
    rw [← hW2]
    clear hW2
    generalize w2.heap.size = bx at Y2
    clear c0 c1 c2 X1 B1
    refine wp_region_typed (ClB W2) RlB (Ty [TV (.agg #[.int .i64 x0, .int .i64 x1, .int .i64 x2]), TV (.agg #[.int .i64 r, .int .i64 g, .int .i64 b]), TV (.agg #[.int .i64 x0, .int .i64 x1, .int .i64 x2]), TV (.bool true), TV (.bool true), TV (.agg #[.int .i64 x0, .int .i64 x1, .int .i64 x2]), TV (.agg #[.int .i64 r, .int .i64 g, .int .i64 b]), TV (.agg #[.int .i64 0, .int .i64 0, .int .i64 0]), TV (.agg #[.int .i64 x0, .int .i64 x1, .int .i64 x2]), TV (.bool true), TV (.bool true), TV (.bool true), TV (.bool true), TV (.bool true), TV (.bool true)])
      (by kernel_rfl) (by kernel_rfl) (stab_ty _ ⟨stabB_k _, stabB_k _, stabB_k _, stabB_k _, stabB_k _, stabB_k _, stabB_k _, stabB_k _, stabB_k _, stabB_k _, stabB_k _, stabB_k _, stabB_k _, stabB_k _, stabB_k _, trivial⟩) (Below.refl _ _).drew ?_ ?_
    · refine ⟨?_, ?_, ?_, ?_, ?_, ?_, ?_, ?_, ?_, ?_, ?_, ?_, ?_, ?_, ?_, trivial⟩
      · exact lb_col (.tmp 5) bx x0 x1 x2 rfl Y2.out (fun _ _ _ => want_none rfl) fun ρ wx hx hp => ⟨hx 5 rfl, rfl⟩
      · exact lb_col (.tmp 3) bt r g b rfl X2.out (fun _ _ _ => want_none rfl) fun ρ wx hx hp => ⟨hx 3 rfl, rfl⟩
      · refine lb_known _ _ _ (.agg #[.int .i64 x0, .int .i64 x1, .int .i64 x2]) (fun _ _ => by simp [go_sem]) rfl (fun _ _ _ => want_none rfl) #[.agg #[.int .i64 r, .int .i64 g, .int .i64 b], .int .i64 8] (fun w hb => spec_fade _ _ _ _ _ _ _ w HF.out) (fun ρ wx hc hx hp => ?_) (fun _ => rfl)
        have h0 : ρ (.tmp 17) = .agg #[.int .i64 r, .int .i64 g, .int .i64 b] := hp.1 rfl
        have h1 : ρ (.const (.int .i64 8)) = .int .i64 8 := hc _
        simp only [List.map_toArray, List.map_cons, List.map_nil, h0, h1]
      · exact lb_eqlC (.tmp 16) (.tmp 18) _ x0 x1 x2 x0 x1 x2 rfl rfl rfl rfl (fun _ _ _ => want_none rfl) fun ρ wx hx hp => ⟨hp.1 rfl, hp.2.1 rfl, rfl⟩
      · exact lb_move (.tmp 19) (.inl rfl) (fun _ _ _ => want_none rfl) fun ρ wx hc hx hp => hp.1 rfl
      · exact lb_col (.tmp 5) bx x0 x1 x2 rfl Y2.out (fun ρ wx hp => want_of 4 true 20 rfl rfl (hp.1 rfl)) fun ρ wx hx hp => ⟨hx 5 rfl, rfl⟩
      · exact lb_col (.tmp 3) bt r g b rfl X2.out (fun ρ wx hp => want_of 4 true 20 rfl rfl (hp.1 rfl)) fun ρ wx hx hp => ⟨hx 3 rfl, rfl⟩
      · refine lb_val (.agg #[.int .i64 0, .int .i64 0, .int .i64 0]) (fun ρ wx hp => want_of 4 true 20 rfl rfl (hp.1 rfl)) fun ρ wx hb hc hx hp => ⟨?_, rfl⟩
        unfold execOp
        clear  hx hc hp hb
        go_simp
      · refine lb_known _ _ _ (.agg #[.int .i64 x0, .int .i64 x1, .int .i64 x2]) (fun _ _ => by simp [go_sem]) rfl (fun ρ wx hp => want_of 4 true 20 rfl rfl (hp.2.2.1 rfl)) #[.agg #[.int .i64 r, .int .i64 g, .int .i64 b], .agg #[.int .i64 0, .int .i64 0, .int .i64 0]] (fun w hb => impl_mix _ _ _ _ _ _ _ _ _ w HM.out) (fun ρ wx hc hx hp => ?_) (fun _ => rfl)
        have h0 : ρ (.tmp 22) = .agg #[.int .i64 r, .int .i64 g, .int .i64 b] := hp.1 rfl
        have h1 : ρ (.tmp 23) = .agg #[.int .i64 0, .int .i64 0, .int .i64 0] := hp.2.1 rfl
        simp only [List.map_toArray, List.map_cons, List.map_nil, h0, h1]
      · exact lb_eqlC (.tmp 21) (.tmp 24) _ x0 x1 x2 x0 x1 x2 rfl rfl rfl rfl (fun ρ wx hp => want_of 4 true 20 rfl rfl (hp.2.2.1 rfl)) fun ρ wx hx hp => ⟨hp.1 rfl, hp.2.1 rfl, rfl⟩
      · exact lb_pick (.tmp 20) _ _ rfl true (fun _ _ _ => want_none rfl) fun ρ wx hc hp => ⟨hp.1 rfl, hp.2.1 rfl⟩
      · exact lb_move (.tmp 26) (.inl rfl) (fun _ _ _ => want_none rfl) fun ρ wx hc hx hp => hp.1 rfl
      · refine lb_known _ _ _ (.bool true) (fun _ _ => by simp [go_sem]) rfl (fun ρ wx hp => want_of 11 true 27 rfl rfl (hp.1 rfl)) #[] (fun w hb => (alive_any w).mono (by rintro e w' ⟨rfl, rfl⟩; exact ⟨rfl, Below.refl _ _⟩)) (fun ρ wx hc hx hp => ?_) (fun _ => rfl)
        simp only [List.map_toArray, List.map_nil]
      · exact lb_pick (.tmp 27) _ _ rfl true (fun _ _ _ => want_none rfl) fun ρ wx hc hp => ⟨hp.1 rfl, hp.2.1 rfl⟩
      · exact lb_move (.tmp 29) (.inr rfl) (fun _ _ _ => want_none rfl) fun ρ wx hc hx hp => hp.1 rfl
    intro vs wx hI hF
    obtain ⟨_, _, _, _, _, _, _, _, _, _, _, _, _, _, h14, _⟩ := hF
    replace h14 : vs 14 = .bool true := h14
    have HI : Hid (Below W2.heap.size W2 wx) := hI
    simp only [putAll, Act.put, List.setIfInBounds_toArray, List.set_cons_zero, List.set_cons_succ, h14]
    clear hI h14
    have B3 := Lib.hid (below_then B2.out HI.out)
    go_wp2_with fail
    go_ret
    exact ⟨rfl, B3.out⟩
  · have hs' : 1048576 < len0 := by omega
    go_enter Try.func8, Try.ntmps8
    go_wp2_with fail
    go_ret
    exact ⟨rfl, Below.refl _ _⟩
set_option maxRecDepth 100000 in
set_option maxHeartbeats 8000000 in
theorem walk_FnFadeColor (a0 : Option Addr) (len0 cap0 : Nat) (z0 : List Int) (w : World) (w0 : IsRow .u8 w a0 len0 cap0 z0) :
    Calls Try.prog 7 #[.slice a0 len0 cap0] w fun e w' => e = .returned (.bool true) ∧ Below w.heap.size w w' := by
  have H := Lib.hid w0
  have hl := isRow_len w0
  clear w0
  by_cases hs : len0 ≤ 1048576
  · go_enter Try.func7, Try.ntmps7
    go_wp2_with fail
    refine (drawFadeColor _ _ _ _ _ H.out).mono ?_; rintro e w1 ⟨r, g, b, n, rfl, hr, hg, hb, hn, b1⟩
    obtain ⟨WX, hWX⟩ : ∃ WX, WX = w1.alloc (.cells #[.int .i64 r, .int .i64 g, .int .i64 b] 24) := ⟨_, rfl⟩
    have B1 : Hid (Below w.heap.size w WX) := by rw [hWX]; exact b1.alloc b1.size _
    have X1 : Hid (Box WX w1.heap.size 24 [.int .i64 r, .int .i64 g, .int .i64 b]) := by rw [hWX]; exact Box.new w1 _ _
    have hbt : w.heap.size ≤ w1.heap.size := b1.size
    clear b1
    go_upto_region 4 with (fail)
    rw [← hWX]
    generalize w1.heap.size = bt at X1 hbt
    clear hWX
    obtain ⟨x0, x1, x2, h⟩ := fade_to r g b n
    have HF := Lib.hid h
    clear h
    have c0 : WX.cell? ⟨bt, 0, none⟩ = some (.int .i64 r) := X1.out.cell 0
    have c1 : WX.cell? ⟨bt, 1, none⟩ = some (.int .i64 g) := X1.out.cell 1
    have c2 : WX.cell? ⟨bt, 2, none⟩ = some (.int .i64 b) := X1.out.cell 2
    go_wp2_with fail
    refine (impl_fade _ _ _ _ _ _ _ _ HF.out).mono ?_; rintro e w2 ⟨rfl, b2⟩
    obtain ⟨W2, hW2⟩ : ∃ W2, W2 = w2.alloc (.cells #[.int .i64 x0, .int .i64 x1, .int .i64 x2] 24) := ⟨_, rfl⟩
    have X2 := Lib.hid (show Box W2 _ _ _ by rw [hW2]; exact (X1.out.below b2).alloc _)
    have Y2 : Hid (Box W2 w2.heap.size 24 [.int .i64 x0, .int .i64 x1, .int .i64 x2]) := by rw [hW2]; exact Box.new w2 _ _
    have B2 : Hid (Below w.heap.size w W2) := by rw [hW2]; exact (below_then B1.out b2).alloc (below_then B1.out b2).size _
    clear b2
    go_upto_region 5 with (fail)
    rw [← hW2]
    clear hW2
    generalize w2.heap.size = bx at Y2
    clear c0 c1 c2 X1 B1
    refine wp_region_typed (ClB W2) RlB (Ty [TV (.agg #[.int .i64 x0, .int .i64 x1, .int .i64 x2]), TV (.agg #[.int .i64 r, .int .i64 g, .int .i64 b]), TV (.int .i64 n), TV (.agg #[.int .i64 x0, .int .i64 x1, .int .i64 x2]), TV (.bool false)])
      (by kernel_rfl) (by kernel_rfl) (stab_ty _ ⟨stabB_k _, stabB_k _, stabB_k _, stabB_k _, stabB_k _, trivial⟩) (Below.refl _ _).drew ?_ ?_
    · refine ⟨?_, ?_, ?_, ?_, ?_, trivial⟩
      · exact lb_col (.tmp 5) bx x0 x1 x2 rfl Y2.out (fun _ _ _ => want_none rfl) fun ρ wx hx hp => ⟨hx 5 rfl, rfl⟩
      · exact lb_col (.tmp 3) bt r g b rfl X2.out (fun _ _ _ => want_none rfl) fun ρ wx hx hp => ⟨hx 3 rfl, rfl⟩
      · exact lb_move (.tmp 4) (.inl rfl) (fun _ _ _ => want_none rfl) fun ρ wx hc hx hp => hx 4 rfl
      · refine lb_known _ _ _ (.agg #[.int .i64 x0, .int .i64 x1, .int .i64 x2]) (fun _ _ => by simp [go_sem]) rfl (fun _ _ _ => want_none rfl) #[.agg #[.int .i64 r, .int .i64 g, .int .i64 b], .int .i64 n] (fun w hb => spec_fade _ _ _ _ _ _ _ w HF.out) (fun ρ wx hc hx hp => ?_) (fun _ => rfl)
        have h0 : ρ (.tmp 19) = .agg #[.int .i64 r, .int .i64 g, .int .i64 b] := hp.1 rfl
        have h1 : ρ (.tmp 20) = .int .i64 n := hp.2.1 rfl
        simp only [List.map_toArray, List.map_cons, List.map_nil, h0, h1]
      · exact lb_neqC (.tmp 18) (.tmp 21) _ x0 x1 x2 x0 x1 x2 rfl rfl rfl rfl (fun _ _ _ => want_none rfl) fun ρ wx hx hp => ⟨hp.1 rfl, hp.2.1 rfl, rfl⟩
    intro vs wx hI hF
    obtain ⟨_, _, _, _, h4, _⟩ := hF
    replace h4 : vs 4 = .bool false := h4
    have HI : Hid (Below W2.heap.size W2 wx) := hI
    simp only [putAll, Act.put, List.setIfInBounds_toArray, List.set_cons_zero, List.set_cons_succ, h4]
    clear hI h4
    have h := HF.out
    have X3 := Lib.hid (X2.out.below HI.out)
    have Y3 := Lib.hid (Y2.out.below HI.out)
    have B3 := Lib.hid (below_then B2.out HI.out)
    clear X2 Y2 B2 HI
    generalize wx = w3 at X3 Y3 B3 ⊢
    by_cases k : colB r g b = true
    · have K := Lib.hid k
      by_cases kl : betB n 0 16 = true
      · obtain ⟨l0, l1⟩ := betB_yes kl
        by_cases hm : n - 1 ≤ 0
        · have hm' : n ≤ 1 := by omega
          have HX := Lib.hid (fade_yes h k kl)
          have HY := Lib.hid (fade_at' (l := 0) k (by omega) (by omega))
          have H16 := Lib.hid (fade_full k)
          have H0 := Lib.hid (fade_none k)
          obtain ⟨⟨r0, r1⟩, ⟨g0, g1⟩, q0, q1⟩ := colB_iff.1 k
          have HL : Hid ((r * 0 / 16 ≤ x0 ∧ g * 0 / 16 ≤ x1 ∧ b * 0 / 16 ≤ x2) ∧ x0 ≤ r) := by
            apply Lib.hid
            obtain ⟨e0, e1, e2⟩ := HX.out
            rw [e0, e1, e2]
            exact ⟨⟨fade_mono r0 (by omega), fade_mono g0 (by omega), fade_mono q0 (by omega)⟩, (fade_bd r0 r1 l0 l1).2.2.2⟩
          clear h HX k kl hr hg hb hn r0 r1 g0 g1 q0 q1
          have c0 : w3.cell? ⟨bt, 0, none⟩ = some (.int .i64 r) := X3.out.cell 0
          have c1 : w3.cell? ⟨bt, 1, none⟩ = some (.int .i64 g) := X3.out.cell 1
          have c2 : w3.cell? ⟨bt, 2, none⟩ = some (.int .i64 b) := X3.out.cell 2
          go_wp2_with fail
          refine (spec_valid _ _ _ _).mono ?_; rintro e w4 ⟨rfl, b4⟩
          rw [K.out]
          have X4 := Lib.hid (X3.out.below b4)
          have Y4 := Lib.hid (Y3.out.below b4)
          have B4 := Lib.hid (below_then B3.out b4)
          clear b4
          clear c0 c1 c2 X3 Y3 B3
          have c0 : w4.cell? ⟨bt, 0, none⟩ = some (.int .i64 r) := X4.out.cell 0
          have c1 : w4.cell? ⟨bt, 1, none⟩ = some (.int .i64 g) := X4.out.cell 1
          have c2 : w4.cell? ⟨bt, 2, none⟩ = some (.int .i64 b) := X4.out.cell 2
          go_wp2_with fail
          refine (impl_fade _ _ _ _ _ _ _ _ HY.out).mono ?_; rintro e w5 ⟨rfl, b5⟩
          obtain ⟨y0, hy0⟩ : ∃ y, (r * 0 / 16) = y := ⟨_, rfl⟩
          obtain ⟨y1, hy1⟩ : ∃ y, (g * 0 / 16) = y := ⟨_, rfl⟩
          obtain ⟨y2, hy2⟩ : ∃ y, (b * 0 / 16) = y := ⟨_, rfl⟩
          rw [hy0, hy1, hy2] at HL ⊢
          clear hy0 hy1 hy2 HY
          obtain ⟨W5, hW5⟩ : ∃ W5, W5 = w5.alloc (.cells #[.int .i64 y0, .int .i64 y1, .int .i64 y2] 24) := ⟨_, rfl⟩
          have X5 := Lib.hid (show Box W5 _ _ _ by rw [hW5]; exact (X4.out.below b5).alloc _)
          have Y5 := Lib.hid (show Box W5 _ _ _ by rw [hW5]; exact (Y4.out.below b5).alloc _)
          have Z5 : Hid (Box W5 w5.heap.size 24 [.int .i64 y0, .int .i64 y1, .int .i64 y2]) := by rw [hW5]; exact Box.new w5 _ _
          have B5 : Hid (Below w.heap.size w W5) := by rw [hW5]; exact (below_then B4.out b5).alloc (below_then B4.out b5).size _
          clear b5
          go_upto_region 10 with (fail)
          rw [← hW5]
          clear hW5
          generalize w5.heap.size = by' at Z5
          clear c0 c1 c2 X4 Y4 B4
          refine wp_region_typed (ClB W5) RlB (Ty [TV (.agg #[.int .i64 r, .int .i64 g, .int .i64 b]), TV (.agg #[.int .i64 r, .int .i64 g, .int .i64 b]), TV (.agg #[.int .i64 r, .int .i64 g, .int .i64 b]), TV (.bool true), TV (.bool true), TV (.agg #[.int .i64 r, .int .i64 g, .int .i64 b]), TV (.agg #[.int .i64 0, .int .i64 0, .int .i64 0]), TV (.agg #[.int .i64 0, .int .i64 0, .int .i64 0]), TV (.bool true), TV (.bool true), TV (.bool true), TV (.pointer (some ⟨by', 0, none⟩)), TV (.int .i64 y0), TV (.pointer (some ⟨bx, 0, none⟩)), TV (.int .i64 x0), TV (.bool true), TV (.bool true), TV (.bool true), TV (.pointer (some ⟨by', 1, none⟩)), TV (.int .i64 y1), TV (.pointer (some ⟨bx, 1, none⟩)), TV (.int .i64 x1), TV (.bool true), TV (.bool true), TV (.bool true), TV (.pointer (some ⟨by', 2, none⟩)), TV (.int .i64 y2), TV (.pointer (some ⟨bx, 2, none⟩)), TV (.int .i64 x2), TV (.bool true), TV (.bool true), TV (.bool true), TV (.pointer (some ⟨bx, 0, none⟩)), TV (.int .i64 x0), TV (.pointer (some ⟨bt, 0, none⟩)), TV (.int .i64 r), TV (.bool true), TV (.bool true), TV (.bool true)])
            (by kernel_rfl) (by kernel_rfl) (stab_ty _ ⟨stabB_k _, stabB_k _, stabB_k _, stabB_k _, stabB_k _, stabB_k _, stabB_k _, stabB_k _, stabB_k _, stabB_k _, stabB_k _, stabB_k _, stabB_k _, stabB_k _, stabB_k _, stabB_k _, stabB_k _, stabB_k _, stabB_k _, stabB_k _, stabB_k _, stabB_k _, stabB_k _, stabB_k _, stabB_k _, stabB_k _, stabB_k _, stabB_k _, stabB_k _, stabB_k _, stabB_k _, stabB_k _, stabB_k _, stabB_k _, stabB_k _, stabB_k _, stabB_k _, stabB_k _, stabB_k _, trivial⟩) (Below.refl _ _).drew ?_ ?_
          · refine ⟨?_, ?_, ?_, ?_, ?_, ?_, ?_, ?_, ?_, ?_, ?_, ?_, ?_, ?_, ?_, ?_, ?_, ?_, ?_, ?_, ?_, ?_, ?_, ?_, ?_, ?_, ?_, ?_, ?_, ?_, ?_, ?_, ?_, ?_, ?_, ?_, ?_, ?_, ?_, trivial⟩
            · exact lb_col (.tmp 3) bt r g b rfl X5.out (fun _ _ _ => want_none rfl) fun ρ wx hx hp => ⟨hx 3 rfl, rfl⟩
            · refine lb_known _ _ _ (.agg #[.int .i64 r, .int .i64 g, .int .i64 b]) (fun _ _ => by simp [go_sem]) rfl (fun _ _ _ => want_none rfl) #[.agg #[.int .i64 r, .int .i64 g, .int .i64 b], .int .i64 16] (fun w hb => impl_fade _ _ _ _ _ _ _ w H16.out) (fun ρ wx hc hx hp => ?_) (fun _ => rfl)
              have h0 : ρ (.tmp 45) = .agg #[.int .i64 r, .int .i64 g, .int .i64 b] := hp.1 rfl
              have h1 : ρ (.const (.int .i64 16)) = .int .i64 16 := hc _
              simp only [List.map_toArray, List.map_cons, List.map_nil, h0, h1]
            · exact lb_col (.tmp 3) bt r g b rfl X5.out (fun _ _ _ => want_none rfl) fun ρ wx hx hp => ⟨hx 3 rfl, rfl⟩
            · exact lb_eqlC (.tmp 46) (.tmp 47) _ r g b r g b rfl rfl rfl rfl (fun _ _ _ => want_none rfl) fun ρ wx hx hp => ⟨hp.1 rfl, hp.2.1 rfl, rfl⟩
            · exact lb_move (.tmp 48) (.inl rfl) (fun _ _ _ => want_none rfl) fun ρ wx hc hx hp => hp.1 rfl
            · exact lb_col (.tmp 3) bt r g b rfl X5.out (fun ρ wx hp => want_of 4 true 49 rfl rfl (hp.1 rfl)) fun ρ wx hx hp => ⟨hx 3 rfl, rfl⟩
            · refine lb_known _ _ _ (.agg #[.int .i64 0, .int .i64 0, .int .i64 0]) (fun _ _ => by simp [go_sem]) rfl (fun ρ wx hp => want_of 4 true 49 rfl rfl (hp.2.1 rfl)) #[.agg #[.int .i64 r, .int .i64 g, .int .i64 b], .int .i64 0] (fun w hb => impl_fade _ _ _ _ _ _ _ w H0.out) (fun ρ wx hc hx hp => ?_) (fun _ => rfl)
              have h0 : ρ (.tmp 50) = .agg #[.int .i64 r, .int .i64 g, .int .i64 b] := hp.1 rfl
              have h1 : ρ (.const (.int .i64 0)) = .int .i64 0 := hc _
              simp only [List.map_toArray, List.map_cons, List.map_nil, h0, h1]
            · refine lb_val (.agg #[.int .i64 0, .int .i64 0, .int .i64 0]) (fun ρ wx hp => want_of 4 true 49 rfl rfl (hp.1 rfl)) fun ρ wx hb hc hx hp => ⟨?_, rfl⟩
              unfold execOp
              clear  hx hc hp hb
              go_simp
            · exact lb_eqlC (.tmp 51) (.tmp 52) _ 0 0 0 0 0 0 rfl rfl rfl rfl (fun ρ wx hp => want_of 4 true 49 rfl rfl (hp.2.2.1 rfl)) fun ρ wx hx hp => ⟨hp.1 rfl, hp.2.1 rfl, rfl⟩
            · exact lb_pick (.tmp 49) _ _ rfl true (fun _ _ _ => want_none rfl) fun ρ wx hc hp => ⟨hp.1 rfl, hp.2.1 rfl⟩
            · exact lb_move (.tmp 54) (.inl rfl) (fun _ _ _ => want_none rfl) fun ρ wx hc hx hp => hp.1 rfl
            · refine lb_val (.pointer (some ⟨by', 0, none⟩)) (fun ρ wx hp => want_of 10 true 55 rfl rfl (hp.1 rfl)) fun ρ wx hb hc hx hp => ⟨?_, rfl⟩
              have h0 : ρ (.tmp 6) = .pointer (some ⟨by', 0, none⟩) := hx 6 rfl
              unfold execOp
              simp only [h0]
              clear h0 hx hc hp hb
              go_simp
            · refine lb_val (.int .i64 y0) (fun ρ wx hp => want_of 10 true 55 rfl rfl (hp.2.1 rfl)) fun ρ wx hb hc hx hp => ⟨?_, rfl⟩
              have h0 : ρ (.tmp 56) = .pointer (some ⟨by', 0, none⟩) := hp.1 rfl
              have ck : wx.cell? ⟨by', 0, none⟩ = some (.int .i64 y0) := (Z5.out.below hb).cell 0
              unfold execOp
              simp only [h0]
              clear h0 hx hc hp hb
              go_simp
            · refine lb_val (.pointer (some ⟨bx, 0, none⟩)) (fun ρ wx hp => want_of 10 true 55 rfl rfl (hp.1 rfl)) fun ρ wx hb hc hx hp => ⟨?_, rfl⟩
              have h0 : ρ (.tmp 5) = .pointer (some ⟨bx, 0, none⟩) := hx 5 rfl
              unfold execOp
              simp only [h0]
              clear h0 hx hc hp hb
              go_simp
            · refine lb_val (.int .i64 x0) (fun ρ wx hp => want_of 10 true 55 rfl rfl (hp.2.1 rfl)) fun ρ wx hb hc hx hp => ⟨?_, rfl⟩
              have h0 : ρ (.tmp 58) = .pointer (some ⟨bx, 0, none⟩) := hp.1 rfl
              have ck : wx.cell? ⟨bx, 0, none⟩ = some (.int .i64 x0) := (Y5.out.below hb).cell 0
              unfold execOp
              simp only [h0]
              clear h0 hx hc hp hb
              go_simp
            · refine lb_val (.bool true) (fun ρ wx hp => want_of 10 true 55 rfl rfl (hp.2.2.1 rfl)) fun ρ wx hb hc hx hp => ⟨?_, rfl⟩
              have h0 : ρ (.tmp 57) = .int .i64 y0 := hp.1 rfl
              have h1 : ρ (.tmp 59) = .int .i64 x0 := hp.2.1 rfl
              have ck : decide (y0 ≤ x0) = true := by have := HL.out; simp; omega
              unfold execOp
              simp only [h0, h1]
              clear h0 h1 hx hc hp hb
              go_simp
            · exact lb_pick (.tmp 55) _ _ rfl true (fun _ _ _ => want_none rfl) fun ρ wx hc hp => ⟨hp.1 rfl, hp.2.1 rfl⟩
            · exact lb_move (.tmp 61) (.inl rfl) (fun _ _ _ => want_none rfl) fun ρ wx hc hx hp => hp.1 rfl
            · refine lb_val (.pointer (some ⟨by', 1, none⟩)) (fun ρ wx hp => want_of 17 true 62 rfl rfl (hp.1 rfl)) fun ρ wx hb hc hx hp => ⟨?_, rfl⟩
              have h0 : ρ (.tmp 6) = .pointer (some ⟨by', 0, none⟩) := hx 6 rfl
              unfold execOp
              simp only [h0]
              clear h0 hx hc hp hb
              go_simp
            · refine lb_val (.int .i64 y1) (fun ρ wx hp => want_of 17 true 62 rfl rfl (hp.2.1 rfl)) fun ρ wx hb hc hx hp => ⟨?_, rfl⟩
              have h0 : ρ (.tmp 63) = .pointer (some ⟨by', 1, none⟩) := hp.1 rfl
              have ck : wx.cell? ⟨by', 1, none⟩ = some (.int .i64 y1) := (Z5.out.below hb).cell 1
              unfold execOp
              simp only [h0]
              clear h0 hx hc hp hb
              go_simp
            · refine lb_val (.pointer (some ⟨bx, 1, none⟩)) (fun ρ wx hp => want_of 17 true 62 rfl rfl (hp.1 rfl)) fun ρ wx hb hc hx hp => ⟨?_, rfl⟩
              have h0 : ρ (.tmp 5) = .pointer (some ⟨bx, 0, none⟩) := hx 5 rfl
              unfold execOp
              simp only [h0]
              clear h0 hx hc hp hb
              go_simp
            · refine lb_val (.int .i64 x1) (fun ρ wx hp => want_of 17 true 62 rfl rfl (hp.2.1 rfl)) fun ρ wx hb hc hx hp => ⟨?_, rfl⟩
              have h0 : ρ (.tmp 65) = .pointer (some ⟨bx, 1, none⟩) := hp.1 rfl
              have ck : wx.cell? ⟨bx, 1, none⟩ = some (.int .i64 x1) := (Y5.out.below hb).cell 1
              unfold execOp
              simp only [h0]
              clear h0 hx hc hp hb
              go_simp
            · refine lb_val (.bool true) (fun ρ wx hp => want_of 17 true 62 rfl rfl (hp.2.2.1 rfl)) fun ρ wx hb hc hx hp => ⟨?_, rfl⟩
              have h0 : ρ (.tmp 64) = .int .i64 y1 := hp.1 rfl
              have h1 : ρ (.tmp 66) = .int .i64 x1 := hp.2.1 rfl
              have ck : decide (y1 ≤ x1) = true := by have := HL.out; simp; omega
              unfold execOp
              simp only [h0, h1]
              clear h0 h1 hx hc hp hb
              go_simp
            · exact lb_pick (.tmp 62) _ _ rfl true (fun _ _ _ => want_none rfl) fun ρ wx hc hp => ⟨hp.1 rfl, hp.2.1 rfl⟩
            · exact lb_move (.tmp 68) (.inl rfl) (fun _ _ _ => want_none rfl) fun ρ wx hc hx hp => hp.1 rfl
            · refine lb_val (.pointer (some ⟨by', 2, none⟩)) (fun ρ wx hp => want_of 24 true 69 rfl rfl (hp.1 rfl)) fun ρ wx hb hc hx hp => ⟨?_, rfl⟩
              have h0 : ρ (.tmp 6) = .pointer (some ⟨by', 0, none⟩) := hx 6 rfl
              unfold execOp
              simp only [h0]
              clear h0 hx hc hp hb
              go_simp
            · refine lb_val (.int .i64 y2) (fun ρ wx hp => want_of 24 true 69 rfl rfl (hp.2.1 rfl)) fun ρ wx hb hc hx hp => ⟨?_, rfl⟩
              have h0 : ρ (.tmp 70) = .pointer (some ⟨by', 2, none⟩) := hp.1 rfl
              have ck : wx.cell? ⟨by', 2, none⟩ = some (.int .i64 y2) := (Z5.out.below hb).cell 2
              unfold execOp
              simp only [h0]
              clear h0 hx hc hp hb
              go_simp
            · refine lb_val (.pointer (some ⟨bx, 2, none⟩)) (fun ρ wx hp => want_of 24 true 69 rfl rfl (hp.1 rfl)) fun ρ wx hb hc hx hp => ⟨?_, rfl⟩
              have h0 : ρ (.tmp 5) = .pointer (some ⟨bx, 0, none⟩) := hx 5 rfl
              unfold execOp
              simp only [h0]
              clear h0 hx hc hp hb
              go_simp
            · refine lb_val (.int .i64 x2) (fun ρ wx hp => want_of 24 true 69 rfl rfl (hp.2.1 rfl)) fun ρ wx hb hc hx hp => ⟨?_, rfl⟩
              have h0 : ρ (.tmp 72) = .pointer (some ⟨bx, 2, none⟩) := hp.1 rfl
              have ck : wx.cell? ⟨bx, 2, none⟩ = some (.int .i64 x2) := (Y5.out.below hb).cell 2
              unfold execOp
              simp only [h0]
              clear h0 hx hc hp hb
              go_simp
            · refine lb_val (.bool true) (fun ρ wx hp => want_of 24 true 69 rfl rfl (hp.2.2.1 rfl)) fun ρ wx hb hc hx hp => ⟨?_, rfl⟩
              have h0 : ρ (.tmp 71) = .int .i64 y2 := hp.1 rfl
              have h1 : ρ (.tmp 73) = .int .i64 x2 := hp.2.1 rfl
              have ck : decide (y2 ≤ x2) = true := by have := HL.out; simp; omega
              unfold execOp
              simp only [h0, h1]
              clear h0 h1 hx hc hp hb
              go_simp
            · exact lb_pick (.tmp 69) _ _ rfl true (fun _ _ _ => want_none rfl) fun ρ wx hc hp => ⟨hp.1 rfl, hp.2.1 rfl⟩
            · exact lb_move (.tmp 75) (.inl rfl) (fun _ _ _ => want_none rfl) fun ρ wx hc hx hp => hp.1 rfl
            · refine lb_val (.pointer (some ⟨bx, 0, none⟩)) (fun ρ wx hp => want_of 31 true 76 rfl rfl (hp.1 rfl)) fun ρ wx hb hc hx hp => ⟨?_, rfl⟩
              have h0 : ρ (.tmp 5) = .pointer (some ⟨bx, 0, none⟩) := hx 5 rfl
              unfold execOp
              simp only [h0]
              clear h0 hx hc hp hb
              go_simp
            · refine lb_val (.int .i64 x0) (fun ρ wx hp => want_of 31 true 76 rfl rfl (hp.2.1 rfl)) fun ρ wx hb hc hx hp => ⟨?_, rfl⟩
              have h0 : ρ (.tmp 77) = .pointer (some ⟨bx, 0, none⟩) := hp.1 rfl
              have ck : wx.cell? ⟨bx, 0, none⟩ = some (.int .i64 x0) := (Y5.out.below hb).cell 0
              unfold execOp
              simp only [h0]
              clear h0 hx hc hp hb
              go_simp
            · refine lb_val (.pointer (some ⟨bt, 0, none⟩)) (fun ρ wx hp => want_of 31 true 76 rfl rfl (hp.1 rfl)) fun ρ wx hb hc hx hp => ⟨?_, rfl⟩
              have h0 : ρ (.tmp 3) = .pointer (some ⟨bt, 0, none⟩) := hx 3 rfl
              unfold execOp
              simp only [h0]
              clear h0 hx hc hp hb
              go_simp
            · refine lb_val (.int .i64 r) (fun ρ wx hp => want_of 31 true 76 rfl rfl (hp.2.1 rfl)) fun ρ wx hb hc hx hp => ⟨?_, rfl⟩
              have h0 : ρ (.tmp 79) = .pointer (some ⟨bt, 0, none⟩) := hp.1 rfl
              have ck : wx.cell? ⟨bt, 0, none⟩ = some (.int .i64 r) := (X5.out.below hb).cell 0
              unfold execOp
              simp only [h0]
              clear h0 hx hc hp hb
              go_simp
            · refine lb_val (.bool true) (fun ρ wx hp => want_of 31 true 76 rfl rfl (hp.2.2.1 rfl)) fun ρ wx hb hc hx hp => ⟨?_, rfl⟩
              have h0 : ρ (.tmp 78) = .int .i64 x0 := hp.1 rfl
              have h1 : ρ (.tmp 80) = .int .i64 r := hp.2.1 rfl
              have ck : decide (x0 ≤ r) = true := by have := HL.out; simp; omega
              unfold execOp
              simp only [h0, h1]
              clear h0 h1 hx hc hp hb
              go_simp
            · exact lb_pick (.tmp 76) _ _ rfl true (fun _ _ _ => want_none rfl) fun ρ wx hc hp => ⟨hp.1 rfl, hp.2.1 rfl⟩
            · exact lb_move (.tmp 82) (.inr rfl) (fun _ _ _ => want_none rfl) fun ρ wx hc hx hp => hp.1 rfl
          intro vs wx hI hF
          obtain ⟨_, _, _, _, _, _, _, _, _, _, _, _, _, _, _, _, _, _, _, _, _, _, _, _, _, _, _, _, _, _, _, _, _, _, _, _, _, _, h38, _⟩ := hF
          replace h38 : vs 38 = .bool true := h38
          have HI : Hid (Below W5.heap.size W5 wx) := hI
          simp only [putAll, Act.put, List.setIfInBounds_toArray, List.set_cons_zero, List.set_cons_succ, h38]
          clear hI h38
          have B6 := Lib.hid (below_then B5.out HI.out)
          go_wp2_with fail
          go_ret
          exact ⟨rfl, B6.out⟩
        · have hm' : 0 < n - 1 := by omega
          clear hm
          have HX := Lib.hid (fade_yes h k kl)
          have HY := Lib.hid (fade_at' (l := (n - 1)) k (by omega) (by omega))
          have H16 := Lib.hid (fade_full k)
          have H0 := Lib.hid (fade_none k)
          obtain ⟨⟨r0, r1⟩, ⟨g0, g1⟩, q0, q1⟩ := colB_iff.1 k
          have HL : Hid ((r * (n - 1) / 16 ≤ x0 ∧ g * (n - 1) / 16 ≤ x1 ∧ b * (n - 1) / 16 ≤ x2) ∧ x0 ≤ r) := by
            apply Lib.hid
            obtain ⟨e0, e1, e2⟩ := HX.out
            rw [e0, e1, e2]
            exact ⟨⟨fade_mono r0 (by omega), fade_mono g0 (by omega), fade_mono q0 (by omega)⟩, (fade_bd r0 r1 l0 l1).2.2.2⟩
          clear h HX k kl hr hg hb hn r0 r1 g0 g1 q0 q1
          have c0 : w3.cell? ⟨bt, 0, none⟩ = some (.int .i64 r) := X3.out.cell 0
          have c1 : w3.cell? ⟨bt, 1, none⟩ = some (.int .i64 g) := X3.out.cell 1
          have c2 : w3.cell? ⟨bt, 2, none⟩ = some (.int .i64 b) := X3.out.cell 2
          go_wp2_with fail
          refine (spec_valid _ _ _ _).mono ?_; rintro e w4 ⟨rfl, b4⟩
          rw [K.out]
          have X4 := Lib.hid (X3.out.below b4)
          have Y4 := Lib.hid (Y3.out.below b4)
          have B4 := Lib.hid (below_then B3.out b4)
          clear b4
          clear c0 c1 c2 X3 Y3 B3
          have c0 : w4.cell? ⟨bt, 0, none⟩ = some (.int .i64 r) := X4.out.cell 0
          have c1 : w4.cell? ⟨bt, 1, none⟩ = some (.int .i64 g) := X4.out.cell 1
          have c2 : w4.cell? ⟨bt, 2, none⟩ = some (.int .i64 b) := X4.out.cell 2
          go_wp2_with fail
          refine (impl_fade _ _ _ _ _ _ _ _ HY.out).mono ?_; rintro e w5 ⟨rfl, b5⟩
          obtain ⟨y0, hy0⟩ : ∃ y, (r * (n - 1) / 16) = y := ⟨_, rfl⟩
          obtain ⟨y1, hy1⟩ : ∃ y, (g * (n - 1) / 16) = y := ⟨_, rfl⟩
          obtain ⟨y2, hy2⟩ : ∃ y, (b * (n - 1) / 16) = y := ⟨_, rfl⟩
          rw [hy0, hy1, hy2] at HL ⊢
          clear hy0 hy1 hy2 HY
          obtain ⟨W5, hW5⟩ : ∃ W5, W5 = w5.alloc (.cells #[.int .i64 y0, .int .i64 y1, .int .i64 y2] 24) := ⟨_, rfl⟩
          have X5 := Lib.hid (show Box W5 _ _ _ by rw [hW5]; exact (X4.out.below b5).alloc _)
          have Y5 := Lib.hid (show Box W5 _ _ _ by rw [hW5]; exact (Y4.out.below b5).alloc _)
          have Z5 : Hid (Box W5 w5.heap.size 24 [.int .i64 y0, .int .i64 y1, .int .i64 y2]) := by rw [hW5]; exact Box.new w5 _ _
          have B5 : Hid (Below w.heap.size w W5) := by rw [hW5]; exact (below_then B4.out b5).alloc (below_then B4.out b5).size _
          clear b5
          go_upto_region 10 with (fail)
          rw [← hW5]
          clear hW5
          generalize w5.heap.size = by' at Z5
          clear c0 c1 c2 X4 Y4 B4
          refine wp_region_typed (ClB W5) RlB (Ty [TV (.agg #[.int .i64 r, .int .i64 g, .int .i64 b]), TV (.agg #[.int .i64 r, .int .i64 g, .int .i64 b]), TV (.agg #[.int .i64 r, .int .i64 g, .int .i64 b]), TV (.bool true), TV (.bool true), TV (.agg #[.int .i64 r, .int .i64 g, .int .i64 b]), TV (.agg #[.int .i64 0, .int .i64 0, .int .i64 0]), TV (.agg #[.int .i64 0, .int .i64 0, .int .i64 0]), TV (.bool true), TV (.bool true), TV (.bool true), TV (.pointer (some ⟨by', 0, none⟩)), TV (.int .i64 y0), TV (.pointer (some ⟨bx, 0, none⟩)), TV (.int .i64 x0), TV (.bool true), TV (.bool true), TV (.bool true), TV (.pointer (some ⟨by', 1, none⟩)), TV (.int .i64 y1), TV (.pointer (some ⟨bx, 1, none⟩)), TV (.int .i64 x1), TV (.bool true), TV (.bool true), TV (.bool true), TV (.pointer (some ⟨by', 2, none⟩)), TV (.int .i64 y2), TV (.pointer (some ⟨bx, 2, none⟩)), TV (.int .i64 x2), TV (.bool true), TV (.bool true), TV (.bool true), TV (.pointer (some ⟨bx, 0, none⟩)), TV (.int .i64 x0), TV (.pointer (some ⟨bt, 0, none⟩)), TV (.int .i64 r), TV (.bool true), TV (.bool true), TV (.bool true)])
            (by kernel_rfl) (by kernel_rfl) (stab_ty _ ⟨stabB_k _, stabB_k _, stabB_k _, stabB_k _, stabB_k _, stabB_k _, stabB_k _, stabB_k _, stabB_k _, stabB_k _, stabB_k _, stabB_k _, stabB_k _, stabB_k _, stabB_k _, stabB_k _, stabB_k _, stabB_k _, stabB_k _, stabB_k _, stabB_k _, stabB_k _, stabB_k _, stabB_k _, stabB_k _, stabB_k _, stabB_k _, stabB_k _, stabB_k _, stabB_k _, stabB_k _, stabB_k _, stabB_k _, stabB_k _, stabB_k _, stabB_k _, stabB_k _, stabB_k _, stabB_k _, trivial⟩) (Below.refl _ _).drew ?_ ?_
          · refine ⟨?_, ?_, ?_, ?_, ?_, ?_, ?_, ?_, ?_, ?_, ?_, ?_, ?_, ?_, ?_, ?_, ?_, ?_, ?_, ?_, ?_, ?_, ?_, ?_, ?_, ?_, ?_, ?_, ?_, ?_, ?_, ?_, ?_, ?_, ?_, ?_, ?_, ?_, ?_, trivial⟩
            · exact lb_col (.tmp 3) bt r g b rfl X5.out (fun _ _ _ => want_none rfl) fun ρ wx hx hp => ⟨hx 3 rfl, rfl⟩
            · refine lb_known _ _ _ (.agg #[.int .i64 r, .int .i64 g, .int .i64 b]) (fun _ _ => by simp [go_sem]) rfl (fun _ _ _ => want_none rfl) #[.agg #[.int .i64 r, .int .i64 g, .int .i64 b], .int .i64 16] (fun w hb => impl_fade _ _ _ _ _ _ _ w H16.out) (fun ρ wx hc hx hp => ?_) (fun _ => rfl)
              have h0 : ρ (.tmp 45) = .agg #[.int .i64 r, .int .i64 g, .int .i64 b] := hp.1 rfl
              have h1 : ρ (.const (.int .i64 16)) = .int .i64 16 := hc _
              simp only [List.map_toArray, List.map_cons, List.map_nil, h0, h1]
            · exact lb_col (.tmp 3) bt r g b rfl X5.out (fun _ _ _ => want_none rfl) fun ρ wx hx hp => ⟨hx 3 rfl, rfl⟩
            · exact lb_eqlC (.tmp 46) (.tmp 47) _ r g b r g b rfl rfl rfl rfl (fun _ _ _ => want_none rfl) fun ρ wx hx hp => ⟨hp.1 rfl, hp.2.1 rfl, rfl⟩
            · exact lb_move (.tmp 48) (.inl rfl) (fun _ _ _ => want_none rfl) fun ρ wx hc hx hp => hp.1 rfl
            · exact lb_col (.tmp 3) bt r g b rfl X5.out (fun ρ wx hp => want_of 4 true 49 rfl rfl (hp.1 rfl)) fun ρ wx hx hp => ⟨hx 3 rfl, rfl⟩
            · refine lb_known _ _ _ (.agg #[.int .i64 0, .int .i64 0, .int .i64 0]) (fun _ _ => by simp [go_sem]) rfl (fun ρ wx hp => want_of 4 true 49 rfl rfl (hp.2.1 rfl)) #[.agg #[.int .i64 r, .int .i64 g, .int .i64 b], .int .i64 0] (fun w hb => impl_fade _ _ _ _ _ _ _ w H0.out) (fun ρ wx hc hx hp => ?_) (fun _ => rfl)
              have h0 : ρ (.tmp 50) = .agg #[.int .i64 r, .int .i64 g, .int .i64 b] := hp.1 rfl
              have h1 : ρ (.const (.int .i64 0)) = .int .i64 0 := hc _
              simp only [List.map_toArray, List.map_cons, List.map_nil, h0, h1]
            · refine lb_val (.agg #[.int .i64 0, .int .i64 0, .int .i64 0]) (fun ρ wx hp => want_of 4 true 49 rfl rfl (hp.1 rfl)) fun ρ wx hb hc hx hp => ⟨?_, rfl⟩
              unfold execOp
              clear  hx hc hp hb
              go_simp
            · exact lb_eqlC (.tmp 51) (.tmp 52) _ 0 0 0 0 0 0 rfl rfl rfl rfl (fun ρ wx hp => want_of 4 true 49 rfl rfl (hp.2.2.1 rfl)) fun ρ wx hx hp => ⟨hp.1 rfl, hp.2.1 rfl, rfl⟩
            · exact lb_pick (.tmp 49) _ _ rfl true (fun _ _ _ => want_none rfl) fun ρ wx hc hp => ⟨hp.1 rfl, hp.2.1 rfl⟩
            · exact lb_move (.tmp 54) (.inl rfl) (fun _ _ _ => want_none rfl) fun ρ wx hc hx hp => hp.1 rfl
            · refine lb_val (.pointer (some ⟨by', 0, none⟩)) (fun ρ wx hp => want_of 10 true 55 rfl rfl (hp.1 rfl)) fun ρ wx hb hc hx hp => ⟨?_, rfl⟩
              have h0 : ρ (.tmp 6) = .pointer (some ⟨by', 0, none⟩) := hx 6 rfl
              unfold execOp
              simp only [h0]
              clear h0 hx hc hp hb
              go_simp
            · refine lb_val (.int .i64 y0) (fun ρ wx hp => want_of 10 true 55 rfl rfl (hp.2.1 rfl)) fun ρ wx hb hc hx hp => ⟨?_, rfl⟩
              have h0 : ρ (.tmp 56) = .pointer (some ⟨by', 0, none⟩) := hp.1 rfl
              have ck : wx.cell? ⟨by', 0, none⟩ = some (.int .i64 y0) := (Z5.out.below hb).cell 0
              unfold execOp
              simp only [h0]
              clear h0 hx hc hp hb
              go_simp
            · refine lb_val (.pointer (some ⟨bx, 0, none⟩)) (fun ρ wx hp => want_of 10 true 55 rfl rfl (hp.1 rfl)) fun ρ wx hb hc hx hp => ⟨?_, rfl⟩
              have h0 : ρ (.tmp 5) = .pointer (some ⟨bx, 0, none⟩) := hx 5 rfl
              unfold execOp
              simp only [h0]
              clear h0 hx hc hp hb
              go_simp
            · refine lb_val (.int .i64 x0) (fun ρ wx hp => want_of 10 true 55 rfl rfl (hp.2.1 rfl)) fun ρ wx hb hc hx hp => ⟨?_, rfl⟩
              have h0 : ρ (.tmp 58) = .pointer (some ⟨bx, 0, none⟩) := hp.1 rfl
              have ck : wx.cell? ⟨bx, 0, none⟩ = some (.int .i64 x0) := (Y5.out.below hb).cell 0
              unfold execOp
              simp only [h0]
              clear h0 hx hc hp hb
              go_simp
            · refine lb_val (.bool true) (fun ρ wx hp => want_of 10 true 55 rfl rfl (hp.2.2.1 rfl)) fun ρ wx hb hc hx hp => ⟨?_, rfl⟩
              have h0 : ρ (.tmp 57) = .int .i64 y0 := hp.1 rfl
              have h1 : ρ (.tmp 59) = .int .i64 x0 := hp.2.1 rfl
              have ck : decide (y0 ≤ x0) = true := by have := HL.out; simp; omega
              unfold execOp
              simp only [h0, h1]
              clear h0 h1 hx hc hp hb
              go_simp
            · exact lb_pick (.tmp 55) _ _ rfl true (fun _ _ _ => want_none rfl) fun ρ wx hc hp => ⟨hp.1 rfl, hp.2.1 rfl⟩
            · exact lb_move (.tmp 61) (.inl rfl) (fun _ _ _ => want_none rfl) fun ρ wx hc hx hp => hp.1 rfl
            · refine lb_val (.pointer (some ⟨by', 1, none⟩)) (fun ρ wx hp => want_of 17 true 62 rfl rfl (hp.1 rfl)) fun ρ wx hb hc hx hp => ⟨?_, rfl⟩
              have h0 : ρ (.tmp 6) = .pointer (some ⟨by', 0, none⟩) := hx 6 rfl
              unfold execOp
              simp only [h0]
              clear h0 hx hc hp hb
              go_simp
            · refine lb_val (.int .i64 y1) (fun ρ wx hp => want_of 17 true 62 rfl rfl (hp.2.1 rfl)) fun ρ wx hb hc hx hp => ⟨?_, rfl⟩
              have h0 : ρ (.tmp 63) = .pointer (some ⟨by', 1, none⟩) := hp.1 rfl
              have ck : wx.cell? ⟨by', 1, none⟩ = some (.int .i64 y1) := (Z5.out.below hb).cell 1
              unfold execOp
              simp only [h0]
              clear h0 hx hc hp hb
              go_simp
            · refine lb_val (.pointer (some ⟨bx, 1, none⟩)) (fun ρ wx hp => want_of 17 true 62 rfl rfl (hp.1 rfl)) fun ρ wx hb hc hx hp => ⟨?_, rfl⟩
              have h0 : ρ (.tmp 5) = .pointer (some ⟨bx, 0, none⟩) := hx 5 rfl
              unfold execOp
              simp only [h0]
              clear h0 hx hc hp hb
              go_simp
            · refine lb_val (.int .i64 x1) (fun ρ wx hp => want_of 17 true 62 rfl rfl (hp.2.1 rfl)) fun ρ wx hb hc hx hp => ⟨?_, rfl⟩
              have h0 : ρ (.tmp 65) = .pointer (some ⟨bx, 1, none⟩) := hp.1 rfl
              have ck : wx.cell? ⟨bx, 1, none⟩ = some (.int .i64 x1) := (Y5.out.below hb).cell 1
              unfold execOp
              simp only [h0]
              clear h0 hx hc hp hb
              go_simp
            · refine lb_val (.bool true) (fun ρ wx hp => want_of 17 true 62 rfl rfl (hp.2.2.1 rfl)) fun ρ wx hb hc hx hp => ⟨?_, rfl⟩
              have h0 : ρ (.tmp 64) = .int .i64 y1 := hp.1 rfl
              have h1 : ρ (.tmp 66) = .int .i64 x1 := hp.2.1 rfl
              have ck : decide (y1 ≤ x1) = true := by have := HL.out; simp; omega
              unfold execOp
              simp only [h0, h1]
              clear h0 h1 hx hc hp hb
              go_simp
            · exact lb_pick (.tmp 62) _ _ rfl true (fun _ _ _ => want_none rfl) fun ρ wx hc hp => ⟨hp.1 rfl, hp.2.1 rfl⟩
            · exact lb_move (.tmp 68) (.inl rfl) (fun _ _ _ => want_none rfl) fun ρ wx hc hx hp => hp.1 rfl
            · refine lb_val (.pointer (some ⟨by', 2, none⟩)) (fun ρ wx hp => want_of 24 true 69 rfl rfl (hp.1 rfl)) fun ρ wx hb hc hx hp => ⟨?_, rfl⟩
              have h0 : ρ (.tmp 6) = .pointer (some ⟨by', 0, none⟩) := hx 6 rfl
              unfold execOp
              simp only [h0]
              clear h0 hx hc hp hb
              go_simp
            · refine lb_val (.int .i64 y2) (fun ρ wx hp => want_of 24 true 69 rfl rfl (hp.2.1 rfl)) fun ρ wx hb hc hx hp => ⟨?_, rfl⟩
              have h0 : ρ (.tmp 70) = .pointer (some ⟨by', 2, none⟩) := hp.1 rfl
              have ck : wx.cell? ⟨by', 2, none⟩ = some (.int .i64 y2) := (Z5.out.below hb).cell 2
              unfold execOp
              simp only [h0]
              clear h0 hx hc hp hb
              go_simp
            · refine lb_val (.pointer (some ⟨bx, 2, none⟩)) (fun ρ wx hp => want_of 24 true 69 rfl rfl (hp.1 rfl)) fun ρ wx hb hc hx hp => ⟨?_, rfl⟩
              have h0 : ρ (.tmp 5) = .pointer (some ⟨bx, 0, none⟩) := hx 5 rfl
              unfold execOp
              simp only [h0]
              clear h0 hx hc hp hb
              go_simp
            · refine lb_val (.int .i64 x2) (fun ρ wx hp => want_of 24 true 69 rfl rfl (hp.2.1 rfl)) fun ρ wx hb hc hx hp => ⟨?_, rfl⟩
              have h0 : ρ (.tmp 72) = .pointer (some ⟨bx, 2, none⟩) := hp.1 rfl
              have ck : wx.cell? ⟨bx, 2, none⟩ = some (.int .i64 x2) := (Y5.out.below hb).cell 2
              unfold execOp
              simp only [h0]
              clear h0 hx hc hp hb
              go_simp
            · refine lb_val (.bool true) (fun ρ wx hp => want_of 24 true 69 rfl rfl (hp.2.2.1 rfl)) fun ρ wx hb hc hx hp => ⟨?_, rfl⟩
              have h0 : ρ (.tmp 71) = .int .i64 y2 := hp.1 rfl
              have h1 : ρ (.tmp 73) = .int .i64 x2 := hp.2.1 rfl
              have ck : decide (y2 ≤ x2) = true := by have := HL.out; simp; omega
              unfold execOp
              simp only [h0, h1]
              clear h0 h1 hx hc hp hb
              go_simp
            · exact lb_pick (.tmp 69) _ _ rfl true (fun _ _ _ => want_none rfl) fun ρ wx hc hp => ⟨hp.1 rfl, hp.2.1 rfl⟩
            · exact lb_move (.tmp 75) (.inl rfl) (fun _ _ _ => want_none rfl) fun ρ wx hc hx hp => hp.1 rfl
            · refine lb_val (.pointer (some ⟨bx, 0, none⟩)) (fun ρ wx hp => want_of 31 true 76 rfl rfl (hp.1 rfl)) fun ρ wx hb hc hx hp => ⟨?_, rfl⟩
              have h0 : ρ (.tmp 5) = .pointer (some ⟨bx, 0, none⟩) := hx 5 rfl
              unfold execOp
              simp only [h0]
              clear h0 hx hc hp hb
              go_simp
            · refine lb_val (.int .i64 x0) (fun ρ wx hp => want_of 31 true 76 rfl rfl (hp.2.1 rfl)) fun ρ wx hb hc hx hp => ⟨?_, rfl⟩
              have h0 : ρ (.tmp 77) = .pointer (some ⟨bx, 0, none⟩) := hp.1 rfl
              have ck : wx.cell? ⟨bx, 0, none⟩ = some (.int .i64 x0) := (Y5.out.below hb).cell 0
              unfold execOp
              simp only [h0]
              clear h0 hx hc hp hb
              go_simp
            · refine lb_val (.pointer (some ⟨bt, 0, none⟩)) (fun ρ wx hp => want_of 31 true 76 rfl rfl (hp.1 rfl)) fun ρ wx hb hc hx hp => ⟨?_, rfl⟩
              have h0 : ρ (.tmp 3) = .pointer (some ⟨bt, 0, none⟩) := hx 3 rfl
              unfold execOp
              simp only [h0]
              clear h0 hx hc hp hb
              go_simp
            · refine lb_val (.int .i64 r) (fun ρ wx hp => want_of 31 true 76 rfl rfl (hp.2.1 rfl)) fun ρ wx hb hc hx hp => ⟨?_, rfl⟩
              have h0 : ρ (.tmp 79) = .pointer (some ⟨bt, 0, none⟩) := hp.1 rfl
              have ck : wx.cell? ⟨bt, 0, none⟩ = some (.int .i64 r) := (X5.out.below hb).cell 0
              unfold execOp
              simp only [h0]
              clear h0 hx hc hp hb
              go_simp
            · refine lb_val (.bool true) (fun ρ wx hp => want_of 31 true 76 rfl rfl (hp.2.2.1 rfl)) fun ρ wx hb hc hx hp => ⟨?_, rfl⟩
              have h0 : ρ (.tmp 78) = .int .i64 x0 := hp.1 rfl
              have h1 : ρ (.tmp 80) = .int .i64 r := hp.2.1 rfl
              have ck : decide (x0 ≤ r) = true := by have := HL.out; simp; omega
              unfold execOp
              simp only [h0, h1]
              clear h0 h1 hx hc hp hb
              go_simp
            · exact lb_pick (.tmp 76) _ _ rfl true (fun _ _ _ => want_none rfl) fun ρ wx hc hp => ⟨hp.1 rfl, hp.2.1 rfl⟩
            · exact lb_move (.tmp 82) (.inr rfl) (fun _ _ _ => want_none rfl) fun ρ wx hc hx hp => hp.1 rfl
          intro vs wx hI hF
          obtain ⟨_, _, _, _, _, _, _, _, _, _, _, _, _, _, _, _, _, _, _, _, _, _, _, _, _, _, _, _, _, _, _, _, _, _, _, _, _, _, h38, _⟩ := hF
          replace h38 : vs 38 = .bool true := h38
          have HI : Hid (Below W5.heap.size W5 wx) := hI
          simp only [putAll, Act.put, List.setIfInBounds_toArray, List.set_cons_zero, List.set_cons_succ, h38]
          clear hI h38
          have B6 := Lib.hid (below_then B5.out HI.out)
          go_wp2_with fail
          go_ret
          exact ⟨rfl, B6.out⟩
      · obtain ⟨rfl, rfl, rfl⟩ := fade_no h (.inr (show betB n 0 16 = false by simpa using kl))
        have hn' : n < 0 ∨ 16 < n := by
          by_cases h0 : 0 ≤ n
          · by_cases h1 : n ≤ 16
            · exact absurd (by simp [betB, h0, h1]) kl
            · exact .inr (by omega)
          · exact .inl (by omega)
        clear h HF k kl
        by_cases h0 : n < 0
        · clear hn'
          have c0 : w3.cell? ⟨bt, 0, none⟩ = some (.int .i64 r) := X3.out.cell 0
          have c1 : w3.cell? ⟨bt, 1, none⟩ = some (.int .i64 g) := X3.out.cell 1
          have c2 : w3.cell? ⟨bt, 2, none⟩ = some (.int .i64 b) := X3.out.cell 2
          go_wp2_with fail
          refine (spec_valid _ _ _ _).mono ?_; rintro e w4 ⟨rfl, b4⟩
          rw [K.out]
          have X4 := Lib.hid (X3.out.below b4)
          have Y4 := Lib.hid (Y3.out.below b4)
          have B4 := Lib.hid (below_then B3.out b4)
          clear b4
          clear c0 c1 c2 X3 Y3 B3
          have d0 : w4.cell? ⟨bx, 0, none⟩ = some (.int .i64 0) := Y4.out.cell 0
          have d1 : w4.cell? ⟨bx, 1, none⟩ = some (.int .i64 0) := Y4.out.cell 1
          have d2 : w4.cell? ⟨bx, 2, none⟩ = some (.int .i64 0) := Y4.out.cell 2
          go_wp2_with fail
          refine (alive_any _).mono ?_; rintro e w' ⟨rfl, rfl⟩
          go_wp2_with fail
          go_ret
          exact ⟨rfl, B4.out⟩
        · have h1 : 16 < n := by omega
          have h2 : 0 ≤ n := by omega
          have hd : decide (n < 0) = false := by simpa using h0
          clear hn' h0
          have c0 : w3.cell? ⟨bt, 0, none⟩ = some (.int .i64 r) := X3.out.cell 0
          have c1 : w3.cell? ⟨bt, 1, none⟩ = some (.int .i64 g) := X3.out.cell 1
          have c2 : w3.cell? ⟨bt, 2, none⟩ = some (.int .i64 b) := X3.out.cell 2
          go_wp2_with fail
          refine (spec_valid _ _ _ _).mono ?_; rintro e w4 ⟨rfl, b4⟩
          rw [K.out]
          have X4 := Lib.hid (X3.out.below b4)
          have Y4 := Lib.hid (Y3.out.below b4)
          have B4 := Lib.hid (below_then B3.out b4)
          clear b4
          clear c0 c1 c2 X3 Y3 B3
          have d0 : w4.cell? ⟨bx, 0, none⟩ = some (.int .i64 0) := Y4.out.cell 0
          have d1 : w4.cell? ⟨bx, 1, none⟩ = some (.int .i64 0) := Y4.out.cell 1
          have d2 : w4.cell? ⟨bx, 2, none⟩ = some (.int .i64 0) := Y4.out.cell 2
          go_wp2_with fail
          refine (alive_any _).mono ?_; rintro e w' ⟨rfl, rfl⟩
          go_wp2_with fail
          go_ret
          exact ⟨rfl, B4.out⟩
    · have K := Lib.hid (show colB r g b = false by simpa using k)
      obtain ⟨rfl, rfl, rfl⟩ := fade_no h (.inl K.out)
      clear h HF k
      have c0 : w3.cell? ⟨bt, 0, none⟩ = some (.int .i64 r) := X3.out.cell 0
      have c1 : w3.cell? ⟨bt, 1, none⟩ = some (.int .i64 g) := X3.out.cell 1
      have c2 : w3.cell? ⟨bt, 2, none⟩ = some (.int .i64 b) := X3.out.cell 2
      go_wp2_with fail
      refine (spec_valid _ _ _ _).mono ?_; rintro e w4 ⟨rfl, b4⟩
      rw [K.out]
      have X4 := Lib.hid (X3.out.below b4)
      have Y4 := Lib.hid (Y3.out.below b4)
      have B4 := Lib.hid (below_then B3.out b4)
      clear b4
      clear c0 c1 c2 X3 Y3 B3
      have d0 : w4.cell? ⟨bx, 0, none⟩ = some (.int .i64 0) := Y4.out.cell 0
      have d1 : w4.cell? ⟨bx, 1, none⟩ = some (.int .i64 0) := Y4.out.cell 1
      have d2 : w4.cell? ⟨bx, 2, none⟩ = some (.int .i64 0) := Y4.out.cell 2
      go_wp2_with fail
      refine (alive_any _).mono ?_; rintro e w' ⟨rfl, rfl⟩
      go_wp2_with fail
      go_ret
      exact ⟨rfl, B4.out⟩
  · have hs' : 1048576 < len0 := by omega
    go_enter Try.func7, Try.ntmps7
    go_wp2_with fail
    go_ret
    exact ⟨rfl, Below.refl _ _⟩
set_option maxRecDepth 100000 in
set_option maxHeartbeats 8000000 in
theorem walk_FnMixColors (a0 : Option Addr) (len0 cap0 : Nat) (z0 : List Int) (w : World) (w0 : IsRow .u8 w a0 len0 cap0 z0) :
    Calls Try.prog 6 #[.slice a0 len0 cap0] w fun e w' => e = .returned (.bool true) ∧ Below w.heap.size w w' := by
  have H := Lib.hid w0
  have hl := isRow_len w0
  clear w0
  by_cases hs : len0 ≤ 1048576
  · go_enter Try.func6, Try.ntmps6
    go_wp2_with fail
    refine (drawMixColors _ _ _ _ _ H.out).mono ?_; rintro e w1 ⟨r, g, b, r', g', b', rfl, hr, hg, hb, hr', hg', hb', b1⟩
    obtain ⟨x0, x1, x2, h⟩ := mix_to r g b r' g' b'
    have HM := Lib.hid h
    have HW := Lib.hid (mix_swap h)
    obtain ⟨WX, hWX⟩ : ∃ WX, WX = (w1.alloc (.cells #[.int .i64 r, .int .i64 g, .int .i64 b] 24)).alloc (.cells #[.int .i64 r', .int .i64 g', .int .i64 b'] 24) := ⟨_, rfl⟩
    have B1 : Hid (Below w.heap.size w WX) := by rw [hWX]; exact (b1.alloc b1.size _).alloc (b1.alloc b1.size _).size _
    have X1 : Hid (Box WX w1.heap.size 24 [.int .i64 r, .int .i64 g, .int .i64 b]) := by rw [hWX]; exact (Box.new w1 _ _).alloc _
    have Y1 : Hid (Box WX (w1.heap.size + 1) 24 [.int .i64 r', .int .i64 g', .int .i64 b']) := by rw [hWX]; exact Box.new_at _ _ _ _ (by simp)
    clear b1
    go_upto_region 4 with (fail)
    rw [← hWX]
    clear hWX
    generalize w1.heap.size + 1 = bb at Y1 ⊢
    generalize w1.heap.size = ba at X1 ⊢
    have c0 : WX.cell? ⟨ba, 0, none⟩ = some (.int .i64 r) := X1.out.cell 0
    have c1 : WX.cell? ⟨ba, 1, none⟩ = some (.int .i64 g) := X1.out.cell 1
    have c2 : WX.cell? ⟨ba, 2, none⟩ = some (.int .i64 b) := X1.out.cell 2
    have d0 : WX.cell? ⟨bb, 0, none⟩ = some (.int .i64 r') := Y1.out.cell 0
    have d1 : WX.cell? ⟨bb, 1, none⟩ = some (.int .i64 g') := Y1.out.cell 1
    have d2 : WX.cell? ⟨bb, 2, none⟩ = some (.int .i64 b') := Y1.out.cell 2
    go_wp2_with fail
    refine (impl_mix _ _ _ _ _ _ _ _ _ _ HM.out).mono ?_; rintro e w2 ⟨rfl, b2⟩
    obtain ⟨W2, hW2⟩ : ∃ W2, W2 = w2.alloc (.cells #[.int .i64 x0, .int .i64 x1, .int .i64 x2] 24) := ⟨_, rfl⟩
    have X2 := Lib.hid (show Box W2 _ _ _ by rw [hW2]; exact (X1.out.below b2).alloc _)
    have Y2 := Lib.hid (show Box W2 _ _ _ by rw [hW2]; exact (Y1.out.below b2).alloc _)
    have Z2 : Hid (Box W2 w2.heap.size 24 [.int .i64 x0, .int .i64 x1, .int .i64 x2]) := by rw [hW2]; exact Box.new w2 _ _
    have B2 : Hid (Below w.heap.size w W2) := by rw [hW2]; exact (below_then B1.out b2).alloc (below_then B1.out b2).size _
    clear b2
    go_upto_region 5 with (fail)
    rw [← hW2]
    clear hW2
    generalize w2.heap.size = bc at Z2
    clear c0 c1 c2 d0 d1 d2 X1 Y1 B1
    refine wp_region_typed (ClB W2) RlB (Ty [TV (.agg #[.int .i64 x0, .int .i64 x1, .int .i64 x2]), TV (.agg #[.int .i64 r, .int .i64 g, .int .i64 b]), TV (.agg #[.int .i64 r', .int .i64 g', .int .i64 b']), TV (.agg #[.int .i64 x0, .int .i64 x1, .int .i64 x2]), TV (.bool false), TV (.bool false), TV (.agg #[.int .i64 x0, .int .i64 x1, .int .i64 x2]), TV (.agg #[.int .i64 r', .int .i64 g', .int .i64 b']), TV (.agg #[.int .i64 r, .int .i64 g, .int .i64 b]), TV (.agg #[.int .i64 x0, .int .i64 x1, .int .i64 x2]), TV (.bool false), TV (.bool false)])
      (by kernel_rfl) (by kernel_rfl) (stab_ty _ ⟨stabB_k _, stabB_k _, stabB_k _, stabB_k _, stabB_k _, stabB_k _, stabB_k _, stabB_k _, stabB_k _, stabB_k _, stabB_k _, stabB_k _, trivial⟩) (Below.refl _ _).drew ?_ ?_
    · refine ⟨?_, ?_, ?_, ?_, ?_, ?_, ?_, ?_, ?_, ?_, ?_, ?_, trivial⟩
      · exact lb_col (.tmp 5) bc x0 x1 x2 rfl Z2.out (fun _ _ _ => want_none rfl) fun ρ wx hx hp => ⟨hx 5 rfl, rfl⟩
      · exact lb_col (.tmp 3) ba r g b rfl X2.out (fun _ _ _ => want_none rfl) fun ρ wx hx hp => ⟨hx 3 rfl, rfl⟩
      · exact lb_col (.tmp 4) bb r' g' b' rfl Y2.out (fun _ _ _ => want_none rfl) fun ρ wx hx hp => ⟨hx 4 rfl, rfl⟩
      · refine lb_known _ _ _ (.agg #[.int .i64 x0, .int .i64 x1, .int .i64 x2]) (fun _ _ => by simp [go_sem]) rfl (fun _ _ _ => want_none rfl) #[.agg #[.int .i64 r, .int .i64 g, .int .i64 b], .agg #[.int .i64 r', .int .i64 g', .int .i64 b']] (fun w hb => spec_mix _ _ _ _ _ _ _ _ _ w HM.out) (fun ρ wx hc hx hp => ?_) (fun _ => rfl)
        have h0 : ρ (.tmp 18) = .agg #[.int .i64 r, .int .i64 g, .int .i64 b] := hp.1 rfl
        have h1 : ρ (.tmp 19) = .agg #[.int .i64 r', .int .i64 g', .int .i64 b'] := hp.2.1 rfl
        simp only [List.map_toArray, List.map_cons, List.map_nil, h0, h1]
      · exact lb_neqC (.tmp 17) (.tmp 20) _ x0 x1 x2 x0 x1 x2 rfl rfl rfl rfl (fun _ _ _ => want_none rfl) fun ρ wx hx hp => ⟨hp.1 rfl, hp.2.1 rfl, rfl⟩
      · exact lb_move (.tmp 21) (.inl rfl) (fun _ _ _ => want_none rfl) fun ρ wx hc hx hp => hp.1 rfl
      · exact lb_col (.tmp 5) bc x0 x1 x2 rfl Z2.out (fun ρ wx hp => want_of 5 false 22 rfl rfl (hp.1 rfl)) fun ρ wx hx hp => ⟨hx 5 rfl, rfl⟩
      · exact lb_col (.tmp 4) bb r' g' b' rfl Y2.out (fun ρ wx hp => want_of 5 false 22 rfl rfl (hp.1 rfl)) fun ρ wx hx hp => ⟨hx 4 rfl, rfl⟩
      · exact lb_col (.tmp 3) ba r g b rfl X2.out (fun ρ wx hp => want_of 5 false 22 rfl rfl (hp.1 rfl)) fun ρ wx hx hp => ⟨hx 3 rfl, rfl⟩
      · refine lb_known _ _ _ (.agg #[.int .i64 x0, .int .i64 x1, .int .i64 x2]) (fun _ _ => by simp [go_sem]) rfl (fun ρ wx hp => want_of 5 false 22 rfl rfl (hp.2.2.1 rfl)) #[.agg #[.int .i64 r', .int .i64 g', .int .i64 b'], .agg #[.int .i64 r, .int .i64 g, .int .i64 b]] (fun w hb => impl_mix _ _ _ _ _ _ _ _ _ w HW.out) (fun ρ wx hc hx hp => ?_) (fun _ => rfl)
        have h0 : ρ (.tmp 24) = .agg #[.int .i64 r', .int .i64 g', .int .i64 b'] := hp.1 rfl
        have h1 : ρ (.tmp 25) = .agg #[.int .i64 r, .int .i64 g, .int .i64 b] := hp.2.1 rfl
        simp only [List.map_toArray, List.map_cons, List.map_nil, h0, h1]
      · exact lb_neqC (.tmp 23) (.tmp 26) _ x0 x1 x2 x0 x1 x2 rfl rfl rfl rfl (fun ρ wx hp => want_of 5 false 22 rfl rfl (hp.2.2.1 rfl)) fun ρ wx hx hp => ⟨hp.1 rfl, hp.2.1 rfl, rfl⟩
      · exact lb_pick (.tmp 22) _ _ rfl false (fun _ _ _ => want_none rfl) fun ρ wx hc hp => ⟨hp.1 rfl, hp.2.1 rfl⟩
    intro vs wx hI hF
    obtain ⟨_, _, _, _, _, _, _, _, _, _, _, h11, _⟩ := hF
    replace h11 : vs 11 = .bool false := h11
    have HI : Hid (Below W2.heap.size W2 wx) := hI
    simp only [putAll, Act.put, List.setIfInBounds_toArray, List.set_cons_zero, List.set_cons_succ, h11]
    clear hI h11
    have X3 := Lib.hid (X2.out.below HI.out)
    have Y3 := Lib.hid (Y2.out.below HI.out)
    have Z3 := Lib.hid (Z2.out.below HI.out)
    have B3 := Lib.hid (below_then B2.out HI.out)
    clear X2 Y2 Z2 B2 HI
    generalize wx = w3 at X3 Y3 Z3 B3 ⊢
    by_cases k : colB r g b = true
    · have K := Lib.hid k
      by_cases k' : colB r' g' b' = true
      · have K' := Lib.hid k'
        have HX := Lib.hid (mix_yes h k k')
        have HS := Lib.hid (mix_same k)
        clear h HM HW k k' hr hg hb hr' hg' hb'
        have c0 : w3.cell? ⟨ba, 0, none⟩ = some (.int .i64 r) := X3.out.cell 0
        have c1 : w3.cell? ⟨ba, 1, none⟩ = some (.int .i64 g) := X3.out.cell 1
        have c2 : w3.cell? ⟨ba, 2, none⟩ = some (.int .i64 b) := X3.out.cell 2
        go_wp2_with fail
        refine (spec_valid _ _ _ _).mono ?_; rintro e w4 ⟨rfl, b4⟩
        rw [K.out]
        have X4 := Lib.hid (X3.out.below b4)
        have Y4 := Lib.hid (Y3.out.below b4)
        have Z4 := Lib.hid (Z3.out.below b4)
        have B4 := Lib.hid (below_then B3.out b4)
        clear b4
        clear c0 c1 c2 X3 Y3 Z3 B3
        have c0 : w4.cell? ⟨bb, 0, none⟩ = some (.int .i64 r') := Y4.out.cell 0
        have c1 : w4.cell? ⟨bb, 1, none⟩ = some (.int .i64 g') := Y4.out.cell 1
        have c2 : w4.cell? ⟨bb, 2, none⟩ = some (.int .i64 b') := Y4.out.cell 2
        go_wp2_with fail
        refine (spec_valid _ _ _ _).mono ?_; rintro e w5 ⟨rfl, b5⟩
        rw [K'.out]
        have X5 := Lib.hid (X4.out.below b5)
        have Y5 := Lib.hid (Y4.out.below b5)
        have Z5 := Lib.hid (Z4.out.below b5)
        have B5 := Lib.hid (below_then B4.out b5)
        clear b5
        clear c0 c1 c2 X4 Y4 Z4 B4
        go_upto_region 9 with (fail)
        refine wp_region_typed (ClB w5) RlB (Ty [TV (.agg #[.int .i64 r, .int .i64 g, .int .i64 b]), TV (.agg #[.int .i64 r, .int .i64 g, .int .i64 b]), TV (.agg #[.int .i64 r, .int .i64 g, .int .i64 b]), TV (.agg #[.int .i64 r, .int .i64 g, .int .i64 b]), TV (.bool true), TV (.bool true), TV (.pointer (some ⟨bc, 0, none⟩)), TV (.int .i64 x0), TV (.pointer (some ⟨ba, 0, none⟩)), TV (.int .i64 r), TV (.pointer (some ⟨bb, 0, none⟩)), TV (.int .i64 r'), TV (.int .i64 (if r' < r then r' else r)), TV (.bool true), TV (.bool true), TV (.bool true), TV (.pointer (some ⟨bc, 0, none⟩)), TV (.int .i64 x0), TV (.pointer (some ⟨ba, 0, none⟩)), TV (.int .i64 r), TV (.pointer (some ⟨bb, 0, none⟩)), TV (.int .i64 r'), TV (.int .i64 (if r < r' then r' else r)), TV (.bool true), TV (.bool true), TV (.bool true), TV (.pointer (some ⟨bc, 1, none⟩)), TV (.int .i64 x1), TV (.pointer (some ⟨ba, 1, none⟩)), TV (.int .i64 g), TV (.pointer (some ⟨bb, 1, none⟩)), TV (.int .i64 g'), TV (.int .i64 (if g' < g then g' else g)), TV (.bool true), TV (.bool true), TV (.bool true), TV (.pointer (some ⟨bc, 1, none⟩)), TV (.int .i64 x1), TV (.pointer (some ⟨ba, 1, none⟩)), TV (.int .i64 g), TV (.pointer (some ⟨bb, 1, none⟩)), TV (.int .i64 g'), TV (.int .i64 (if g < g' then g' else g)), TV (.bool true), TV (.bool true), TV (.bool true), TV (.pointer (some ⟨bc, 2, none⟩)), TV (.int .i64 x2), TV (.pointer (some ⟨ba, 2, none⟩)), TV (.int .i64 b), TV (.pointer (some ⟨bb, 2, none⟩)), TV (.int .i64 b'), TV (.int .i64 (if b' < b then b' else b)), TV (.bool true), TV (.bool true), TV (.bool true), TV (.pointer (some ⟨bc, 2, none⟩)), TV (.int .i64 x2), TV (.pointer (some ⟨ba, 2, none⟩)), TV (.int .i64 b), TV (.pointer (some ⟨bb, 2, none⟩)), TV (.int .i64 b'), TV (.int .i64 (if b < b' then b' else b)), TV (.bool true), TV (.bool true), TV (.bool true)])
          (by kernel_rfl) (by kernel_rfl) (stab_ty _ ⟨stabB_k _, stabB_k _, stabB_k _, stabB_k _, stabB_k _, stabB_k _, stabB_k _, stabB_k _, stabB_k _, stabB_k _, stabB_k _, stabB_k _, stabB_k _, stabB_k _, stabB_k _, stabB_k _, stabB_k _, stabB_k _, stabB_k _, stabB_k _, stabB_k _, stabB_k _, stabB_k _, stabB_k _, stabB_k _, stabB_k _, stabB_k _, stabB_k _, stabB_k _, stabB_k _, stabB_k _, stabB_k _, stabB_k _, stabB_k _, stabB_k _, stabB_k _, stabB_k _, stabB_k _, stabB_k _, stabB_k _, stabB_k _, stabB_k _, stabB_k _, stabB_k _, stabB_k _, stabB_k _, stabB_k _, stabB_k _, stabB_k _, stabB_k _, stabB_k _, stabB_k _, stabB_k _, stabB_k _, stabB_k _, stabB_k _, stabB_k _, stabB_k _, stabB_k _, stabB_k _, stabB_k _, stabB_k _, stabB_k _, stabB_k _, stabB_k _, stabB_k _, trivial⟩) (Below.refl _ _).drew ?_ ?_
        · refine ⟨?_, ?_, ?_, ?_, ?_, ?_, ?_, ?_, ?_, ?_, ?_, ?_, ?_, ?_, ?_, ?_, ?_, ?_, ?_, ?_, ?_, ?_, ?_, ?_, ?_, ?_, ?_, ?_, ?_, ?_, ?_, ?_, ?_, ?_, ?_, ?_, ?_, ?_, ?_, ?_, ?_, ?_, ?_, ?_, ?_, ?_, ?_, ?_, ?_, ?_, ?_, ?_, ?_, ?_, ?_, ?_, ?_, ?_, ?_, ?_, ?_, ?_, ?_, ?_, ?_, ?_, trivial⟩
          · exact lb_col (.tmp 3) ba r g b rfl X5.out (fun _ _ _ => want_none rfl) fun ρ wx hx hp => ⟨hx 3 rfl, rfl⟩
          · exact lb_col (.tmp 3) ba r g b rfl X5.out (fun _ _ _ => want_none rfl) fun ρ wx hx hp => ⟨hx 3 rfl, rfl⟩
          · refine lb_known _ _ _ (.agg #[.int .i64 r, .int .i64 g, .int .i64 b]) (fun _ _ => by simp [go_sem]) rfl (fun _ _ _ => want_none rfl) #[.agg #[.int .i64 r, .int .i64 g, .int .i64 b], .agg #[.int .i64 r, .int .i64 g, .int .i64 b]] (fun w hb => impl_mix _ _ _ _ _ _ _ _ _ w HS.out) (fun ρ wx hc hx hp => ?_) (fun _ => rfl)
            have h0 : ρ (.tmp 43) = .agg #[.int .i64 r, .int .i64 g, .int .i64 b] := hp.1 rfl
            have h1 : ρ (.tmp 44) = .agg #[.int .i64 r, .int .i64 g, .int .i64 b] := hp.2.1 rfl
            simp only [List.map_toArray, List.map_cons, List.map_nil, h0, h1]
          · exact lb_col (.tmp 3) ba r g b rfl X5.out (fun _ _ _ => want_none rfl) fun ρ wx hx hp => ⟨hx 3 rfl, rfl⟩
          · exact lb_eqlC (.tmp 45) (.tmp 46) _ r g b r g b rfl rfl rfl rfl (fun _ _ _ => want_none rfl) fun ρ wx hx hp => ⟨hp.1 rfl, hp.2.1 rfl, rfl⟩
          · exact lb_move (.tmp 47) (.inl rfl) (fun _ _ _ => want_none rfl) fun ρ wx hc hx hp => hp.1 rfl
          · refine lb_val (.pointer (some ⟨bc, 0, none⟩)) (fun ρ wx hp => want_of 5 true 48 rfl rfl (hp.1 rfl)) fun ρ wx hb hc hx hp => ⟨?_, rfl⟩
            have h0 : ρ (.tmp 5) = .pointer (some ⟨bc, 0, none⟩) := hx 5 rfl
            unfold execOp
            simp only [h0]
            clear h0 hx hc hp hb
            go_simp
          · refine lb_val (.int .i64 x0) (fun ρ wx hp => want_of 5 true 48 rfl rfl (hp.2.1 rfl)) fun ρ wx hb hc hx hp => ⟨?_, rfl⟩
            have h0 : ρ (.tmp 49) = .pointer (some ⟨bc, 0, none⟩) := hp.1 rfl
            have ck : wx.cell? ⟨bc, 0, none⟩ = some (.int .i64 x0) := (Z5.out.below hb).cell 0
            unfold execOp
            simp only [h0]
            clear h0 hx hc hp hb
            go_simp
          · refine lb_val (.pointer (some ⟨ba, 0, none⟩)) (fun ρ wx hp => want_of 5 true 48 rfl rfl (hp.1 rfl)) fun ρ wx hb hc hx hp => ⟨?_, rfl⟩
            have h0 : ρ (.tmp 3) = .pointer (some ⟨ba, 0, none⟩) := hx 3 rfl
            unfold execOp
            simp only [h0]
            clear h0 hx hc hp hb
            go_simp
          · refine lb_val (.int .i64 r) (fun ρ wx hp => want_of 5 true 48 rfl rfl (hp.2.1 rfl)) fun ρ wx hb hc hx hp => ⟨?_, rfl⟩
            have h0 : ρ (.tmp 51) = .pointer (some ⟨ba, 0, none⟩) := hp.1 rfl
            have ck : wx.cell? ⟨ba, 0, none⟩ = some (.int .i64 r) := (X5.out.below hb).cell 0
            unfold execOp
            simp only [h0]
            clear h0 hx hc hp hb
            go_simp
          · refine lb_val (.pointer (some ⟨bb, 0, none⟩)) (fun ρ wx hp => want_of 5 true 48 rfl rfl (hp.1 rfl)) fun ρ wx hb hc hx hp => ⟨?_, rfl⟩
            have h0 : ρ (.tmp 4) = .pointer (some ⟨bb, 0, none⟩) := hx 4 rfl
            unfold execOp
            simp only [h0]
            clear h0 hx hc hp hb
            go_simp
          · refine lb_val (.int .i64 r') (fun ρ wx hp => want_of 5 true 48 rfl rfl (hp.2.1 rfl)) fun ρ wx hb hc hx hp => ⟨?_, rfl⟩
            have h0 : ρ (.tmp 53) = .pointer (some ⟨bb, 0, none⟩) := hp.1 rfl
            have ck : wx.cell? ⟨bb, 0, none⟩ = some (.int .i64 r') := (Y5.out.below hb).cell 0
            unfold execOp
            simp only [h0]
            clear h0 hx hc hp hb
            go_simp
          · refine lb_val (.int .i64 (if r' < r then r' else r)) (fun ρ wx hp => want_of 5 true 48 rfl rfl (hp.2.2.1 rfl)) fun ρ wx hb hc hx hp => ⟨?_, rfl⟩
            have h0 : ρ (.tmp 52) = .int .i64 r := hp.1 rfl
            have h1 : ρ (.tmp 54) = .int .i64 r' := hp.2.1 rfl
            unfold execOp
            go_simp
          · refine lb_val (.bool true) (fun ρ wx hp => want_of 5 true 48 rfl rfl (hp.2.2.1 rfl)) fun ρ wx hb hc hx hp => ⟨?_, rfl⟩
            have h0 : ρ (.tmp 50) = .int .i64 x0 := hp.1 rfl
            have h1 : ρ (.tmp 55) = .int .i64 (if r' < r then r' else r) := hp.2.1 rfl
            have ck : decide ((if r' < r then r' else r) ≤ x0) = true := by have := HX.out; simp only [decide_eq_true_eq]; split <;> omega
            unfold execOp
            simp only [h0, h1]
            clear h0 h1 hx hc hp hb
            go_simp
          · exact lb_pick (.tmp 48) _ _ rfl true (fun _ _ _ => want_none rfl) fun ρ wx hc hp => ⟨hp.1 rfl, hp.2.1 rfl⟩
          · exact lb_move (.tmp 57) (.inl rfl) (fun _ _ _ => want_none rfl) fun ρ wx hc hx hp => hp.1 rfl
          · refine lb_val (.pointer (some ⟨bc, 0, none⟩)) (fun ρ wx hp => want_of 15 true 58 rfl rfl (hp.1 rfl)) fun ρ wx hb hc hx hp => ⟨?_, rfl⟩
            have h0 : ρ (.tmp 5) = .pointer (some ⟨bc, 0, none⟩) := hx 5 rfl
            unfold execOp
            simp only [h0]
            clear h0 hx hc hp hb
            go_simp
          · refine lb_val (.int .i64 x0) (fun ρ wx hp => want_of 15 true 58 rfl rfl (hp.2.1 rfl)) fun ρ wx hb hc hx hp => ⟨?_, rfl⟩
            have h0 : ρ (.tmp 59) = .pointer (some ⟨bc, 0, none⟩) := hp.1 rfl
            have ck : wx.cell? ⟨bc, 0, none⟩ = some (.int .i64 x0) := (Z5.out.below hb).cell 0
            unfold execOp
            simp only [h0]
            clear h0 hx hc hp hb
            go_simp
          · refine lb_val (.pointer (some ⟨ba, 0, none⟩)) (fun ρ wx hp => want_of 15 true 58 rfl rfl (hp.1 rfl)) fun ρ wx hb hc hx hp => ⟨?_, rfl⟩
            have h0 : ρ (.tmp 3) = .pointer (some ⟨ba, 0, none⟩) := hx 3 rfl
            unfold execOp
            simp only [h0]
            clear h0 hx hc hp hb
            go_simp
          · refine lb_val (.int .i64 r) (fun ρ wx hp => want_of 15 true 58 rfl rfl (hp.2.1 rfl)) fun ρ wx hb hc hx hp => ⟨?_, rfl⟩
            have h0 : ρ (.tmp 61) = .pointer (some ⟨ba, 0, none⟩) := hp.1 rfl
            have ck : wx.cell? ⟨ba, 0, none⟩ = some (.int .i64 r) := (X5.out.below hb).cell 0
            unfold execOp
            simp only [h0]
            clear h0 hx hc hp hb
            go_simp
          · refine lb_val (.pointer (some ⟨bb, 0, none⟩)) (fun ρ wx hp => want_of 15 true 58 rfl rfl (hp.1 rfl)) fun ρ wx hb hc hx hp => ⟨?_, rfl⟩
            have h0 : ρ (.tmp 4) = .pointer (some ⟨bb, 0, none⟩) := hx 4 rfl
            unfold execOp
            simp only [h0]
            clear h0 hx hc hp hb
            go_simp
          · refine lb_val (.int .i64 r') (fun ρ wx hp => want_of 15 true 58 rfl rfl (hp.2.1 rfl)) fun ρ wx hb hc hx hp => ⟨?_, rfl⟩
            have h0 : ρ (.tmp 63) = .pointer (some ⟨bb, 0, none⟩) := hp.1 rfl
            have ck : wx.cell? ⟨bb, 0, none⟩ = some (.int .i64 r') := (Y5.out.below hb).cell 0
            unfold execOp
            simp only [h0]
            clear h0 hx hc hp hb
            go_simp
          · refine lb_val (.int .i64 (if r < r' then r' else r)) (fun ρ wx hp => want_of 15 true 58 rfl rfl (hp.2.2.1 rfl)) fun ρ wx hb hc hx hp => ⟨?_, rfl⟩
            have h0 : ρ (.tmp 62) = .int .i64 r := hp.1 rfl
            have h1 : ρ (.tmp 64) = .int .i64 r' := hp.2.1 rfl
            unfold execOp
            go_simp
          · refine lb_val (.bool true) (fun ρ wx hp => want_of 15 true 58 rfl rfl (hp.2.2.1 rfl)) fun ρ wx hb hc hx hp => ⟨?_, rfl⟩
            have h0 : ρ (.tmp 60) = .int .i64 x0 := hp.1 rfl
            have h1 : ρ (.tmp 65) = .int .i64 (if r < r' then r' else r) := hp.2.1 rfl
            have ck : decide (x0 ≤ (if r < r' then r' else r)) = true := by have := HX.out; simp only [decide_eq_true_eq]; split <;> omega
            unfold execOp
            simp only [h0, h1]
            clear h0 h1 hx hc hp hb
            go_simp
          · exact lb_pick (.tmp 58) _ _ rfl true (fun _ _ _ => want_none rfl) fun ρ wx hc hp => ⟨hp.1 rfl, hp.2.1 rfl⟩
          · exact lb_move (.tmp 67) (.inl rfl) (fun _ _ _ => want_none rfl) fun ρ wx hc hx hp => hp.1 rfl
          · refine lb_val (.pointer (some ⟨bc, 1, none⟩)) (fun ρ wx hp => want_of 25 true 68 rfl rfl (hp.1 rfl)) fun ρ wx hb hc hx hp => ⟨?_, rfl⟩
            have h0 : ρ (.tmp 5) = .pointer (some ⟨bc, 0, none⟩) := hx 5 rfl
            unfold execOp
            simp only [h0]
            clear h0 hx hc hp hb
            go_simp
          · refine lb_val (.int .i64 x1) (fun ρ wx hp => want_of 25 true 68 rfl rfl (hp.2.1 rfl)) fun ρ wx hb hc hx hp => ⟨?_, rfl⟩
            have h0 : ρ (.tmp 69) = .pointer (some ⟨bc, 1, none⟩) := hp.1 rfl
            have ck : wx.cell? ⟨bc, 1, none⟩ = some (.int .i64 x1) := (Z5.out.below hb).cell 1
            unfold execOp
            simp only [h0]
            clear h0 hx hc hp hb
            go_simp
          · refine lb_val (.pointer (some ⟨ba, 1, none⟩)) (fun ρ wx hp => want_of 25 true 68 rfl rfl (hp.1 rfl)) fun ρ wx hb hc hx hp => ⟨?_, rfl⟩
            have h0 : ρ (.tmp 3) = .pointer (some ⟨ba, 0, none⟩) := hx 3 rfl
            unfold execOp
            simp only [h0]
            clear h0 hx hc hp hb
            go_simp
          · refine lb_val (.int .i64 g) (fun ρ wx hp => want_of 25 true 68 rfl rfl (hp.2.1 rfl)) fun ρ wx hb hc hx hp => ⟨?_, rfl⟩
            have h0 : ρ (.tmp 71) = .pointer (some ⟨ba, 1, none⟩) := hp.1 rfl
            have ck : wx.cell? ⟨ba, 1, none⟩ = some (.int .i64 g) := (X5.out.below hb).cell 1
            unfold execOp
            simp only [h0]
            clear h0 hx hc hp hb
            go_simp
          · refine lb_val (.pointer (some ⟨bb, 1, none⟩)) (fun ρ wx hp => want_of 25 true 68 rfl rfl (hp.1 rfl)) fun ρ wx hb hc hx hp => ⟨?_, rfl⟩
            have h0 : ρ (.tmp 4) = .pointer (some ⟨bb, 0, none⟩) := hx 4 rfl
            unfold execOp
            simp only [h0]
            clear h0 hx hc hp hb
            go_simp
          · refine lb_val (.int .i64 g') (fun ρ wx hp => want_of 25 true 68 rfl rfl (hp.2.1 rfl)) fun ρ wx hb hc hx hp => ⟨?_, rfl⟩
            have h0 : ρ (.tmp 73) = .pointer (some ⟨bb, 1, none⟩) := hp.1 rfl
            have ck : wx.cell? ⟨bb, 1, none⟩ = some (.int .i64 g') := (Y5.out.below hb).cell 1
            unfold execOp
            simp only [h0]
            clear h0 hx hc hp hb
            go_simp
          · refine lb_val (.int .i64 (if g' < g then g' else g)) (fun ρ wx hp => want_of 25 true 68 rfl rfl (hp.2.2.1 rfl)) fun ρ wx hb hc hx hp => ⟨?_, rfl⟩
            have h0 : ρ (.tmp 72) = .int .i64 g := hp.1 rfl
            have h1 : ρ (.tmp 74) = .int .i64 g' := hp.2.1 rfl
            unfold execOp
            go_simp
          · refine lb_val (.bool true) (fun ρ wx hp => want_of 25 true 68 rfl rfl (hp.2.2.1 rfl)) fun ρ wx hb hc hx hp => ⟨?_, rfl⟩
            have h0 : ρ (.tmp 70) = .int .i64 x1 := hp.1 rfl
            have h1 : ρ (.tmp 75) = .int .i64 (if g' < g then g' else g) := hp.2.1 rfl
            have ck : decide ((if g' < g then g' else g) ≤ x1) = true := by have := HX.out; simp only [decide_eq_true_eq]; split <;> omega
            unfold execOp
            simp only [h0, h1]
            clear h0 h1 hx hc hp hb
            go_simp
          · exact lb_pick (.tmp 68) _ _ rfl true (fun _ _ _ => want_none rfl) fun ρ wx hc hp => ⟨hp.1 rfl, hp.2.1 rfl⟩
          · exact lb_move (.tmp 77) (.inl rfl) (fun _ _ _ => want_none rfl) fun ρ wx hc hx hp => hp.1 rfl
          · refine lb_val (.pointer (some ⟨bc, 1, none⟩)) (fun ρ wx hp => want_of 35 true 78 rfl rfl (hp.1 rfl)) fun ρ wx hb hc hx hp => ⟨?_, rfl⟩
            have h0 : ρ (.tmp 5) = .pointer (some ⟨bc, 0, none⟩) := hx 5 rfl
            unfold execOp
            simp only [h0]
            clear h0 hx hc hp hb
            go_simp
          · refine lb_val (.int .i64 x1) (fun ρ wx hp => want_of 35 true 78 rfl rfl (hp.2.1 rfl)) fun ρ wx hb hc hx hp => ⟨?_, rfl⟩
            have h0 : ρ (.tmp 79) = .pointer (some ⟨bc, 1, none⟩) := hp.1 rfl
            have ck : wx.cell? ⟨bc, 1, none⟩ = some (.int .i64 x1) := (Z5.out.below hb).cell 1
            unfold execOp
            simp only [h0]
            clear h0 hx hc hp hb
            go_simp
          · refine lb_val (.pointer (some ⟨ba, 1, none⟩)) (fun ρ wx hp => want_of 35 true 78 rfl rfl (hp.1 rfl)) fun ρ wx hb hc hx hp => ⟨?_, rfl⟩
            have h0 : ρ (.tmp 3) = .pointer (some ⟨ba, 0, none⟩) := hx 3 rfl
            unfold execOp
            simp only [h0]
            clear h0 hx hc hp hb
            go_simp
          · refine lb_val (.int .i64 g) (fun ρ wx hp => want_of 35 true 78 rfl rfl (hp.2.1 rfl)) fun ρ wx hb hc hx hp => ⟨?_, rfl⟩
            have h0 : ρ (.tmp 81) = .pointer (some ⟨ba, 1, none⟩) := hp.1 rfl
            have ck : wx.cell? ⟨ba, 1, none⟩ = some (.int .i64 g) := (X5.out.below hb).cell 1
            unfold execOp
            simp only [h0]
            clear h0 hx hc hp hb
            go_simp
          · refine lb_val (.pointer (some ⟨bb, 1, none⟩)) (fun ρ wx hp => want_of 35 true 78 rfl rfl (hp.1 rfl)) fun ρ wx hb hc hx hp => ⟨?_, rfl⟩
            have h0 : ρ (.tmp 4) = .pointer (some ⟨bb, 0, none⟩) := hx 4 rfl
            unfold execOp
            simp only [h0]
            clear h0 hx hc hp hb
            go_simp
          · refine lb_val (.int .i64 g') (fun ρ wx hp => want_of 35 true 78 rfl rfl (hp.2.1 rfl)) fun ρ wx hb hc hx hp => ⟨?_, rfl⟩
            have h0 : ρ (.tmp 83) = .pointer (some ⟨bb, 1, none⟩) := hp.1 rfl
            have ck : wx.cell? ⟨bb, 1, none⟩ = some (.int .i64 g') := (Y5.out.below hb).cell 1
            unfold execOp
            simp only [h0]
            clear h0 hx hc hp hb
            go_simp
          · refine lb_val (.int .i64 (if g < g' then g' else g)) (fun ρ wx hp => want_of 35 true 78 rfl rfl (hp.2.2.1 rfl)) fun ρ wx hb hc hx hp => ⟨?_, rfl⟩
            have h0 : ρ (.tmp 82) = .int .i64 g := hp.1 rfl
            have h1 : ρ (.tmp 84) = .int .i64 g' := hp.2.1 rfl
            unfold execOp
            go_simp
          · refine lb_val (.bool true) (fun ρ wx hp => want_of 35 true 78 rfl rfl (hp.2.2.1 rfl)) fun ρ wx hb hc hx hp => ⟨?_, rfl⟩
            have h0 : ρ (.tmp 80) = .int .i64 x1 := hp.1 rfl
            have h1 : ρ (.tmp 85) = .int .i64 (if g < g' then g' else g) := hp.2.1 rfl
            have ck : decide (x1 ≤ (if g < g' then g' else g)) = true := by have := HX.out; simp only [decide_eq_true_eq]; split <;> omega
            unfold execOp
            simp only [h0, h1]
            clear h0 h1 hx hc hp hb
            go_simp
          · exact lb_pick (.tmp 78) _ _ rfl true (fun _ _ _ => want_none rfl) fun ρ wx hc hp => ⟨hp.1 rfl, hp.2.1 rfl⟩
          · exact lb_move (.tmp 87) (.inl rfl) (fun _ _ _ => want_none rfl) fun ρ wx hc hx hp => hp.1 rfl
          · refine lb_val (.pointer (some ⟨bc, 2, none⟩)) (fun ρ wx hp => want_of 45 true 88 rfl rfl (hp.1 rfl)) fun ρ wx hb hc hx hp => ⟨?_, rfl⟩
            have h0 : ρ (.tmp 5) = .pointer (some ⟨bc, 0, none⟩) := hx 5 rfl
            unfold execOp
            simp only [h0]
            clear h0 hx hc hp hb
            go_simp
          · refine lb_val (.int .i64 x2) (fun ρ wx hp => want_of 45 true 88 rfl rfl (hp.2.1 rfl)) fun ρ wx hb hc hx hp => ⟨?_, rfl⟩
            have h0 : ρ (.tmp 89) = .pointer (some ⟨bc, 2, none⟩) := hp.1 rfl
            have ck : wx.cell? ⟨bc, 2, none⟩ = some (.int .i64 x2) := (Z5.out.below hb).cell 2
            unfold execOp
            simp only [h0]
            clear h0 hx hc hp hb
            go_simp
          · refine lb_val (.pointer (some ⟨ba, 2, none⟩)) (fun ρ wx hp => want_of 45 true 88 rfl rfl (hp.1 rfl)) fun ρ wx hb hc hx hp => ⟨?_, rfl⟩
            have h0 : ρ (.tmp 3) = .pointer (some ⟨ba, 0, none⟩) := hx 3 rfl
            unfold execOp
            simp only [h0]
            clear h0 hx hc hp hb
            go_simp
          · refine lb_val (.int .i64 b) (fun ρ wx hp => want_of 45 true 88 rfl rfl (hp.2.1 rfl)) fun ρ wx hb hc hx hp => ⟨?_, rfl⟩
            have h0 : ρ (.tmp 91) = .pointer (some ⟨ba, 2, none⟩) := hp.1 rfl
            have ck : wx.cell? ⟨ba, 2, none⟩ = some (.int .i64 b) := (X5.out.below hb).cell 2
            unfold execOp
            simp only [h0]
            clear h0 hx hc hp hb
            go_simp
          · refine lb_val (.pointer (some ⟨bb, 2, none⟩)) (fun ρ wx hp => want_of 45 true 88 rfl rfl (hp.1 rfl)) fun ρ wx hb hc hx hp => ⟨?_, rfl⟩
            have h0 : ρ (.tmp 4) = .pointer (some ⟨bb, 0, none⟩) := hx 4 rfl
            unfold execOp
            simp only [h0]
            clear h0 hx hc hp hb
            go_simp
          · refine lb_val (.int .i64 b') (fun ρ wx hp => want_of 45 true 88 rfl rfl (hp.2.1 rfl)) fun ρ wx hb hc hx hp => ⟨?_, rfl⟩
            have h0 : ρ (.tmp 93) = .pointer (some ⟨bb, 2, none⟩) := hp.1 rfl
            have ck : wx.cell? ⟨bb, 2, none⟩ = some (.int .i64 b') := (Y5.out.below hb).cell 2
            unfold execOp
            simp only [h0]
            clear h0 hx hc hp hb
            go_simp
          · refine lb_val (.int .i64 (if b' < b then b' else b)) (fun ρ wx hp => want_of 45 true 88 rfl rfl (hp.2.2.1 rfl)) fun ρ wx hb hc hx hp => ⟨?_, rfl⟩
            have h0 : ρ (.tmp 92) = .int .i64 b := hp.1 rfl
            have h1 : ρ (.tmp 94) = .int .i64 b' := hp.2.1 rfl
            unfold execOp
            go_simp
          · refine lb_val (.bool true) (fun ρ wx hp => want_of 45 true 88 rfl rfl (hp.2.2.1 rfl)) fun ρ wx hb hc hx hp => ⟨?_, rfl⟩
            have h0 : ρ (.tmp 90) = .int .i64 x2 := hp.1 rfl
            have h1 : ρ (.tmp 95) = .int .i64 (if b' < b then b' else b) := hp.2.1 rfl
            have ck : decide ((if b' < b then b' else b) ≤ x2) = true := by have := HX.out; simp only [decide_eq_true_eq]; split <;> omega
            unfold execOp
            simp only [h0, h1]
            clear h0 h1 hx hc hp hb
            go_simp
          · exact lb_pick (.tmp 88) _ _ rfl true (fun _ _ _ => want_none rfl) fun ρ wx hc hp => ⟨hp.1 rfl, hp.2.1 rfl⟩
          · exact lb_move (.tmp 97) (.inl rfl) (fun _ _ _ => want_none rfl) fun ρ wx hc hx hp => hp.1 rfl
          · refine lb_val (.pointer (some ⟨bc, 2, none⟩)) (fun ρ wx hp => want_of 55 true 98 rfl rfl (hp.1 rfl)) fun ρ wx hb hc hx hp => ⟨?_, rfl⟩
            have h0 : ρ (.tmp 5) = .pointer (some ⟨bc, 0, none⟩) := hx 5 rfl
            unfold execOp
            simp only [h0]
            clear h0 hx hc hp hb
            go_simp
          · refine lb_val (.int .i64 x2) (fun ρ wx hp => want_of 55 true 98 rfl rfl (hp.2.1 rfl)) fun ρ wx hb hc hx hp => ⟨?_, rfl⟩
            have h0 : ρ (.tmp 99) = .pointer (some ⟨bc, 2, none⟩) := hp.1 rfl
            have ck : wx.cell? ⟨bc, 2, none⟩ = some (.int .i64 x2) := (Z5.out.below hb).cell 2
            unfold execOp
            simp only [h0]
            clear h0 hx hc hp hb
            go_simp
          · refine lb_val (.pointer (some ⟨ba, 2, none⟩)) (fun ρ wx hp => want_of 55 true 98 rfl rfl (hp.1 rfl)) fun ρ wx hb hc hx hp => ⟨?_, rfl⟩
            have h0 : ρ (.tmp 3) = .pointer (some ⟨ba, 0, none⟩) := hx 3 rfl
            unfold execOp
            simp only [h0]
            clear h0 hx hc hp hb
            go_simp
          · refine lb_val (.int .i64 b) (fun ρ wx hp => want_of 55 true 98 rfl rfl (hp.2.1 rfl)) fun ρ wx hb hc hx hp => ⟨?_, rfl⟩
            have h0 : ρ (.tmp 101) = .pointer (some ⟨ba, 2, none⟩) := hp.1 rfl
            have ck : wx.cell? ⟨ba, 2, none⟩ = some (.int .i64 b) := (X5.out.below hb).cell 2
            unfold execOp
            simp only [h0]
            clear h0 hx hc hp hb
            go_simp
          · refine lb_val (.pointer (some ⟨bb, 2, none⟩)) (fun ρ wx hp => want_of 55 true 98 rfl rfl (hp.1 rfl)) fun ρ wx hb hc hx hp => ⟨?_, rfl⟩
            have h0 : ρ (.tmp 4) = .pointer (some ⟨bb, 0, none⟩) := hx 4 rfl
            unfold execOp
            simp only [h0]
            clear h0 hx hc hp hb
            go_simp
          · refine lb_val (.int .i64 b') (fun ρ wx hp => want_of 55 true 98 rfl rfl (hp.2.1 rfl)) fun ρ wx hb hc hx hp => ⟨?_, rfl⟩
            have h0 : ρ (.tmp 103) = .pointer (some ⟨bb, 2, none⟩) := hp.1 rfl
            have ck : wx.cell? ⟨bb, 2, none⟩ = some (.int .i64 b') := (Y5.out.below hb).cell 2
            unfold execOp
            simp only [h0]
            clear h0 hx hc hp hb
            go_simp
          · refine lb_val (.int .i64 (if b < b' then b' else b)) (fun ρ wx hp => want_of 55 true 98 rfl rfl (hp.2.2.1 rfl)) fun ρ wx hb hc hx hp => ⟨?_, rfl⟩
            have h0 : ρ (.tmp 102) = .int .i64 b := hp.1 rfl
            have h1 : ρ (.tmp 104) = .int .i64 b' := hp.2.1 rfl
            unfold execOp
            go_simp
          · refine lb_val (.bool true) (fun ρ wx hp => want_of 55 true 98 rfl rfl (hp.2.2.1 rfl)) fun ρ wx hb hc hx hp => ⟨?_, rfl⟩
            have h0 : ρ (.tmp 100) = .int .i64 x2 := hp.1 rfl
            have h1 : ρ (.tmp 105) = .int .i64 (if b < b' then b' else b) := hp.2.1 rfl
            have ck : decide (x2 ≤ (if b < b' then b' else b)) = true := by have := HX.out; simp only [decide_eq_true_eq]; split <;> omega
            unfold execOp
            simp only [h0, h1]
            clear h0 h1 hx hc hp hb
            go_simp
          · exact lb_pick (.tmp 98) _ _ rfl true (fun _ _ _ => want_none rfl) fun ρ wx hc hp => ⟨hp.1 rfl, hp.2.1 rfl⟩
          · exact lb_move (.tmp 107) (.inr rfl) (fun _ _ _ => want_none rfl) fun ρ wx hc hx hp => hp.1 rfl
        intro vs wx hI hF
        obtain ⟨_, _, _, _, _, _, _, _, _, _, _, _, _, _, _, _, _, _, _, _, _, _, _, _, _, _, _, _, _, _, _, _, _, _, _, _, _, _, _, _, _, _, _, _, _, _, _, _, _, _, _, _, _, _, _, _, _, _, _, _, _, _, _, _, _, h65, _⟩ := hF
        replace h65 : vs 65 = .bool true := h65
        have HI : Hid (Below w5.heap.size w5 wx) := hI
        simp only [List.append_eq, List.cons_append, List.nil_append, putAll, Act.put, List.setIfInBounds_toArray, List.set_cons_zero, List.set_cons_succ, h65]
        clear hI h65
        have B6 := Lib.hid (below_then B5.out HI.out)
        go_wp2_with fail
        go_ret
        exact ⟨rfl, B6.out⟩
      · have K' := Lib.hid (show colB r' g' b' = false by simpa using k')
        obtain ⟨rfl, rfl, rfl⟩ := mix_no h (.inr K'.out)
        clear h HM HW k k'
        have c0 : w3.cell? ⟨ba, 0, none⟩ = some (.int .i64 r) := X3.out.cell 0
        have c1 : w3.cell? ⟨ba, 1, none⟩ = some (.int .i64 g) := X3.out.cell 1
        have c2 : w3.cell? ⟨ba, 2, none⟩ = some (.int .i64 b) := X3.out.cell 2
        go_wp2_with fail
        refine (spec_valid _ _ _ _).mono ?_; rintro e w4 ⟨rfl, b4⟩
        rw [K.out]
        have X4 := Lib.hid (X3.out.below b4)
        have Y4 := Lib.hid (Y3.out.below b4)
        have Z4 := Lib.hid (Z3.out.below b4)
        have B4 := Lib.hid (below_then B3.out b4)
        clear b4
        clear c0 c1 c2 X3 Y3 Z3 B3
        have c0 : w4.cell? ⟨bb, 0, none⟩ = some (.int .i64 r') := Y4.out.cell 0
        have c1 : w4.cell? ⟨bb, 1, none⟩ = some (.int .i64 g') := Y4.out.cell 1
        have c2 : w4.cell? ⟨bb, 2, none⟩ = some (.int .i64 b') := Y4.out.cell 2
        go_wp2_with fail
        refine (spec_valid _ _ _ _).mono ?_; rintro e w5 ⟨rfl, b5⟩
        rw [K'.out]
        have X5 := Lib.hid (X4.out.below b5)
        have Y5 := Lib.hid (Y4.out.below b5)
        have Z5 := Lib.hid (Z4.out.below b5)
        have B5 := Lib.hid (below_then B4.out b5)
        clear b5
        clear c0 c1 c2 X4 Y4 Z4 B4
        have d0 : w5.cell? ⟨bc, 0, none⟩ = some (.int .i64 0) := Z5.out.cell 0
        have d1 : w5.cell? ⟨bc, 1, none⟩ = some (.int .i64 0) := Z5.out.cell 1
        have d2 : w5.cell? ⟨bc, 2, none⟩ = some (.int .i64 0) := Z5.out.cell 2
        go_wp2_with fail
        refine (alive_any _).mono ?_; rintro e w' ⟨rfl, rfl⟩
        go_wp2_with fail
        go_ret
        exact ⟨rfl, B5.out⟩
    · have K := Lib.hid (show colB r g b = false by simpa using k)
      obtain ⟨rfl, rfl, rfl⟩ := mix_no h (.inl K.out)
      clear h HM HW k
      have c0 : w3.cell? ⟨ba, 0, none⟩ = some (.int .i64 r) := X3.out.cell 0
      have c1 : w3.cell? ⟨ba, 1, none⟩ = some (.int .i64 g) := X3.out.cell 1
      have c2 : w3.cell? ⟨ba, 2, none⟩ = some (.int .i64 b) := X3.out.cell 2
      go_wp2_with fail
      refine (spec_valid _ _ _ _).mono ?_; rintro e w4 ⟨rfl, b4⟩
      rw [K.out]
      have X4 := Lib.hid (X3.out.below b4)
      have Y4 := Lib.hid (Y3.out.below b4)
      have Z4 := Lib.hid (Z3.out.below b4)
      have B4 := Lib.hid (below_then B3.out b4)
      clear b4
      clear c0 c1 c2 X3 Y3 Z3 B3
      have d0 : w4.cell? ⟨bc, 0, none⟩ = some (.int .i64 0) := Z4.out.cell 0
      have d1 : w4.cell? ⟨bc, 1, none⟩ = some (.int .i64 0) := Z4.out.cell 1
      have d2 : w4.cell? ⟨bc, 2, none⟩ = some (.int .i64 0) := Z4.out.cell 2
      go_wp2_with fail
      refine (alive_any _).mono ?_; rintro e w' ⟨rfl, rfl⟩
      go_wp2_with fail
      go_ret
      exact ⟨rfl, B4.out⟩
  · have hs' : 1048576 < len0 := by omega
    go_enter Try.func6, Try.ntmps6
    go_wp2_with fail
    go_ret
    exact ⟨rfl, Below.refl _ _⟩
end Go.Proofs.Ytbboebmfdahgpaa
