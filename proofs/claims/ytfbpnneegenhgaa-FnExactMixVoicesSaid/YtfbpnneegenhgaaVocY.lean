/- The program's functions on sound channels: tests, sample, skipping, fading, lists. -/
import Derived.Test.YtfbpnneegenhgaaVocT
import Derived.Test.YtfbpnneegenhgaaVocN
import Derived.Test.YtfbpnneegenhgaaColI
namespace Go.Proofs.Ytfbpnneegenhgaa
open Go.ChangeShapes Go.WideShapes Go.ChangeAt Go.RowKit
set_option linter.unusedVariables false

theorem im_isVolume (x : Int) (w : World) : Calls Try.prog 42 #[.int .i64 x] w fun e w' => e = .returned (.bool (betB x 0 15)) ∧ w = w' := by
  by_cases h0 : 0 ≤ x
  · by_cases h1 : x ≤ 15
    · have HB := Lib.hid (betB_iff.2 (show 0 ≤ x ∧ x ≤ 15 by omega))
      go_enter Try.func42, Try.ntmps42
      go_wp2_with fail
      go_ret
      exact ⟨ret_bool HB.out.symm, rfl⟩
    · have HB := Lib.hid (betB_no (show ¬ (0 ≤ x ∧ x ≤ 15) by omega))
      have hd : decide (x ≤ 15) = false := by simp; omega
      clear h1
      go_enter Try.func42, Try.ntmps42
      go_wp2_with fail
      go_ret
      exact ⟨ret_bool HB.out.symm, rfl⟩
  · have HB := Lib.hid (betB_no (show ¬ (0 ≤ x ∧ x ≤ 15) by omega))
    have hd : decide (0 ≤ x) = false := by simp; omega
    clear h0
    go_enter Try.func42, Try.ntmps42
    go_wp2_with fail
    go_ret
    exact ⟨ret_bool HB.out.symm, rfl⟩
theorem im_isCount (x : Int) (w : World) : Calls Try.prog 46 #[.int .i64 x] w fun e w' => e = .returned (.bool (betB x 0 400)) ∧ w = w' := by
  by_cases h0 : 0 ≤ x
  · by_cases h1 : x ≤ 400
    · have HB := Lib.hid (betB_iff.2 (show 0 ≤ x ∧ x ≤ 400 by omega))
      go_enter Try.func46, Try.ntmps46
      go_wp2_with fail
      go_ret
      exact ⟨ret_bool HB.out.symm, rfl⟩
    · have HB := Lib.hid (betB_no (show ¬ (0 ≤ x ∧ x ≤ 400) by omega))
      have hd : decide (x ≤ 400) = false := by simp; omega
      clear h1
      go_enter Try.func46, Try.ntmps46
      go_wp2_with fail
      go_ret
      exact ⟨ret_bool HB.out.symm, rfl⟩
  · have HB := Lib.hid (betB_no (show ¬ (0 ≤ x ∧ x ≤ 400) by omega))
    have hd : decide (0 ≤ x) = false := by simp; omega
    clear h0
    go_enter Try.func46, Try.ntmps46
    go_wp2_with fail
    go_ret
    exact ⟨ret_bool HB.out.symm, rfl⟩
set_option maxHeartbeats 1000000 in
theorem im_voiceValid (x : Voc) (w : World) : Calls Try.prog 15 #[vocV x] w fun e w' => e = .returned (.bool (vocB x)) ∧ Below w.heap.size w w' := by
  obtain ⟨l, h, v, s, e⟩ := x
  have HF : Hid (vocB ⟨l, h, v, s, e⟩ = (betB l 1 100 && betB h 0 8 && betB v 0 15 && betB s 0 7 && betB e 1 l)) := Lib.hid rfl
  show Calls Try.prog 15 #[.agg #[.int .i64 l, .int .i64 h, .int .i64 v, .int .i64 s, .int .i64 e]] w _
  generalize vocB ⟨l, h, v, s, e⟩ = V at HF ⊢
  by_cases k : l < 1
  · have HV : Hid (V = false) := Lib.hid (by rw [HF.out, betB_no (show ¬ (1 ≤ l ∧ l ≤ 100) by omega)]; simp)
    go_enter Try.func15, Try.ntmps15
    go_wp2_with fail
    go_ret
    exact ⟨ret_bool HV.out.symm, below1 w _⟩
  have g0 := k
  have gd0 : decide (l < 1) = false := by simp; omega
  clear k
  by_cases k : 100 < l
  · have HV : Hid (V = false) := Lib.hid (by rw [HF.out, betB_no (show ¬ (1 ≤ l ∧ l ≤ 100) by omega)]; simp)
    go_enter Try.func15, Try.ntmps15
    go_wp2_with fail
    go_ret
    exact ⟨ret_bool HV.out.symm, below1 w _⟩
  have g1 := k
  have gd1 : decide (100 < l) = false := by simp; omega
  clear k
  by_cases k : h < 0
  · have HV : Hid (V = false) := Lib.hid (by rw [HF.out, betB_no (show ¬ (0 ≤ h ∧ h ≤ 8) by omega)]; simp)
    go_enter Try.func15, Try.ntmps15
    go_wp2_with fail
    go_ret
    exact ⟨ret_bool HV.out.symm, below1 w _⟩
  have g2 := k
  have gd2 : decide (h < 0) = false := by simp; omega
  clear k
  by_cases k : 8 < h
  · have HV : Hid (V = false) := Lib.hid (by rw [HF.out, betB_no (show ¬ (0 ≤ h ∧ h ≤ 8) by omega)]; simp)
    go_enter Try.func15, Try.ntmps15
    go_wp2_with fail
    go_ret
    exact ⟨ret_bool HV.out.symm, below1 w _⟩
  have g3 := k
  have gd3 : decide (8 < h) = false := by simp; omega
  clear k
  have KL := Lib.hid (betB_iff.2 (show 1 ≤ l ∧ l ≤ 100 by omega))
  have KH := Lib.hid (betB_iff.2 (show 0 ≤ h ∧ h ≤ 8 by omega))
  go_enter Try.func15, Try.ntmps15
  go_wp2_with fail
  clear gd0 gd1 gd2 gd3
  refine (im_isVolume v _).mono ?_; rintro e' w' ⟨rfl, rfl⟩
  cases k2 : betB v 0 15
  · have HV : Hid (V = false) := Lib.hid (by rw [HF.out, k2]; simp)
    clear k2
    go_wp2_with fail
    go_ret
    exact ⟨ret_bool HV.out.symm, below1 w _⟩
  have KV := Lib.hid k2
  clear k2
  by_cases k : s < 0
  · have HV : Hid (V = false) := Lib.hid (by rw [HF.out, betB_no (show ¬ (0 ≤ s ∧ s ≤ 7) by omega)]; simp)
    go_wp2_with fail
    go_ret
    exact ⟨ret_bool HV.out.symm, below1 w _⟩
  have g4 := k
  have gd4 : decide (s < 0) = false := by simp; omega
  clear k
  by_cases k : 8 ≤ s
  · have HV : Hid (V = false) := Lib.hid (by rw [HF.out, betB_no (show ¬ (0 ≤ s ∧ s ≤ 7) by omega)]; simp)
    go_wp2_with fail
    go_ret
    exact ⟨ret_bool HV.out.symm, below1 w _⟩
  have g5 := k
  have gd5 : decide (8 ≤ s) = false := by simp; omega
  clear k
  have KS := Lib.hid (betB_iff.2 (show 0 ≤ s ∧ s ≤ 7 by omega))
  by_cases k : 1 ≤ e
  · by_cases k1 : e ≤ l
    · have HV : Hid (V = true) := Lib.hid (by rw [HF.out, KL.out, KH.out, KV.out, KS.out, betB_iff.2 ⟨k, k1⟩]; rfl)
      go_wp2_with fail
      go_ret
      exact ⟨ret_bool HV.out.symm, below1 w _⟩
    · have HV : Hid (V = false) := Lib.hid (by rw [HF.out, betB_no (show ¬ (1 ≤ e ∧ e ≤ l) by omega)]; simp)
      have kd : decide (e ≤ l) = false := by simp; omega
      clear k1
      go_wp2_with fail
      go_ret
      exact ⟨ret_bool HV.out.symm, below1 w _⟩
  · have HV : Hid (V = false) := Lib.hid (by rw [HF.out, betB_no (show ¬ (1 ≤ e ∧ e ≤ l) by omega)]; simp)
    have kd : decide (1 ≤ e) = false := by simp; omega
    clear k
    go_wp2_with fail
    go_ret
    exact ⟨ret_bool HV.out.symm, below1 w _⟩
theorem im_sample (x : Voc) (w : World) : Calls Try.prog 55 #[vocV x] w fun e w' => e = .returned (.int .i64 (lev x)) ∧ Below w.heap.size w w' := by
  obtain ⟨l, h, v, s, e⟩ := x
  show Calls Try.prog 55 #[.agg #[.int .i64 l, .int .i64 h, .int .i64 v, .int .i64 s, .int .i64 e]] w _
  by_cases hk : s < h
  · have HL : Hid (lev ⟨l, h, v, s, e⟩ = v) := Lib.hid (if_pos hk)
    generalize lev ⟨l, h, v, s, e⟩ = V at HL ⊢
    go_enter Try.func55, Try.ntmps55
    go_wp2_with fail
    go_ret
    exact ⟨by rw [HL.out]; rfl, below1 w _⟩
  · have HL : Hid (lev ⟨l, h, v, s, e⟩ = 0) := Lib.hid (if_neg hk)
    generalize lev ⟨l, h, v, s, e⟩ = V at HL ⊢
    go_enter Try.func55, Try.ntmps55
    go_wp2_with fail
    go_ret
    exact ⟨by rw [HL.out]; rfl, below1 w _⟩
set_option maxHeartbeats 4000000 in
theorem im_skipm (x : Voc) (n : Int) (w : World) (hv : vocB x = true) (n0 : 0 ≤ n) (n1 : n ≤ 100000) : Calls Try.prog 50 #[vocV x, .int .i64 n] w fun e w' => e = .returned (vocV (skipF x n)) ∧ Below w.heap.size w w' := by
  obtain ⟨⟨l0, l1⟩, -, -, ⟨s0, s1⟩, e0, e1⟩ := vocB_iff.1 hv
  clear hv
  obtain ⟨l, h, v, s, e⟩ := x
  simp only at l0 l1 s0 s1 e0 e1
  obtain ⟨w2, hw2⟩ : ∃ w2, w2 = (w.alloc (.cells #[.int .i64 l, .int .i64 h, .int .i64 v, .int .i64 s, .int .i64 e] 24)).alloc (.cells #[.int .i64 0, .int .i64 0, .int .i64 0, .int .i64 0, .int .i64 0] 24) := ⟨_, rfl⟩
  have X2 : Hid (Box w2 w.heap.size 24 (vcs ⟨l, h, v, s, e⟩)) := Lib.hid (by rw [hw2]; exact (Box.new w _ _).alloc _)
  have Y2 : Hid (Box w2 (w.heap.size + 1) 24 (vcs .zero)) := Lib.hid (by rw [hw2]; exact Box.new_at _ _ _ _ (by simp))
  have B2 : Hid (Below w.heap.size w w2) := Lib.hid (by rw [hw2]; exact below2 w _ _)
  show Calls Try.prog 50 #[.agg #[.int .i64 l, .int .i64 h, .int .i64 v, .int .i64 s, .int .i64 e], .int .i64 n] w _
  go_enter Try.func50, Try.ntmps50
  go_upto_region 1 with (fail)
  rw [← hw2]
  clear hw2
  generalize hb0 : w.heap.size = b0 at X2 Y2 B2 ⊢
  have HB0 := Lib.hid hb0
  clear hb0
  by_cases hlt : n < e
  · have HT2 : Hid (skipF ⟨l, h, v, s, e⟩ n = ⟨l, h, v, s, e - n⟩) := Lib.hid (if_pos hlt)
    have x4 : w2.cell? ⟨b0, 4, none⟩ = some (.int .i64 e) := X2.out.cell 4
    have f4 := X2.out.frozen 4
    have X4 := Lib.hid (X2.out.set 4 (.int .i64 (e - n)))
    have Y4 := Lib.hid (Y2.out.far (b' := b0) (i := 4) (by omega) (.int .i64 (e - n)))
    have B4 := Lib.hid (B2.out.setCell (p := ⟨b0, 4, none⟩) (Nat.le_refl _) (.int .i64 (e - n)))
    go_upto_region 3 with (fail)
    go_wp2_with (first | (refine vo_load (by rfl) _ rfl b0 rfl ⟨l, h, v, s, e - n⟩ X4.out ?_) | (refine vo_store (by rfl) _ _ rfl (b0 + 1) rfl ⟨l, h, v, s, e - n⟩ rfl (vcs .zero) Y4.out rfl ?_))
    exact bodyPost_ret (voc_ret (u := ⟨l, h, v, s, e - n⟩) rfl rfl (Box.row Y4.out)) rfl ⟨by rw [HT2.out], by rw [HB0.out]; exact below_row B4.out (by omega) _⟩
  · have hge : e ≤ n := by omega
    have HT2 : Hid (skipF ⟨l, h, v, s, e⟩ n = ⟨l, h, v, (s + 1 + (n - e) / l) % 8, l - (n - e) % l⟩) := Lib.hid (if_neg hlt)
    have x4 : w2.cell? ⟨b0, 4, none⟩ = some (.int .i64 e) := X2.out.cell 4
    go_upto_region 5 with (fail)
    clear x4
    obtain ⟨rest, hr⟩ : ∃ rest, n - e = rest := ⟨_, rfl⟩
    rw [hr] at HT2 ⊢
    have r0 : 0 ≤ rest := by omega
    have r1 : rest ≤ 100000 := by omega
    have HD0 : rest.tdiv l = rest / l := Int.tdiv_eq_ediv_of_nonneg r0
    have HE0 : rest.tmod l = rest % l := Int.tmod_eq_emod_of_nonneg r0
    have d1 : 0 ≤ rest / l := Int.ediv_nonneg r0 (by omega)
    have d2 : rest / l ≤ rest := Int.ediv_le_self _ r0
    have d3 : 0 ≤ rest % l := Int.emod_nonneg _ (by omega)
    have d4 : rest % l < l := Int.emod_lt_of_pos _ (by omega)
    generalize rest / l = R at HT2 HD0 d1 d2
    generalize rest % l = M at HT2 HE0 d3 d4
    have HD := Lib.hid HD0
    have HE := Lib.hid HE0
    have HS := Lib.hid (show 0 ≤ s ∧ s ≤ 7 from ⟨s0, s1⟩)
    have HL := Lib.hid (show 1 ≤ l ∧ l ≤ 100 from ⟨l0, l1⟩)
    have HR := Lib.hid (show 0 ≤ R ∧ R ≤ 100000 from ⟨d1, by omega⟩)
    have HM := Lib.hid (show 0 ≤ M ∧ M < 100 from ⟨d3, by omega⟩)
    have HT := HT2
    clear HT2 HD0 HE0 d1 d2 d3 d4 hr r0 r1 hge hlt n0 n1 l0 l1 s0 s1 e0 e1
    refine wp_region_end (by dsimp only [List.dropLast]) rfl (ClB w2) RlB (Ty [TV (.pointer (some ⟨b0, 3, none⟩)), TV (.int .i64 s), TV (.int .i64 (s + 1)), TV (.int .i64 rest), TV (.pointer (some ⟨b0, 0, none⟩)), TV (.int .i64 l), TV (.int .i64 R), TV (.int .i64 (s + 1 + R)), TV (.int .i64 ((s + 1 + R) % 8)), TV (.pointer (some ⟨b0, 3, none⟩))])
      (by kernel_rfl) (by kernel_rfl) (by kernel_rfl) (stab_ty _ ⟨stabB_k _, stabB_k _, stabB_k _, stabB_k _, stabB_k _, stabB_k _, stabB_k _, stabB_k _, stabB_k _, stabB_k _, trivial⟩) (Below.refl _ _).drew ?_ ?_
    · refine ⟨?_, ?_, ?_, ?_, ?_, ?_, ?_, ?_, ?_, ?_, trivial⟩
      · refine lb_val (.pointer (some ⟨b0, 3, none⟩)) (fun _ _ _ => want_none rfl) fun ρ wx hb hc hx hp => ⟨?_, rfl⟩
        have h2 : ρ (.tmp 2) = .pointer (some ⟨b0, 0, none⟩) := hx 2 rfl
        unfold execOp
        simp only [h2]
        clear h2 hx hp hc hb
        go_simp
      · refine lb_val (.int .i64 s) (fun _ _ _ => want_none rfl) fun ρ wx hb hc hx hp => ⟨?_, rfl⟩
        have h20 : ρ (.tmp 20) = .pointer (some ⟨b0, 3, none⟩) := hp.1 rfl
        have cc : wx.cell? ⟨b0, 3, none⟩ = some (.int .i64 s) := (X2.out.below hb).cell 3
        unfold execOp
        simp only [h20]
        clear h20 hx hp hc hb
        go_simp
      · refine lb_val (.int .i64 (s + 1)) (fun _ _ _ => want_none rfl) fun ρ wx hb hc hx hp => ⟨?_, rfl⟩
        have h21 : ρ (.tmp 21) = .int .i64 s := hp.1 rfl
        have hk0 := hc (.int .i64 1)
        have g1 := wrapV (s + 1) (by have := HS.out; omega) (by have := HS.out; omega)
        unfold execOp
        simp only [h21, hk0]
        clear h21 hk0 hx hp hc hb
        go_simp
      · exact lb_move (.tmp 5) (.inl rfl) (fun _ _ _ => want_none rfl) fun ρ wx hc hx hp => hx 5 rfl
      · refine lb_val (.pointer (some ⟨b0, 0, none⟩)) (fun _ _ _ => want_none rfl) fun ρ wx hb hc hx hp => ⟨?_, rfl⟩
        have h2 : ρ (.tmp 2) = .pointer (some ⟨b0, 0, none⟩) := hx 2 rfl
        unfold execOp
        simp only [h2]
        clear h2 hx hp hc hb
        go_simp
      · refine lb_val (.int .i64 l) (fun _ _ _ => want_none rfl) fun ρ wx hb hc hx hp => ⟨?_, rfl⟩
        have h24 : ρ (.tmp 24) = .pointer (some ⟨b0, 0, none⟩) := hp.1 rfl
        have cc : wx.cell? ⟨b0, 0, none⟩ = some (.int .i64 l) := (X2.out.below hb).cell 0
        unfold execOp
        simp only [h24]
        clear h24 hx hp hc hb
        go_simp
      · refine lb_val (.int .i64 R) (fun _ _ _ => want_none rfl) fun ρ wx hb hc hx hp => ⟨?_, rfl⟩
        have h23 : ρ (.tmp 23) = .int .i64 rest := hp.1 rfl
        have h25 : ρ (.tmp 25) = .int .i64 l := hp.2.1 rfl
        obtain ⟨g1, k1⟩ := HL.out
        obtain ⟨g2, k2⟩ := HR.out
        have g3 := HD.out
        have g5 := wrapV R (by omega) (by omega)
        have g4 : l ≠ 0 := by omega
        unfold execOp
        simp only [h23, h25]
        clear h23 h25 hx hp hc hb
        go_simp
      · refine lb_val (.int .i64 (s + 1 + R)) (fun _ _ _ => want_none rfl) fun ρ wx hb hc hx hp => ⟨?_, rfl⟩
        have h22 : ρ (.tmp 22) = .int .i64 (s + 1) := hp.1 rfl
        have h26 : ρ (.tmp 26) = .int .i64 R := hp.2.1 rfl
        have g1 := wrapV (s + 1 + R) (by have := HS.out; have := HR.out; omega) (by have := HS.out; have := HR.out; omega)
        unfold execOp
        simp only [h22, h26]
        clear h22 h26 hx hp hc hb
        go_simp
      · refine lb_val (.int .i64 ((s + 1 + R) % 8)) (fun _ _ _ => want_none rfl) fun ρ wx hb hc hx hp => ⟨?_, rfl⟩
        have h27 : ρ (.tmp 27) = .int .i64 (s + 1 + R) := hp.1 rfl
        have hk0 := hc (.int .i64 8)
        have g1 : (s + 1 + R).tmod 8 = (s + 1 + R) % 8 := Int.tmod_eq_emod_of_nonneg (by have := HS.out; have := HR.out; omega)
        have g2 := wrapV ((s + 1 + R) % 8) (by omega) (by omega)
        unfold execOp
        simp only [h27, hk0]
        clear h27 hk0 hx hp hc hb
        go_simp
      · refine lb_val (.pointer (some ⟨b0, 3, none⟩)) (fun _ _ _ => want_none rfl) fun ρ wx hb hc hx hp => ⟨?_, rfl⟩
        have h2 : ρ (.tmp 2) = .pointer (some ⟨b0, 0, none⟩) := hx 2 rfl
        unfold execOp
        simp only [h2]
        clear h2 hx hp hc hb
        go_simp
    intro vs wx hI hF
    obtain ⟨-, -, -, -, -, -, -, -, h8, h9, -⟩ := hF
    replace h8 : vs 8 = .int .i64 ((s + 1 + R) % 8) := h8
    replace h9 : vs 9 = .pointer (some ⟨b0, 3, none⟩) := h9
    simp only [putAll, Act.put, List.setIfInBounds_toArray, List.set_cons_zero, List.set_cons_succ, h8, h9]
    have X2x := X2.out.below hI
    refine ⟨_, exec_storeI (.tmp 29) (.tmp 28) wx b0 3 ((s + 1 + R) % 8) s rfl rfl rfl X2x rfl, ?_⟩
    obtain ⟨w3, hw3⟩ : ∃ w3, w3 = wx.setCell ⟨b0, 3, none⟩ (.int .i64 ((s + 1 + R) % 8)) := ⟨_, rfl⟩
    have X3 : Hid (Box w3 b0 24 (vcs ⟨l, h, v, (s + 1 + R) % 8, e⟩)) := Lib.hid (by rw [hw3]; exact X2x.set 3 _)
    have Y3 : Hid (Box w3 (b0 + 1) 24 (vcs .zero)) := Lib.hid (by rw [hw3]; exact (Y2.out.below hI).far (by omega) _)
    have B3 : Hid (Below b0 w w3) := Lib.hid (by rw [hw3]; exact (below_via B2.out hI (by have := X2.out.lt; omega)).setCell (p := ⟨b0, 3, none⟩) (Nat.le_refl _) _)
    rw [← hw3]
    clear hw3 X2x hI h8 h9 X2 Y2 B2
    go_upto_region 6 with (fail)
    refine wp_region_end (by dsimp only [List.dropLast]) rfl (ClB w3) RlB (Ty [TV (.pointer (some ⟨b0, 0, none⟩)), TV (.int .i64 l), TV (.int .i64 rest), TV (.pointer (some ⟨b0, 0, none⟩)), TV (.int .i64 l), TV (.int .i64 M), TV (.int .i64 (l - M)), TV (.pointer (some ⟨b0, 4, none⟩))])
      (by kernel_rfl) (by kernel_rfl) (by kernel_rfl) (stab_ty _ ⟨stabB_k _, stabB_k _, stabB_k _, stabB_k _, stabB_k _, stabB_k _, stabB_k _, stabB_k _, trivial⟩) (Below.refl _ _).drew ?_ ?_
    · refine ⟨?_, ?_, ?_, ?_, ?_, ?_, ?_, ?_, trivial⟩
      · refine lb_val (.pointer (some ⟨b0, 0, none⟩)) (fun _ _ _ => want_none rfl) fun ρ wx hb hc hx hp => ⟨?_, rfl⟩
        have h2 : ρ (.tmp 2) = .pointer (some ⟨b0, 0, none⟩) := hx 2 rfl
        unfold execOp
        simp only [h2]
        clear h2 hx hp hc hb
        go_simp
      · refine lb_val (.int .i64 l) (fun _ _ _ => want_none rfl) fun ρ wx hb hc hx hp => ⟨?_, rfl⟩
        have h30 : ρ (.tmp 30) = .pointer (some ⟨b0, 0, none⟩) := hp.1 rfl
        have cc : wx.cell? ⟨b0, 0, none⟩ = some (.int .i64 l) := (X3.out.below hb).cell 0
        unfold execOp
        simp only [h30]
        clear h30 hx hp hc hb
        go_simp
      · exact lb_move (.tmp 5) (.inl rfl) (fun _ _ _ => want_none rfl) fun ρ wx hc hx hp => hx 5 rfl
      · refine lb_val (.pointer (some ⟨b0, 0, none⟩)) (fun _ _ _ => want_none rfl) fun ρ wx hb hc hx hp => ⟨?_, rfl⟩
        have h2 : ρ (.tmp 2) = .pointer (some ⟨b0, 0, none⟩) := hx 2 rfl
        unfold execOp
        simp only [h2]
        clear h2 hx hp hc hb
        go_simp
      · refine lb_val (.int .i64 l) (fun _ _ _ => want_none rfl) fun ρ wx hb hc hx hp => ⟨?_, rfl⟩
        have h33 : ρ (.tmp 33) = .pointer (some ⟨b0, 0, none⟩) := hp.1 rfl
        have cc : wx.cell? ⟨b0, 0, none⟩ = some (.int .i64 l) := (X3.out.below hb).cell 0
        unfold execOp
        simp only [h33]
        clear h33 hx hp hc hb
        go_simp
      · refine lb_val (.int .i64 M) (fun _ _ _ => want_none rfl) fun ρ wx hb hc hx hp => ⟨?_, rfl⟩
        have h32 : ρ (.tmp 32) = .int .i64 rest := hp.1 rfl
        have h34 : ρ (.tmp 34) = .int .i64 l := hp.2.1 rfl
        obtain ⟨g1, k1⟩ := HL.out
        obtain ⟨g2, k2⟩ := HM.out
        have g5 := wrapV M (by omega) (by omega)
        have g3 := HE.out
        have g4 : l ≠ 0 := by omega
        unfold execOp
        simp only [h32, h34]
        clear h32 h34 hx hp hc hb
        go_simp
      · refine lb_val (.int .i64 (l - M)) (fun _ _ _ => want_none rfl) fun ρ wx hb hc hx hp => ⟨?_, rfl⟩
        have h31 : ρ (.tmp 31) = .int .i64 l := hp.1 rfl
        have h35 : ρ (.tmp 35) = .int .i64 M := hp.2.1 rfl
        have g1 := wrapV (l - M) (by have := HL.out; have := HM.out; omega) (by have := HL.out; have := HM.out; omega)
        unfold execOp
        simp only [h31, h35]
        clear h31 h35 hx hp hc hb
        go_simp
      · refine lb_val (.pointer (some ⟨b0, 4, none⟩)) (fun _ _ _ => want_none rfl) fun ρ wx hb hc hx hp => ⟨?_, rfl⟩
        have h2 : ρ (.tmp 2) = .pointer (some ⟨b0, 0, none⟩) := hx 2 rfl
        unfold execOp
        simp only [h2]
        clear h2 hx hp hc hb
        go_simp
    intro vs wx hI hF
    obtain ⟨-, -, -, -, -, -, h6, h7, -⟩ := hF
    replace h6 : vs 6 = .int .i64 (l - M) := h6
    replace h7 : vs 7 = .pointer (some ⟨b0, 4, none⟩) := h7
    simp only [putAll, Act.put, List.setIfInBounds_toArray, List.set_cons_zero, List.set_cons_succ, h6, h7]
    have X3x := X3.out.below hI
    refine ⟨_, exec_storeI (.tmp 37) (.tmp 36) wx b0 4 (l - M) e rfl rfl rfl X3x rfl, ?_⟩
    obtain ⟨w4, hw4⟩ : ∃ w4, w4 = wx.setCell ⟨b0, 4, none⟩ (.int .i64 (l - M)) := ⟨_, rfl⟩
    have X4 : Hid (Box w4 b0 24 (vcs ⟨l, h, v, (s + 1 + R) % 8, l - M⟩)) := Lib.hid (by rw [hw4]; exact X3x.set 4 _)
    have Y4 : Hid (Box w4 (b0 + 1) 24 (vcs .zero)) := Lib.hid (by rw [hw4]; exact (Y3.out.below hI).far (by omega) _)
    have B4 : Hid (Below b0 w w4) := Lib.hid (by rw [hw4]; exact (below_via B3.out hI (by have := X3.out.lt; omega)).setCell (p := ⟨b0, 4, none⟩) (Nat.le_refl _) _)
    rw [← hw4]
    clear hw4 X3x hI h6 h7 X3 Y3 B3
    go_wp2_with (first | (refine vo_load (by rfl) _ rfl b0 rfl ⟨l, h, v, (s + 1 + R) % 8, l - M⟩ X4.out ?_) | (refine vo_store (by rfl) _ _ rfl (b0 + 1) rfl ⟨l, h, v, (s + 1 + R) % 8, l - M⟩ rfl (vcs .zero) Y4.out rfl ?_))
    exact bodyPost_ret (voc_ret (u := ⟨l, h, v, (s + 1 + R) % 8, l - M⟩) rfl rfl (Box.row Y4.out)) rfl ⟨by rw [HT.out], by rw [HB0.out]; exact below_row B4.out (by omega) _⟩
set_option maxHeartbeats 1000000 in
theorem im_skip (x : Voc) (n : Int) (w : World) : Calls Try.prog 23 #[vocV x, .int .i64 n] w fun e w' => e = .returned (vocV (skipT x n)) ∧ Below w.heap.size w w' := by
  obtain ⟨w1, hw1⟩ : ∃ w1, w1 = (w.alloc (.cells #[.int .i64 x.l, .int .i64 x.h, .int .i64 x.v, .int .i64 x.s, .int .i64 x.e] 24)).alloc (.cells #[.int .i64 0, .int .i64 0, .int .i64 0, .int .i64 0, .int .i64 0] 24) := ⟨_, rfl⟩
  have X1 : Hid (Box w1 w.heap.size 24 (vcs x)) := Lib.hid (by rw [hw1]; exact (Box.new w _ _).alloc _)
  have Y1 : Hid (Box w1 (w.heap.size + 1) 24 (vcs .zero)) := Lib.hid (by rw [hw1]; exact Box.new_at _ _ _ _ (by simp))
  have B1 : Hid (Below w.heap.size w w1) := Lib.hid (by rw [hw1]; exact below2 w _ _)
  have hs1 : w1.heap.size = w.heap.size + 2 := by rw [hw1]; simp
  show Calls Try.prog 23 #[.agg #[.int .i64 x.l, .int .i64 x.h, .int .i64 x.v, .int .i64 x.s, .int .i64 x.e], .int .i64 n] w _
  go_enter Try.func23, Try.ntmps23
  go_upto_region 1 with (fail)
  rw [← hw1]
  clear hw1
  generalize hb0 : w.heap.size = b0 at X1 Y1 B1 hs1 ⊢
  have HB0 := Lib.hid hb0
  clear hb0
  by_cases h0 : n < 0
  · have HT : Hid (skipT x n = .zero) := Lib.hid (skipT_no (by rw [betB_no (show ¬ (0 ≤ n ∧ n ≤ 100000) by omega)]; simp))
    go_wp2_with (first | (refine vo_store (by rfl) _ _ rfl (b0 + 1) rfl .zero rfl (vcs .zero) Y1.out rfl ?_))
    exact bodyPost_ret (voc_ret (u := .zero) rfl rfl (Box.row Y1.out)) rfl ⟨by rw [HT.out], by rw [HB0.out]; exact below_row B1.out (by omega) _⟩
  have hd0 : decide (n < 0) = false := by simp; omega
  by_cases h1 : 100000 < n
  · have HT : Hid (skipT x n = .zero) := Lib.hid (skipT_no (by rw [betB_no (show ¬ (0 ≤ n ∧ n ≤ 100000) by omega)]; simp))
    go_wp2_with (first | (refine vo_store (by rfl) _ _ rfl (b0 + 1) rfl .zero rfl (vcs .zero) Y1.out rfl ?_))
    exact bodyPost_ret (voc_ret (u := .zero) rfl rfl (Box.row Y1.out)) rfl ⟨by rw [HT.out], by rw [HB0.out]; exact below_row B1.out (by omega) _⟩
  have hd1 : decide (100000 < n) = false := by simp; omega
  have HN := Lib.hid (show 0 ≤ n ∧ n ≤ 100000 by omega)
  go_wp2_with (first | (refine vo_load (by rfl) _ rfl b0 rfl x X1.out ?_))
  clear h0 h1 hd0 hd1
  refine (im_voiceValid x _).mono ?_; rintro e' w2 ⟨rfl, b1⟩
  have X2 := Lib.hid (X1.out.below b1)
  have Y2 := Lib.hid (Y1.out.below b1)
  have B2 := Lib.hid (below_via B1.out b1 (by omega))
  clear b1 X1 Y1 B1 hs1
  cases hv : vocB x
  · have HT : Hid (skipT x n = .zero) := Lib.hid (skipT_no (by rw [hv]; rfl))
    clear hv
    go_wp2_with (first | (refine vo_store (by rfl) _ _ rfl (b0 + 1) rfl .zero rfl (vcs .zero) Y2.out rfl ?_))
    exact bodyPost_ret (voc_ret (u := .zero) rfl rfl (Box.row Y2.out)) rfl ⟨by rw [HT.out], by rw [HB0.out]; exact below_row B2.out (by omega) _⟩
  have HV := Lib.hid hv
  have HT := Lib.hid (skipT_yes hv (betB_iff.2 HN.out))
  clear hv
  go_wp2_with (first | (refine vo_load (by rfl) _ rfl b0 rfl x X2.out ?_))
  refine (im_skipm x n _ HV.out HN.out.1 HN.out.2).mono ?_; rintro e' w3 ⟨rfl, b3⟩
  obtain ⟨z, hz⟩ : ∃ z, skipF x n = z := ⟨_, rfl⟩
  have HZ : Hid (skipT x n = z) := Lib.hid (by rw [HT.out, hz])
  rw [hz]
  have Y3 := Lib.hid (Y2.out.below b3)
  have B3 := Lib.hid (below_via B2.out b3 (by have := Y2.out.lt; omega))
  clear b3 X2 Y2 B2 HT hz
  go_wp2_with (first | (refine vo_store (by rfl) _ _ rfl (b0 + 1) rfl z rfl (vcs .zero) Y3.out rfl ?_))
  exact bodyPost_ret (voc_ret (u := z) rfl rfl (Box.row Y3.out)) rfl ⟨by rw [HZ.out], by rw [HB0.out]; exact below_row B3.out (by omega) _⟩
set_option maxHeartbeats 1000000 in
theorem im_fade (a b c : Int) (w : World) : Calls Try.prog 29 #[.int .i64 a, .int .i64 b, .int .i64 c] w fun e w' => e = .returned (.int .i64 (fadeT a b c)) ∧ Below w.heap.size w w' := by
  have HF : Hid (fadeT a b c = if (betB a 0 15 && betB b 0 1000 && betB c 1 100) = true then max 0 (a - b / c) else -1) := Lib.hid rfl
  generalize fadeT a b c = V at HF ⊢
  go_enter Try.func29, Try.ntmps29
  go_wp2_with fail
  refine (im_isVolume a _).mono ?_; rintro e' w' ⟨rfl, rfl⟩
  cases k0 : betB a 0 15
  · have HV : Hid (V = -1) := Lib.hid (by rw [HF.out, k0]; simp)
    clear k0
    go_wp2_with fail
    go_ret
    exact ⟨by rw [HV.out]; rfl, Below.refl _ _⟩
  have K0 := Lib.hid k0
  clear k0
  by_cases k : b < 0
  · have HV : Hid (V = -1) := Lib.hid (by rw [HF.out, betB_no (show ¬ (0 ≤ b ∧ b ≤ 1000) by omega)]; simp)
    go_wp2_with fail
    go_ret
    exact ⟨by rw [HV.out]; rfl, Below.refl _ _⟩
  have g0 := k
  have gd0 : decide (b < 0) = false := by simp; omega
  clear k
  by_cases k : 1000 < b
  · have HV : Hid (V = -1) := Lib.hid (by rw [HF.out, betB_no (show ¬ (0 ≤ b ∧ b ≤ 1000) by omega)]; simp)
    go_wp2_with fail
    go_ret
    exact ⟨by rw [HV.out]; rfl, Below.refl _ _⟩
  have g1 := k
  have gd1 : decide (1000 < b) = false := by simp; omega
  clear k
  by_cases k : c < 1
  · have HV : Hid (V = -1) := Lib.hid (by rw [HF.out, betB_no (show ¬ (1 ≤ c ∧ c ≤ 100) by omega)]; simp)
    go_wp2_with fail
    go_ret
    exact ⟨by rw [HV.out]; rfl, Below.refl _ _⟩
  have g2 := k
  have gd2 : decide (c < 1) = false := by simp; omega
  clear k
  by_cases k : 100 < c
  · have HV : Hid (V = -1) := Lib.hid (by rw [HF.out, betB_no (show ¬ (1 ≤ c ∧ c ≤ 100) by omega)]; simp)
    go_wp2_with fail
    go_ret
    exact ⟨by rw [HV.out]; rfl, Below.refl _ _⟩
  have g3 := k
  have gd3 : decide (100 < c) = false := by simp; omega
  clear k
  obtain ⟨a0, a1⟩ := betB_iff.1 K0.out
  have b0 : 0 ≤ b := by omega
  have b1 : b ≤ 1000 := by omega
  have c0 : 1 ≤ c := by omega
  have c1 : c ≤ 100 := by omega
  have cz : c ≠ 0 := by omega
  have t1 : b.tdiv c = b / c := Int.tdiv_eq_ediv_of_nonneg b0
  have d1 : 0 ≤ b / c := Int.ediv_nonneg b0 (by omega)
  have d2 : b / c ≤ b := Int.ediv_le_self _ b0
  have HV : Hid (V = if a - b / c < 0 then 0 else a - b / c) := Lib.hid (by rw [HF.out, K0.out, betB_iff.2 ⟨b0, b1⟩, betB_iff.2 ⟨c0, c1⟩]; simp only [Bool.and_self, if_true]; split <;> omega)
  generalize b / c = q at t1 d1 d2 HV
  by_cases hm : a - q < 0
  · rw [if_pos hm] at HV
    go_wp2_with fail
    all_goals go_ret
    all_goals exact ⟨by rw [HV.out]; first | rfl | (congr 3; omega), Below.refl _ _⟩
  · rw [if_neg hm] at HV
    have hm' : 0 ≤ a - q := by omega
    go_wp2_with fail
    all_goals go_ret
    all_goals exact ⟨by rw [HV.out]; first | rfl | (congr 3; omega), Below.refl _ _⟩
set_option maxHeartbeats 1000000 in
theorem im_voices (A : Option Addr) (m c : Nat) (L : List Int) (fl : List Nat) (w : World) (hL : Ints w A (5 * m) L fl) (hm : m ≤ 1000000000) :
    Calls Try.prog 52 #[.slice A m c] w fun e w' => e = .returned (.bool (decide (m ≤ 4) && vocsB L m)) ∧ Below w.heap.size w w' := by
  have HLR : Hid (∀ W, Below w.heap.size w W → Ints W A (5 * m) L fl) := Lib.hid fun W h => hL.below h
  clear hL
  by_cases hm4 : m ≤ 4
  · have i4 : ¬ (4 : Int) < m := by omega
    have i4d : decide ((4 : Int) < m) = false := by simp; omega
    rw [decide_eq_true hm4, Bool.true_and]
    have B1 := Lib.hid (Below.refl w.heap.size w)
    go_enter Try.func52, Try.ntmps52
    go_wp2_with fail
    go_loopw [4, 10] (fun v4 i wr => ∃ k : Nat, k ≤ m ∧ i = .int .i64 k ∧ vocsB L k = true ∧ Below w.heap.size w wr) (fun _ i _ => m - (intOf i).toNat)
    case atStart => exact ⟨0, by omega, rfl, rfl, B1.out⟩
    case round =>
      obtain ⟨k, hk, rfl, hvk, hb⟩ := hrel
      have VR := Lib.hid hvk
      have BR := Lib.hid hb
      clear hvk hb B1
      by_cases hkm : k < m
      · have hkm' : (k : Int) < (m : Int) := by omega
        have IL := HLR.out _ BR.out
        obtain ⟨p, o, rfl, _, _, hcz⟩ := IL.at_ (by omega)
        clear hcz
        have RG := Lib.hid (voc_range IL hkm)
        clear IL
        have HVK : Hid (vocB (vocK L k) = false → vocsB L m = false) := Lib.hid fun h => by
          cases hq : vocsB L m
          · rfl
          · rw [vocsB_iff.1 hq k hkm] at h; exact absurd h (by simp)
        have HV1 : Hid (vocB (vocK L k) = true → vocsB L (k + 1) = true) := Lib.hid fun h => vocsB_iff.2 fun q hq => by
          by_cases e : q = k
          · subst e; exact h
          · exact vocsB_iff.1 VR.out q (by omega)
        generalize vocK L k = y at RG HVK HV1
        obtain ⟨b4, hb4⟩ : ∃ b4, b4 = wr.heap.size := ⟨_, rfl⟩
        obtain ⟨w4, hw4⟩ : ∃ w4, w4 = (wr.alloc (.cells #[.int .i64 0, .int .i64 0, .int .i64 0, .int .i64 0, .int .i64 0] 24)).setRow b4 (vcs y).toArray := ⟨_, rfl⟩
        have HN : Hid (Box (wr.alloc (.cells #[.int .i64 0, .int .i64 0, .int .i64 0, .int .i64 0, .int .i64 0] 24)) b4 24 (vcs .zero)) := Lib.hid (by rw [hb4]; exact Box.new _ _ _)
        have X4 : Hid (Box w4 b4 24 (vcs y)) := Lib.hid (by rw [hw4]; exact Box.row HN.out)
        have B4 : Hid (Below w.heap.size w w4) := Lib.hid (below_via BR.out (by rw [hw4, hb4]; exact below_row (below1 _ _) (Nat.le_refl _) _) BR.out.size)
        go_upto_region 6 with (first | (refine vo_loadm (by rfl) _ rfl p (o + k * 5) rfl y RG.out ?_) | (refine vo_store (by rfl) _ _ rfl b4 (by rw [hb4]; rfl) y rfl (vcs .zero) HN.out rfl ?_))
        rw [← hb4, ← hw4]
        clear hw4 hb4 HN RG BR
        go_wp2_with (first | (refine vo_load (by rfl) _ rfl b4 rfl y X4.out ?_))
        refine (im_voiceValid y _).mono ?_; rintro e' w5 ⟨rfl, b5⟩
        have B5 := Lib.hid (below_via B4.out b5 B4.out.size)
        clear b5 X4 B4
        cases hv : vocB y
        · have HT := Lib.hid (HVK.out hv)
          clear hv
          go_wp2_with fail
          go_ret
          exact ⟨by rw [HT.out]; rfl, B5.out⟩
        have HVN := Lib.hid (HV1.out hv)
        clear hv HV1 HVK
        go_wp2_with fail
        go_roundw
        case rel => exact ⟨k + 1, by omega, by go_num, HVN.out, B5.out⟩
        case measure => simp [intOf]; omega
      · obtain rfl : k = m := by omega
        go_wp2_with fail
        go_ret
        exact ⟨by rw [VR.out]; rfl, BR.out⟩
  · have i4 : (4 : Int) < m := by omega
    rw [decide_eq_false hm4, Bool.false_and]
    go_enter Try.func52, Try.ntmps52
    go_wp2_with fail
    go_ret
    exact ⟨rfl, Below.refl _ _⟩
end Go.Proofs.Ytfbpnneegenhgaa
