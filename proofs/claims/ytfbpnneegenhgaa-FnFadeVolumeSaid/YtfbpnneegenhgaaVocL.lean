/- Drawn laws of chapter 14, walked: validity, fading. -/
import Derived.Test.YtfbpnneegenhgaaVocX
import Derived.Test.YtfbpnneegenhgaaVocE
import Derived.Test.YtfbpnneegenhgaaGA
import Derived.Test.YtfbpnneegenhgaaVocI
namespace Go.Proofs.Ytfbpnneegenhgaa
open Go.ChangeShapes Go.WideShapes Go.ChangeAt Go.RowKit
set_option linter.unusedVariables false

set_option maxRecDepth 100000 in
set_option maxHeartbeats 8000000 in
theorem walk_FnVoiceValid (a0 : Option Addr) (len0 cap0 : Nat) (z0 : List Int) (w : World) (w0 : IsRow .u8 w a0 len0 cap0 z0) :
    Calls Try.prog 3 #[.slice a0 len0 cap0] w fun e w' => e = .returned (.bool true) ∧ Below w.heap.size w w' := by
  have H := Lib.hid w0
  have hl := isRow_len w0
  clear w0
  by_cases hs : len0 ≤ 1048576
  · go_enter Try.func3, Try.ntmps3
    go_wp2_with fail
    refine (draw_VoiceValid _ _ _ _ _ H.out).mono ?_; rintro e w1 ⟨u, rfl, hu, hb⟩
    have B1 := Lib.hid hb
    clear hb hu
    have BNw2 : Hid (Box (w1.alloc (.cells #[.int .i64 0, .int .i64 0, .int .i64 0, .int .i64 0, .int .i64 0] 24)) w1.heap.size 24 (vcs .zero)) := Lib.hid (Box.new w1 _ _)
    go_upto_region 4 with (first | (refine vo_store (by rfl) _ _ rfl w1.heap.size rfl u rfl (vcs .zero) BNw2.out rfl ?_))
    have bl : Below w1.heap.size w1 ((w1.alloc (.cells #[.int .i64 0, .int .i64 0, .int .i64 0, .int .i64 0, .int .i64 0] 24)).setRow w1.heap.size (vcs u).toArray) := below_row (below1 w1 _) (Nat.le_refl _) _
    have V2 : Hid (Box ((w1.alloc (.cells #[.int .i64 0, .int .i64 0, .int .i64 0, .int .i64 0, .int .i64 0] 24)).setRow w1.heap.size (vcs u).toArray) w1.heap.size 24 (vcs u)) := Lib.hid (Box.row BNw2.out)
    have zzw2 : ∀ b, b < w1.heap.size → b ≠ w1.heap.size := fun b h => by omega
    have B2 := Lib.hid (below_then B1.out bl)
    clear bl BNw2 B1 zzw2
    generalize ((w1.alloc (.cells #[.int .i64 0, .int .i64 0, .int .i64 0, .int .i64 0, .int .i64 0] 24)).setRow w1.heap.size (vcs u).toArray) = w2 at V2 B2 ⊢
    generalize w1.heap.size = bk at V2 ⊢
    go_wp2_with (first | (refine vo_load (by rfl) _ rfl bk rfl u V2.out ?_))
    refine (im_voiceValid u _).mono ?_; rintro e w3 ⟨rfl, bl⟩
    obtain ⟨V, hV⟩ : ∃ V, vocB u = V := ⟨_, rfl⟩
    have HV := Lib.hid hV
    rw [hV]
    clear hV
    have V3 := Lib.hid (V2.out.below bl)
    have B3 := Lib.hid (below_then B2.out bl)
    clear V2 B2 bl
    go_wp2_with (first | (refine vo_load (by rfl) _ rfl bk rfl u V3.out ?_))
    refine (spec_voiceValid u _).mono ?_; rintro e w4 ⟨rfl, bl⟩
    rw [HV.out]
    have V4 := Lib.hid (V3.out.below bl)
    have B4 := Lib.hid (below_then B3.out bl)
    clear V3 B3 bl
    obtain ⟨l, h, v, s, x⟩ := u
    have HA : Hid (vocB ⟨l, h, v, s, 0⟩ = false) := Lib.hid (by simp [vocB, betB])
    have HC : Hid (vocB ⟨l, 9, v, s, x⟩ = false) := Lib.hid (by simp [vocB, betB])
    have HE := Lib.hid HV
    clear HV HE
    cases V
    all_goals
      have BNw5 : Hid (Box (w4.alloc (.cells #[.int .i64 0, .int .i64 0, .int .i64 0, .int .i64 0, .int .i64 0] 24)) w4.heap.size 24 (vcs .zero)) := Lib.hid (Box.new w4 _ _)
      go_upto_region 8 with (first | (refine vo_load (by rfl) _ rfl bk rfl ⟨l, h, v, s, x⟩ V4.out ?_) | (refine vo_store (by rfl) _ _ rfl w4.heap.size rfl ⟨l, h, v, s, x⟩ rfl (vcs .zero) BNw5.out rfl ?_))
      have bl : Below w4.heap.size w4 ((w4.alloc (.cells #[.int .i64 0, .int .i64 0, .int .i64 0, .int .i64 0, .int .i64 0] 24)).setRow w4.heap.size (vcs ⟨l, h, v, s, x⟩).toArray) := below_row (below1 w4 _) (Nat.le_refl _) _
      have A5 : Hid (Box ((w4.alloc (.cells #[.int .i64 0, .int .i64 0, .int .i64 0, .int .i64 0, .int .i64 0] 24)).setRow w4.heap.size (vcs ⟨l, h, v, s, x⟩).toArray) w4.heap.size 24 (vcs ⟨l, h, v, s, x⟩)) := Lib.hid (Box.row BNw5.out)
      have V5 := Lib.hid (V4.out.below bl)
      have zzw5 : ∀ b, b < w4.heap.size → b ≠ w4.heap.size := fun b h => by omega
      have neV5 := Lib.hid (zzw5 _ V4.out.lt)
      have B5 := Lib.hid (below_then B4.out bl)
      have z5 : w.heap.size ≤ w4.heap.size := B4.out.size
      clear bl BNw5 B4 V4 zzw5
      generalize ((w4.alloc (.cells #[.int .i64 0, .int .i64 0, .int .i64 0, .int .i64 0, .int .i64 0] 24)).setRow w4.heap.size (vcs ⟨l, h, v, s, x⟩).toArray) = w5 at A5 V5 B5 ⊢
      generalize w4.heap.size = ba at A5 neV5 z5 ⊢
      have x4 : w5.cell? ⟨ba, 4, none⟩ = some (.int .i64 x) := A5.out.cell 4
      have f4 := A5.out.frozen 4
      go_upto_region 9 with (fail)
      have A6 : Hid (Box (w5.setCell ⟨ba, 4, none⟩ (.int .i64 0)) ba 24 (vcs ⟨l, h, v, s, 0⟩)) := Lib.hid (A5.out.set 4 _)
      have V6 := Lib.hid (V5.out.far (i := 4) neV5.out (.int .i64 0))
      have B6 := Lib.hid (B5.out.setCell (p := ⟨ba, 4, none⟩) z5 (.int .i64 0))
      generalize w5.setCell ⟨ba, 4, none⟩ (.int .i64 0) = w6 at A6 V6 B6 ⊢
      clear x4 f4 A5 V5 B5 neV5
      have BNw7 : Hid (Box (w6.alloc (.cells #[.int .i64 0, .int .i64 0, .int .i64 0, .int .i64 0, .int .i64 0] 24)) w6.heap.size 24 (vcs .zero)) := Lib.hid (Box.new w6 _ _)
      go_upto_region 10 with (first | (refine vo_load (by rfl) _ rfl bk rfl ⟨l, h, v, s, x⟩ V6.out ?_) | (refine vo_store (by rfl) _ _ rfl w6.heap.size rfl ⟨l, h, v, s, x⟩ rfl (vcs .zero) BNw7.out rfl ?_))
      have bl : Below w6.heap.size w6 ((w6.alloc (.cells #[.int .i64 0, .int .i64 0, .int .i64 0, .int .i64 0, .int .i64 0] 24)).setRow w6.heap.size (vcs ⟨l, h, v, s, x⟩).toArray) := below_row (below1 w6 _) (Nat.le_refl _) _
      have C7 : Hid (Box ((w6.alloc (.cells #[.int .i64 0, .int .i64 0, .int .i64 0, .int .i64 0, .int .i64 0] 24)).setRow w6.heap.size (vcs ⟨l, h, v, s, x⟩).toArray) w6.heap.size 24 (vcs ⟨l, h, v, s, x⟩)) := Lib.hid (Box.row BNw7.out)
      have A7 := Lib.hid (A6.out.below bl)
      have zzw7 : ∀ b, b < w6.heap.size → b ≠ w6.heap.size := fun b h => by omega
      have neA7 := Lib.hid (zzw7 _ A6.out.lt)
      have B7 := Lib.hid (below_then B6.out bl)
      have z7 : w.heap.size ≤ w6.heap.size := B6.out.size
      clear bl BNw7 B6 V6 zzw7 A6
      generalize ((w6.alloc (.cells #[.int .i64 0, .int .i64 0, .int .i64 0, .int .i64 0, .int .i64 0] 24)).setRow w6.heap.size (vcs ⟨l, h, v, s, x⟩).toArray) = w7 at A7 C7 B7 ⊢
      generalize w6.heap.size = bc at C7 neA7 z7 ⊢
      have x1 : w7.cell? ⟨bc, 1, none⟩ = some (.int .i64 h) := C7.out.cell 1
      have f1 := C7.out.frozen 1
      go_upto_region 11 with (fail)
      have C8 : Hid (Box (w7.setCell ⟨bc, 1, none⟩ (.int .i64 9)) bc 24 (vcs ⟨l, 9, v, s, x⟩)) := Lib.hid (C7.out.set 1 _)
      have A8 := Lib.hid (A7.out.far (i := 1) neA7.out (.int .i64 9))
      have B8 := Lib.hid (B7.out.setCell (p := ⟨bc, 1, none⟩) z7 (.int .i64 9))
      generalize w7.setCell ⟨bc, 1, none⟩ (.int .i64 9) = w8 at A8 C8 B8 ⊢
      clear x1 f1 A7 C7 B7 neA7
      go_wp2_with (first | (refine vo_load (by rfl) _ rfl ba rfl ⟨l, h, v, s, 0⟩ A8.out ?_))
      refine (im_voiceValid ⟨l, h, v, s, 0⟩ _).mono ?_; rintro e w9 ⟨rfl, bl⟩
      rw [HA.out]
      have C9 := Lib.hid (C8.out.below bl)
      have B9 := Lib.hid (below_then B8.out bl)
      clear A8 C8 B8 bl
      go_wp2_with (first | (refine vo_load (by rfl) _ rfl bc rfl ⟨l, 9, v, s, x⟩ C9.out ?_))
      refine (im_voiceValid ⟨l, 9, v, s, x⟩ _).mono ?_; rintro e w10 ⟨rfl, bl⟩
      rw [HC.out]
      have B10 := Lib.hid (below_then B9.out bl)
      clear C9 B9 bl
      go_wp2_with fail
      refine (alive_any _).mono ?_; rintro e w' ⟨rfl, rfl⟩
      go_wp2_with fail
      go_ret
      exact ⟨rfl, B10.out⟩
  · have hs' : 1048576 < len0 := by omega
    go_enter Try.func3, Try.ntmps3
    go_wp2_with fail
    go_ret
    exact ⟨rfl, Below.refl _ _⟩
theorem fade_no {a b c : Int} (h : (betB a 0 15 && betB b 0 1000 && betB c 1 100) = false) : fadeT a b c = -1 := if_neg (by rw [h]; simp)
theorem fade_yes {a b c : Int} (h : (betB a 0 15 && betB b 0 1000 && betB c 1 100) = true) : fadeT a b c = max 0 (a - b / c) := if_pos h
theorem fade_ok {a b c : Int} (ha : 0 ≤ a ∧ a ≤ 15) (hb : 0 ≤ b ∧ b ≤ 1000) (hc : 1 ≤ c ∧ c ≤ 100) : fadeT a b c = max 0 (a - b / c) := fade_yes (by rw [betQ_iff.2 ha, betQ_iff.2 hb, betQ_iff.2 hc]; rfl)
set_option maxRecDepth 100000 in
set_option maxHeartbeats 8000000 in
theorem walk_FnFadeVolume (a0 : Option Addr) (len0 cap0 : Nat) (z0 : List Int) (w : World) (w0 : IsRow .u8 w a0 len0 cap0 z0) :
    Calls Try.prog 7 #[.slice a0 len0 cap0] w fun e w' => e = .returned (.bool true) ∧ Below w.heap.size w w' := by
  have H := Lib.hid w0
  have hl := isRow_len w0
  clear w0
  by_cases hs : len0 ≤ 1048576
  · go_enter Try.func7, Try.ntmps7
    go_wp2_with fail
    refine (draw_FadeVolume _ _ _ _ _ H.out).mono ?_; rintro e w1 ⟨a, b, c, rfl, ha, hb, hc, hbl⟩
    have B1 := Lib.hid hbl
    clear hbl
    obtain ⟨V, hV⟩ : ∃ V, fadeT a b c = V := ⟨_, rfl⟩
    have HV := Lib.hid hV
    go_wp2_with fail
    refine (im_fade a b c _).mono ?_; rw [HV.out]; rintro e w2 ⟨rfl, bl⟩
    have B2 := Lib.hid (below_then B1.out bl)
    clear B1 bl
    go_wp2_with fail
    refine (spec_fade a b c _).mono ?_; rw [HV.out]; rintro e w' ⟨rfl, rfl⟩
    cases hg : (betB a 0 15 && betB b 0 1000 && betB c 1 100)
    · obtain rfl : V = -1 := by rw [← hV, fade_no hg]
      clear hV HV hg
      go_wp2_with fail
      refine (alive_any _).mono ?_; rintro e w' ⟨rfl, rfl⟩
      go_wp2_with fail
      go_ret
      exact ⟨rfl, B2.out⟩
    · simp only [Bool.and_eq_true, betQ_iff] at hg
      obtain ⟨⟨⟨a1, a2⟩, b1, b2⟩, c1, c2⟩ := hg
      have hVm : V = max 0 (a - b / c) := by rw [← hV, fade_ok ⟨a1, a2⟩ ⟨b1, b2⟩ ⟨c1, c2⟩]
      have q0 : 0 ≤ b / c := Int.ediv_nonneg b1 (by omega)
      have V0 : 0 ≤ V ∧ V ≤ a := by omega
      have HD : Hid (fadeT a (c - 1) c = a) := Lib.hid (by
        rw [fade_ok ⟨a1, a2⟩ ⟨by omega, by omega⟩ ⟨c1, c2⟩, Int.ediv_eq_zero_of_lt (by omega) (by omega)]; omega)
      have HE : Hid (15 * c ≤ 1000 → fadeT a (15 * c) c = 0) := Lib.hid fun h => by
        rw [fade_ok ⟨a1, a2⟩ ⟨by omega, h⟩ ⟨c1, c2⟩, Int.mul_ediv_cancel _ (by omega)]; omega
      have HF : Hid (b ≠ 0 → V ≤ fadeT a (b - 1) c) := Lib.hid fun h => by
        rw [fade_ok ⟨a1, a2⟩ ⟨by omega, by omega⟩ ⟨c1, c2⟩, hVm]
        have := Int.ediv_le_ediv (show 0 < c by omega) (show b - 1 ≤ b by omega)
        omega
      clear hV HV hVm q0 ha hb hc
      obtain ⟨v1, v2⟩ := V0
      have hw1 : IntKind.i64.wrap (c - 1) = c - 1 := by rw [IntKind.wrap_i64]; omega
      have hw2 : IntKind.i64.wrap (15 * c) = 15 * c := by rw [IntKind.wrap_i64]; omega
      have hw3 : IntKind.i64.wrap (b - 1) = b - 1 := by rw [IntKind.wrap_i64]; omega
      go_wp2_with fail
      refine (im_fade a (c - 1) c _).mono ?_; rw [HD.out]; rintro e w3 ⟨rfl, bl⟩
      have B3 := Lib.hid (below_then B2.out bl)
      clear B2 bl
      by_cases h15 : 1000 < 15 * c
      · by_cases hb0 : b = 0
        · subst hb0
          go_wp2_with fail
          go_ret
          exact ⟨rfl, B3.out⟩
        · obtain ⟨Z, hZ⟩ : ∃ Z, fadeT a (b - 1) c = Z := ⟨_, rfl⟩
          have HZ := Lib.hid hZ
          have hz : V ≤ Z := by rw [← hZ]; exact HF.out hb0
          clear hZ
          go_wp2_with fail
          refine (im_fade a (b - 1) c _).mono ?_; rw [HZ.out]; rintro e w5 ⟨rfl, bl⟩
          have B5 := Lib.hid (below_then B3.out bl)
          clear bl
          go_wp2_with fail
          go_ret
          exact ⟨rfl, B5.out⟩
      · have h15' : 15 * c ≤ 1000 := by omega
        go_wp2_with fail
        refine (im_fade a (15 * c) c _).mono ?_; rw [HE.out h15']; rintro e w4 ⟨rfl, bl⟩
        have B4 := Lib.hid (below_then B3.out bl)
        clear B3 bl
        by_cases hb0 : b = 0
        · subst hb0
          go_wp2_with fail
          go_ret
          exact ⟨rfl, B4.out⟩
        · obtain ⟨Z, hZ⟩ : ∃ Z, fadeT a (b - 1) c = Z := ⟨_, rfl⟩
          have HZ := Lib.hid hZ
          have hz : V ≤ Z := by rw [← hZ]; exact HF.out hb0
          clear hZ
          go_wp2_with fail
          refine (im_fade a (b - 1) c _).mono ?_; rw [HZ.out]; rintro e w5 ⟨rfl, bl⟩
          have B5 := Lib.hid (below_then B4.out bl)
          clear bl
          go_wp2_with fail
          go_ret
          exact ⟨rfl, B5.out⟩
  · have hs' : 1048576 < len0 := by omega
    go_enter Try.func7, Try.ntmps7
    go_wp2_with fail
    go_ret
    exact ⟨rfl, Below.refl _ _⟩
end Go.Proofs.Ytfbpnneegenhgaa
