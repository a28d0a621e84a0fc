/- The drawn law FnVoiceShare, walked. -/
import Derived.Test.YtfbpnneegenhgaaVocX
import Derived.Test.YtfbpnneegenhgaaVocE
import Derived.Test.YtfbpnneegenhgaaGA
import Derived.Test.YtfbpnneegenhgaaVocI
namespace Go.Proofs.Ytfbpnneegenhgaa
open Go.ChangeShapes Go.WideShapes Go.ChangeAt Go.RowKit
set_option linter.unusedVariables false

set_option maxRecDepth 100000 in
set_option maxHeartbeats 8000000 in
theorem walk_FnVoiceShare (a0 : Option Addr) (len0 cap0 : Nat) (z0 : List Int) (w : World) (w0 : IsRow .u8 w a0 len0 cap0 z0) :
    Calls Try.prog 8 #[.slice a0 len0 cap0] w fun e w' => e = .returned (.bool true) ∧ Below w.heap.size w w' := by
  have H := Lib.hid w0
  have hl := isRow_len w0
  clear w0
  by_cases hs : len0 ≤ 1048576
  · go_enter Try.func8, Try.ntmps8
    go_wp2_with fail
    refine (draw_PlayVoice _ _ _ _ _ H.out).mono ?_; rintro e w1 ⟨u, n, rfl, hu, hn, hb⟩
    have B1 := Lib.hid hb
    clear hb hu hn
    have BNw2 : Hid (Box (w1.alloc (.cells #[.int .i64 0, .int .i64 0, .int .i64 0, .int .i64 0, .int .i64 0] 24)) w1.heap.size 24 (vcs .zero)) := Lib.hid (Box.new w1 _ _)
    go_upto_region 4 with (first | (refine vo_store (by rfl) _ _ rfl w1.heap.size rfl u rfl (vcs .zero) BNw2.out rfl ?_))
    have bl : Below w1.heap.size w1 ((w1.alloc (.cells #[.int .i64 0, .int .i64 0, .int .i64 0, .int .i64 0, .int .i64 0] 24)).setRow w1.heap.size (vcs u).toArray) := below_row (below1 w1 _) (Nat.le_refl _) _
    have V2 : Hid (Box ((w1.alloc (.cells #[.int .i64 0, .int .i64 0, .int .i64 0, .int .i64 0, .int .i64 0] 24)).setRow w1.heap.size (vcs u).toArray) w1.heap.size 24 (vcs u)) := Lib.hid (Box.row BNw2.out)
    have zzw2 : ∀ b, b < w1.heap.size → b ≠ w1.heap.size := fun b h => by omega
    have B2 := Lib.hid (below_then B1.out bl)
    clear bl BNw2 B1 zzw2
    generalize ((w1.alloc (.cells #[.int .i64 0, .int .i64 0, .int .i64 0, .int .i64 0, .int .i64 0] 24)).setRow w1.heap.size (vcs u).toArray) = w2 at V2 B2 ⊢
    generalize w1.heap.size = bk at V2 ⊢
    go_wp2_with (first | (refine vo_load (by rfl) _ rfl bk rfl u V2.out ?_))
    refine (spec_voiceValid u _).mono ?_; rintro e w3 ⟨rfl, bl⟩
    have V3 := Lib.hid (V2.out.below bl)
    have B3 := Lib.hid (below_then B2.out bl)
    clear bl V2 B2
    cases hv : vocB u
    · clear hv
      go_wp2_with fail
      refine (alive_any _).mono ?_; rintro e w' ⟨rfl, rfl⟩
      go_wp2_with fail
      go_ret
      exact ⟨rfl, B3.out⟩
    have HV := Lib.hid hv
    clear hv
    obtain ⟨l, h, v, s, x⟩ := u
    obtain ⟨⟨l0, l1⟩, ⟨h0, h1⟩, -, -, -⟩ := vocB_iff.1 HV.out
    simp only at l0 l1 h0 h1
    have x0 : w3.cell? ⟨bk, 0, none⟩ = some (.int .i64 l) := V3.out.cell 0
    have x2 : w3.cell? ⟨bk, 2, none⟩ = some (.int .i64 v) := V3.out.cell 2
    have hw8 := wrapV (8 * l) (by omega) (by omega)
    by_cases h4 : 400 < 8 * l
    · go_wp2_with fail
      refine (alive_any _).mono ?_; rintro e w' ⟨rfl, rfl⟩
      go_wp2_with fail
      go_ret
      exact ⟨rfl, B3.out⟩
    have h4' : 8 * l ≤ 400 := by omega
    by_cases hv0 : v = 0
    · subst hv0
      go_wp2_with fail
      refine (alive_any _).mono ?_; rintro e w' ⟨rfl, rfl⟩
      go_wp2_with fail
      go_ret
      exact ⟨rfl, B3.out⟩
    have hv0d : (v == 0) = false := by simpa using hv0
    have hd4 : decide (400 < 8 * l) = false := decide_eq_false (by omega)
    obtain ⟨m, hm⟩ : ∃ m : Nat, (m : Int) = 8 * l := ⟨(8 * l).toNat, by omega⟩
    have m4 : m ≤ 400 := by omega
    have HPL : Hid (playL ⟨l, h, v, s, x⟩ (8 * l) = smp ⟨l, h, v, s, x⟩ m ∧ playV ⟨l, h, v, s, x⟩ (8 * l) = ⟨l, h, v, s, x⟩) := Lib.hid (by
      have h := play_yes (x := ⟨l, h, v, s, x⟩) (n := 8 * l) (by unfold playB; rw [HV.out, betQ_iff.2 ⟨by omega, h4'⟩]; rfl)
      rw [show (8 * l).toNat = m by omega, adv_turn HV.out hm] at h
      exact h)
    have HCM := Lib.hid (cntV_share HV.out hv0 hm)
    have hlw : 0 ≤ h * l ∧ h * l ≤ 800 := ⟨Int.mul_nonneg h0 (by omega), by have := Int.mul_le_mul_of_nonneg_right (c := l) h1 (by omega); omega⟩
    have HWM := Lib.hid (wrapV (h * l) (by omega) (by omega))
    clear hlw
    go_wp2_with (first | (refine vo_load (by rfl) _ rfl bk rfl ⟨l, h, v, s, x⟩ V3.out ?_))
    refine (im_play ⟨l, h, v, s, x⟩ (8 * l) _).mono ?_; rintro e w4 ⟨Ag, cg, fg, rfl, hcg, ig, ng, bl⟩
    rw [HPL.out.1, smp_len] at ig hcg
    rw [HPL.out.1, HPL.out.2, smp_len]
    have V4 := Lib.hid (V3.out.below bl)
    have B4 := Lib.hid (below_then B3.out bl)
    have I4 := Lib.hid ig
    clear bl V3 B3 ig ng x0 x2
    have BNw5 : Hid (Box (w4.alloc (.cells #[.int .i64 0, .int .i64 0, .int .i64 0, .int .i64 0, .int .i64 0] 24)) w4.heap.size 24 (vcs .zero)) := Lib.hid (Box.new w4 _ _)
    go_upto_region 7 with (first | (refine vo_store (by rfl) _ _ rfl w4.heap.size rfl ⟨l, h, v, s, x⟩ rfl (vcs .zero) BNw5.out rfl ?_))
    have bl : Below w4.heap.size w4 ((w4.alloc (.cells #[.int .i64 0, .int .i64 0, .int .i64 0, .int .i64 0, .int .i64 0] 24)).setRow w4.heap.size (vcs ⟨l, h, v, s, x⟩).toArray) := below_row (below1 w4 _) (Nat.le_refl _) _
    have E5 : Hid (Box ((w4.alloc (.cells #[.int .i64 0, .int .i64 0, .int .i64 0, .int .i64 0, .int .i64 0] 24)).setRow w4.heap.size (vcs ⟨l, h, v, s, x⟩).toArray) w4.heap.size 24 (vcs ⟨l, h, v, s, x⟩)) := Lib.hid (Box.row BNw5.out)
    have V5 := Lib.hid (V4.out.below bl)
    have I5 := Lib.hid (I4.out.below bl)
    have zzw5 : ∀ b, b < w4.heap.size → b ≠ w4.heap.size := fun b h => by omega
    have neV5 := Lib.hid (zzw5 _ V4.out.lt)
    have B5 := Lib.hid (below_then B4.out bl)
    clear bl BNw5 B4 zzw5 V4 neV5 I4
    generalize ((w4.alloc (.cells #[.int .i64 0, .int .i64 0, .int .i64 0, .int .i64 0, .int .i64 0] 24)).setRow w4.heap.size (vcs ⟨l, h, v, s, x⟩).toArray) = w5 at V5 E5 I5 B5 ⊢
    generalize w4.heap.size = be at E5 ⊢
    go_wp2_with fail
    go_loopw [7, 8] (fun cn i wr => ∃ k : Nat, k ≤ m ∧ cn = .int .i64 ((cntV ⟨l, h, v, s, x⟩ k : Nat) : Int) ∧ i = .int .i64 k ∧ w5 = wr) (fun _ i _ => m - (intOf i).toNat)
    case atStart => exact ⟨0, by omega, rfl, rfl, rfl⟩
    case round =>
      obtain ⟨k, hk, rfl, rfl, rfl⟩ := hrel
      by_cases hkm : k < m
      · have hkm' : (k : Int) < (m : Int) := by omega
        obtain ⟨p, o, rfl, _, _, hcz⟩ := I5.out.at_ (by omega)
        have cc : w5.cell? ⟨p, o + k, none⟩ = some (.int .i64 (lev (adv ⟨l, h, v, s, x⟩ k))) := by
          have := hcz k hkm
          rwa [smp_at _ hkm] at this
        clear hcz
        have HCS := Lib.hid (cntV_succ ⟨l, h, v, s, x⟩ k)
        have hck := cntV_le ⟨l, h, v, s, x⟩ k
        generalize lev (adv ⟨l, h, v, s, x⟩ k) = a at cc HCS
        generalize cntV ⟨l, h, v, s, x⟩ k = ck at HCS hck ⊢
        have hwc := wrapV ((ck : Int) + 1) (by omega) (by omega)
        by_cases ha : 0 < a
        · go_wp2_with fail
          go_roundw
          case rel => exact ⟨k + 1, by omega, by rw [HCS.out, if_pos ha]; rfl, by go_num, by first | trivial | rfl⟩
          case measure => simp [intOf]; omega
        · have ha' : a ≤ 0 := by omega
          go_wp2_with fail
          go_roundw
          case rel => exact ⟨k + 1, by omega, by rw [HCS.out, if_neg ha]; rfl, by go_num, by first | trivial | rfl⟩
          case measure => simp [intOf]; omega
      · obtain rfl : k = m := by omega
        rw [HCM.out]
        have x0 : w5.cell? ⟨bk, 0, none⟩ = some (.int .i64 l) := V5.out.cell 0
        go_wp2_with (first | (refine vo_load (by rfl) _ rfl bk rfl ⟨l, h, v, s, x⟩ V5.out ?_))
        refine (spec_play ⟨l, h, v, s, x⟩ (8 * l) _).mono ?_; rintro e w6 ⟨As, cs, fs, rfl, hcs, is, ns, bl⟩
        rw [HPL.out.1, smp_len] at is hcs
        rw [HPL.out.1, HPL.out.2, smp_len]
        have V6 := Lib.hid (V5.out.below bl)
        have E6 := Lib.hid (E5.out.below bl)
        have I6 := Lib.hid (I5.out.below bl)
        have B6 := Lib.hid (below_then B5.out bl)
        have J6 := Lib.hid is
        clear bl V5 E5 I5 B5 is ns x0
        have BNw7 : Hid (Box (w6.alloc (.cells #[.int .i64 0, .int .i64 0, .int .i64 0, .int .i64 0, .int .i64 0] 24)) w6.heap.size 24 (vcs .zero)) := Lib.hid (Box.new w6 _ _)
        go_upto_region 14 with (first | (refine vo_store (by rfl) _ _ rfl w6.heap.size rfl ⟨l, h, v, s, x⟩ rfl (vcs .zero) BNw7.out rfl ?_))
        have bl : Below w6.heap.size w6 ((w6.alloc (.cells #[.int .i64 0, .int .i64 0, .int .i64 0, .int .i64 0, .int .i64 0] 24)).setRow w6.heap.size (vcs ⟨l, h, v, s, x⟩).toArray) := below_row (below1 w6 _) (Nat.le_refl _) _
        have F7 : Hid (Box ((w6.alloc (.cells #[.int .i64 0, .int .i64 0, .int .i64 0, .int .i64 0, .int .i64 0] 24)).setRow w6.heap.size (vcs ⟨l, h, v, s, x⟩).toArray) w6.heap.size 24 (vcs ⟨l, h, v, s, x⟩)) := Lib.hid (Box.row BNw7.out)
        have V7 := Lib.hid (V6.out.below bl)
        have E7 := Lib.hid (E6.out.below bl)
        have I7 := Lib.hid (I6.out.below bl)
        have J7 := Lib.hid (J6.out.below bl)
        have zzw7 : ∀ b, b < w6.heap.size → b ≠ w6.heap.size := fun b h => by omega
        have neV7 := Lib.hid (zzw7 _ V6.out.lt)
        have neE7 := Lib.hid (zzw7 _ E6.out.lt)
        have B7 := Lib.hid (below_then B6.out bl)
        clear bl BNw7 B6 zzw7 V6 E6 I6 J6 neV7 neE7 F7
        generalize ((w6.alloc (.cells #[.int .i64 0, .int .i64 0, .int .i64 0, .int .i64 0, .int .i64 0] 24)).setRow w6.heap.size (vcs ⟨l, h, v, s, x⟩).toArray) = w7 at V7 E7 I7 J7 B7 ⊢
        generalize w6.heap.size = bf
        have x0 : w7.cell? ⟨bk, 0, none⟩ = some (.int .i64 l) := V7.out.cell 0
        have x1 : w7.cell? ⟨bk, 1, none⟩ = some (.int .i64 h) := V7.out.cell 1
        have hwm := HWM.out
        go_wp2_with (first | (refine vo_load (by rfl) _ rfl bk rfl ⟨l, h, v, s, x⟩ V7.out ?_) | (refine vo_load (by rfl) _ rfl be rfl ⟨l, h, v, s, x⟩ E7.out ?_))
        refine (same_ints Ag As k cg cs (smp ⟨l, h, v, s, x⟩ k) fg fs _ I7.out J7.out (by omega)).mono ?_; rintro e w8 ⟨rfl, q, hq⟩
        have B8 := Lib.hid (below_drewN B7.out q)
        rw [← hq] at B8
        clear hq x0 x1
        go_wp2_with fail
        go_ret
        exact ⟨rfl, B8.out⟩
  · have hs' : 1048576 < len0 := by omega
    go_enter Try.func8, Try.ntmps8
    go_wp2_with fail
    go_ret
    exact ⟨rfl, Below.refl _ _⟩
end Go.Proofs.Ytfbpnneegenhgaa
