/- The drawn law FnSkipVoice, walked. -/
import Derived.Test.YtfbpnneegenhgaaVocX
import Derived.Test.YtfbpnneegenhgaaVocE
import Derived.Test.YtfbpnneegenhgaaGA
import Derived.Test.YtfbpnneegenhgaaVocI
namespace Go.Proofs.Ytfbpnneegenhgaa
open Go.ChangeShapes Go.WideShapes Go.ChangeAt Go.RowKit
set_option linter.unusedVariables false

section
variable {ops : Array Oper} {Q : Exit → Act → World → Prop} {T : Nat → Value → World → Prop} {a0 : Act} {w0 : World} {i : Nat} {o : Oper}
theorem lb_vocb (x : Operand) (b : Nat) {t : TypeId} (s : Voc) (hop : o.op = .load 24 x) (hb : Box w0 b t (vcs s)) (hw : ∀ (ρ : Operand → Value) w, PreR ops T ρ w o.after.toList → wantV ops (slotR ρ) o = true)
    (h : ∀ (ρ : Operand → Value) w, (∀ n, (ops.toList.all fun o => o.dst != some n) = true → ρ (.tmp n) = a0.eval (.tmp n)) → PreR ops T ρ w o.after.toList → ρ x = .pointer (some ⟨b, 0, none⟩) ∧ T i (dstV o (vocV s)) w) : Ob Try.prog ops Q (ClB w0) RlB T a0 i o :=
  lb_val (vocV s) hw fun ρ w hbl _ hx hp' => by
    obtain ⟨h1, h2⟩ := h ρ w hx hp'
    exact ⟨exec_loadW x w b s hop h1 (hb.below hbl), h2⟩
end
theorem play_skip {x : Voc} {n : Int} (h1 : vocB x = true) (h2 : 0 ≤ n ∧ n ≤ 400) : playV x n = skipT x n := by
  rw [(play_yes (show playB x n = true by unfold playB; rw [h1, betQ_iff.2 h2]; rfl)).2, skipT_yes h1 (betQ_iff.2 ⟨h2.1, by omega⟩)]
  obtain ⟨k, rfl⟩ := Int.eq_ofNat_of_zero_le h2.1
  rw [skip_adv h1, Int.toNat_natCast]
set_option maxRecDepth 100000 in
set_option maxHeartbeats 8000000 in
theorem walk_FnSkipVoice (a0 : Option Addr) (len0 cap0 : Nat) (z0 : List Int) (w : World) (w0 : IsRow .u8 w a0 len0 cap0 z0) :
    Calls Try.prog 5 #[.slice a0 len0 cap0] w fun e w' => e = .returned (.bool true) ∧ Below w.heap.size w w' := by
  have H := Lib.hid w0
  have hl := isRow_len w0
  clear w0
  by_cases hs : len0 ≤ 1048576
  · go_enter Try.func5, Try.ntmps5
    go_wp2_with fail
    refine (draw_SkipVoice _ _ _ _ _ H.out).mono ?_; rintro e w1 ⟨u, n, rfl, hu, hn, hb⟩
    obtain ⟨n0, n1⟩ := hn
    have B1 := Lib.hid hb
    clear hb hu
    have BNw2 : Hid (Box (w1.alloc (.cells #[.int .i64 0, .int .i64 0, .int .i64 0, .int .i64 0, .int .i64 0] 24)) w1.heap.size 24 (vcs .zero)) := Lib.hid (Box.new w1 _ _)
    go_upto_region 4 with (first | (refine vo_store (by rfl) _ _ rfl w1.heap.size rfl u rfl (vcs .zero) BNw2.out rfl ?_))
    have bl : Below w1.heap.size w1 ((w1.alloc (.cells #[.int .i64 0, .int .i64 0, .int .i64 0, .int .i64 0, .int .i64 0] 24)).setRow w1.heap.size (vcs u).toArray) := below_row (below1 w1 _) (Nat.le_refl _) _
    have V2 : Hid (Box ((w1.alloc (.cells #[.int .i64 0, .int .i64 0, .int .i64 0, .int .i64 0, .int .i64 0] 24)).setRow w1.heap.size (vcs u).toArray) w1.heap.size 24 (vcs u)) := Lib.hid (Box.row BNw2.out)
    have zzw2 : ∀ b, b < w1.heap.size → b ≠ w1.heap.size := fun b h => by omega
    have B2 := Lib.hid (below_then B1.out bl)
    clear bl BNw2 B1 zzw2
    generalize ((w1.alloc (.cells #[.int .i64 0, .int .i64 0, .int .i64 0, .int .i64 0, .int .i64 0] 24)).setRow w1.heap.size (vcs u).toArray) = w2 at V2 B2 ⊢
    generalize w1.heap.size = bk at V2 ⊢
    obtain ⟨z, hz⟩ : ∃ z, skipT u n = z := ⟨_, rfl⟩
    have HZ := Lib.hid hz
    clear hz
    go_wp2_with (first | (refine vo_load (by rfl) _ rfl bk rfl u V2.out ?_))
    refine (im_skip u n _).mono ?_; rw [HZ.out]; rintro e w3 ⟨rfl, bl⟩
    have V3 := Lib.hid (V2.out.below bl)
    have B3 := Lib.hid (below_then B2.out bl)
    clear V2 B2 bl
    have BNw4 : Hid (Box (w3.alloc (.cells #[.int .i64 0, .int .i64 0, .int .i64 0, .int .i64 0, .int .i64 0] 24)) w3.heap.size 24 (vcs .zero)) := Lib.hid (Box.new w3 _ _)
    go_upto_region 5 with (first | (refine vo_store (by rfl) _ _ rfl w3.heap.size rfl z rfl (vcs .zero) BNw4.out rfl ?_))
    have bl : Below w3.heap.size w3 ((w3.alloc (.cells #[.int .i64 0, .int .i64 0, .int .i64 0, .int .i64 0, .int .i64 0] 24)).setRow w3.heap.size (vcs z).toArray) := below_row (below1 w3 _) (Nat.le_refl _) _
    have Z4 : Hid (Box ((w3.alloc (.cells #[.int .i64 0, .int .i64 0, .int .i64 0, .int .i64 0, .int .i64 0] 24)).setRow w3.heap.size (vcs z).toArray) w3.heap.size 24 (vcs z)) := Lib.hid (Box.row BNw4.out)
    have V4 := Lib.hid (V3.out.below bl)
    have zzw4 : ∀ b, b < w3.heap.size → b ≠ w3.heap.size := fun b h => by omega
    have neV4 := Lib.hid (zzw4 _ V3.out.lt)
    have B4 := Lib.hid (below_then B3.out bl)
    clear bl BNw4 B3 zzw4 V3 neV4
    generalize ((w3.alloc (.cells #[.int .i64 0, .int .i64 0, .int .i64 0, .int .i64 0, .int .i64 0] 24)).setRow w3.heap.size (vcs z).toArray) = w4 at V4 Z4 B4 ⊢
    generalize w3.heap.size = bx at Z4 ⊢
    refine wp_region_typed (ClB w4) RlB (Ty [TV (vocV z), TV (vocV u), TV (.int .i64 n), TV (vocV z), TV (.bool false)])
      (by kernel_rfl) (by kernel_rfl) (stab_ty _ ⟨stabB_k _, stabB_k _, stabB_k _, stabB_k _, stabB_k _, trivial⟩) (Below.refl _ _).drew ?_ ?_
    · refine ⟨?_, ?_, ?_, ?_, ?_, trivial⟩
      · exact lb_vocb (.tmp 5) bx z rfl Z4.out (fun _ _ _ => want_none rfl) fun ρ wx hx hp => ⟨hx 5 rfl, rfl⟩
      · exact lb_vocb (.tmp 3) bk u rfl V4.out (fun _ _ _ => want_none rfl) fun ρ wx hx hp => ⟨hx 3 rfl, rfl⟩
      · exact lb_move (.tmp 4) (.inl rfl) (fun _ _ _ => want_none rfl) fun ρ wx hc hx hp => hx 4 rfl
      · refine lb_known _ _ _ (vocV z) (fun _ _ => by simp [go_sem]) rfl (fun _ _ _ => want_none rfl) #[vocV u, .int .i64 n] (fun wq hb => by have h := spec_skip u n wq; rwa [HZ.out] at h) (fun ρ wx hc hx hp => ?_) (fun _ => rfl)
        have h21 : ρ (.tmp 21) = vocV u := hp.1 rfl
        have h22 : ρ (.tmp 22) = .int .i64 n := hp.2.1 rfl
        simp only [List.map_toArray, List.map_cons, List.map_nil, h21, h22]
      · refine lb_val (.bool false) (fun _ _ _ => want_none rfl) fun ρ wx hb hc hx hp => ⟨?_, rfl⟩
        have h20 : ρ (.tmp 20) = vocV z := hp.1 rfl
        have h23 : ρ (.tmp 23) = vocV z := hp.2.1 rfl
        unfold execOp
        simp only [h20, h23]
        clear h20 h23 hx hp hc hb
        go_simp
    intro vs w5 hI hF
    obtain ⟨-, -, -, -, h4, -⟩ := hF
    replace h4 : vs 4 = .bool false := h4
    have bl : Below w4.heap.size w4 w5 := hI
    simp only [putAll, Act.put, List.setIfInBounds_toArray, List.set_cons_zero, List.set_cons_succ, h4]
    clear hI h4
    have V5 := Lib.hid (V4.out.below bl)
    have Z5 := Lib.hid (Z4.out.below bl)
    have B5 := Lib.hid (below_then B4.out bl)
    clear bl V4 Z4 B4
    go_wp2_with (first | (refine vo_load (by rfl) _ rfl bk rfl u V5.out ?_))
    refine (spec_voiceValid u _).mono ?_; rintro e w6 ⟨rfl, bl⟩
    have V6 := Lib.hid (V5.out.below bl)
    have Z6 := Lib.hid (Z5.out.below bl)
    have B6 := Lib.hid (below_then B5.out bl)
    clear bl V5 Z5 B5
    cases hv : vocB u
    · obtain rfl : z = .zero := by rw [← HZ.out, skipT_no (by rw [hv]; rfl)]
      go_wp2_with (first | (refine vo_load (by rfl) _ rfl bx rfl .zero Z6.out ?_))
      refine (alive_any _).mono ?_; rintro e w' ⟨rfl, rfl⟩
      go_wp2_with fail
      go_ret
      exact ⟨rfl, B6.out⟩
    have HV := Lib.hid hv
    clear hv
    by_cases hn0 : n < 0
    · obtain rfl : z = .zero := by rw [← HZ.out, skipT_no (by rw [Bool.and_eq_false_iff]; right; simp [betB]; omega)]
      go_wp2_with (first | (refine vo_load (by rfl) _ rfl bx rfl .zero Z6.out ?_))
      refine (alive_any _).mono ?_; rintro e w' ⟨rfl, rfl⟩
      go_wp2_with fail
      go_ret
      exact ⟨rfl, B6.out⟩
    by_cases hn9 : 100000 < n
    · obtain rfl : z = .zero := by rw [← HZ.out, skipT_no (by rw [Bool.and_eq_false_iff]; right; simp [betB]; omega)]
      go_wp2_with (first | (refine vo_load (by rfl) _ rfl bx rfl .zero Z6.out ?_))
      refine (alive_any _).mono ?_; rintro e w' ⟨rfl, rfl⟩
      go_wp2_with fail
      go_ret
      exact ⟨rfl, B6.out⟩
    have hn0' : 0 ≤ n := by omega
    have hn9' : n ≤ 100000 := by omega
    have hqt : n.tdiv 3 = n / 3 := Int.tdiv_eq_ediv_of_nonneg hn0'
    obtain ⟨q, hq⟩ : ∃ q, n / 3 = q := ⟨_, rfl⟩
    rw [hq] at hqt
    have q0 : 0 ≤ q ∧ q ≤ n := by omega
    clear hq
    have hs := HZ.out
    rw [skipT_yes HV.out (betQ_iff.2 ⟨hn0', hn9'⟩)] at hs
    have HZV : Hid (vocB z = true) := Lib.hid (by rw [← hs]; exact skip_ok HV.out hn0')
    obtain ⟨y, hy⟩ : ∃ y, skipT u q = y := ⟨_, rfl⟩
    have HY := Lib.hid hy
    have HYZ : Hid (skipT y (n - q) = z) := Lib.hid (by
      rw [skipT_yes HV.out (betQ_iff.2 ⟨q0.1, by omega⟩)] at hy
      rw [← hy, skipT_yes (skip_ok HV.out q0.1) (betQ_iff.2 ⟨by omega, by omega⟩), skip_add HV.out q0.1 (by omega), ← hs]
      congr 1; omega)
    have HW := Lib.hid (wrapV (n - q) (by omega) (by omega))
    have hwq := wrapV q (by omega) (by omega)
    have HP : Hid (n ≤ 400 → playV u n = z) := Lib.hid fun h => by rw [play_skip HV.out ⟨hn0', h⟩, HZ.out]
    clear hs hy n0 n1
    by_cases h4 : n ≤ 400
    · go_wp2_with (first | (refine vo_load (by rfl) _ rfl bk rfl u V6.out ?_))
      refine (im_play u n _).mono ?_; rintro e w7 ⟨A7, c7, f7, rfl, _, _, _, bl⟩
      rw [HP.out h4]
      have V7 := Lib.hid (V6.out.below bl)
      have Z7 := Lib.hid (Z6.out.below bl)
      have B7 := Lib.hid (below_then B6.out bl)
      clear bl V6 Z6 B6
      have BNw8 : Hid (Box (w7.alloc (.cells #[.int .i64 0, .int .i64 0, .int .i64 0, .int .i64 0, .int .i64 0] 24)) w7.heap.size 24 (vcs .zero)) := Lib.hid (Box.new w7 _ _)
      go_upto_region 12 with (first | (refine vo_store (by rfl) _ _ rfl w7.heap.size rfl z rfl (vcs .zero) BNw8.out rfl ?_))
      have bl : Below w7.heap.size w7 ((w7.alloc (.cells #[.int .i64 0, .int .i64 0, .int .i64 0, .int .i64 0, .int .i64 0] 24)).setRow w7.heap.size (vcs z).toArray) := below_row (below1 w7 _) (Nat.le_refl _) _
      have Y8 : Hid (Box ((w7.alloc (.cells #[.int .i64 0, .int .i64 0, .int .i64 0, .int .i64 0, .int .i64 0] 24)).setRow w7.heap.size (vcs z).toArray) w7.heap.size 24 (vcs z)) := Lib.hid (Box.row BNw8.out)
      have V8 := Lib.hid (V7.out.below bl)
      have Z8 := Lib.hid (Z7.out.below bl)
      have zzw8 : ∀ b, b < w7.heap.size → b ≠ w7.heap.size := fun b h => by omega
      have neV8 := Lib.hid (zzw8 _ V7.out.lt)
      have neZ8 := Lib.hid (zzw8 _ Z7.out.lt)
      have B8 := Lib.hid (below_then B7.out bl)
      clear bl BNw8 B7 zzw8 V7 Z7 neV8 neZ8
      generalize ((w7.alloc (.cells #[.int .i64 0, .int .i64 0, .int .i64 0, .int .i64 0, .int .i64 0] 24)).setRow w7.heap.size (vcs z).toArray) = w8 at V8 Z8 Y8 B8 ⊢
      generalize w7.heap.size = by' at Y8 ⊢
      go_upto_region 14 with (first | (refine vo_load (by rfl) _ rfl by' rfl z Y8.out ?_) | (refine vo_load (by rfl) _ rfl bx rfl z Z8.out ?_))
      refine wp_region_typed (ClB w8) RlB (Ty [TV (vocV z), TV (.bool true), TV (.bool true), TV (vocV u), TV (.int .i64 q), TV (vocV y), TV (.int .i64 n), TV (.int .i64 q), TV (.int .i64 (n - q)), TV (vocV z), TV (vocV z), TV (.bool true), TV (.bool true), TV (.bool true)])
        (by kernel_rfl) (by kernel_rfl) (stab_ty _ ⟨stabB_k _, stabB_k _, stabB_k _, stabB_k _, stabB_k _, stabB_k _, stabB_k _, stabB_k _, stabB_k _, stabB_k _, stabB_k _, stabB_k _, stabB_k _, stabB_k _, trivial⟩) (Below.refl _ _).drew ?_ ?_
      · refine ⟨?_, ?_, ?_, ?_, ?_, ?_, ?_, ?_, ?_, ?_, ?_, ?_, ?_, ?_, trivial⟩
        · exact lb_vocb (.tmp 5) bx z rfl Z8.out (fun _ _ _ => want_none rfl) fun ρ wx hx hp => ⟨hx 5 rfl, rfl⟩
        · refine lb_known _ _ _ (.bool true) (fun _ _ => by simp [go_sem]) rfl (fun _ _ _ => want_none rfl) #[vocV z] (fun wq hb => by have h := im_voiceValid z wq; rwa [HZV.out] at h) (fun ρ wx hc hx hp => ?_) (fun _ => rfl)
          have h55 : ρ (.tmp 55) = vocV z := hp.1 rfl
          simp only [List.map_toArray, List.map_cons, List.map_nil, h55]
        · exact lb_move (.tmp 56) (.inl rfl) (fun _ _ _ => want_none rfl) fun ρ wx hc hx hp => hp.1 rfl
        · exact lb_vocb (.tmp 3) bk u rfl V8.out (fun ρ wx hp => want_of 2 true 57 rfl rfl (hp.1 rfl)) fun ρ wx hx hp => ⟨hx 3 rfl, rfl⟩
        · exact lb_move (.tmp 6) (.inl rfl) (fun ρ wx hp => want_of 2 true 57 rfl rfl (hp.1 rfl)) fun ρ wx hc hx hp => hx 6 rfl
        · refine lb_known _ _ _ (vocV y) (fun _ _ => by simp [go_sem]) rfl (fun ρ wx hp => want_of 2 true 57 rfl rfl (hp.2.2.1 rfl)) #[vocV u, .int .i64 q] (fun wq hb => by have h := im_skip u q wq; rwa [HY.out] at h) (fun ρ wx hc hx hp => ?_) (fun _ => rfl)
          have h58 : ρ (.tmp 58) = vocV u := hp.1 rfl
          have h59 : ρ (.tmp 59) = .int .i64 q := hp.2.1 rfl
          simp only [List.map_toArray, List.map_cons, List.map_nil, h58, h59]
        · exact lb_move (.tmp 4) (.inl rfl) (fun ρ wx hp => want_of 2 true 57 rfl rfl (hp.1 rfl)) fun ρ wx hc hx hp => hx 4 rfl
        · exact lb_move (.tmp 6) (.inl rfl) (fun ρ wx hp => want_of 2 true 57 rfl rfl (hp.1 rfl)) fun ρ wx hc hx hp => hx 6 rfl
        · refine lb_val (.int .i64 (n - q)) (fun ρ wx hp => want_of 2 true 57 rfl rfl (hp.2.2.1 rfl)) fun ρ wx hb hc hx hp => ⟨?_, rfl⟩
          have h61 : ρ (.tmp 61) = .int .i64 n := hp.1 rfl
          have h62 : ρ (.tmp 62) = .int .i64 q := hp.2.1 rfl
          have g1 := HW.out
          unfold execOp
          simp only [h61, h62]
          clear h61 h62 hx hp hc hb
          go_simp
        · refine lb_known _ _ _ (vocV z) (fun _ _ => by simp [go_sem]) rfl (fun ρ wx hp => want_of 2 true 57 rfl rfl (hp.2.2.2.1 rfl)) #[vocV y, .int .i64 (n - q)] (fun wq hb => by have h := im_skip y (n - q) wq; rwa [HYZ.out] at h) (fun ρ wx hc hx hp => ?_) (fun _ => rfl)
          have h60 : ρ (.tmp 60) = vocV y := hp.1 rfl
          have h63 : ρ (.tmp 63) = .int .i64 (n - q) := hp.2.1 rfl
          simp only [List.map_toArray, List.map_cons, List.map_nil, h60, h63]
        · exact lb_vocb (.tmp 5) bx z rfl Z8.out (fun ρ wx hp => want_of 2 true 57 rfl rfl (hp.1 rfl)) fun ρ wx hx hp => ⟨hx 5 rfl, rfl⟩
        · refine lb_val (.bool true) (fun ρ wx hp => want_of 2 true 57 rfl rfl (hp.2.2.1 rfl)) fun ρ wx hb hc hx hp => ⟨?_, rfl⟩
          have h64 : ρ (.tmp 64) = vocV z := hp.1 rfl
          have h65 : ρ (.tmp 65) = vocV z := hp.2.1 rfl
          unfold execOp
          simp only [h64, h65]
          clear h64 h65 hx hp hc hb
          go_simp
        · exact lb_pick (.tmp 57) (.tmp 66) (.const (.bool false)) rfl true (fun _ _ _ => want_none rfl) fun ρ wx hc hp => ⟨hp.1 rfl, hp.2.1 rfl⟩
        · exact lb_move (.tmp 67) (.inr rfl) (fun _ _ _ => want_none rfl) fun ρ wx hc hx hp => hp.1 rfl
      intro vs w9 hI hF
      obtain ⟨-, -, -, -, -, -, -, -, -, -, -, -, -, h13, -⟩ := hF
      replace h13 : vs 13 = .bool true := h13
      have bl : Below w8.heap.size w8 w9 := hI
      simp only [putAll, Act.put, List.setIfInBounds_toArray, List.set_cons_zero, List.set_cons_succ, h13]
      clear hI h13
      have B9 := Lib.hid (below_then B8.out bl)
      clear bl
      go_wp2_with fail
      go_ret
      exact ⟨rfl, B9.out⟩
    · have h4' : 400 < n := by omega
      go_upto_region 14 with (fail)
      obtain ⟨w8, hw8⟩ : ∃ w8, w8 = w6 := ⟨_, rfl⟩
      rw [← hw8] at V6 Z6 B6 ⊢
      clear hw8
      have V8 := V6
      have Z8 := Z6
      have B8 := B6
      clear V6 Z6 B6
      refine wp_region_typed (ClB w8) RlB (Ty [TV (vocV z), TV (.bool true), TV (.bool true), TV (vocV u), TV (.int .i64 q), TV (vocV y), TV (.int .i64 n), TV (.int .i64 q), TV (.int .i64 (n - q)), TV (vocV z), TV (vocV z), TV (.bool true), TV (.bool true), TV (.bool true)])
        (by kernel_rfl) (by kernel_rfl) (stab_ty _ ⟨stabB_k _, stabB_k _, stabB_k _, stabB_k _, stabB_k _, stabB_k _, stabB_k _, stabB_k _, stabB_k _, stabB_k _, stabB_k _, stabB_k _, stabB_k _, stabB_k _, trivial⟩) (Below.refl _ _).drew ?_ ?_
      · refine ⟨?_, ?_, ?_, ?_, ?_, ?_, ?_, ?_, ?_, ?_, ?_, ?_, ?_, ?_, trivial⟩
        · exact lb_vocb (.tmp 5) bx z rfl Z8.out (fun _ _ _ => want_none rfl) fun ρ wx hx hp => ⟨hx 5 rfl, rfl⟩
        · refine lb_known _ _ _ (.bool true) (fun _ _ => by simp [go_sem]) rfl (fun _ _ _ => want_none rfl) #[vocV z] (fun wq hb => by have h := im_voiceValid z wq; rwa [HZV.out] at h) (fun ρ wx hc hx hp => ?_) (fun _ => rfl)
          have h55 : ρ (.tmp 55) = vocV z := hp.1 rfl
          simp only [List.map_toArray, List.map_cons, List.map_nil, h55]
        · exact lb_move (.tmp 56) (.inl rfl) (fun _ _ _ => want_none rfl) fun ρ wx hc hx hp => hp.1 rfl
        · exact lb_vocb (.tmp 3) bk u rfl V8.out (fun ρ wx hp => want_of 2 true 57 rfl rfl (hp.1 rfl)) fun ρ wx hx hp => ⟨hx 3 rfl, rfl⟩
        · exact lb_move (.tmp 6) (.inl rfl) (fun ρ wx hp => want_of 2 true 57 rfl rfl (hp.1 rfl)) fun ρ wx hc hx hp => hx 6 rfl
        · refine lb_known _ _ _ (vocV y) (fun _ _ => by simp [go_sem]) rfl (fun ρ wx hp => want_of 2 true 57 rfl rfl (hp.2.2.1 rfl)) #[vocV u, .int .i64 q] (fun wq hb => by have h := im_skip u q wq; rwa [HY.out] at h) (fun ρ wx hc hx hp => ?_) (fun _ => rfl)
          have h58 : ρ (.tmp 58) = vocV u := hp.1 rfl
          have h59 : ρ (.tmp 59) = .int .i64 q := hp.2.1 rfl
          simp only [List.map_toArray, List.map_cons, List.map_nil, h58, h59]
        · exact lb_move (.tmp 4) (.inl rfl) (fun ρ wx hp => want_of 2 true 57 rfl rfl (hp.1 rfl)) fun ρ wx hc hx hp => hx 4 rfl
        · exact lb_move (.tmp 6) (.inl rfl) (fun ρ wx hp => want_of 2 true 57 rfl rfl (hp.1 rfl)) fun ρ wx hc hx hp => hx 6 rfl
        · refine lb_val (.int .i64 (n - q)) (fun ρ wx hp => want_of 2 true 57 rfl rfl (hp.2.2.1 rfl)) fun ρ wx hb hc hx hp => ⟨?_, rfl⟩
          have h61 : ρ (.tmp 61) = .int .i64 n := hp.1 rfl
          have h62 : ρ (.tmp 62) = .int .i64 q := hp.2.1 rfl
          have g1 := HW.out
          unfold execOp
          simp only [h61, h62]
          clear h61 h62 hx hp hc hb
          go_simp
        · refine lb_known _ _ _ (vocV z) (fun _ _ => by simp [go_sem]) rfl (fun ρ wx hp => want_of 2 true 57 rfl rfl (hp.2.2.2.1 rfl)) #[vocV y, .int .i64 (n - q)] (fun wq hb => by have h := im_skip y (n - q) wq; rwa [HYZ.out] at h) (fun ρ wx hc hx hp => ?_) (fun _ => rfl)
          have h60 : ρ (.tmp 60) = vocV y := hp.1 rfl
          have h63 : ρ (.tmp 63) = .int .i64 (n - q) := hp.2.1 rfl
          simp only [List.map_toArray, List.map_cons, List.map_nil, h60, h63]
        · exact lb_vocb (.tmp 5) bx z rfl Z8.out (fun ρ wx hp => want_of 2 true 57 rfl rfl (hp.1 rfl)) fun ρ wx hx hp => ⟨hx 5 rfl, rfl⟩
        · refine lb_val (.bool true) (fun ρ wx hp => want_of 2 true 57 rfl rfl (hp.2.2.1 rfl)) fun ρ wx hb hc hx hp => ⟨?_, rfl⟩
          have h64 : ρ (.tmp 64) = vocV z := hp.1 rfl
          have h65 : ρ (.tmp 65) = vocV z := hp.2.1 rfl
          unfold execOp
          simp only [h64, h65]
          clear h64 h65 hx hp hc hb
          go_simp
        · exact lb_pick (.tmp 57) (.tmp 66) (.const (.bool false)) rfl true (fun _ _ _ => want_none rfl) fun ρ wx hc hp => ⟨hp.1 rfl, hp.2.1 rfl⟩
        · exact lb_move (.tmp 67) (.inr rfl) (fun _ _ _ => want_none rfl) fun ρ wx hc hx hp => hp.1 rfl
      intro vs w9 hI hF
      obtain ⟨-, -, -, -, -, -, -, -, -, -, -, -, -, h13, -⟩ := hF
      replace h13 : vs 13 = .bool true := h13
      have bl : Below w8.heap.size w8 w9 := hI
      simp only [putAll, Act.put, List.setIfInBounds_toArray, List.set_cons_zero, List.set_cons_succ, h13]
      clear hI h13
      have B9 := Lib.hid (below_then B8.out bl)
      clear bl
      go_wp2_with fail
      go_ret
      exact ⟨rfl, B9.out⟩
  · have hs' : 1048576 < len0 := by omega
    go_enter Try.func5, Try.ntmps5
    go_wp2_with fail
    go_ret
    exact ⟨rfl, Below.refl _ _⟩
end Go.Proofs.Ytfbpnneegenhgaa
