/- The program's PlayVoice and MixVoices. -/
import Derived.Test.YtfbpnneegenhgaaVocC
namespace Go.Proofs.Ytfbpnneegenhgaa
open Go.ChangeShapes Go.WideShapes Go.ChangeAt Go.RowKit
set_option linter.unusedVariables false

theorem zeros_atV (N j : Nat) : (List.replicate N (0 : Int)).getD j 0 = 0 := by
  rw [List.getD_eq_getElem?_getD, List.getElem?_replicate]
  split <;> rfl
theorem addS_play (x : Voc) (N : Nat) : addS (List.replicate N 0) x N N = smp x N := by
  unfold addS smp
  refine List.map_congr_left fun j hj => ?_
  rw [zeros_atV, if_pos (List.mem_range.1 hj), Int.zero_add]
theorem addS_mix (L : List Int) (N k : Nat) : addS (mixS L N k) (vocK L k) N N = mixS L N (k + 1) := by
  unfold addS
  conv => rhs; unfold mixS
  refine List.map_congr_left fun j hj => ?_
  rw [mixS_at _ _ _ _ (List.mem_range.1 hj), if_pos (List.mem_range.1 hj)]
  rfl
theorem mixS_b {L : List Int} {m : Nat} (h : vocsB L m = true) (N k : Nat) (hk : k ≤ m) (hm : m ≤ 4) (j : Nat) : 0 ≤ (mixS L N k).getD j 0 ∧ (mixS L N k).getD j 0 ≤ 1000 := by
  by_cases hj : j < N
  · rw [mixS_at _ _ _ _ hj]
    have := mixAt_b h j k hk
    omega
  · rw [List.getD_eq_getElem?_getD, List.getElem?_eq_none (by rw [mixS_len]; omega)]
    exact ⟨Int.le_refl _, by simp⟩
theorem played_box {w w' : World} {n g : Nat} {t : TypeId} {xs : List Int} {v : Voc} (h : Box w' g t (iv xs)) (hl : xs.length = n) (hg : w.heap.size ≤ g) (hb : Below w.heap.size w w') : Played xs v w (.returned (.tuple #[.slice (some ⟨g, 0, none⟩) n n, vocV v])) w' := by
  subst hl
  obtain ⟨A', c', fp, he, h1, h2, h3, h4⟩ := copied_boxV h rfl hg hb
  injection he with he
  injection he with e1 e2 e3
  subst e1 e3
  exact ⟨_, _, fp, rfl, h1, h2, h3, h4⟩
set_option maxRecDepth 100000 in
set_option maxHeartbeats 4000000 in
theorem im_play (x : Voc) (n : Int) (w : World) : Calls Try.prog 19 #[vocV x, .int .i64 n] w (Played (playL x n) (playV x n) w) := by
  obtain ⟨w1, hw1⟩ : ∃ w1, w1 = (w.alloc (.cells #[.int .i64 x.l, .int .i64 x.h, .int .i64 x.v, .int .i64 x.s, .int .i64 x.e] 24)).alloc (.cells #[.int .i64 0, .int .i64 0, .int .i64 0, .int .i64 0, .int .i64 0] 24) := ⟨_, rfl⟩
  have X1 : Hid (Box w1 w.heap.size 24 (vcs x)) := Lib.hid (by rw [hw1]; exact (Box.new w _ _).alloc _)
  have Y1 : Hid (Box w1 (w.heap.size + 1) 24 (vcs .zero)) := Lib.hid (by rw [hw1]; exact Box.new_at _ _ _ _ (by simp))
  have B1 : Hid (Below w.heap.size w w1) := Lib.hid (by rw [hw1]; exact below2 w _ _)
  show Calls Try.prog 19 #[.agg #[.int .i64 x.l, .int .i64 x.h, .int .i64 x.v, .int .i64 x.s, .int .i64 x.e], .int .i64 n] w _
  go_enter Try.func19, Try.ntmps19
  go_upto_region 1 with (fail)
  rw [← hw1]
  clear hw1
  generalize hb0 : w.heap.size = b0 at X1 Y1 B1 ⊢
  have HB0 := Lib.hid hb0
  clear hb0
  go_wp2_with fail
  refine (im_isCount n _).mono ?_; rintro e' w' ⟨rfl, rfl⟩
  cases hn : betB n 0 400
  · have HT := Lib.hid (play_no (x := x) (n := n) (by unfold playB; rw [hn]; simp))
    clear hn
    go_wp2_with (first | (refine vo_store (by rfl) _ _ rfl (b0 + 1) rfl .zero rfl (vcs .zero) Y1.out rfl ?_))
    refine bodyPost_ret (voc_ret2 (u := .zero) (v := .slice none 0 0) rfl rfl rfl (Box.row Y1.out)) rfl ?_
    rw [HT.out.1, HT.out.2]
    exact ⟨none, 0, [], rfl, Nat.le_refl _, Ints.nil _ _, .nil _ _, by rw [HB0.out]; exact below_row B1.out (by omega) _⟩
  have HN := Lib.hid hn
  clear hn
  go_wp2_with (first | (refine vo_load (by rfl) _ rfl b0 rfl x X1.out ?_))
  refine (im_voiceValid x _).mono ?_; rintro e' w2 ⟨rfl, b2⟩
  have X2 := Lib.hid (X1.out.below b2)
  have Y2 := Lib.hid (Y1.out.below b2)
  have B2 := Lib.hid (below_via B1.out b2 (by have := X1.out.lt; omega))
  clear b2 X1 Y1 B1
  cases hv : vocB x
  · have HT := Lib.hid (play_no (x := x) (n := n) (by unfold playB; rw [hv]; rfl))
    clear hv
    go_wp2_with (first | (refine vo_store (by rfl) _ _ rfl (b0 + 1) rfl .zero rfl (vcs .zero) Y2.out rfl ?_))
    refine bodyPost_ret (voc_ret2 (u := .zero) (v := .slice none 0 0) rfl rfl rfl (Box.row Y2.out)) rfl ?_
    rw [HT.out.1, HT.out.2]
    exact ⟨none, 0, [], rfl, Nat.le_refl _, Ints.nil _ _, .nil _ _, by rw [HB0.out]; exact below_row B2.out (by omega) _⟩
  have HV := Lib.hid hv
  have HT := Lib.hid (play_yes (x := x) (n := n) (by unfold playB; rw [hv, HN.out]; rfl))
  clear hv
  obtain ⟨n0, n1⟩ := betB_iff.1 HN.out
  obtain ⟨N, rfl⟩ := Int.eq_ofNat_of_zero_le n0
  have hN : N ≤ 400 := by omega
  rw [Int.toNat_natCast] at HT
  clear n0 n1
  have hmk := run_make_ints N (by omega)
  have HPL := Lib.hid (addS_play x N)
  have HZA := Lib.hid (zeros_atV N)
  have HZL := Lib.hid (show (List.replicate N (0 : Int)).length = N by simp)
  generalize List.replicate N (0 : Int) = Z0 at hmk HPL HZA HZL
  obtain ⟨g, hg⟩ : ∃ g, g = w2.heap.size := ⟨_, rfl⟩
  obtain ⟨w3, hw3⟩ : ∃ w3, w3 = w2.alloc (.cells (iv Z0).toArray 3) := ⟨_, rfl⟩
  have X3 : Hid (Box w3 b0 24 (vcs x)) := Lib.hid (by rw [hw3]; exact X2.out.alloc _)
  have Y3 : Hid (Box w3 (b0 + 1) 24 (vcs .zero)) := Lib.hid (by rw [hw3]; exact Y2.out.alloc _)
  have R3 : Hid (Box w3 g 3 (iv Z0)) := Lib.hid (by rw [hw3, hg]; exact Box.new _ _ _)
  have B3 : Hid (Below b0 w w3) := Lib.hid (by rw [hw3]; exact B2.out.alloc (by have := X2.out.lt; omega) _)
  have HG : Hid (b0 + 1 < g) := Lib.hid (by rw [hg]; exact Y2.out.lt)
  go_upto_region 4 with (fail)
  rw [← hw3, ← hg]
  clear hw3 hg hmk X2 Y2 B2
  go_wp2_with (first | (refine vo_load (by rfl) _ rfl b0 rfl x X3.out ?_))
  refine (im_addTo x g N _ _ HV.out R3.out HZL.out hN (fun j => by rw [HZA.out]; omega)).mono ?_; rintro e' w4 ⟨rfl, hr, ho⟩
  rw [HPL.out] at hr
  have hgy : b0 + 1 ≠ g := by have := HG.out; omega
  have Y4 := Lib.hid (Y3.out.only ho (by simpa using hgy))
  have R4 := Lib.hid hr
  have B4 := Lib.hid (B3.out.trans (ho.below (B := b0) (fun b hb => by simp only [List.mem_singleton] at hb; subst hb; have := HG.out; omega) (by have := R3.out.lt; have := HG.out; omega)))
  clear hr ho X3 Y3 R3 B3 hgy
  obtain ⟨y, hy⟩ : ∃ y, adv x N = y := ⟨_, rfl⟩
  have HY := Lib.hid hy
  rw [hy]
  clear hy
  obtain ⟨b5, hb5⟩ : ∃ b5, b5 = w4.heap.size := ⟨_, rfl⟩
  obtain ⟨w5, hw5⟩ : ∃ w5, w5 = (w4.alloc (.cells #[.int .i64 0, .int .i64 0, .int .i64 0, .int .i64 0, .int .i64 0] 24)).setRow b5 (vcs y).toArray := ⟨_, rfl⟩
  have HZ : Hid (Box (w4.alloc (.cells #[.int .i64 0, .int .i64 0, .int .i64 0, .int .i64 0, .int .i64 0] 24)) b5 24 (vcs .zero)) := Lib.hid (by rw [hb5]; exact Box.new w4 _ _)
  have bl5 : Below w4.heap.size w4 w5 := by rw [hw5, hb5]; exact below_row (below1 w4 _) (Nat.le_refl _) _
  have T5 : Hid (Box w5 b5 24 (vcs y)) := Lib.hid (by rw [hw5]; exact Box.row HZ.out)
  have Y5 := Lib.hid (Y4.out.below bl5)
  have R5 := Lib.hid (R4.out.below bl5)
  have B5 := Lib.hid (below_via B4.out bl5 (by have := Y4.out.lt; omega))
  go_upto_region 5 with (first | (refine vo_store (by rfl) _ _ rfl b5 (by rw [hb5]; rfl) y rfl (vcs .zero) HZ.out rfl ?_))
  rw [← hb5, ← hw5]
  clear hw5 hb5 bl5 HZ Y4 R4 B4
  refine wp_region_end (by dsimp only [List.dropLast]) rfl (ClB w5) RlB (Ty [TV (.slice (some ⟨g, 0, none⟩) N N), TV (vocV y), TV (.slice (some ⟨g, 0, none⟩) N N)])
    (by kernel_rfl) (by kernel_rfl) (by kernel_rfl) (stab_ty _ ⟨stabB_k _, stabB_k _, stabB_k _, trivial⟩) (Below.refl _ _).drew ?_ ?_
  · refine ⟨?_, ?_, ?_, trivial⟩
    · exact lb_move (.tmp 6) (.inl rfl) (fun _ _ _ => want_none rfl) fun ρ wx hc hx hp => hx 6 rfl
    · refine lb_val (vocV y) (fun _ _ _ => want_none rfl) fun ρ wx hb hc hx hp => ⟨?_, rfl⟩
      exact exec_loadV (.tmp 7) wx b5 y rfl (hx 7 rfl) (T5.out.below hb)
    · exact lb_move (.tmp 22) (.inr rfl) (fun _ _ _ => want_none rfl) fun ρ wx hc hx hp => hp.1 rfl
  intro vs wx hI hF
  obtain ⟨-, h1, h2, -⟩ := hF
  replace h1 : vs 1 = vocV y := h1
  replace h2 : vs 2 = .slice (some ⟨g, 0, none⟩) N N := h2
  simp only [putAll, Act.put, List.setIfInBounds_toArray, List.set_cons_zero, List.set_cons_succ, h1, h2]
  have Y9 := Y5.out.below hI
  refine ⟨_, exec_storeV (.tmp 5) (.tmp 23) wx (b0 + 1) y rfl rfl rfl Y9 rfl, ?_⟩
  have R9 := Lib.hid ((R5.out.below hI).rowFar (g := b0 + 1) (ds := (vcs y).toArray) (by have := HG.out; omega))
  have Z9 := Lib.hid (Box.row (ds := vcs y) Y9)
  have B9 := Lib.hid (below_row (below_via B5.out hI (by have := Y5.out.lt; omega)) (g := b0 + 1) (by omega) (vcs y).toArray)
  generalize wx.setRow (b0 + 1) (vcs y).toArray = w9 at R9 Z9 B9 ⊢
  go_wp2_with fail
  refine bodyPost_ret (voc_ret2 (u := y) (v := .slice (some ⟨g, 0, none⟩) N N) rfl rfl rfl Z9.out) rfl ?_
  rw [HT.out.1, HT.out.2, HY.out]
  exact played_box R9.out (smp_len x N) (by rw [HB0.out]; have := HG.out; omega) (by rw [HB0.out]; exact B9.out)
set_option maxRecDepth 100000 in
set_option maxHeartbeats 4000000 in
theorem im_mix (A : Option Addr) (m c : Nat) (L : List Int) (fl : List Nat) (n : Int) (w : World) (hL : Ints w A (5 * m) L fl) (hm : m ≤ 1000000000) :
    Calls Try.prog 26 #[.slice A m c, .int .i64 n] w (Copied (mixT L m n) (mixT L m n).length w) := by
  have HLR : Hid (∀ W, Below w.heap.size w W → Ints W A (5 * m) L fl) := Lib.hid fun W h => hL.below h
  clear hL
  go_enter Try.func26, Try.ntmps26
  go_wp2_with fail
  refine (im_isCount n _).mono ?_; rintro e' w' ⟨rfl, rfl⟩
  cases hn : betB n 0 400
  · have HT := Lib.hid (mixT_no (L := L) (m := m) (n := n) (by unfold mixB; rw [hn]; simp))
    clear hn
    go_wp2_with fail
    go_ret
    rw [HT.out]
    exact ⟨_, 0, [], rfl, Nat.le_refl _, Ints.nil _ _, .nil _ _, Below.refl _ _⟩
  have HN := Lib.hid hn
  clear hn
  go_wp2_with fail
  refine (im_voices A m c L fl _ (HLR.out _ (Below.refl _ _)) hm).mono ?_; rintro e' w2 ⟨rfl, b2⟩
  have B2 := Lib.hid b2
  clear b2
  cases hv : (decide (m ≤ 4) && vocsB L m)
  · have HT := Lib.hid (mixT_no (L := L) (m := m) (n := n) (by unfold mixB; rw [Bool.and_eq_false_iff] at hv; rcases hv with h | h <;> rw [h] <;> simp))
    clear hv
    go_wp2_with fail
    go_ret
    rw [HT.out]
    exact ⟨_, 0, [], rfl, Nat.le_refl _, Ints.nil _ _, .nil _ _, B2.out⟩
  rw [Bool.and_eq_true, decide_eq_true_iff] at hv
  have HT := Lib.hid (mixT_yes (L := L) (m := m) (n := n) (by unfold mixB; rw [HN.out, hv.2]; simp [hv.1]))
  obtain ⟨hm4, hvs⟩ := hv
  have HVS := Lib.hid hvs
  obtain ⟨n0, n1⟩ := betB_iff.1 HN.out
  obtain ⟨N, rfl⟩ := Int.eq_ofNat_of_zero_le n0
  have hN : N ≤ 400 := by omega
  rw [Int.toNat_natCast] at HT
  clear n0 n1 hvs HN
  have hmk := run_make_ints N (by omega)
  rw [← mixS_zero L N] at hmk
  obtain ⟨g, hg⟩ : ∃ g, g = w2.heap.size := ⟨_, rfl⟩
  obtain ⟨w3, hw3⟩ : ∃ w3, w3 = w2.alloc (.cells (iv (mixS L N 0)).toArray 3) := ⟨_, rfl⟩
  have R3 : Hid (Box w3 g 3 (iv (mixS L N 0))) := Lib.hid (by rw [hw3, hg]; exact Box.new _ _ _)
  have B3 : Hid (Below w.heap.size w w3) := Lib.hid (by rw [hw3]; exact B2.out.alloc B2.out.size _)
  have HG : Hid (w.heap.size ≤ g) := Lib.hid (by rw [hg]; exact B2.out.size)
  go_upto_region 4 with (fail)
  rw [← hw3, ← hg]
  clear hw3 hg hmk B2
  go_wp2_with fail
  go_loopw [20] (fun i wr => ∃ k : Nat, k ≤ m ∧ i = .int .i64 k ∧ Box wr g 3 (iv (mixS L N k)) ∧ Below w.heap.size w wr) (fun i _ => m - (intOf i).toNat)
  case atStart => exact ⟨0, by omega, rfl, R3.out, B3.out⟩
  case round =>
    obtain ⟨k, hk, rfl, hx, hb⟩ := hrel
    have RR := Lib.hid hx
    have BR := Lib.hid hb
    clear hx hb R3 B3
    by_cases hkm : k < m
    · have hkm' : (k : Int) < (m : Int) := by omega
      have IL := HLR.out _ BR.out
      obtain ⟨p, o, rfl, _, _, hcz⟩ := IL.at_ (by omega)
      clear hcz
      have RG := Lib.hid (voc_range IL hkm)
      clear IL
      have HVY := Lib.hid (vocsB_iff.1 HVS.out k hkm)
      have HAD := Lib.hid (addS_mix L N k)
      generalize vocK L k = y at RG HVY HAD
      obtain ⟨b4, hb4⟩ : ∃ b4, b4 = wr.heap.size := ⟨_, rfl⟩
      obtain ⟨w4, hw4⟩ : ∃ w4, w4 = (wr.alloc (.cells #[.int .i64 0, .int .i64 0, .int .i64 0, .int .i64 0, .int .i64 0] 24)).setRow b4 (vcs y).toArray := ⟨_, rfl⟩
      have HN : Hid (Box (wr.alloc (.cells #[.int .i64 0, .int .i64 0, .int .i64 0, .int .i64 0, .int .i64 0] 24)) b4 24 (vcs .zero)) := Lib.hid (by rw [hb4]; exact Box.new _ _ _)
      have bl4 : Below wr.heap.size wr w4 := by rw [hw4, hb4]; exact below_row (below1 _ _) (Nat.le_refl _) _
      have X4 : Hid (Box w4 b4 24 (vcs y)) := Lib.hid (by rw [hw4]; exact Box.row HN.out)
      have B4 : Hid (Below w.heap.size w w4) := Lib.hid (below_via BR.out bl4 BR.out.size)
      have R4 := Lib.hid (RR.out.below bl4)
      go_upto_region 7 with (first | (refine vo_loadm (by rfl) _ rfl p (o + k * 5) rfl y RG.out ?_) | (refine vo_store (by rfl) _ _ rfl b4 (by rw [hb4]; rfl) y rfl (vcs .zero) HN.out rfl ?_))
      rw [← hb4, ← hw4]
      clear hw4 hb4 bl4 HN RG BR RR
      go_wp2_with (first | (refine vo_load (by rfl) _ rfl b4 rfl y X4.out ?_))
      refine (im_addTo y g N _ _ HVY.out R4.out (mixS_len _ _ _) hN (mixS_b HVS.out N k hk hm4)).mono ?_; rintro e' w5 ⟨rfl, hr, ho⟩
      rw [HAD.out] at hr
      have R5 := Lib.hid hr
      have B5 := Lib.hid (B4.out.trans (ho.below (B := w.heap.size) (fun b hb => by simp only [List.mem_singleton] at hb; subst hb; exact HG.out) B4.out.size))
      clear hr ho X4 B4 R4 HAD
      generalize adv y N = z
      go_wp2_with fail
      go_roundw
      case rel => exact ⟨k + 1, by omega, by go_num, R5.out, B5.out⟩
      case measure => simp [intOf]; omega
    · obtain rfl : k = m := by omega
      go_wp2_with fail
      go_ret
      rw [HT.out, mixS_len]
      exact copied_boxV RR.out (mixS_len _ _ _) HG.out BR.out
end Go.Proofs.Ytfbpnneegenhgaa
