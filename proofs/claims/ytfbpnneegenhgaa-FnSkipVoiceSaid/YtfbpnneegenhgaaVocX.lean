/- The exact laws of chapter 14, walked. -/
import Derived.Test.YtfbpnneegenhgaaVocN
import Derived.Test.YtfbpnneegenhgaaVocJ
import Derived.Test.YtfbpnneegenhgaaVocW
import Derived.Test.YtfbpnneegenhgaaVocI
namespace Go.Proofs.Ytfbpnneegenhgaa
open Go.ChangeShapes Go.WideShapes Go.ChangeAt Go.RowKit
set_option linter.unusedVariables false

section
variable {ops : Array Oper} {rest : List Oper} {o : Oper} {a : Act} {w : World} {Q : Exit → Act → World → Prop}
theorem vo_loadL {t : TypeId} (hw : Region.wanted o (yielded ops a.tmps) = true) (x : Operand) (ho : o.op = .load 43 x) (b : Nat) (hx : a.eval x = .pointer (some ⟨b, 0, none⟩)) (u : Voc) (hb : Box w b t (vcs u))
    (h : wpList Try.prog ops Q rest (a.put o.dst (vocV u)) w) : wpList Try.prog ops Q (o :: rest) a w :=
  wpList_step fun K hK => by
    rw [if_pos hw]
    exact wp_load_row _ x ho b hx t (vcs u).toArray (0, 0) _ hb Try.underlying43 rfl voc_infoL (hK _ _ h)
end
theorem playL_le (x : Voc) (n : Int) : (playL x n).length ≤ 400 := by
  cases h : playB x n
  · rw [(play_no h).1]; simp
  · rw [(play_yes h).1, smp_len]
    unfold playB at h
    rw [Bool.and_eq_true] at h
    have := betQ_iff.1 h.2
    omega
theorem mixT_le (L : List Int) (m : Nat) (n : Int) : (mixT L m n).length ≤ 400 := by
  cases h : mixB L m n
  · rw [mixT_no h]; simp
  · rw [mixT_yes h, mixS_len]
    unfold mixB at h
    rw [Bool.and_eq_true, Bool.and_eq_true] at h
    have := betQ_iff.1 h.1.2
    omega
set_option maxRecDepth 100000 in
set_option maxHeartbeats 4000000 in
theorem walk_FnExactVoiceValid (x : Voc) (w : World) : Calls Try.prog 9 #[vocV x] w fun e w' => e = .returned (.bool true) ∧ Below w.heap.size w w' := by
  have PB1 := Lib.hid (show Box _ _ _ (vcs x) from Box.new w #[.int .i64 x.l, .int .i64 x.h, .int .i64 x.v, .int .i64 x.s, .int .i64 x.e] 43)
  have BB1 := Lib.hid (below1 w (.cells #[.int .i64 x.l, .int .i64 x.h, .int .i64 x.v, .int .i64 x.s, .int .i64 x.e] 43))
  show Calls Try.prog 9 #[.agg #[.int .i64 x.l, .int .i64 x.h, .int .i64 x.v, .int .i64 x.s, .int .i64 x.e]] w _
  go_enter Try.func9, Try.ntmps9
  go_upto_region 1 with (fail)
  generalize w.alloc (.cells #[.int .i64 x.l, .int .i64 x.h, .int .i64 x.v, .int .i64 x.s, .int .i64 x.e] 43) = w1 at PB1 BB1 ⊢
  have HPL := Lib.hid PB1.out.lt
  go_wp2_with (first | (refine vo_loadL (by rfl) _ rfl w.heap.size rfl x PB1.out ?_))
  refine (to_voc x _).mono ?_; rintro e w2 ⟨rfl, bl⟩
  have PB2 := Lib.hid (PB1.out.below bl)
  have BB2 := Lib.hid (below_then BB1.out bl)
  have HZ1 := Lib.hid (bl.size)
  clear PB1 BB1 bl
  go_wp2_with fail
  refine (spec_voiceValid x _).mono ?_; rintro e w3 ⟨rfl, bl⟩
  have PB3 := Lib.hid (PB2.out.below bl)
  have BB3 := Lib.hid (below_then BB2.out bl)
  have HZ2 := Lib.hid (bl.size)
  clear PB2 BB2 bl
  obtain ⟨V, hV⟩ : ∃ V, vocB x = V := ⟨_, rfl⟩
  have HV := Lib.hid hV
  rw [hV]
  clear hV
  go_wp2_with (first | (refine vo_loadL (by rfl) _ rfl w.heap.size rfl x PB3.out ?_))
  refine (to_voc x _).mono ?_; rintro e w4 ⟨rfl, bl⟩
  have PB4 := Lib.hid (PB3.out.below bl)
  have BB4 := Lib.hid (below_then BB3.out bl)
  have HZ3 := Lib.hid (bl.size)
  clear PB3 BB3 bl
  go_wp2_with fail
  refine (im_voiceValid x _).mono ?_; rintro e w5 ⟨rfl, bl⟩
  have PB5 := Lib.hid (PB4.out.below bl)
  have BB5 := Lib.hid (below_then BB4.out bl)
  have HZ4 := Lib.hid (bl.size)
  clear PB4 BB4 bl
  rw [HV.out]
  clear HV
  cases V
  all_goals
    go_wp2_with fail
    go_ret
    exact ⟨rfl, BB5.out⟩
set_option maxRecDepth 100000 in
set_option maxHeartbeats 4000000 in
theorem walk_FnExactSkipVoice (x : Voc) (n : Int) (w : World) : Calls Try.prog 11 #[vocV x, .int .i64 n] w fun e w' => e = .returned (.bool true) ∧ Below w.heap.size w w' := by
  have PB1 := Lib.hid (show Box _ _ _ (vcs x) from Box.new w #[.int .i64 x.l, .int .i64 x.h, .int .i64 x.v, .int .i64 x.s, .int .i64 x.e] 43)
  have BB1 := Lib.hid (below1 w (.cells #[.int .i64 x.l, .int .i64 x.h, .int .i64 x.v, .int .i64 x.s, .int .i64 x.e] 43))
  show Calls Try.prog 11 #[.agg #[.int .i64 x.l, .int .i64 x.h, .int .i64 x.v, .int .i64 x.s, .int .i64 x.e], .int .i64 n] w _
  go_enter Try.func11, Try.ntmps11
  go_upto_region 1 with (fail)
  generalize w.alloc (.cells #[.int .i64 x.l, .int .i64 x.h, .int .i64 x.v, .int .i64 x.s, .int .i64 x.e] 43) = w1 at PB1 BB1 ⊢
  have HPL := Lib.hid PB1.out.lt
  obtain ⟨z, hz⟩ : ∃ z, skipT x n = z := ⟨_, rfl⟩
  have HV := Lib.hid hz
  clear hz
  go_wp2_with (first | (refine vo_loadL (by rfl) _ rfl w.heap.size rfl x PB1.out ?_))
  refine (to_voc x _).mono ?_; rintro e w2 ⟨rfl, bl⟩
  have PB2 := Lib.hid (PB1.out.below bl)
  have BB2 := Lib.hid (below_then BB1.out bl)
  have HZ1 := Lib.hid (bl.size)
  clear PB1 BB1 bl
  go_wp2_with fail
  refine (spec_skip x n _).mono ?_; rw [HV.out]; rintro e w3 ⟨rfl, bl⟩
  have PB3 := Lib.hid (PB2.out.below bl)
  have BB3 := Lib.hid (below_then BB2.out bl)
  have HZ2 := Lib.hid (bl.size)
  clear PB2 BB2 bl
  obtain ⟨bw, hbw⟩ : ∃ b, b = w3.heap.size := ⟨_, rfl⟩
  obtain ⟨w4, hw4⟩ : ∃ W, W = (w3.alloc (.cells #[.int .i64 0, .int .i64 0, .int .i64 0, .int .i64 0, .int .i64 0] 24)).setRow bw (vcs z).toArray := ⟨_, rfl⟩
  have bl : Below w3.heap.size w3 w4 := by rw [hw4, hbw]; exact below_row (below1 _ _) (Nat.le_refl _) _
  have HNbw : Hid (Box (w3.alloc (.cells #[.int .i64 0, .int .i64 0, .int .i64 0, .int .i64 0, .int .i64 0] 24)) bw 24 (vcs .zero)) := Lib.hid (by rw [hbw]; exact Box.new _ _ _)
  have HTbw : Hid (Box w4 bw 24 (vcs z)) := Lib.hid (by rw [hw4]; exact Box.row HNbw.out)
  go_upto_region 2 with (first | (refine vo_store (by rfl) _ _ rfl bw (by rw [hbw]; rfl) z rfl (vcs .zero) HNbw.out rfl ?_))
  rw [← hbw, ← hw4]
  have HLbw := Lib.hid HTbw.out.lt
  clear hw4 hbw HNbw
  have PB4 := Lib.hid (PB3.out.below bl)
  have BB4 := Lib.hid (below_then BB3.out bl)
  have HZ3 := Lib.hid (bl.size)
  clear PB3 BB3 bl
  have WB4 := Lib.hid (HTbw.out)
  clear HTbw
  go_wp2_with (first | (refine vo_loadL (by rfl) _ rfl w.heap.size rfl x PB4.out ?_) | (refine vo_load (by rfl) _ rfl bw rfl z WB4.out ?_))
  refine (to_voc x _).mono ?_; rintro e w5 ⟨rfl, bl⟩
  have PB5 := Lib.hid (PB4.out.below bl)
  have BB5 := Lib.hid (below_then BB4.out bl)
  have WB5 := Lib.hid (WB4.out.below bl)
  have HZ4 := Lib.hid (bl.size)
  clear PB4 BB4 WB4 bl
  go_wp2_with fail
  refine (im_skip x n _).mono ?_; rw [HV.out]; rintro e w6 ⟨rfl, bl⟩
  have PB6 := Lib.hid (PB5.out.below bl)
  have BB6 := Lib.hid (below_then BB5.out bl)
  have WB6 := Lib.hid (WB5.out.below bl)
  have HZ5 := Lib.hid (bl.size)
  clear PB5 BB5 WB5 bl
  obtain ⟨bg, hbg⟩ : ∃ b, b = w6.heap.size := ⟨_, rfl⟩
  obtain ⟨w7, hw7⟩ : ∃ W, W = (w6.alloc (.cells #[.int .i64 0, .int .i64 0, .int .i64 0, .int .i64 0, .int .i64 0] 24)).setRow bg (vcs z).toArray := ⟨_, rfl⟩
  have bl : Below w6.heap.size w6 w7 := by rw [hw7, hbg]; exact below_row (below1 _ _) (Nat.le_refl _) _
  have HNbg : Hid (Box (w6.alloc (.cells #[.int .i64 0, .int .i64 0, .int .i64 0, .int .i64 0, .int .i64 0] 24)) bg 24 (vcs .zero)) := Lib.hid (by rw [hbg]; exact Box.new _ _ _)
  have HTbg : Hid (Box w7 bg 24 (vcs z)) := Lib.hid (by rw [hw7]; exact Box.row HNbg.out)
  go_upto_region 3 with (first | (refine vo_store (by rfl) _ _ rfl bg (by rw [hbg]; rfl) z rfl (vcs .zero) HNbg.out rfl ?_))
  rw [← hbg, ← hw7]
  have HLbg := Lib.hid HTbg.out.lt
  clear hw7 hbg HNbg
  have PB7 := Lib.hid (PB6.out.below bl)
  have BB7 := Lib.hid (below_then BB6.out bl)
  have WB7 := Lib.hid (WB6.out.below bl)
  have HZ6 := Lib.hid (bl.size)
  clear PB6 BB6 WB6 bl
  have GB7 := Lib.hid (HTbg.out)
  clear HTbg
  go_wp2_with (first | (refine vo_loadL (by rfl) _ rfl w.heap.size rfl x PB7.out ?_) | (refine vo_load (by rfl) _ rfl bw rfl z WB7.out ?_) | (refine vo_load (by rfl) _ rfl bg rfl z GB7.out ?_))
  refine (eq_voc z _).mono ?_; rintro e w8 ⟨rfl, bl⟩
  have PB8 := Lib.hid (PB7.out.below bl)
  have BB8 := Lib.hid (below_then BB7.out bl)
  have WB8 := Lib.hid (WB7.out.below bl)
  have GB8 := Lib.hid (GB7.out.below bl)
  have HZ7 := Lib.hid (bl.size)
  clear PB7 BB7 WB7 GB7 bl
  go_wp2_with fail
  go_ret
  exact ⟨rfl, BB8.out⟩
set_option maxRecDepth 100000 in
set_option maxHeartbeats 4000000 in
theorem walk_FnExactFadeVolume (a b c : Int) (w : World) : Calls Try.prog 13 #[.int .i64 a, .int .i64 b, .int .i64 c] w fun e w' => e = .returned (.bool true) ∧ Below w.heap.size w w' := by
  go_enter Try.func13, Try.ntmps13
  go_wp2_with fail
  refine (spec_fade a b c _).mono ?_; rintro e w' ⟨rfl, rfl⟩
  obtain ⟨V, hV⟩ : ∃ V, fadeT a b c = V := ⟨_, rfl⟩
  have HV := Lib.hid hV
  rw [hV]
  clear hV
  go_wp2_with fail
  refine (im_fade a b c _).mono ?_; rw [HV.out]; rintro e w2 ⟨rfl, bl⟩
  have B2 := Lib.hid bl
  clear bl
  go_wp2_with fail
  go_ret
  exact ⟨rfl, B2.out⟩
set_option maxRecDepth 100000 in
set_option maxHeartbeats 4000000 in
theorem walk_FnExactPlayVoice (x : Voc) (n : Int) (w : World) : Calls Try.prog 10 #[vocV x, .int .i64 n] w fun e w' => e = .returned (.bool true) ∧ Below w.heap.size w w' := by
  have PB1 := Lib.hid (show Box _ _ _ (vcs x) from Box.new w #[.int .i64 x.l, .int .i64 x.h, .int .i64 x.v, .int .i64 x.s, .int .i64 x.e] 43)
  have BB1 := Lib.hid (below1 w (.cells #[.int .i64 x.l, .int .i64 x.h, .int .i64 x.v, .int .i64 x.s, .int .i64 x.e] 43))
  show Calls Try.prog 10 #[.agg #[.int .i64 x.l, .int .i64 x.h, .int .i64 x.v, .int .i64 x.s, .int .i64 x.e], .int .i64 n] w _
  go_enter Try.func10, Try.ntmps10
  go_upto_region 1 with (fail)
  generalize w.alloc (.cells #[.int .i64 x.l, .int .i64 x.h, .int .i64 x.v, .int .i64 x.s, .int .i64 x.e] 43) = w1 at PB1 BB1 ⊢
  have HPL := Lib.hid PB1.out.lt
  obtain ⟨z, hz⟩ : ∃ z, playV x n = z := ⟨_, rfl⟩
  have HV := Lib.hid hz
  clear hz
  have q4 := playL_le x n
  obtain ⟨X, hX⟩ : ∃ X, playL x n = X := ⟨_, rfl⟩
  have HX := Lib.hid hX
  rw [hX] at q4
  clear hX
  go_wp2_with (first | (refine vo_loadL (by rfl) _ rfl w.heap.size rfl x PB1.out ?_))
  refine (to_voc x _).mono ?_; rintro e w2 ⟨rfl, bl⟩
  have PB2 := Lib.hid (PB1.out.below bl)
  have BB2 := Lib.hid (below_then BB1.out bl)
  have HZ1 := Lib.hid (bl.size)
  clear PB1 BB1 bl
  go_wp2_with fail
  refine (spec_play x n _).mono ?_; rw [HX.out, HV.out]; rintro e w3 ⟨Aw, cw, fw, rfl, hcw, hsw, hnw, bl⟩
  have Rw := Lib.hid (fun b (hb : b ∈ fw) => hnw.lt b hb)
  have PB3 := Lib.hid (PB2.out.below bl)
  have BB3 := Lib.hid (below_then BB2.out bl)
  have HZ2 := Lib.hid (bl.size)
  clear PB2 BB2 bl
  have Iw3 := Lib.hid (hsw)
  clear hsw hnw hcw
  obtain ⟨bw, hbw⟩ : ∃ b, b = w3.heap.size := ⟨_, rfl⟩
  obtain ⟨w4, hw4⟩ : ∃ W, W = (w3.alloc (.cells #[.int .i64 0, .int .i64 0, .int .i64 0, .int .i64 0, .int .i64 0] 24)).setRow bw (vcs z).toArray := ⟨_, rfl⟩
  have bl : Below w3.heap.size w3 w4 := by rw [hw4, hbw]; exact below_row (below1 _ _) (Nat.le_refl _) _
  have HNbw : Hid (Box (w3.alloc (.cells #[.int .i64 0, .int .i64 0, .int .i64 0, .int .i64 0, .int .i64 0] 24)) bw 24 (vcs .zero)) := Lib.hid (by rw [hbw]; exact Box.new _ _ _)
  have HTbw : Hid (Box w4 bw 24 (vcs z)) := Lib.hid (by rw [hw4]; exact Box.row HNbw.out)
  go_upto_region 2 with (first | (refine vo_store (by rfl) _ _ rfl bw (by rw [hbw]; rfl) z rfl (vcs .zero) HNbw.out rfl ?_))
  rw [← hbw, ← hw4]
  have HLbw := Lib.hid HTbw.out.lt
  clear hw4 hbw HNbw
  have PB4 := Lib.hid (PB3.out.below bl)
  have BB4 := Lib.hid (below_then BB3.out bl)
  have Iw4 := Lib.hid (Iw3.out.below bl)
  have HZ3 := Lib.hid (bl.size)
  clear PB3 BB3 Iw3 bl
  have WB4 := Lib.hid (HTbw.out)
  clear HTbw
  go_wp2_with (first | (refine vo_loadL (by rfl) _ rfl w.heap.size rfl x PB4.out ?_) | (refine vo_load (by rfl) _ rfl bw rfl z WB4.out ?_))
  refine (to_voc x _).mono ?_; rintro e w5 ⟨rfl, bl⟩
  have PB5 := Lib.hid (PB4.out.below bl)
  have BB5 := Lib.hid (below_then BB4.out bl)
  have Iw5 := Lib.hid (Iw4.out.below bl)
  have WB5 := Lib.hid (WB4.out.below bl)
  have HZ4 := Lib.hid (bl.size)
  clear PB4 BB4 Iw4 WB4 bl
  go_wp2_with fail
  refine (im_play x n _).mono ?_; rw [HX.out, HV.out]; rintro e w6 ⟨Ag, cg, fg, rfl, hcg, hsg, hng, bl⟩
  have Rg := Lib.hid (fun b (hb : b ∈ fg) => hng.lt b hb)
  have PB6 := Lib.hid (PB5.out.below bl)
  have BB6 := Lib.hid (below_then BB5.out bl)
  have Iw6 := Lib.hid (Iw5.out.below bl)
  have WB6 := Lib.hid (WB5.out.below bl)
  have HZ5 := Lib.hid (bl.size)
  clear PB5 BB5 Iw5 WB5 bl
  have Ig6 := Lib.hid (hsg)
  have Ng6 := Lib.hid (hng)
  clear hsg hng hcg
  obtain ⟨bg, hbg⟩ : ∃ b, b = w6.heap.size := ⟨_, rfl⟩
  obtain ⟨w7, hw7⟩ : ∃ W, W = (w6.alloc (.cells #[.int .i64 0, .int .i64 0, .int .i64 0, .int .i64 0, .int .i64 0] 24)).setRow bg (vcs z).toArray := ⟨_, rfl⟩
  have bl : Below w6.heap.size w6 w7 := by rw [hw7, hbg]; exact below_row (below1 _ _) (Nat.le_refl _) _
  have HNbg : Hid (Box (w6.alloc (.cells #[.int .i64 0, .int .i64 0, .int .i64 0, .int .i64 0, .int .i64 0] 24)) bg 24 (vcs .zero)) := Lib.hid (by rw [hbg]; exact Box.new _ _ _)
  have HTbg : Hid (Box w7 bg 24 (vcs z)) := Lib.hid (by rw [hw7]; exact Box.row HNbg.out)
  go_upto_region 3 with (first | (refine vo_store (by rfl) _ _ rfl bg (by rw [hbg]; rfl) z rfl (vcs .zero) HNbg.out rfl ?_))
  rw [← hbg, ← hw7]
  have HLbg := Lib.hid HTbg.out.lt
  clear hw7 hbg HNbg
  have PB7 := Lib.hid (PB6.out.below bl)
  have BB7 := Lib.hid (below_then BB6.out bl)
  have Iw7 := Lib.hid (Iw6.out.below bl)
  have WB7 := Lib.hid (WB6.out.below bl)
  have Ig7 := Lib.hid (Ig6.out.below bl)
  have Ng7 := Lib.hid (Ng6.out.keep (.of_below bl))
  have HZ6 := Lib.hid (bl.size)
  clear PB6 BB6 Iw6 WB6 Ig6 Ng6 bl
  have GB7 := Lib.hid (HTbg.out)
  clear HTbg
  go_wp2_with fail
  refine (eq_ints Ag Aw X.length cg cw X fg fw _ Ig7.out Iw7.out (by omega)).mono ?_; rintro e w8 ⟨rfl, qq, hqq⟩
  have bl : Below w7.heap.size w7 w8 := by rw [hqq]; exact below_drewN (Below.refl _ _) _
  clear hqq
  have PB8 := Lib.hid (PB7.out.below bl)
  have BB8 := Lib.hid (below_then BB7.out bl)
  have Iw8 := Lib.hid (Iw7.out.below bl)
  have WB8 := Lib.hid (WB7.out.below bl)
  have Ig8 := Lib.hid (Ig7.out.below bl)
  have Ng8 := Lib.hid (Ng7.out.keep (.of_below bl))
  have GB8 := Lib.hid (GB7.out.below bl)
  have HZ7 := Lib.hid (bl.size)
  clear PB7 BB7 Iw7 WB7 Ig7 Ng7 GB7 bl
  go_wp2_with (first | (refine vo_loadL (by rfl) _ rfl w.heap.size rfl x PB8.out ?_) | (refine vo_load (by rfl) _ rfl bw rfl z WB8.out ?_) | (refine vo_load (by rfl) _ rfl bg rfl z GB8.out ?_))
  refine (eq_voc z _).mono ?_; rintro e w9 ⟨rfl, bl⟩
  have PB9 := Lib.hid (PB8.out.below bl)
  have BB9 := Lib.hid (below_then BB8.out bl)
  have Iw9 := Lib.hid (Iw8.out.below bl)
  have WB9 := Lib.hid (WB8.out.below bl)
  have Ig9 := Lib.hid (Ig8.out.below bl)
  have Ng9 := Lib.hid (Ng8.out.keep (.of_below bl))
  have HZ8 := Lib.hid (bl.size)
  clear PB8 BB8 Iw8 WB8 Ig8 Ng8 bl
  go_wp2_with fail
  refine (mark_ints Ag X.length cg 1 X fg _ Ig9.out (fun b hb o => Ng9.out.free b hb o) (by omega) (by omega) (by omega)).mono ?_; rintro e w10 ⟨rfl, o, hig, frg⟩
  have HZ9 := Lib.hid (o.size)
  have Iw10 := Lib.hid (Iw9.out.keep (.of_only o fun b hb hx => by have h1 := Rw.out b hb; have h2 := Rg.out b hx; have z3 := HZ3.out; have z4 := HZ4.out; omega))
  have PB10 := Lib.hid (PB9.out.only o fun hx => by have h1 := Rg.out _ hx; have h3 := HPL.out; have z1 := HZ1.out; have z2 := HZ2.out; have z3 := HZ3.out; have z4 := HZ4.out; omega)
  have WB10 := Lib.hid (WB9.out.only o fun hx => by have h1 := Rg.out _ hx; have h3 := HLbw.out; have z4 := HZ4.out; omega)
  have BB10 := Lib.hid (BB9.out.trans (o.below (fun b hb => by have h1 := Rg.out b hb; have h3 := HPL.out; have z1 := HZ1.out; have z2 := HZ2.out; have z3 := HZ3.out; have z4 := HZ4.out; omega) BB9.out.size))
  clear o PB9 BB9 Iw9 WB9 Ig9 Ng9
  have Ig10 := Lib.hid (hig)
  clear hig frg
  have hn1 : 0 ≤ (1 : Int) + X.length := by omega
  go_wp2_with fail
  refine (held_ints Ag X.length cg 1 fg _ Ig10.out (by omega) (by omega) (by omega)).mono ?_; rintro e w11 ⟨rfl, rfl⟩
  go_wp2_with (first | (refine vo_loadL (by rfl) _ rfl w.heap.size rfl x PB10.out ?_) | (refine vo_load (by rfl) _ rfl bw rfl z WB10.out ?_))
  refine (to_voc x _).mono ?_; rintro e w11 ⟨rfl, bl⟩
  have PB11 := Lib.hid (PB10.out.below bl)
  have WB11 := Lib.hid (WB10.out.below bl)
  have BB11 := Lib.hid (below_then BB10.out bl)
  have Iw11 := Lib.hid (Iw10.out.below bl)
  have Ig11 := Lib.hid (Ig10.out.below bl)
  have HZ10 := Lib.hid (bl.size)
  clear PB10 WB10 BB10 Iw10 Ig10 bl
  go_wp2_with fail
  refine (im_play x n _).mono ?_; rw [HX.out, HV.out]; rintro e w12 ⟨Ah, ch, fh, rfl, hch, hsh, hnh, bl⟩
  have Rh := Lib.hid (fun b (hb : b ∈ fh) => hnh.lt b hb)
  have PB12 := Lib.hid (PB11.out.below bl)
  have WB12 := Lib.hid (WB11.out.below bl)
  have BB12 := Lib.hid (below_then BB11.out bl)
  have Iw12 := Lib.hid (Iw11.out.below bl)
  have Ig12 := Lib.hid (Ig11.out.below bl)
  have HZ11 := Lib.hid (bl.size)
  clear PB11 WB11 BB11 Iw11 Ig11 bl
  have Ih12 := Lib.hid (hsh)
  clear hsh hnh hch
  obtain ⟨bh, hbh⟩ : ∃ b, b = w12.heap.size := ⟨_, rfl⟩
  obtain ⟨w13, hw13⟩ : ∃ W, W = (w12.alloc (.cells #[.int .i64 0, .int .i64 0, .int .i64 0, .int .i64 0, .int .i64 0] 24)).setRow bh (vcs z).toArray := ⟨_, rfl⟩
  have bl : Below w12.heap.size w12 w13 := by rw [hw13, hbh]; exact below_row (below1 _ _) (Nat.le_refl _) _
  have HNbh : Hid (Box (w12.alloc (.cells #[.int .i64 0, .int .i64 0, .int .i64 0, .int .i64 0, .int .i64 0] 24)) bh 24 (vcs .zero)) := Lib.hid (by rw [hbh]; exact Box.new _ _ _)
  have HTbh : Hid (Box w13 bh 24 (vcs z)) := Lib.hid (by rw [hw13]; exact Box.row HNbh.out)
  go_upto_region 14 with (first | (refine vo_store (by rfl) _ _ rfl bh (by rw [hbh]; rfl) z rfl (vcs .zero) HNbh.out rfl ?_))
  rw [← hbh, ← hw13]
  have HLbh := Lib.hid HTbh.out.lt
  clear hw13 hbh HNbh
  have PB13 := Lib.hid (PB12.out.below bl)
  have WB13 := Lib.hid (WB12.out.below bl)
  have BB13 := Lib.hid (below_then BB12.out bl)
  have Iw13 := Lib.hid (Iw12.out.below bl)
  have Ig13 := Lib.hid (Ig12.out.below bl)
  have Ih13 := Lib.hid (Ih12.out.below bl)
  have HZ12 := Lib.hid (bl.size)
  clear PB12 WB12 BB12 Iw12 Ig12 Ih12 bl
  have HB13 := Lib.hid (HTbh.out)
  clear HTbh
  go_wp2_with fail
  refine (eq_ints Ah Aw X.length ch cw X fh fw _ Ih13.out Iw13.out (by omega)).mono ?_; rintro e w14 ⟨rfl, qq, hqq⟩
  have bl : Below w13.heap.size w13 w14 := by rw [hqq]; exact below_drewN (Below.refl _ _) _
  clear hqq
  have PB14 := Lib.hid (PB13.out.below bl)
  have WB14 := Lib.hid (WB13.out.below bl)
  have BB14 := Lib.hid (below_then BB13.out bl)
  have Iw14 := Lib.hid (Iw13.out.below bl)
  have Ig14 := Lib.hid (Ig13.out.below bl)
  have Ih14 := Lib.hid (Ih13.out.below bl)
  have HB14 := Lib.hid (HB13.out.below bl)
  have HZ13 := Lib.hid (bl.size)
  clear PB13 WB13 BB13 Iw13 Ig13 Ih13 HB13 bl
  go_wp2_with (first | (refine vo_loadL (by rfl) _ rfl w.heap.size rfl x PB14.out ?_) | (refine vo_load (by rfl) _ rfl bw rfl z WB14.out ?_) | (refine vo_load (by rfl) _ rfl bh rfl z HB14.out ?_))
  refine (eq_voc z _).mono ?_; rintro e w15 ⟨rfl, bl⟩
  have PB15 := Lib.hid (PB14.out.below bl)
  have WB15 := Lib.hid (WB14.out.below bl)
  have BB15 := Lib.hid (below_then BB14.out bl)
  have Iw15 := Lib.hid (Iw14.out.below bl)
  have Ig15 := Lib.hid (Ig14.out.below bl)
  have Ih15 := Lib.hid (Ih14.out.below bl)
  have HB15 := Lib.hid (HB14.out.below bl)
  have HZ14 := Lib.hid (bl.size)
  clear PB14 WB14 BB14 Iw14 Ig14 Ih14 HB14 bl
  go_wp2_with fail
  refine (held_ints Ag X.length cg 1 fg _ Ig15.out (by omega) (by omega) (by omega)).mono ?_; rintro e w16 ⟨rfl, rfl⟩
  go_wp2_with fail
  go_ret
  exact ⟨rfl, BB15.out⟩
set_option maxRecDepth 100000 in
set_option maxHeartbeats 4000000 in
theorem walk_FnExactMixVoices (Al : Option Addr) (n c' : Nat) (L : List Int) (y : Int) (w : World) (hin : InVocs w Al n L) : Calls Try.prog 12 #[.slice Al n c', .int .i64 y] w fun e w' => e = .returned (.bool true) ∧ Below w.heap.size w w' := by
  obtain ⟨hn, fl, hL⟩ := hin
  have HLR : Hid (∀ W, Below w.heap.size w W → Ints W Al (5 * n) L fl) := Lib.hid fun W h => hL.below h
  clear hL
  go_enter Try.func12, Try.ntmps12
  go_wp2_with fail
  by_cases hsz : (n : Int) ≤ 1048576
  · refine (sz_vocs_yes Al n c' 1048576 _ hsz (by omega)).mono ?_; rintro e w' ⟨rfl, rfl⟩
    have hl0 : 0 ≤ 1048576 - (n : Int) := by omega
    obtain ⟨lf, hlf⟩ : ∃ lf, 1048576 - (n : Int) = lf := ⟨_, rfl⟩
    rw [hlf] at hl0 ⊢
    have hn9 : n ≤ 1000000000 := by omega
    have hn2 : n ≤ 1048576 := by omega
    clear hlf hsz hn
    have BB0 := Lib.hid (Below.refl w.heap.size w)
    obtain ⟨q, hq⟩ : ∃ q, (mixT L n y).length = q := ⟨_, rfl⟩
    have q4 : q ≤ 400 := by rw [← hq]; exact mixT_le L n y
    have HN := Lib.hid hq
    clear hq
    obtain ⟨X, hX⟩ : ∃ X, mixT L n y = X := ⟨_, rfl⟩
    have HX := Lib.hid hX
    clear hX
    go_wp2_with fail
    refine (to_vocs Al n c' L fl _ (HLR.out _ BB0.out) hn9).mono ?_; rintro e w1 ⟨Au, cu, fu, rfl, hcu, hsu, hnu, bl⟩
    have Ru := Lib.hid (fun b (hb : b ∈ fu) => hnu.lt b hb)
    have BB1 := Lib.hid (below_then BB0.out bl)
    have HZ0 := Lib.hid (bl.size)
    clear BB0 bl
    have Su1 := Lib.hid (hsu)
    clear hsu hnu hcu
    go_wp2_with fail
    refine (spec_mix Au n cu L fu y _ Su1.out hn9).mono ?_; rw [HN.out, HX.out]; rintro e w2 ⟨Aw, cw, fw, rfl, hcw, hsw, hnw, bl⟩
    have Rw := Lib.hid (fun b (hb : b ∈ fw) => hnw.lt b hb)
    have BB2 := Lib.hid (below_then BB1.out bl)
    have Su2 := Lib.hid (Su1.out.below bl)
    have HZ1 := Lib.hid (bl.size)
    clear BB1 Su1 bl
    have Iw2 := Lib.hid (hsw)
    clear hsw hnw hcw
    go_wp2_with fail
    refine (to_vocs Al n c' L fl _ (HLR.out _ BB2.out) hn9).mono ?_; rintro e w3 ⟨At, ct, ft, rfl, hct, hst, hnt, bl⟩
    have Rt := Lib.hid (fun b (hb : b ∈ ft) => hnt.lt b hb)
    have BB3 := Lib.hid (below_then BB2.out bl)
    have Iw3 := Lib.hid (Iw2.out.below bl)
    have HZ2 := Lib.hid (bl.size)
    clear BB2 Iw2 bl
    have St3 := Lib.hid (hst)
    have Nt3 := Lib.hid (hnt)
    clear hst hnt hct
    go_wp2_with fail
    refine (im_mix At n ct L ft y _ St3.out hn9).mono ?_; rw [HN.out, HX.out]; rintro e w4 ⟨Ag, cg, fg, rfl, hcg, hsg, hng, bl⟩
    have Rg := Lib.hid (fun b (hb : b ∈ fg) => hng.lt b hb)
    have BB4 := Lib.hid (below_then BB3.out bl)
    have Iw4 := Lib.hid (Iw3.out.below bl)
    have St4 := Lib.hid (St3.out.below bl)
    have Nt4 := Lib.hid (Nt3.out.keep (.of_below bl))
    have HZ3 := Lib.hid (bl.size)
    clear BB3 Iw3 St3 Nt3 bl
    have Ig4 := Lib.hid (hsg)
    have Ng4 := Lib.hid (hng)
    clear hsg hng hcg
    go_wp2_with fail
    refine (eq_ints Ag Aw q cg cw X fg fw _ Ig4.out Iw4.out (by omega)).mono ?_; rintro e w5 ⟨rfl, qq, hqq⟩
    have bl : Below w4.heap.size w4 w5 := by rw [hqq]; exact below_drewN (Below.refl _ _) _
    clear hqq
    have BB5 := Lib.hid (below_then BB4.out bl)
    have Iw5 := Lib.hid (Iw4.out.below bl)
    have St5 := Lib.hid (St4.out.below bl)
    have Nt5 := Lib.hid (Nt4.out.keep (.of_below bl))
    have Ig5 := Lib.hid (Ig4.out.below bl)
    have Ng5 := Lib.hid (Ng4.out.keep (.of_below bl))
    have HZ4 := Lib.hid (bl.size)
    clear BB4 Iw4 St4 Nt4 Ig4 Ng4 bl
    go_wp2_with fail
    refine (to_vocs Al n c' L fl _ (HLR.out _ BB5.out) hn9).mono ?_; rintro e w6 ⟨Ap, cp, fp, rfl, hcp, hsp, hnp, bl⟩
    have Rp := Lib.hid (fun b (hb : b ∈ fp) => hnp.lt b hb)
    have BB6 := Lib.hid (below_then BB5.out bl)
    have Iw6 := Lib.hid (Iw5.out.below bl)
    have St6 := Lib.hid (St5.out.below bl)
    have Nt6 := Lib.hid (Nt5.out.keep (.of_below bl))
    have Ig6 := Lib.hid (Ig5.out.below bl)
    have Ng6 := Lib.hid (Ng5.out.keep (.of_below bl))
    have HZ5 := Lib.hid (bl.size)
    clear BB5 Iw5 St5 Nt5 Ig5 Ng5 bl
    have Sp6 := Lib.hid (hsp)
    clear hsp hnp hcp
    go_wp2_with fail
    refine (eq_vocs At Ap n ct cp L ft fp _ St6.out Sp6.out hn9).mono ?_; rintro e w7 ⟨rfl, bl⟩
    have BB7 := Lib.hid (below_then BB6.out bl)
    have Iw7 := Lib.hid (Iw6.out.below bl)
    have St7 := Lib.hid (St6.out.below bl)
    have Nt7 := Lib.hid (Nt6.out.keep (.of_below bl))
    have Ig7 := Lib.hid (Ig6.out.below bl)
    have Ng7 := Lib.hid (Ng6.out.keep (.of_below bl))
    have HZ6 := Lib.hid (bl.size)
    clear BB6 Iw6 St6 Nt6 Ig6 Ng6 bl
    go_wp2_with fail
    refine (mark_vocs At n ct 1 L ft _ St7.out (fun b hb o => Nt7.out.free b hb o) (by omega) (by omega) (by omega)).mono ?_; rintro e w8 ⟨rfl, o⟩
    have HZ7 := Lib.hid (o.size)
    have Ig8 := Lib.hid (Ig7.out.keep (.of_only o fun b hb hx => by have h1 := Rg.out b hb; have h2 := Rt.out b hx; omega))
    have Ng8 := Lib.hid (Ng7.out.keep (.of_only o fun b hb hx => by have h1 := Rg.out b hb; have h2 := Rt.out b hx; omega))
    have Iw8 := Lib.hid (Iw7.out.keep (.of_only o fun b hb hx => by have h1 := Rw.out b hb; have h2 := Rt.out b hx; omega))
    have BB8 := Lib.hid (BB7.out.trans (o.below (fun b hb => by have h1 := Rt.out b hb; have z0 := HZ0.out; have z1 := HZ1.out; omega) BB7.out.size))
    clear o BB7 Iw7 St7 Nt7 Ig7 Ng7
    have k1 : 0 ≤ (1 : Int) + 5 * n := by omega
    generalize (1 : Int) + 5 * n = k1v at k1
    have k1d : decide (k1v < 0) = false := by simp; omega
    go_wp2_with fail
    refine (eq_ints Ag Aw q cg cw X fg fw _ Ig8.out Iw8.out (by omega)).mono ?_; rintro e w9 ⟨rfl, qq, hqq⟩
    have bl : Below w8.heap.size w8 w9 := by rw [hqq]; exact below_drewN (Below.refl _ _) _
    clear hqq
    have BB9 := Lib.hid (below_then BB8.out bl)
    have Ig9 := Lib.hid (Ig8.out.below bl)
    have Ng9 := Lib.hid (Ng8.out.keep (.of_below bl))
    have Iw9 := Lib.hid (Iw8.out.below bl)
    have HZ8 := Lib.hid (bl.size)
    clear BB8 Ig8 Ng8 Iw8 bl
    go_wp2_with fail
    refine (mark_ints Ag q cg 1 X fg _ Ig9.out (fun b hb o => Ng9.out.free b hb o) (by omega) (by omega) (by omega)).mono ?_; rintro e w10 ⟨rfl, o, hig, frg⟩
    have HZ9 := Lib.hid (o.size)
    have Iw10 := Lib.hid (Iw9.out.keep (.of_only o fun b hb hx => by have h1 := Rw.out b hb; have h2 := Rg.out b hx; have z2 := HZ2.out; omega))
    have BB10 := Lib.hid (BB9.out.trans (o.below (fun b hb => by have h1 := Rg.out b hb; have z0 := HZ0.out; have z1 := HZ1.out; have z2 := HZ2.out; omega) BB9.out.size))
    clear o BB9 Ig9 Ng9 Iw9
    have Ig10 := Lib.hid (hig)
    clear hig frg
    have hn1 : 0 ≤ (1 : Int) + q := by omega
    go_wp2_with fail
    refine (held_ints Ag q cg 1 fg _ Ig10.out (by omega) (by omega) (by omega)).mono ?_; rintro e w11 ⟨rfl, rfl⟩
    go_wp2_with fail
    refine (to_vocs Al n c' L fl _ (HLR.out _ BB10.out) hn9).mono ?_; rintro e w11 ⟨Aj, cj, fj, rfl, hcj, hsj, hnj, bl⟩
    have Rj := Lib.hid (fun b (hb : b ∈ fj) => hnj.lt b hb)
    have BB11 := Lib.hid (below_then BB10.out bl)
    have Iw11 := Lib.hid (Iw10.out.below bl)
    have Ig11 := Lib.hid (Ig10.out.below bl)
    have HZ10 := Lib.hid (bl.size)
    clear BB10 Iw10 Ig10 bl
    have Sj11 := Lib.hid (hsj)
    clear hsj hnj hcj
    go_wp2_with fail
    refine (im_mix Aj n cj L fj y _ Sj11.out hn9).mono ?_; rw [HN.out, HX.out]; rintro e w12 ⟨Ah, ch, fh, rfl, hch, hsh, hnh, bl⟩
    have Rh := Lib.hid (fun b (hb : b ∈ fh) => hnh.lt b hb)
    have BB12 := Lib.hid (below_then BB11.out bl)
    have Iw12 := Lib.hid (Iw11.out.below bl)
    have Ig12 := Lib.hid (Ig11.out.below bl)
    have Sj12 := Lib.hid (Sj11.out.below bl)
    have HZ11 := Lib.hid (bl.size)
    clear BB11 Iw11 Ig11 Sj11 bl
    have Ih12 := Lib.hid (hsh)
    clear hsh hnh hch
    go_wp2_with fail
    refine (eq_ints Ah Aw q ch cw X fh fw _ Ih12.out Iw12.out (by omega)).mono ?_; rintro e w13 ⟨rfl, qq, hqq⟩
    have bl : Below w12.heap.size w12 w13 := by rw [hqq]; exact below_drewN (Below.refl _ _) _
    clear hqq
    have BB13 := Lib.hid (below_then BB12.out bl)
    have Iw13 := Lib.hid (Iw12.out.below bl)
    have Ig13 := Lib.hid (Ig12.out.below bl)
    have Ih13 := Lib.hid (Ih12.out.below bl)
    have HZ12 := Lib.hid (bl.size)
    clear BB12 Iw12 Ig12 Ih12 bl
    go_wp2_with fail
    refine (held_ints Ag q cg 1 fg _ Ig13.out (by omega) (by omega) (by omega)).mono ?_; rintro e w14 ⟨rfl, rfl⟩
    go_wp2_with fail
    go_ret
    exact ⟨rfl, BB13.out⟩
  · refine (sz_vocs_no Al n c' 1048576 _ (by omega) (by omega) hn).mono ?_; rintro e w' ⟨rfl, rfl⟩
    go_wp2_with fail
    go_ret
    exact ⟨rfl, Below.refl _ _⟩
end Go.Proofs.Ytfbpnneegenhgaa
