/- A drawn law of chapter 15, walked: samples. -/
import Derived.Test.YtkglocdmpfjafaaNoiX
import Derived.Test.YtkglocdmpfjafaaNoiJ
import Derived.Test.YtkglocdmpfjafaaGA
import Derived.Test.YtkglocdmpfjafaaRowIn
import Derived.Test.YtkglocdmpfjafaaGC
namespace Go.Proofs.Ytkglocdmpfjafaa
open Go.ChangeShapes Go.WideShapes Go.ChangeAt Go.RowKit
set_option linter.unusedVariables false

def TIntsN (xs : List Int) (n : Nat) : Value → World → Prop := fun v w => ∃ A c fp, v = .slice A n c ∧ Ints w A n xs fp
theorem stabB_tintsN (xs : List Int) (n : Nat) : Stab RlB (TIntsN xs n) := fun _ _ _ (hR : Below _ _ _) ⟨A, c, fp, hv, hi⟩ => ⟨A, c, fp, hv, hi.below hR⟩
theorem stabB_kN (x : Value) : Stab RlB (TV x) := fun _ _ _ _ h => h
theorem run_preN (w : World) (p o n c h : Nat) (h1 : h ≤ n) (h0 : 1 ≤ n) (hc : n ≤ c) : (Instr.sliceAt 29 (.slice (some ⟨p, o, none⟩) n c) none (some (.int .i64 (h : Int))) none).run Try.prog w = .ok (.slice (some ⟨p, o, none⟩) h c) w := by
  have h2 : (h : Int) ≤ c := by omega
  have h3 : ¬ c = 0 := by omega
  have h4 : 0 ≤ (h : Int) := by omega
  go_simp
theorem ints_preN {w : World} {A : Option Addr} {n m : Nat} {xs : List Int} {fp : List Nat} (h : Ints w A n xs fp) (hm : m ≤ n) (h0 : 1 ≤ n) : ∃ fq, Ints w A m (xs.take m) fq := by
  by_cases e : m = 0
  · subst e
    rw [List.take_zero]
    exact ⟨[], Ints.nil _ _⟩
  · have hl := h.1
    obtain ⟨p, o, rfl, hf, hp, hc⟩ := h.at_ h0
    refine ⟨fp, ⟨by rw [List.length_take]; omega, .inr ⟨by omega, p, o, rfl, hf, hp, fun i hi => ?_⟩⟩⟩
    rw [hc i (by omega), List.getD_eq_getElem?_getD, List.getD_eq_getElem?_getD, List.getElem?_take, if_pos hi]
set_option maxRecDepth 100000 in
set_option maxHeartbeats 8000000 in
theorem walk_FnNoiseSamples (a0 : Option Addr) (len0 cap0 : Nat) (z0 : List Int) (w : World) (w0 : IsRow .u8 w a0 len0 cap0 z0) :
    Calls Try.prog 4 #[.slice a0 len0 cap0] w fun e w' => e = .returned (.bool true) ∧ Below w.heap.size w w' := by
  have H := Lib.hid w0
  have hl := isRow_len w0
  clear w0
  by_cases hs : len0 ≤ 1048576
  · go_enter Try.func4, Try.ntmps4
    go_wp2_with fail
    refine (draw_NoiseSamples _ _ _ _ _ H.out).mono ?_; rintro e w1 ⟨s, n, rfl, hz, hy, bl⟩
    have B1 := Lib.hid bl
    have HY := Lib.hid hy
    clear bl hl H hs hz hy
    have q4 := smT_le s n
    obtain ⟨X, hX⟩ : ∃ X, smT s n = X := ⟨_, rfl⟩
    have HX := Lib.hid hX
    rw [hX] at q4
    clear hX
    go_wp2_with fail
    refine (im_samples s n _).mono ?_; rw [HX.out]; rintro e w2 ⟨Ag, cg, fg, rfl, hcg, hsg, hng, bl⟩
    have B2 := Lib.hid (below_then B1.out bl)
    have I2 := Lib.hid hsg
    have HC := Lib.hid hcg
    clear hsg hng hcg bl B1
    go_wp2_with fail
    refine (spec_samples s n _).mono ?_; rw [HX.out]; rintro e w3 ⟨Aw, cw, fw, rfl, hcw, hsw, hnw, bl⟩
    have B3 := Lib.hid (below_then B2.out bl)
    have I3 := Lib.hid (I2.out.below bl)
    have J3 := Lib.hid hsw
    clear hsw hnw hcw bl B2 I2
    go_wp2_with fail
    refine (same_ints Ag Aw X.length cg cw X fg fw _ I3.out J3.out (by omega)).mono ?_; rintro e w4 ⟨rfl, qq, hqq⟩
    have bl : Below w3.heap.size w3 w4 := by rw [hqq]; exact below_drewN (Below.refl _ _) _
    clear hqq
    have B4 := Lib.hid (below_then B3.out bl)
    have I4 := Lib.hid (I3.out.below bl)
    clear bl B3 I3 J3
    cases hb : smB s n
    · obtain rfl : X = [] := by rw [← HX.out, smT_no hb]
      clear HX hb
      by_cases hn0 : n = 0
      · subst hn0
        go_wp2_with fail
        refine (alive_any _).mono ?_; rintro e w' ⟨rfl, rfl⟩
        go_wp2_with fail
        go_ret
        exact ⟨rfl, B4.out⟩
      · have hne : ((0 : Int) != n) = true := by simp; omega
        go_wp2_with fail
        refine (alive_any _).mono ?_; rintro e w' ⟨rfl, rfl⟩
        go_wp2_with fail
        go_ret
        exact ⟨rfl, B4.out⟩
    unfold smB at hb
    rw [Bool.and_eq_true] at hb
    have h1 := betB_is.1 hb.1
    have h2 := betB_is.1 hb.2
    obtain ⟨S, rfl⟩ := Int.eq_ofNat_of_zero_le (show 0 ≤ s by omega)
    obtain ⟨N, rfl⟩ := Int.eq_ofNat_of_zero_le (show 0 ≤ n by omega)
    have hS : 1 ≤ S ∧ S ≤ 32767 := by omega
    have hN : N ≤ 400 := by omega
    obtain rfl : X = smK S N := by rw [← HX.out, smT_yes hS.1 hS.2 hN]
    have HL := Lib.hid (smK_len S N)
    rw [HL.out] at I4 HC ⊢
    clear hb h1 h2 q4 HX
    by_cases hn0 : N = 0
    · subst hn0
      go_wp2_with fail
      refine (alive_any _).mono ?_; rintro e w' ⟨rfl, rfl⟩
      go_wp2_with fail
      go_ret
      exact ⟨rfl, B4.out⟩
    have hn1 : ((N : Int) == 0) = false := by simp; omega
    have HS := Lib.hid hS
    have HN := Lib.hid hN
    clear hS hN
    go_wp2_with fail
    go_loopw [2, 6, 7] (fun o v i wr => ∃ k : Nat, k ≤ N ∧ o = .bool false ∧ v = .int .i64 (nxK k S : Nat) ∧ i = .int .i64 k ∧ wr = w4) (fun _ _ i _ => N - (intOf i).toNat)
    case atStart => exact ⟨0, by omega, rfl, rfl, rfl, rfl⟩
    case round =>
      obtain ⟨k, hk, rfl, rfl, rfl, hw⟩ := hrel
      obtain rfl : w4 = wr := hw.symm
      clear hw
      by_cases hkN : k < N
      · have k1 : (k : Int) < (N : Int) := by omega
        have k2 : (k : Int) ≤ 400 := by have := HN.out; omega
        have k0 : 0 ≤ (k : Int) := by omega
        have HK := Lib.hid (nxK_succ k S)
        have hq := nxK_state k HS.out.1 HS.out.2
        have HT := Lib.hid (nxT_at hq.1 hq.2)
        obtain ⟨p, o, rfl, _, _, hc⟩ := I4.out.at_ (by omega)
        have c0 := hc k hkN
        rw [smK_get S N k hkN] at c0
        have hd : (nxK k S : Int).tmod 2 = ((nxK k S % 2 : Nat) : Int) := by rw [Int.tmod_eq_emod_of_nonneg (by omega)]; omega
        clear hc hq
        generalize nxK k S = t at HK HT c0 hd ⊢
        generalize ((t % 2 : Nat) : Int) = q at c0 hd
        go_wp2_with fail
        refine (im_next _ _).mono ?_; rw [HT.out]; rintro e w' ⟨rfl, rfl⟩
        go_wp2_with fail
        go_roundw
        case rel => exact ⟨k + 1, by omega, rfl, by rw [HK.out], by go_num, trivial⟩
        case measure => simp [intOf]; omega
      · obtain rfl : k = N := by omega
        obtain ⟨p, o, rfl, _, _, _⟩ := I4.out.at_ (by omega)
        have HM : Hid (k / 2 ≤ k ∧ 1 ≤ k) := Lib.hid (by omega)
        have hdv : (k : Int).tdiv 2 = ((k / 2 : Nat) : Int) := by rw [Int.tdiv_eq_ediv_of_nonneg (by omega)]; omega
        have HR : Hid (smT (S : Int) ((k / 2 : Nat) : Int) = smK S (k / 2)) := Lib.hid (smT_yes HS.out.1 HS.out.2 (by have := HN.out; omega))
        have HP := Lib.hid (smK_take S k (k / 2) HM.out.1)
        go_upto_region 16 with (fail)
        refine wp_region_typed (ClB w4) RlB (Ty [TV (.int .i64 (S : Int)), TV (.int .i64 (k : Int)), TV (.int .i64 ((k / 2 : Nat) : Int)), TIntsN (smK S (k / 2)) (k / 2), TV (.slice (some ⟨p, o, none⟩) k cg), TV (.int .i64 (k : Int)), TV (.int .i64 ((k / 2 : Nat) : Int)), TV (.slice (some ⟨p, o, none⟩) (k / 2) cg), TV (.bool true), TV (.bool true)])
          (by kernel_rfl) (by kernel_rfl) (stab_ty _ ⟨stabB_kN _, stabB_kN _, stabB_kN _, stabB_tintsN _ _, stabB_kN _, stabB_kN _, stabB_kN _, stabB_kN _, stabB_kN _, stabB_kN _, trivial⟩) (Below.refl _ _).drew ?_ ?_
        · refine ⟨?_, ?_, ?_, ?_, ?_, ?_, ?_, ?_, ?_, ?_, trivial⟩
          · exact lb_move (.tmp 3) (.inl rfl) (fun _ _ _ => want_none rfl) fun ρ wx hc hx hp => hx 3 rfl
          · exact lb_move (.tmp 4) (.inl rfl) (fun _ _ _ => want_none rfl) fun ρ wx hc hx hp => hx 4 rfl
          · refine lb_val (.int .i64 ((k / 2 : Nat) : Int)) (fun _ _ _ => want_none rfl) fun ρ wx hb hc hx hp => ⟨?_, rfl⟩
            have h0 : ρ (.tmp 55) = .int .i64 (k : Int) := hp.1 rfl
            have h1 := hc (.int .i64 2)
            have hw2 : IntKind.i64.wrap ((k / 2 : Nat) : Int) = ((k / 2 : Nat) : Int) := by rw [IntKind.wrap_i64]; have := HN.out; omega
            generalize ((k / 2 : Nat) : Int) = hh at hdv hw2 ⊢
            clear hx hp hc hb
            unfold execOp
            simp only [h0, h1]
            clear h0 h1
            go_simp
          · refine lb_call _ _ _ (fun _ _ => by simp [go_sem]) rfl (fun _ _ _ => want_none rfl) fun ρ wx hb hc hp => ?_
            have h0 : ρ (.tmp 54) = .int .i64 (S : Int) := hp.1 rfl
            have h1 : ρ (.tmp 56) = .int .i64 ((k / 2 : Nat) : Int) := hp.2.1 rfl
            refine ⟨#[.int .i64 (S : Int), .int .i64 ((k / 2 : Nat) : Int)], by simp only [List.map_toArray, List.map_cons, List.map_nil, h0, h1], (im_samples (S : Int) ((k / 2 : Nat) : Int) wx).mono ?_⟩
            rw [HR.out, smK_len]
            rintro e w' ⟨Ax, cx, fx, rfl, _, hix, _, b⟩
            exact ⟨_, rfl, b, Ax, cx, fx, rfl, hix⟩
          · exact lb_move (.tmp 5) (.inl rfl) (fun _ _ _ => want_none rfl) fun ρ wx hc hx hp => hx 5 rfl
          · exact lb_move (.tmp 4) (.inl rfl) (fun _ _ _ => want_none rfl) fun ρ wx hc hx hp => hx 4 rfl
          · refine lb_val (.int .i64 ((k / 2 : Nat) : Int)) (fun _ _ _ => want_none rfl) fun ρ wx hb hc hx hp => ⟨?_, rfl⟩
            have h0 : ρ (.tmp 59) = .int .i64 (k : Int) := hp.1 rfl
            have h1 := hc (.int .i64 2)
            have hw2 : IntKind.i64.wrap ((k / 2 : Nat) : Int) = ((k / 2 : Nat) : Int) := by rw [IntKind.wrap_i64]; have := HN.out; omega
            generalize ((k / 2 : Nat) : Int) = hh at hdv hw2 ⊢
            clear hx hp hc hb
            unfold execOp
            simp only [h0, h1]
            clear h0 h1
            go_simp
          · refine lb_val (.slice (some ⟨p, o, none⟩) (k / 2) cg) (fun _ _ _ => want_none rfl) fun ρ wx hb hc hx hp => ⟨?_, rfl⟩
            have h0 : ρ (.tmp 58) = .slice (some ⟨p, o, none⟩) k cg := hp.1 rfl
            have h1 : ρ (.tmp 60) = .int .i64 ((k / 2 : Nat) : Int) := hp.2.1 rfl
            have hr := run_preN wx p o k cg (k / 2) HM.out.1 HM.out.2 HC.out
            clear hx hp hc hb hdv
            unfold execOp
            simp only [h0, h1, Option.map_some, Option.map_none]
            clear h0 h1
            simp only [Sem.run_bind, hr, Result.andThen_ok, Sem.run_pure]
          · refine lb_call _ _ _ (fun _ _ => by simp [go_sem]) rfl (fun _ _ _ => want_none rfl) fun ρ wx hb hc hp => ?_
            obtain ⟨Ax, cx, fx, h0, hix⟩ : TIntsN (smK S (k / 2)) (k / 2) (ρ (.tmp 57)) wx := hp.1 rfl
            have h1 : ρ (.tmp 61) = .slice (some ⟨p, o, none⟩) (k / 2) cg := hp.2.1 rfl
            obtain ⟨fq, hiy⟩ := ints_preN (I4.out.below hb) HM.out.1 HM.out.2
            rw [HP.out] at hiy
            refine ⟨#[.slice Ax (k / 2) cx, .slice (some ⟨p, o, none⟩) (k / 2) cg], by simp only [List.map_toArray, List.map_cons, List.map_nil, h0, h1], (same_ints Ax _ (k / 2) cx cg (smK S (k / 2)) fx fq wx hix hiy (by have := HN.out; omega)).mono ?_⟩
            rintro e w' ⟨rfl, q, hq⟩
            exact ⟨_, rfl, by rw [hq]; exact below_drewN (Below.refl _ _) _, rfl⟩
          · exact lb_move (.tmp 62) (.inr rfl) (fun _ _ _ => want_none rfl) fun ρ wx hc hx hp => hp.1 rfl
        · intro vs wx hI hF
          obtain ⟨-, -, -, -, -, -, -, -, -, h9, -⟩ := hF
          replace h9 : vs 9 = .bool true := h9
          have BX : Hid (Below w.heap.size w wx) := Lib.hid (below_then B4.out hI)
          simp only [putAll, Act.put, List.setIfInBounds_toArray, List.set_cons_zero, List.set_cons_succ, h9]
          clear hI h9 hdv
          go_wp2_with fail
          go_ret
          exact ⟨rfl, BX.out⟩
  · have hs' : 1048576 < len0 := by omega
    go_enter Try.func4, Try.ntmps4
    go_wp2_with fail
    go_ret
    exact ⟨rfl, Below.refl _ _⟩
end Go.Proofs.Ytkglocdmpfjafaa
