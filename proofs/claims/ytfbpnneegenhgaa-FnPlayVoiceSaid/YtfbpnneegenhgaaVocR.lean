/- The drawn law FnPlayVoice, walked. -/
import Derived.Test.YtfbpnneegenhgaaVocX
import Derived.Test.YtfbpnneegenhgaaVocE
import Derived.Test.YtfbpnneegenhgaaGA
import Derived.Test.YtfbpnneegenhgaaVocI
namespace Go.Proofs.Ytfbpnneegenhgaa
open Go.ChangeShapes Go.WideShapes Go.ChangeAt Go.RowKit
set_option linter.unusedVariables false

set_option maxRecDepth 100000 in
set_option maxHeartbeats 8000000 in
theorem walk_FnPlayVoice (a0 : Option Addr) (len0 cap0 : Nat) (z0 : List Int) (w : World) (w0 : IsRow .u8 w a0 len0 cap0 z0) :
    Calls Try.prog 4 #[.slice a0 len0 cap0] w fun e w' => e = .returned (.bool true) ∧ Below w.heap.size w w' := by
  have H := Lib.hid w0
  have hl := isRow_len w0
  clear w0
  by_cases hs : len0 ≤ 1048576
  · go_enter Try.func4, Try.ntmps4
    go_wp2_with fail
    refine (draw_PlayVoice _ _ _ _ _ H.out).mono ?_; rintro e w1 ⟨u, n, rfl, hu, hn, hb⟩
    obtain ⟨n0, n1⟩ := hn
    have B1 := Lib.hid hb
    clear hb hu
    have BNw2 : Hid (Box (w1.alloc (.cells #[.int .i64 0, .int .i64 0, .int .i64 0, .int .i64 0, .int .i64 0] 24)) w1.heap.size 24 (vcs .zero)) := Lib.hid (Box.new w1 _ _)
    go_upto_region 4 with (first | (refine vo_store (by rfl) _ _ rfl w1.heap.size rfl u rfl (vcs .zero) BNw2.out rfl ?_))
    have bl : Below w1.heap.size w1 ((w1.alloc (.cells #[.int .i64 0, .int .i64 0, .int .i64 0, .int .i64 0, .int .i64 0] 24)).setRow w1.heap.size (vcs u).toArray) := below_row (below1 w1 _) (Nat.le_refl _) _
    have V2 : Hid (Box ((w1.alloc (.cells #[.int .i64 0, .int .i64 0, .int .i64 0, .int .i64 0, .int .i64 0] 24)).setRow w1.heap.size (vcs u).toArray) w1.heap.size 24 (vcs u)) := Lib.hid (Box.row BNw2.out)
    have zzw2 : ∀ b, b < w1.heap.size → b ≠ w1.heap.size := fun b h => by omega
    have B2 := Lib.hid (below_then B1.out bl)
    clear bl BNw2 B1 zzw2  
    generalize ((w1.alloc (.cells #[.int .i64 0, .int .i64 0, .int .i64 0, .int .i64 0, .int .i64 0] 24)).setRow w1.heap.size (vcs u).toArray) = w2 at V2 B2 ⊢
    generalize w1.heap.size = bk at V2 ⊢
    obtain ⟨X, hX⟩ : ∃ X, playL u n = X := ⟨_, rfl⟩
    obtain ⟨z, hz⟩ : ∃ z, playV u n = z := ⟨_, rfl⟩
    have HX := Lib.hid hX
    have HZ := Lib.hid hz
    have hX4 : X.length ≤ 400 := by rw [← hX]; exact playL_le u n
    clear hX hz
    go_wp2_with (first | (refine vo_load (by rfl) _ rfl bk rfl u V2.out ?_))
    refine (im_play u n _).mono ?_; rw [HX.out, HZ.out]; rintro e w3 ⟨Ag, cg, fg, rfl, hcg, ig, ng, bl⟩
    have V3 := Lib.hid (V2.out.below bl)
    have B3 := Lib.hid (below_then B2.out bl)
    have G3 := Lib.hid ig
    clear bl V2 B2 ig ng
    have BNw4 : Hid (Box (w3.alloc (.cells #[.int .i64 0, .int .i64 0, .int .i64 0, .int .i64 0, .int .i64 0] 24)) w3.heap.size 24 (vcs .zero)) := Lib.hid (Box.new w3 _ _)
    go_upto_region 5 with (first | (refine vo_store (by rfl) _ _ rfl w3.heap.size rfl z rfl (vcs .zero) BNw4.out rfl ?_))
    have bl : Below w3.heap.size w3 ((w3.alloc (.cells #[.int .i64 0, .int .i64 0, .int .i64 0, .int .i64 0, .int .i64 0] 24)).setRow w3.heap.size (vcs z).toArray) := below_row (below1 w3 _) (Nat.le_refl _) _
    have E4 : Hid (Box ((w3.alloc (.cells #[.int .i64 0, .int .i64 0, .int .i64 0, .int .i64 0, .int .i64 0] 24)).setRow w3.heap.size (vcs z).toArray) w3.heap.size 24 (vcs z)) := Lib.hid (Box.row BNw4.out)
    have V4 := Lib.hid (V3.out.below bl)
    have G4 := Lib.hid (G3.out.below bl)
    have zzw4 : ∀ b, b < w3.heap.size → b ≠ w3.heap.size := fun b h => by omega
    have neV4 := Lib.hid (zzw4 _ V3.out.lt)
    have B4 := Lib.hid (below_then B3.out bl)
    clear bl BNw4 B3 zzw4 V3 G3 neV4
    generalize ((w3.alloc (.cells #[.int .i64 0, .int .i64 0, .int .i64 0, .int .i64 0, .int .i64 0] 24)).setRow w3.heap.size (vcs z).toArray) = w4 at E4 B4 V4 G4 ⊢
    generalize w3.heap.size = b6 at E4 ⊢
    go_wp2_with (first | (refine vo_load (by rfl) _ rfl bk rfl u V4.out ?_))
    refine (spec_play u n _).mono ?_; rw [HX.out, HZ.out]; rintro e w5 ⟨As, cs, fs, rfl, hcs, is, ns, bl⟩
    have V5 := Lib.hid (V4.out.below bl)
    have E5 := Lib.hid (E4.out.below bl)
    have B5 := Lib.hid (below_then B4.out bl)
    have G5 := Lib.hid (G4.out.below bl)
    have S5 := Lib.hid is
    clear bl V4 B4 E4 G4 is ns
    have BNw6 : Hid (Box (w5.alloc (.cells #[.int .i64 0, .int .i64 0, .int .i64 0, .int .i64 0, .int .i64 0] 24)) w5.heap.size 24 (vcs .zero)) := Lib.hid (Box.new w5 _ _)
    go_upto_region 6 with (first | (refine vo_store (by rfl) _ _ rfl w5.heap.size rfl z rfl (vcs .zero) BNw6.out rfl ?_))
    have bl : Below w5.heap.size w5 ((w5.alloc (.cells #[.int .i64 0, .int .i64 0, .int .i64 0, .int .i64 0, .int .i64 0] 24)).setRow w5.heap.size (vcs z).toArray) := below_row (below1 w5 _) (Nat.le_refl _) _
    have F6 : Hid (Box ((w5.alloc (.cells #[.int .i64 0, .int .i64 0, .int .i64 0, .int .i64 0, .int .i64 0] 24)).setRow w5.heap.size (vcs z).toArray) w5.heap.size 24 (vcs z)) := Lib.hid (Box.row BNw6.out)
    have V6 := Lib.hid (V5.out.below bl)
    have E6 := Lib.hid (E5.out.below bl)
    have G6 := Lib.hid (G5.out.below bl)
    have S6 := Lib.hid (S5.out.below bl)
    have zzw6 : ∀ b, b < w5.heap.size → b ≠ w5.heap.size := fun b h => by omega
    have neV6 := Lib.hid (zzw6 _ V5.out.lt)
    have neE6 := Lib.hid (zzw6 _ E5.out.lt)
    have B6 := Lib.hid (below_then B5.out bl)
    clear bl BNw6 B5 zzw6 V5 E5 G5 S5 neV6 neE6
    generalize ((w5.alloc (.cells #[.int .i64 0, .int .i64 0, .int .i64 0, .int .i64 0, .int .i64 0] 24)).setRow w5.heap.size (vcs z).toArray) = w6 at F6 B6 V6 E6 G6 S6 ⊢
    generalize w5.heap.size = b8 at F6 ⊢
    go_wp2_with fail
    refine (same_ints Ag As X.length cg cs X fg fs _ G6.out S6.out (by omega)).mono ?_; rintro e w7 ⟨rfl, q7, hq7⟩
    have bl : Below w6.heap.size w6 w7 := by rw [hq7]; exact below_drewN (Below.refl _ _) _
    have V7 := Lib.hid (V6.out.below bl)
    have E7 := Lib.hid (E6.out.below bl)
    have F7 := Lib.hid (F6.out.below bl)
    have G7 := Lib.hid (G6.out.below bl)
    have B7 := Lib.hid (below_then B6.out bl)
    clear bl hq7 V6 E6 F6 G6 S6 B6
    go_upto_region 8 with (first | (refine vo_load (by rfl) _ rfl b6 rfl z E7.out ?_) | (refine vo_load (by rfl) _ rfl b8 rfl z F7.out ?_))
    by_cases hx0 : X.length = 0
    · obtain rfl : X = [] := List.eq_nil_of_length_eq_zero hx0
      by_cases hn0 : n = 0
      · subst hn0
        go_wp2_with fail
        refine (alive_any _).mono ?_; rintro e w' ⟨rfl, rfl⟩
        go_wp2_with fail
        go_ret
        exact ⟨rfl, B7.out⟩
      · have hn0' : ((0 : Int) == n) = false := by simpa using fun e => hn0 e.symm
        go_wp2_with fail
        refine (alive_any _).mono ?_; rintro e w' ⟨rfl, rfl⟩
        go_wp2_with fail
        go_ret
        exact ⟨rfl, B7.out⟩
    have hpb : playB u n = true := by
      cases hp : playB u n
      · exact absurd (by rw [← HX.out, (play_no hp).1]; rfl) hx0
      · rfl
    have hpp := hpb
    unfold playB at hpp
    rw [Bool.and_eq_true, betQ_iff] at hpp
    obtain ⟨hv, hn0, hn4⟩ := hpp
    have HV := Lib.hid hv
    obtain ⟨m, rfl⟩ := Int.eq_ofNat_of_zero_le hn0
    have hXm : X = smp u m := by rw [← HX.out, (play_yes hpb).1, Int.toNat_natCast]
    have hzm : z = adv u m := by rw [← HZ.out, (play_yes hpb).2, Int.toNat_natCast]
    subst hXm hzm
    rw [smp_len] at hx0
    have m4 : m ≤ 400 := by omega
    have hm0 : (m : Int) ≠ 0 := by omega
    have hmb : ((m : Int) == 0) = false := by simpa using hm0
    have G8 : Hid (Ints w7 Ag m (smp u m) fg) := Lib.hid (by have h := G7.out; rwa [smp_len] at h)
    rw [smp_len]
    clear hpb hv hn0 hn4 n0 n1 hX4 G7
    obtain ⟨pg, og, rfl, _, _, hcz⟩ := G8.out.at_ (by omega)
    clear hcz
    have HCG : Hid (∀ wx, Below w7.heap.size w7 wx → ∀ j, j < m → wx.cell? ⟨pg, og + j, none⟩ = some (.int .i64 (lev (adv u j)))) := Lib.hid fun wx hb j hj => by
      obtain ⟨p', o', he, _, _, hc⟩ := (G8.out.below hb).at_ (by omega)
      injection he with he
      injection he with e1 e2 _
      subst e1 e2
      rw [hc j hj, smp_at u hj]
    obtain ⟨hl0, -, -, -, -⟩ := vocB_iff.1 HV.out
    obtain ⟨M, hM⟩ : ∃ M : Nat, (M : Int) = 8 * u.l := ⟨(8 * u.l).toNat, by omega⟩
    have HLT : Hid (∀ j, lev (adv u (j + M)) = lev (adv u j)) := Lib.hid fun j => lev_turn HV.out hM
    have HL2 : Hid (∀ j, lev (adv u j) = 0 ∨ lev (adv u j) = u.v) := Lib.hid fun j => lev_two j
    have HMM := Lib.hid hM
    have HLL := Lib.hid hl0
    clear hM hl0
    go_wp2_with fail
    go_loopw [9] (fun i wr => ∃ k : Nat, k ≤ m ∧ i = .int .i64 k ∧ Below w7.heap.size w7 wr) (fun i _ => m - (intOf i).toNat)
    case atStart => exact ⟨0, by omega, rfl, Below.refl _ _⟩
    case round =>
      obtain ⟨k, hk, rfl, hbr⟩ := hrel
      have BR := Lib.hid hbr
      clear hbr
      by_cases hkm : k < m
      · have hkm' : (k : Int) < (m : Int) := by omega
        have HC1 : Hid (∀ wx, Below wr.heap.size wr wx → wx.cell? ⟨pg, og + k, none⟩ = some (.int .i64 (lev (adv u k)))) := Lib.hid fun wx hb => HCG.out wx (below_then BR.out hb) k hkm
        have HBK : Hid (∀ wx, Below wr.heap.size wr wx → Box wx bk 24 (vcs u)) := Lib.hid fun wx hb => V7.out.below (below_then BR.out hb)
        have HKM := Lib.hid hkm'
        have HK8 := Lib.hid (wrapV (8 * u.l) (by have := HLL.out; omega) (by have := HLL.out; omega))
        have h2 := HL2.out k
        go_upto_region 13 with (fail)
        obtain ⟨a, ha⟩ : ∃ a, lev (adv u k) = a := ⟨_, rfl⟩
        by_cases hge : M ≤ k
        · obtain ⟨j, rfl⟩ : ∃ j, k = j + M := ⟨k - M, by omega⟩
          have HC2 : Hid (∀ wx, Below wr.heap.size wr wx → wx.cell? ⟨pg, og + j, none⟩ = some (.int .i64 a)) := Lib.hid fun wx hb => by rw [HCG.out wx (below_then BR.out hb) j (by omega), ← HLT.out j, ha]
          have HSU : Hid (((j + M : Nat) : Int) - 8 * u.l = (j : Int) ∧ IntKind.i64.wrap (j : Int) = (j : Int) ∧ (j : Int) < (m : Int) ∧ 8 * u.l ≤ ((j + M : Nat) : Int)) := Lib.hid ⟨by have := HMM.out; omega, wrapV _ (by omega) (by omega), by omega, by have := HMM.out; omega⟩
          rw [ha] at HC1 h2
          generalize hkk : j + M = k at HC1 HKM HSU hk hkm hkm' ⊢
          by_cases h0 : a = 0
          · subst h0
            refine wp_region_typed (ClB wr) RlB (Ty [TV (.slice (some ⟨pg, og, none⟩) m cg), TV (.int .i64 (k : Int)), TV (.pointer (some ⟨pg, og + k, none⟩)), TV (.int .i64 0), TV (.bool false), TV (.bool false), TV undef, TV undef, TV undef, TV undef, TV undef, TV undef, TV undef, TV (.bool false), TV (.bool false), TV (.int .i64 (k : Int)), TV (.pointer (some ⟨bk, 0, none⟩)), TV (.int .i64 u.l), TV (.int .i64 (8 * u.l)), TV (.bool true), TV (.bool true), TV (.slice (some ⟨pg, og, none⟩) m cg), TV (.int .i64 (k : Int)), TV (.pointer (some ⟨pg, og + k, none⟩)), TV (.int .i64 0), TV (.slice (some ⟨pg, og, none⟩) m cg), TV (.int .i64 (k : Int)), TV (.pointer (some ⟨bk, 0, none⟩)), TV (.int .i64 u.l), TV (.int .i64 (8 * u.l)), TV (.int .i64 (j : Int)), TV (.pointer (some ⟨pg, og + j, none⟩)), TV (.int .i64 0), TV (.bool false), TV (.bool false), TV (.bool false)])
              (by kernel_rfl) (by kernel_rfl) (stab_ty _ ⟨stabB_k _, stabB_k _, stabB_k _, stabB_k _, stabB_k _, stabB_k _, stabB_k _, stabB_k _, stabB_k _, stabB_k _, stabB_k _, stabB_k _, stabB_k _, stabB_k _, stabB_k _, stabB_k _, stabB_k _, stabB_k _, stabB_k _, stabB_k _, stabB_k _, stabB_k _, stabB_k _, stabB_k _, stabB_k _, stabB_k _, stabB_k _, stabB_k _, stabB_k _, stabB_k _, stabB_k _, stabB_k _, stabB_k _, stabB_k _, stabB_k _, stabB_k _, trivial⟩) (Below.refl _ _).drew ?_ ?_
            · refine ⟨?_, ?_, ?_, ?_, ?_, ?_, ?_, ?_, ?_, ?_, ?_, ?_, ?_, ?_, ?_, ?_, ?_, ?_, ?_, ?_, ?_, ?_, ?_, ?_, ?_, ?_, ?_, ?_, ?_, ?_, ?_, ?_, ?_, ?_, ?_, ?_, trivial⟩
              · exact lb_move (.tmp 5) (.inl rfl) (fun _ _ _ => want_none rfl) fun ρ wx hc hx hp => hx 5 rfl
              · exact lb_move (.tmp 9) (.inl rfl) (fun _ _ _ => want_none rfl) fun ρ wx hc hx hp => hx 9 rfl
              · refine lb_val (.pointer (some ⟨pg, og + k, none⟩)) (fun _ _ _ => want_none rfl) fun ρ wx hb hc hx hp => ⟨?_, rfl⟩
                have h63 : ρ (.tmp 63) = .slice (some ⟨pg, og, none⟩) m cg := hp.1 rfl
                have h64 : ρ (.tmp 64) = .int .i64 (k : Int) := hp.2.1 rfl
                have g1 := HKM.out
                unfold execOp
                simp only [h63, h64]
                clear h63 h64 hx hp hc hb
                go_simp
              · refine lb_val (.int .i64 0) (fun _ _ _ => want_none rfl) fun ρ wx hb hc hx hp => ⟨?_, rfl⟩
                have h65 : ρ (.tmp 65) = .pointer (some ⟨pg, og + k, none⟩) := hp.1 rfl
                have cc := HC1.out wx hb
                unfold execOp
                simp only [h65]
                clear h65 hx hp hc hb
                go_simp
              · refine lb_val (.bool false) (fun _ _ _ => want_none rfl) fun ρ wx hb hc hx hp => ⟨?_, rfl⟩
                have h66 : ρ (.tmp 66) = .int .i64 0 := hp.1 rfl
                have hk0 := hc (.int .i64 0)
                unfold execOp
                simp only [h66, hk0]
                clear h66 hk0 hx hp hc hb
                go_simp
              · exact lb_move (.tmp 67) (.inl rfl) (fun _ _ _ => want_none rfl) fun ρ wx hc hx hp => hp.1 rfl
              · exact lb_not (fun ρ wx hp => want_not 5 true 68 rfl rfl (hp.1 rfl)) (fun _ => rfl)
              · exact lb_not (fun ρ wx hp => want_not 5 true 68 rfl rfl (hp.1 rfl)) (fun _ => rfl)
              · exact lb_not (fun ρ wx hp => want_not 5 true 68 rfl rfl (hp.2.2.1 rfl)) (fun _ => rfl)
              · exact lb_not (fun ρ wx hp => want_not 5 true 68 rfl rfl (hp.2.1 rfl)) (fun _ => rfl)
              · exact lb_not (fun ρ wx hp => want_not 5 true 68 rfl rfl (hp.1 rfl)) (fun _ => rfl)
              · exact lb_not (fun ρ wx hp => want_not 5 true 68 rfl rfl (hp.2.1 rfl)) (fun _ => rfl)
              · exact lb_not (fun ρ wx hp => want_not 5 true 68 rfl rfl (hp.2.2.1 rfl)) (fun _ => rfl)
              · exact lb_pick (.tmp 68) (.tmp 75) (.const (.bool false)) rfl false (fun _ _ _ => want_none rfl) fun ρ wx hc hp => ⟨hp.1 rfl, hc _⟩
              · exact lb_move (.tmp 76) (.inl rfl) (fun _ _ _ => want_none rfl) fun ρ wx hc hx hp => hp.1 rfl
              · exact lb_move (.tmp 9) (.inl rfl) (fun ρ wx hp => want_of 14 false 77 rfl rfl (hp.1 rfl)) fun ρ wx hc hx hp => hx 9 rfl
              · refine lb_val (.pointer (some ⟨bk, 0, none⟩)) (fun ρ wx hp => want_of 14 false 77 rfl rfl (hp.1 rfl)) fun ρ wx hb hc hx hp => ⟨?_, rfl⟩
                have h3 : ρ (.tmp 3) = .pointer (some ⟨bk, 0, none⟩) := hx 3 rfl
                unfold execOp
                simp only [h3]
                clear h3 hx hp hc hb
                go_simp
              · refine lb_val (.int .i64 u.l) (fun ρ wx hp => want_of 14 false 77 rfl rfl (hp.2.1 rfl)) fun ρ wx hb hc hx hp => ⟨?_, rfl⟩
                have h79 : ρ (.tmp 79) = .pointer (some ⟨bk, 0, none⟩) := hp.1 rfl
                have cc : wx.cell? ⟨bk, 0, none⟩ = some (.int .i64 u.l) := (HBK.out wx hb).cell 0
                unfold execOp
                simp only [h79]
                clear h79 hx hp hc hb
                go_simp
              · refine lb_val (.int .i64 (8 * u.l)) (fun ρ wx hp => want_of 14 false 77 rfl rfl (hp.2.1 rfl)) fun ρ wx hb hc hx hp => ⟨?_, rfl⟩
                have h80 : ρ (.tmp 80) = .int .i64 u.l := hp.1 rfl
                have hk0 := hc (.int .i64 8)
                have g1 := HK8.out
                unfold execOp
                simp only [h80, hk0]
                clear h80 hk0 hx hp hc hb
                go_simp
              · refine lb_val (.bool true) (fun ρ wx hp => want_of 14 false 77 rfl rfl (hp.2.2.1 rfl)) fun ρ wx hb hc hx hp => ⟨?_, rfl⟩
                have h78 : ρ (.tmp 78) = .int .i64 (k : Int) := hp.1 rfl
                have h81 : ρ (.tmp 81) = .int .i64 (8 * u.l) := hp.2.1 rfl
                have g1 := HSU.out.2.2.2
                have g2 := decide_eq_true g1
                unfold execOp
                simp only [h78, h81]
                clear h78 h81 hx hp hc hb
                go_simp
              · exact lb_move (.tmp 82) (.inl rfl) (fun ρ wx hp => want_of 14 false 77 rfl rfl (hp.2.1 rfl)) fun ρ wx hc hx hp => hp.1 rfl
              · exact lb_move (.tmp 5) (.inl rfl) (fun ρ wx hp => want_of 20 true 83 rfl rfl (hp.1 rfl)) fun ρ wx hc hx hp => hx 5 rfl
              · exact lb_move (.tmp 9) (.inl rfl) (fun ρ wx hp => want_of 20 true 83 rfl rfl (hp.1 rfl)) fun ρ wx hc hx hp => hx 9 rfl
              · refine lb_val (.pointer (some ⟨pg, og + k, none⟩)) (fun ρ wx hp => want_of 20 true 83 rfl rfl (hp.2.2.1 rfl)) fun ρ wx hb hc hx hp => ⟨?_, rfl⟩
                have h84 : ρ (.tmp 84) = .slice (some ⟨pg, og, none⟩) m cg := hp.1 rfl
                have h85 : ρ (.tmp 85) = .int .i64 (k : Int) := hp.2.1 rfl
                have g1 := HKM.out
                unfold execOp
                simp only [h84, h85]
                clear h84 h85 hx hp hc hb
                go_simp
              · refine lb_val (.int .i64 0) (fun ρ wx hp => want_of 20 true 83 rfl rfl (hp.2.1 rfl)) fun ρ wx hb hc hx hp => ⟨?_, rfl⟩
                have h86 : ρ (.tmp 86) = .pointer (some ⟨pg, og + k, none⟩) := hp.1 rfl
                have cc := HC1.out wx hb
                unfold execOp
                simp only [h86]
                clear h86 hx hp hc hb
                go_simp
              · exact lb_move (.tmp 5) (.inl rfl) (fun ρ wx hp => want_of 20 true 83 rfl rfl (hp.1 rfl)) fun ρ wx hc hx hp => hx 5 rfl
              · exact lb_move (.tmp 9) (.inl rfl) (fun ρ wx hp => want_of 20 true 83 rfl rfl (hp.1 rfl)) fun ρ wx hc hx hp => hx 9 rfl
              · refine lb_val (.pointer (some ⟨bk, 0, none⟩)) (fun ρ wx hp => want_of 20 true 83 rfl rfl (hp.1 rfl)) fun ρ wx hb hc hx hp => ⟨?_, rfl⟩
                have h3 : ρ (.tmp 3) = .pointer (some ⟨bk, 0, none⟩) := hx 3 rfl
                unfold execOp
                simp only [h3]
                clear h3 hx hp hc hb
                go_simp
              · refine lb_val (.int .i64 u.l) (fun ρ wx hp => want_of 20 true 83 rfl rfl (hp.2.1 rfl)) fun ρ wx hb hc hx hp => ⟨?_, rfl⟩
                have h90 : ρ (.tmp 90) = .pointer (some ⟨bk, 0, none⟩) := hp.1 rfl
                have cc : wx.cell? ⟨bk, 0, none⟩ = some (.int .i64 u.l) := (HBK.out wx hb).cell 0
                unfold execOp
                simp only [h90]
                clear h90 hx hp hc hb
                go_simp
              · refine lb_val (.int .i64 (8 * u.l)) (fun ρ wx hp => want_of 20 true 83 rfl rfl (hp.2.1 rfl)) fun ρ wx hb hc hx hp => ⟨?_, rfl⟩
                have h91 : ρ (.tmp 91) = .int .i64 u.l := hp.1 rfl
                have hk0 := hc (.int .i64 8)
                have g1 := HK8.out
                unfold execOp
                simp only [h91, hk0]
                clear h91 hk0 hx hp hc hb
                go_simp
              · refine lb_val (.int .i64 (j : Int)) (fun ρ wx hp => want_of 20 true 83 rfl rfl (hp.2.2.1 rfl)) fun ρ wx hb hc hx hp => ⟨?_, rfl⟩
                have h89 : ρ (.tmp 89) = .int .i64 (k : Int) := hp.1 rfl
                have h92 : ρ (.tmp 92) = .int .i64 (8 * u.l) := hp.2.1 rfl
                obtain ⟨g1, g2, -, -⟩ := HSU.out
                unfold execOp
                simp only [h89, h92]
                clear h89 h92 hx hp hc hb
                go_simp
              · refine lb_val (.pointer (some ⟨pg, og + j, none⟩)) (fun ρ wx hp => want_of 20 true 83 rfl rfl (hp.2.2.1 rfl)) fun ρ wx hb hc hx hp => ⟨?_, rfl⟩
                have h88 : ρ (.tmp 88) = .slice (some ⟨pg, og, none⟩) m cg := hp.1 rfl
                have h93 : ρ (.tmp 93) = .int .i64 (j : Int) := hp.2.1 rfl
                have g1 := HSU.out.2.2.1
                unfold execOp
                simp only [h88, h93]
                clear h88 h93 hx hp hc hb
                go_simp
              · refine lb_val (.int .i64 0) (fun ρ wx hp => want_of 20 true 83 rfl rfl (hp.2.1 rfl)) fun ρ wx hb hc hx hp => ⟨?_, rfl⟩
                have h94 : ρ (.tmp 94) = .pointer (some ⟨pg, og + j, none⟩) := hp.1 rfl
                have cc := HC2.out wx hb
                unfold execOp
                simp only [h94]
                clear h94 hx hp hc hb
                go_simp
              · refine lb_val (.bool false) (fun ρ wx hp => want_of 20 true 83 rfl rfl (hp.2.2.1 rfl)) fun ρ wx hb hc hx hp => ⟨?_, rfl⟩
                have h87 : ρ (.tmp 87) = .int .i64 0 := hp.1 rfl
                have h95 : ρ (.tmp 95) = .int .i64 0 := hp.2.1 rfl
                unfold execOp
                simp only [h87, h95]
                clear h87 h95 hx hp hc hb
                go_simp
              · exact lb_pick (.tmp 83) (.tmp 96) (.const (.bool false)) rfl true (fun ρ wx hp => want_of 14 false 77 rfl rfl (hp.2.2.1 rfl)) fun ρ wx hc hp => ⟨hp.1 rfl, hp.2.1 rfl⟩
              · exact lb_pick (.tmp 77) (.const (.bool true)) (.tmp 97) rfl false (fun _ _ _ => want_none rfl) fun ρ wx hc hp => ⟨hp.1 rfl, hp.2.1 rfl⟩
            intro vs wx hI hF
            obtain ⟨-, -, -, -, -, -, -, -, -, -, -, -, -, -, -, -, -, -, -, -, -, -, -, -, -, -, -, -, -, -, -, -, -, -, -, h35, -⟩ := hF
            replace h35 : vs 35 = .bool false := h35
            have bl : Below wr.heap.size wr wx := hI
            simp only [putAll, Act.put, List.setIfInBounds_toArray, List.set_cons_zero, List.set_cons_succ, h35]
            clear hI h35
            have BX := Lib.hid (below_then BR.out bl)
            clear bl
            go_wp2_with fail
            go_roundw
            case rel => exact ⟨k + 1, by omega, by go_num, BX.out⟩
            case measure => simp [intOf]; omega
          · obtain rfl : a = u.v := by omega
            refine wp_region_typed (ClB wr) RlB (Ty [TV (.slice (some ⟨pg, og, none⟩) m cg), TV (.int .i64 (k : Int)), TV (.pointer (some ⟨pg, og + k, none⟩)), TV (.int .i64 u.v), TV (.bool true), TV (.bool true), TV (.slice (some ⟨pg, og, none⟩) m cg), TV (.int .i64 (k : Int)), TV (.pointer (some ⟨pg, og + k, none⟩)), TV (.int .i64 u.v), TV (.pointer (some ⟨bk, 2, none⟩)), TV (.int .i64 u.v), TV (.bool false), TV (.bool false), TV (.bool false), TV (.int .i64 (k : Int)), TV (.pointer (some ⟨bk, 0, none⟩)), TV (.int .i64 u.l), TV (.int .i64 (8 * u.l)), TV (.bool true), TV (.bool true), TV (.slice (some ⟨pg, og, none⟩) m cg), TV (.int .i64 (k : Int)), TV (.pointer (some ⟨pg, og + k, none⟩)), TV (.int .i64 u.v), TV (.slice (some ⟨pg, og, none⟩) m cg), TV (.int .i64 (k : Int)), TV (.pointer (some ⟨bk, 0, none⟩)), TV (.int .i64 u.l), TV (.int .i64 (8 * u.l)), TV (.int .i64 (j : Int)), TV (.pointer (some ⟨pg, og + j, none⟩)), TV (.int .i64 u.v), TV (.bool false), TV (.bool false), TV (.bool false)])
              (by kernel_rfl) (by kernel_rfl) (stab_ty _ ⟨stabB_k _, stabB_k _, stabB_k _, stabB_k _, stabB_k _, stabB_k _, stabB_k _, stabB_k _, stabB_k _, stabB_k _, stabB_k _, stabB_k _, stabB_k _, stabB_k _, stabB_k _, stabB_k _, stabB_k _, stabB_k _, stabB_k _, stabB_k _, stabB_k _, stabB_k _, stabB_k _, stabB_k _, stabB_k _, stabB_k _, stabB_k _, stabB_k _, stabB_k _, stabB_k _, stabB_k _, stabB_k _, stabB_k _, stabB_k _, stabB_k _, stabB_k _, trivial⟩) (Below.refl _ _).drew ?_ ?_
            · refine ⟨?_, ?_, ?_, ?_, ?_, ?_, ?_, ?_, ?_, ?_, ?_, ?_, ?_, ?_, ?_, ?_, ?_, ?_, ?_, ?_, ?_, ?_, ?_, ?_, ?_, ?_, ?_, ?_, ?_, ?_, ?_, ?_, ?_, ?_, ?_, ?_, trivial⟩
              · exact lb_move (.tmp 5) (.inl rfl) (fun _ _ _ => want_none rfl) fun ρ wx hc hx hp => hx 5 rfl
              · exact lb_move (.tmp 9) (.inl rfl) (fun _ _ _ => want_none rfl) fun ρ wx hc hx hp => hx 9 rfl
              · refine lb_val (.pointer (some ⟨pg, og + k, none⟩)) (fun _ _ _ => want_none rfl) fun ρ wx hb hc hx hp => ⟨?_, rfl⟩
                have h63 : ρ (.tmp 63) = .slice (some ⟨pg, og, none⟩) m cg := hp.1 rfl
                have h64 : ρ (.tmp 64) = .int .i64 (k : Int) := hp.2.1 rfl
                have g1 := HKM.out
                unfold execOp
                simp only [h63, h64]
                clear h63 h64 hx hp hc hb
                go_simp
              · refine lb_val (.int .i64 u.v) (fun _ _ _ => want_none rfl) fun ρ wx hb hc hx hp => ⟨?_, rfl⟩
                have h65 : ρ (.tmp 65) = .pointer (some ⟨pg, og + k, none⟩) := hp.1 rfl
                have cc := HC1.out wx hb
                unfold execOp
                simp only [h65]
                clear h65 hx hp hc hb
                go_simp
              · refine lb_val (.bool true) (fun _ _ _ => want_none rfl) fun ρ wx hb hc hx hp => ⟨?_, rfl⟩
                have h66 : ρ (.tmp 66) = .int .i64 u.v := hp.1 rfl
                have hk0 := hc (.int .i64 0)
                have g0 : (u.v == 0) = false := by simpa using h0
                unfold execOp
                simp only [h66, hk0]
                clear h66 hk0 hx hp hc hb
                go_simp
              · exact lb_move (.tmp 67) (.inl rfl) (fun _ _ _ => want_none rfl) fun ρ wx hc hx hp => hp.1 rfl
              · exact lb_move (.tmp 5) (.inl rfl) (fun ρ wx hp => want_of 5 true 68 rfl rfl (hp.1 rfl)) fun ρ wx hc hx hp => hx 5 rfl
              · exact lb_move (.tmp 9) (.inl rfl) (fun ρ wx hp => want_of 5 true 68 rfl rfl (hp.1 rfl)) fun ρ wx hc hx hp => hx 9 rfl
              · refine lb_val (.pointer (some ⟨pg, og + k, none⟩)) (fun ρ wx hp => want_of 5 true 68 rfl rfl (hp.2.2.1 rfl)) fun ρ wx hb hc hx hp => ⟨?_, rfl⟩
                have h69 : ρ (.tmp 69) = .slice (some ⟨pg, og, none⟩) m cg := hp.1 rfl
                have h70 : ρ (.tmp 70) = .int .i64 (k : Int) := hp.2.1 rfl
                have g1 := HKM.out
                unfold execOp
                simp only [h69, h70]
                clear h69 h70 hx hp hc hb
                go_simp
              · refine lb_val (.int .i64 u.v) (fun ρ wx hp => want_of 5 true 68 rfl rfl (hp.2.1 rfl)) fun ρ wx hb hc hx hp => ⟨?_, rfl⟩
                have h71 : ρ (.tmp 71) = .pointer (some ⟨pg, og + k, none⟩) := hp.1 rfl
                have cc := HC1.out wx hb
                unfold execOp
                simp only [h71]
                clear h71 hx hp hc hb
                go_simp
              · refine lb_val (.pointer (some ⟨bk, 2, none⟩)) (fun ρ wx hp => want_of 5 true 68 rfl rfl (hp.1 rfl)) fun ρ wx hb hc hx hp => ⟨?_, rfl⟩
                have h3 : ρ (.tmp 3) = .pointer (some ⟨bk, 0, none⟩) := hx 3 rfl
                unfold execOp
                simp only [h3]
                clear h3 hx hp hc hb
                go_simp
              · refine lb_val (.int .i64 u.v) (fun ρ wx hp => want_of 5 true 68 rfl rfl (hp.2.1 rfl)) fun ρ wx hb hc hx hp => ⟨?_, rfl⟩
                have h73 : ρ (.tmp 73) = .pointer (some ⟨bk, 2, none⟩) := hp.1 rfl
                have cc : wx.cell? ⟨bk, 2, none⟩ = some (.int .i64 u.v) := (HBK.out wx hb).cell 2
                unfold execOp
                simp only [h73]
                clear h73 hx hp hc hb
                go_simp
              · refine lb_val (.bool false) (fun ρ wx hp => want_of 5 true 68 rfl rfl (hp.2.2.1 rfl)) fun ρ wx hb hc hx hp => ⟨?_, rfl⟩
                have h72 : ρ (.tmp 72) = .int .i64 u.v := hp.1 rfl
                have h74 : ρ (.tmp 74) = .int .i64 u.v := hp.2.1 rfl
                unfold execOp
                simp only [h72, h74]
                clear h72 h74 hx hp hc hb
                go_simp
              · exact lb_pick (.tmp 68) (.tmp 75) (.const (.bool false)) rfl true (fun _ _ _ => want_none rfl) fun ρ wx hc hp => ⟨hp.1 rfl, hp.2.1 rfl⟩
              · exact lb_move (.tmp 76) (.inl rfl) (fun _ _ _ => want_none rfl) fun ρ wx hc hx hp => hp.1 rfl
              · exact lb_move (.tmp 9) (.inl rfl) (fun ρ wx hp => want_of 14 false 77 rfl rfl (hp.1 rfl)) fun ρ wx hc hx hp => hx 9 rfl
              · refine lb_val (.pointer (some ⟨bk, 0, none⟩)) (fun ρ wx hp => want_of 14 false 77 rfl rfl (hp.1 rfl)) fun ρ wx hb hc hx hp => ⟨?_, rfl⟩
                have h3 : ρ (.tmp 3) = .pointer (some ⟨bk, 0, none⟩) := hx 3 rfl
                unfold execOp
                simp only [h3]
                clear h3 hx hp hc hb
                go_simp
              · refine lb_val (.int .i64 u.l) (fun ρ wx hp => want_of 14 false 77 rfl rfl (hp.2.1 rfl)) fun ρ wx hb hc hx hp => ⟨?_, rfl⟩
                have h79 : ρ (.tmp 79) = .pointer (some ⟨bk, 0, none⟩) := hp.1 rfl
                have cc : wx.cell? ⟨bk, 0, none⟩ = some (.int .i64 u.l) := (HBK.out wx hb).cell 0
                unfold execOp
                simp only [h79]
                clear h79 hx hp hc hb
                go_simp
              · refine lb_val (.int .i64 (8 * u.l)) (fun ρ wx hp => want_of 14 false 77 rfl rfl (hp.2.1 rfl)) fun ρ wx hb hc hx hp => ⟨?_, rfl⟩
                have h80 : ρ (.tmp 80) = .int .i64 u.l := hp.1 rfl
                have hk0 := hc (.int .i64 8)
                have g1 := HK8.out
                unfold execOp
                simp only [h80, hk0]
                clear h80 hk0 hx hp hc hb
                go_simp
              · refine lb_val (.bool true) (fun ρ wx hp => want_of 14 false 77 rfl rfl (hp.2.2.1 rfl)) fun ρ wx hb hc hx hp => ⟨?_, rfl⟩
                have h78 : ρ (.tmp 78) = .int .i64 (k : Int) := hp.1 rfl
                have h81 : ρ (.tmp 81) = .int .i64 (8 * u.l) := hp.2.1 rfl
                have g1 := HSU.out.2.2.2
                have g2 := decide_eq_true g1
                unfold execOp
                simp only [h78, h81]
                clear h78 h81 hx hp hc hb
                go_simp
              · exact lb_move (.tmp 82) (.inl rfl) (fun ρ wx hp => want_of 14 false 77 rfl rfl (hp.2.1 rfl)) fun ρ wx hc hx hp => hp.1 rfl
              · exact lb_move (.tmp 5) (.inl rfl) (fun ρ wx hp => want_of 20 true 83 rfl rfl (hp.1 rfl)) fun ρ wx hc hx hp => hx 5 rfl
              · exact lb_move (.tmp 9) (.inl rfl) (fun ρ wx hp => want_of 20 true 83 rfl rfl (hp.1 rfl)) fun ρ wx hc hx hp => hx 9 rfl
              · refine lb_val (.pointer (some ⟨pg, og + k, none⟩)) (fun ρ wx hp => want_of 20 true 83 rfl rfl (hp.2.2.1 rfl)) fun ρ wx hb hc hx hp => ⟨?_, rfl⟩
                have h84 : ρ (.tmp 84) = .slice (some ⟨pg, og, none⟩) m cg := hp.1 rfl
                have h85 : ρ (.tmp 85) = .int .i64 (k : Int) := hp.2.1 rfl
                have g1 := HKM.out
                unfold execOp
                simp only [h84, h85]
                clear h84 h85 hx hp hc hb
                go_simp
              · refine lb_val (.int .i64 u.v) (fun ρ wx hp => want_of 20 true 83 rfl rfl (hp.2.1 rfl)) fun ρ wx hb hc hx hp => ⟨?_, rfl⟩
                have h86 : ρ (.tmp 86) = .pointer (some ⟨pg, og + k, none⟩) := hp.1 rfl
                have cc := HC1.out wx hb
                unfold execOp
                simp only [h86]
                clear h86 hx hp hc hb
                go_simp
              · exact lb_move (.tmp 5) (.inl rfl) (fun ρ wx hp => want_of 20 true 83 rfl rfl (hp.1 rfl)) fun ρ wx hc hx hp => hx 5 rfl
              · exact lb_move (.tmp 9) (.inl rfl) (fun ρ wx hp => want_of 20 true 83 rfl rfl (hp.1 rfl)) fun ρ wx hc hx hp => hx 9 rfl
              · refine lb_val (.pointer (some ⟨bk, 0, none⟩)) (fun ρ wx hp => want_of 20 true 83 rfl rfl (hp.1 rfl)) fun ρ wx hb hc hx hp => ⟨?_, rfl⟩
                have h3 : ρ (.tmp 3) = .pointer (some ⟨bk, 0, none⟩) := hx 3 rfl
                unfold execOp
                simp only [h3]
                clear h3 hx hp hc hb
                go_simp
              · refine lb_val (.int .i64 u.l) (fun ρ wx hp => want_of 20 true 83 rfl rfl (hp.2.1 rfl)) fun ρ wx hb hc hx hp => ⟨?_, rfl⟩
                have h90 : ρ (.tmp 90) = .pointer (some ⟨bk, 0, none⟩) := hp.1 rfl
                have cc : wx.cell? ⟨bk, 0, none⟩ = some (.int .i64 u.l) := (HBK.out wx hb).cell 0
                unfold execOp
                simp only [h90]
                clear h90 hx hp hc hb
                go_simp
              · refine lb_val (.int .i64 (8 * u.l)) (fun ρ wx hp => want_of 20 true 83 rfl rfl (hp.2.1 rfl)) fun ρ wx hb hc hx hp => ⟨?_, rfl⟩
                have h91 : ρ (.tmp 91) = .int .i64 u.l := hp.1 rfl
                have hk0 := hc (.int .i64 8)
                have g1 := HK8.out
                unfold execOp
                simp only [h91, hk0]
                clear h91 hk0 hx hp hc hb
                go_simp
              · refine lb_val (.int .i64 (j : Int)) (fun ρ wx hp => want_of 20 true 83 rfl rfl (hp.2.2.1 rfl)) fun ρ wx hb hc hx hp => ⟨?_, rfl⟩
                have h89 : ρ (.tmp 89) = .int .i64 (k : Int) := hp.1 rfl
                have h92 : ρ (.tmp 92) = .int .i64 (8 * u.l) := hp.2.1 rfl
                obtain ⟨g1, g2, -, -⟩ := HSU.out
                unfold execOp
                simp only [h89, h92]
                clear h89 h92 hx hp hc hb
                go_simp
              · refine lb_val (.pointer (some ⟨pg, og + j, none⟩)) (fun ρ wx hp => want_of 20 true 83 rfl rfl (hp.2.2.1 rfl)) fun ρ wx hb hc hx hp => ⟨?_, rfl⟩
                have h88 : ρ (.tmp 88) = .slice (some ⟨pg, og, none⟩) m cg := hp.1 rfl
                have h93 : ρ (.tmp 93) = .int .i64 (j : Int) := hp.2.1 rfl
                have g1 := HSU.out.2.2.1
                unfold execOp
                simp only [h88, h93]
                clear h88 h93 hx hp hc hb
                go_simp
              · refine lb_val (.int .i64 u.v) (fun ρ wx hp => want_of 20 true 83 rfl rfl (hp.2.1 rfl)) fun ρ wx hb hc hx hp => ⟨?_, rfl⟩
                have h94 : ρ (.tmp 94) = .pointer (some ⟨pg, og + j, none⟩) := hp.1 rfl
                have cc := HC2.out wx hb
                unfold execOp
                simp only [h94]
                clear h94 hx hp hc hb
                go_simp
              · refine lb_val (.bool false) (fun ρ wx hp => want_of 20 true 83 rfl rfl (hp.2.2.1 rfl)) fun ρ wx hb hc hx hp => ⟨?_, rfl⟩
                have h87 : ρ (.tmp 87) = .int .i64 u.v := hp.1 rfl
                have h95 : ρ (.tmp 95) = .int .i64 u.v := hp.2.1 rfl
                unfold execOp
                simp only [h87, h95]
                clear h87 h95 hx hp hc hb
                go_simp
              · exact lb_pick (.tmp 83) (.tmp 96) (.const (.bool false)) rfl true (fun ρ wx hp => want_of 14 false 77 rfl rfl (hp.2.2.1 rfl)) fun ρ wx hc hp => ⟨hp.1 rfl, hp.2.1 rfl⟩
              · exact lb_pick (.tmp 77) (.const (.bool true)) (.tmp 97) rfl false (fun _ _ _ => want_none rfl) fun ρ wx hc hp => ⟨hp.1 rfl, hp.2.1 rfl⟩
            intro vs wx hI hF
            obtain ⟨-, -, -, -, -, -, -, -, -, -, -, -, -, -, -, -, -, -, -, -, -, -, -, -, -, -, -, -, -, -, -, -, -, -, -, h35, -⟩ := hF
            replace h35 : vs 35 = .bool false := h35
            have bl : Below wr.heap.size wr wx := hI
            simp only [putAll, Act.put, List.setIfInBounds_toArray, List.set_cons_zero, List.set_cons_succ, h35]
            clear hI h35
            have BX := Lib.hid (below_then BR.out bl)
            clear bl
            go_wp2_with fail
            go_roundw
            case rel => exact ⟨k + 1, by omega, by go_num, BX.out⟩
            case measure => simp [intOf]; omega
        · have HLE : Hid (¬ (8 * u.l ≤ (k : Int))) := Lib.hid (by have := HMM.out; omega)
          rw [ha] at HC1 h2
          by_cases h0 : a = 0
          · subst h0
            refine wp_region_typed (ClB wr) RlB (Ty [TV (.slice (some ⟨pg, og, none⟩) m cg), TV (.int .i64 (k : Int)), TV (.pointer (some ⟨pg, og + k, none⟩)), TV (.int .i64 0), TV (.bool false), TV (.bool false), TV undef, TV undef, TV undef, TV undef, TV undef, TV undef, TV undef, TV (.bool false), TV (.bool false), TV (.int .i64 (k : Int)), TV (.pointer (some ⟨bk, 0, none⟩)), TV (.int .i64 u.l), TV (.int .i64 (8 * u.l)), TV (.bool false), TV (.bool false), TV undef, TV undef, TV undef, TV undef, TV undef, TV undef, TV undef, TV undef, TV undef, TV undef, TV undef, TV undef, TV undef, TV (.bool false), TV (.bool false)])
              (by kernel_rfl) (by kernel_rfl) (stab_ty _ ⟨stabB_k _, stabB_k _, stabB_k _, stabB_k _, stabB_k _, stabB_k _, stabB_k _, stabB_k _, stabB_k _, stabB_k _, stabB_k _, stabB_k _, stabB_k _, stabB_k _, stabB_k _, stabB_k _, stabB_k _, stabB_k _, stabB_k _, stabB_k _, stabB_k _, stabB_k _, stabB_k _, stabB_k _, stabB_k _, stabB_k _, stabB_k _, stabB_k _, stabB_k _, stabB_k _, stabB_k _, stabB_k _, stabB_k _, stabB_k _, stabB_k _, stabB_k _, trivial⟩) (Below.refl _ _).drew ?_ ?_
            · refine ⟨?_, ?_, ?_, ?_, ?_, ?_, ?_, ?_, ?_, ?_, ?_, ?_, ?_, ?_, ?_, ?_, ?_, ?_, ?_, ?_, ?_, ?_, ?_, ?_, ?_, ?_, ?_, ?_, ?_, ?_, ?_, ?_, ?_, ?_, ?_, ?_, trivial⟩
              · exact lb_move (.tmp 5) (.inl rfl) (fun _ _ _ => want_none rfl) fun ρ wx hc hx hp => hx 5 rfl
              · exact lb_move (.tmp 9) (.inl rfl) (fun _ _ _ => want_none rfl) fun ρ wx hc hx hp => hx 9 rfl
              · refine lb_val (.pointer (some ⟨pg, og + k, none⟩)) (fun _ _ _ => want_none rfl) fun ρ wx hb hc hx hp => ⟨?_, rfl⟩
                have h63 : ρ (.tmp 63) = .slice (some ⟨pg, og, none⟩) m cg := hp.1 rfl
                have h64 : ρ (.tmp 64) = .int .i64 (k : Int) := hp.2.1 rfl
                have g1 := HKM.out
                unfold execOp
                simp only [h63, h64]
                clear h63 h64 hx hp hc hb
                go_simp
              · refine lb_val (.int .i64 0) (fun _ _ _ => want_none rfl) fun ρ wx hb hc hx hp => ⟨?_, rfl⟩
                have h65 : ρ (.tmp 65) = .pointer (some ⟨pg, og + k, none⟩) := hp.1 rfl
                have cc := HC1.out wx hb
                unfold execOp
                simp only [h65]
                clear h65 hx hp hc hb
                go_simp
              · refine lb_val (.bool false) (fun _ _ _ => want_none rfl) fun ρ wx hb hc hx hp => ⟨?_, rfl⟩
                have h66 : ρ (.tmp 66) = .int .i64 0 := hp.1 rfl
                have hk0 := hc (.int .i64 0)
                unfold execOp
                simp only [h66, hk0]
                clear h66 hk0 hx hp hc hb
                go_simp
              · exact lb_move (.tmp 67) (.inl rfl) (fun _ _ _ => want_none rfl) fun ρ wx hc hx hp => hp.1 rfl
              · exact lb_not (fun ρ wx hp => want_not 5 true 68 rfl rfl (hp.1 rfl)) (fun _ => rfl)
              · exact lb_not (fun ρ wx hp => want_not 5 true 68 rfl rfl (hp.1 rfl)) (fun _ => rfl)
              · exact lb_not (fun ρ wx hp => want_not 5 true 68 rfl rfl (hp.2.2.1 rfl)) (fun _ => rfl)
              · exact lb_not (fun ρ wx hp => want_not 5 true 68 rfl rfl (hp.2.1 rfl)) (fun _ => rfl)
              · exact lb_not (fun ρ wx hp => want_not 5 true 68 rfl rfl (hp.1 rfl)) (fun _ => rfl)
              · exact lb_not (fun ρ wx hp => want_not 5 true 68 rfl rfl (hp.2.1 rfl)) (fun _ => rfl)
              · exact lb_not (fun ρ wx hp => want_not 5 true 68 rfl rfl (hp.2.2.1 rfl)) (fun _ => rfl)
              · exact lb_pick (.tmp 68) (.tmp 75) (.const (.bool false)) rfl false (fun _ _ _ => want_none rfl) fun ρ wx hc hp => ⟨hp.1 rfl, hc _⟩
              · exact lb_move (.tmp 76) (.inl rfl) (fun _ _ _ => want_none rfl) fun ρ wx hc hx hp => hp.1 rfl
              · exact lb_move (.tmp 9) (.inl rfl) (fun ρ wx hp => want_of 14 false 77 rfl rfl (hp.1 rfl)) fun ρ wx hc hx hp => hx 9 rfl
              · refine lb_val (.pointer (some ⟨bk, 0, none⟩)) (fun ρ wx hp => want_of 14 false 77 rfl rfl (hp.1 rfl)) fun ρ wx hb hc hx hp => ⟨?_, rfl⟩
                have h3 : ρ (.tmp 3) = .pointer (some ⟨bk, 0, none⟩) := hx 3 rfl
                unfold execOp
                simp only [h3]
                clear h3 hx hp hc hb
                go_simp
              · refine lb_val (.int .i64 u.l) (fun ρ wx hp => want_of 14 false 77 rfl rfl (hp.2.1 rfl)) fun ρ wx hb hc hx hp => ⟨?_, rfl⟩
                have h79 : ρ (.tmp 79) = .pointer (some ⟨bk, 0, none⟩) := hp.1 rfl
                have cc : wx.cell? ⟨bk, 0, none⟩ = some (.int .i64 u.l) := (HBK.out wx hb).cell 0
                unfold execOp
                simp only [h79]
                clear h79 hx hp hc hb
                go_simp
              · refine lb_val (.int .i64 (8 * u.l)) (fun ρ wx hp => want_of 14 false 77 rfl rfl (hp.2.1 rfl)) fun ρ wx hb hc hx hp => ⟨?_, rfl⟩
                have h80 : ρ (.tmp 80) = .int .i64 u.l := hp.1 rfl
                have hk0 := hc (.int .i64 8)
                have g1 := HK8.out
                unfold execOp
                simp only [h80, hk0]
                clear h80 hk0 hx hp hc hb
                go_simp
              · refine lb_val (.bool false) (fun ρ wx hp => want_of 14 false 77 rfl rfl (hp.2.2.1 rfl)) fun ρ wx hb hc hx hp => ⟨?_, rfl⟩
                have h78 : ρ (.tmp 78) = .int .i64 (k : Int) := hp.1 rfl
                have h81 : ρ (.tmp 81) = .int .i64 (8 * u.l) := hp.2.1 rfl
                have g1 := decide_eq_false HLE.out
                unfold execOp
                simp only [h78, h81]
                clear h78 h81 hx hp hc hb
                go_simp
              · exact lb_move (.tmp 82) (.inl rfl) (fun ρ wx hp => want_of 14 false 77 rfl rfl (hp.2.1 rfl)) fun ρ wx hc hx hp => hp.1 rfl
              · exact lb_not (fun ρ wx hp => want_not 20 true 83 rfl rfl (hp.1 rfl)) (fun _ => rfl)
              · exact lb_not (fun ρ wx hp => want_not 20 true 83 rfl rfl (hp.1 rfl)) (fun _ => rfl)
              · exact lb_not (fun ρ wx hp => want_not 20 true 83 rfl rfl (hp.2.2.1 rfl)) (fun _ => rfl)
              · exact lb_not (fun ρ wx hp => want_not 20 true 83 rfl rfl (hp.2.1 rfl)) (fun _ => rfl)
              · exact lb_not (fun ρ wx hp => want_not 20 true 83 rfl rfl (hp.1 rfl)) (fun _ => rfl)
              · exact lb_not (fun ρ wx hp => want_not 20 true 83 rfl rfl (hp.1 rfl)) (fun _ => rfl)
              · exact lb_not (fun ρ wx hp => want_not 20 true 83 rfl rfl (hp.1 rfl)) (fun _ => rfl)
              · exact lb_not (fun ρ wx hp => want_not 20 true 83 rfl rfl (hp.2.1 rfl)) (fun _ => rfl)
              · exact lb_not (fun ρ wx hp => want_not 20 true 83 rfl rfl (hp.2.1 rfl)) (fun _ => rfl)
              · exact lb_not (fun ρ wx hp => want_not 20 true 83 rfl rfl (hp.2.2.1 rfl)) (fun _ => rfl)
              · exact lb_not (fun ρ wx hp => want_not 20 true 83 rfl rfl (hp.2.2.1 rfl)) (fun _ => rfl)
              · exact lb_not (fun ρ wx hp => want_not 20 true 83 rfl rfl (hp.2.1 rfl)) (fun _ => rfl)
              · exact lb_not (fun ρ wx hp => want_not 20 true 83 rfl rfl (hp.2.2.1 rfl)) (fun _ => rfl)
              · exact lb_pick (.tmp 83) (.tmp 96) (.const (.bool false)) rfl false (fun ρ wx hp => want_of 14 false 77 rfl rfl (hp.2.2.1 rfl)) fun ρ wx hc hp => ⟨hp.1 rfl, hc _⟩
              · exact lb_pick (.tmp 77) (.const (.bool true)) (.tmp 97) rfl false (fun _ _ _ => want_none rfl) fun ρ wx hc hp => ⟨hp.1 rfl, hp.2.1 rfl⟩
            intro vs wx hI hF
            obtain ⟨-, -, -, -, -, -, -, -, -, -, -, -, -, -, -, -, -, -, -, -, -, -, -, -, -, -, -, -, -, -, -, -, -, -, -, h35, -⟩ := hF
            replace h35 : vs 35 = .bool false := h35
            have bl : Below wr.heap.size wr wx := hI
            simp only [putAll, Act.put, List.setIfInBounds_toArray, List.set_cons_zero, List.set_cons_succ, h35]
            clear hI h35
            have BX := Lib.hid (below_then BR.out bl)
            clear bl
            go_wp2_with fail
            go_roundw
            case rel => exact ⟨k + 1, by omega, by go_num, BX.out⟩
            case measure => simp [intOf]; omega
          · obtain rfl : a = u.v := by omega
            refine wp_region_typed (ClB wr) RlB (Ty [TV (.slice (some ⟨pg, og, none⟩) m cg), TV (.int .i64 (k : Int)), TV (.pointer (some ⟨pg, og + k, none⟩)), TV (.int .i64 u.v), TV (.bool true), TV (.bool true), TV (.slice (some ⟨pg, og, none⟩) m cg), TV (.int .i64 (k : Int)), TV (.pointer (some ⟨pg, og + k, none⟩)), TV (.int .i64 u.v), TV (.pointer (some ⟨bk, 2, none⟩)), TV (.int .i64 u.v), TV (.bool false), TV (.bool false), TV (.bool false), TV (.int .i64 (k : Int)), TV (.pointer (some ⟨bk, 0, none⟩)), TV (.int .i64 u.l), TV (.int .i64 (8 * u.l)), TV (.bool false), TV (.bool false), TV undef, TV undef, TV undef, TV undef, TV undef, TV undef, TV undef, TV undef, TV undef, TV undef, TV undef, TV undef, TV undef, TV (.bool false), TV (.bool false)])
              (by kernel_rfl) (by kernel_rfl) (stab_ty _ ⟨stabB_k _, stabB_k _, stabB_k _, stabB_k _, stabB_k _, stabB_k _, stabB_k _, stabB_k _, stabB_k _, stabB_k _, stabB_k _, stabB_k _, stabB_k _, stabB_k _, stabB_k _, stabB_k _, stabB_k _, stabB_k _, stabB_k _, stabB_k _, stabB_k _, stabB_k _, stabB_k _, stabB_k _, stabB_k _, stabB_k _, stabB_k _, stabB_k _, stabB_k _, stabB_k _, stabB_k _, stabB_k _, stabB_k _, stabB_k _, stabB_k _, stabB_k _, trivial⟩) (Below.refl _ _).drew ?_ ?_
            · refine ⟨?_, ?_, ?_, ?_, ?_, ?_, ?_, ?_, ?_, ?_, ?_, ?_, ?_, ?_, ?_, ?_, ?_, ?_, ?_, ?_, ?_, ?_, ?_, ?_, ?_, ?_, ?_, ?_, ?_, ?_, ?_, ?_, ?_, ?_, ?_, ?_, trivial⟩
              · exact lb_move (.tmp 5) (.inl rfl) (fun _ _ _ => want_none rfl) fun ρ wx hc hx hp => hx 5 rfl
              · exact lb_move (.tmp 9) (.inl rfl) (fun _ _ _ => want_none rfl) fun ρ wx hc hx hp => hx 9 rfl
              · refine lb_val (.pointer (some ⟨pg, og + k, none⟩)) (fun _ _ _ => want_none rfl) fun ρ wx hb hc hx hp => ⟨?_, rfl⟩
                have h63 : ρ (.tmp 63) = .slice (some ⟨pg, og, none⟩) m cg := hp.1 rfl
                have h64 : ρ (.tmp 64) = .int .i64 (k : Int) := hp.2.1 rfl
                have g1 := HKM.out
                unfold execOp
                simp only [h63, h64]
                clear h63 h64 hx hp hc hb
                go_simp
              · refine lb_val (.int .i64 u.v) (fun _ _ _ => want_none rfl) fun ρ wx hb hc hx hp => ⟨?_, rfl⟩
                have h65 : ρ (.tmp 65) = .pointer (some ⟨pg, og + k, none⟩) := hp.1 rfl
                have cc := HC1.out wx hb
                unfold execOp
                simp only [h65]
                clear h65 hx hp hc hb
                go_simp
              · refine lb_val (.bool true) (fun _ _ _ => want_none rfl) fun ρ wx hb hc hx hp => ⟨?_, rfl⟩
                have h66 : ρ (.tmp 66) = .int .i64 u.v := hp.1 rfl
                have hk0 := hc (.int .i64 0)
                have g0 : (u.v == 0) = false := by simpa using h0
                unfold execOp
                simp only [h66, hk0]
                clear h66 hk0 hx hp hc hb
                go_simp
              · exact lb_move (.tmp 67) (.inl rfl) (fun _ _ _ => want_none rfl) fun ρ wx hc hx hp => hp.1 rfl
              · exact lb_move (.tmp 5) (.inl rfl) (fun ρ wx hp => want_of 5 true 68 rfl rfl (hp.1 rfl)) fun ρ wx hc hx hp => hx 5 rfl
              · exact lb_move (.tmp 9) (.inl rfl) (fun ρ wx hp => want_of 5 true 68 rfl rfl (hp.1 rfl)) fun ρ wx hc hx hp => hx 9 rfl
              · refine lb_val (.pointer (some ⟨pg, og + k, none⟩)) (fun ρ wx hp => want_of 5 true 68 rfl rfl (hp.2.2.1 rfl)) fun ρ wx hb hc hx hp => ⟨?_, rfl⟩
                have h69 : ρ (.tmp 69) = .slice (some ⟨pg, og, none⟩) m cg := hp.1 rfl
                have h70 : ρ (.tmp 70) = .int .i64 (k : Int) := hp.2.1 rfl
                have g1 := HKM.out
                unfold execOp
                simp only [h69, h70]
                clear h69 h70 hx hp hc hb
                go_simp
              · refine lb_val (.int .i64 u.v) (fun ρ wx hp => want_of 5 true 68 rfl rfl (hp.2.1 rfl)) fun ρ wx hb hc hx hp => ⟨?_, rfl⟩
                have h71 : ρ (.tmp 71) = .pointer (some ⟨pg, og + k, none⟩) := hp.1 rfl
                have cc := HC1.out wx hb
                unfold execOp
                simp only [h71]
                clear h71 hx hp hc hb
                go_simp
              · refine lb_val (.pointer (some ⟨bk, 2, none⟩)) (fun ρ wx hp => want_of 5 true 68 rfl rfl (hp.1 rfl)) fun ρ wx hb hc hx hp => ⟨?_, rfl⟩
                have h3 : ρ (.tmp 3) = .pointer (some ⟨bk, 0, none⟩) := hx 3 rfl
                unfold execOp
                simp only [h3]
                clear h3 hx hp hc hb
                go_simp
              · refine lb_val (.int .i64 u.v) (fun ρ wx hp => want_of 5 true 68 rfl rfl (hp.2.1 rfl)) fun ρ wx hb hc hx hp => ⟨?_, rfl⟩
                have h73 : ρ (.tmp 73) = .pointer (some ⟨bk, 2, none⟩) := hp.1 rfl
                have cc : wx.cell? ⟨bk, 2, none⟩ = some (.int .i64 u.v) := (HBK.out wx hb).cell 2
                unfold execOp
                simp only [h73]
                clear h73 hx hp hc hb
                go_simp
              · refine lb_val (.bool false) (fun ρ wx hp => want_of 5 true 68 rfl rfl (hp.2.2.1 rfl)) fun ρ wx hb hc hx hp => ⟨?_, rfl⟩
                have h72 : ρ (.tmp 72) = .int .i64 u.v := hp.1 rfl
                have h74 : ρ (.tmp 74) = .int .i64 u.v := hp.2.1 rfl
                unfold execOp
                simp only [h72, h74]
                clear h72 h74 hx hp hc hb
                go_simp
              · exact lb_pick (.tmp 68) (.tmp 75) (.const (.bool false)) rfl true (fun _ _ _ => want_none rfl) fun ρ wx hc hp => ⟨hp.1 rfl, hp.2.1 rfl⟩
              · exact lb_move (.tmp 76) (.inl rfl) (fun _ _ _ => want_none rfl) fun ρ wx hc hx hp => hp.1 rfl
              · exact lb_move (.tmp 9) (.inl rfl) (fun ρ wx hp => want_of 14 false 77 rfl rfl (hp.1 rfl)) fun ρ wx hc hx hp => hx 9 rfl
              · refine lb_val (.pointer (some ⟨bk, 0, none⟩)) (fun ρ wx hp => want_of 14 false 77 rfl rfl (hp.1 rfl)) fun ρ wx hb hc hx hp => ⟨?_, rfl⟩
                have h3 : ρ (.tmp 3) = .pointer (some ⟨bk, 0, none⟩) := hx 3 rfl
                unfold execOp
                simp only [h3]
                clear h3 hx hp hc hb
                go_simp
              · refine lb_val (.int .i64 u.l) (fun ρ wx hp => want_of 14 false 77 rfl rfl (hp.2.1 rfl)) fun ρ wx hb hc hx hp => ⟨?_, rfl⟩
                have h79 : ρ (.tmp 79) = .pointer (some ⟨bk, 0, none⟩) := hp.1 rfl
                have cc : wx.cell? ⟨bk, 0, none⟩ = some (.int .i64 u.l) := (HBK.out wx hb).cell 0
                unfold execOp
                simp only [h79]
                clear h79 hx hp hc hb
                go_simp
              · refine lb_val (.int .i64 (8 * u.l)) (fun ρ wx hp => want_of 14 false 77 rfl rfl (hp.2.1 rfl)) fun ρ wx hb hc hx hp => ⟨?_, rfl⟩
                have h80 : ρ (.tmp 80) = .int .i64 u.l := hp.1 rfl
                have hk0 := hc (.int .i64 8)
                have g1 := HK8.out
                unfold execOp
                simp only [h80, hk0]
                clear h80 hk0 hx hp hc hb
                go_simp
              · refine lb_val (.bool false) (fun ρ wx hp => want_of 14 false 77 rfl rfl (hp.2.2.1 rfl)) fun ρ wx hb hc hx hp => ⟨?_, rfl⟩
                have h78 : ρ (.tmp 78) = .int .i64 (k : Int) := hp.1 rfl
                have h81 : ρ (.tmp 81) = .int .i64 (8 * u.l) := hp.2.1 rfl
                have g1 := decide_eq_false HLE.out
                unfold execOp
                simp only [h78, h81]
                clear h78 h81 hx hp hc hb
                go_simp
              · exact lb_move (.tmp 82) (.inl rfl) (fun ρ wx hp => want_of 14 false 77 rfl rfl (hp.2.1 rfl)) fun ρ wx hc hx hp => hp.1 rfl
              · exact lb_not (fun ρ wx hp => want_not 20 true 83 rfl rfl (hp.1 rfl)) (fun _ => rfl)
              · exact lb_not (fun ρ wx hp => want_not 20 true 83 rfl rfl (hp.1 rfl)) (fun _ => rfl)
              · exact lb_not (fun ρ wx hp => want_not 20 true 83 rfl rfl (hp.2.2.1 rfl)) (fun _ => rfl)
              · exact lb_not (fun ρ wx hp => want_not 20 true 83 rfl rfl (hp.2.1 rfl)) (fun _ => rfl)
              · exact lb_not (fun ρ wx hp => want_not 20 true 83 rfl rfl (hp.1 rfl)) (fun _ => rfl)
              · exact lb_not (fun ρ wx hp => want_not 20 true 83 rfl rfl (hp.1 rfl)) (fun _ => rfl)
              · exact lb_not (fun ρ wx hp => want_not 20 true 83 rfl rfl (hp.1 rfl)) (fun _ => rfl)
              · exact lb_not (fun ρ wx hp => want_not 20 true 83 rfl rfl (hp.2.1 rfl)) (fun _ => rfl)
              · exact lb_not (fun ρ wx hp => want_not 20 true 83 rfl rfl (hp.2.1 rfl)) (fun _ => rfl)
              · exact lb_not (fun ρ wx hp => want_not 20 true 83 rfl rfl (hp.2.2.1 rfl)) (fun _ => rfl)
              · exact lb_not (fun ρ wx hp => want_not 20 true 83 rfl rfl (hp.2.2.1 rfl)) (fun _ => rfl)
              · exact lb_not (fun ρ wx hp => want_not 20 true 83 rfl rfl (hp.2.1 rfl)) (fun _ => rfl)
              · exact lb_not (fun ρ wx hp => want_not 20 true 83 rfl rfl (hp.2.2.1 rfl)) (fun _ => rfl)
              · exact lb_pick (.tmp 83) (.tmp 96) (.const (.bool false)) rfl false (fun ρ wx hp => want_of 14 false 77 rfl rfl (hp.2.2.1 rfl)) fun ρ wx hc hp => ⟨hp.1 rfl, hc _⟩
              · exact lb_pick (.tmp 77) (.const (.bool true)) (.tmp 97) rfl false (fun _ _ _ => want_none rfl) fun ρ wx hc hp => ⟨hp.1 rfl, hp.2.1 rfl⟩
            intro vs wx hI hF
            obtain ⟨-, -, -, -, -, -, -, -, -, -, -, -, -, -, -, -, -, -, -, -, -, -, -, -, -, -, -, -, -, -, -, -, -, -, -, h35, -⟩ := hF
            replace h35 : vs 35 = .bool false := h35
            have bl : Below wr.heap.size wr wx := hI
            simp only [putAll, Act.put, List.setIfInBounds_toArray, List.set_cons_zero, List.set_cons_succ, h35]
            clear hI h35
            have BX := Lib.hid (below_then BR.out bl)
            clear bl
            go_wp2_with fail
            go_roundw
            case rel => exact ⟨k + 1, by omega, by go_num, BX.out⟩
            case measure => simp [intOf]; omega
      · obtain rfl : k = m := by omega
        have V9 := Lib.hid (V7.out.below BR.out)
        have E9 := Lib.hid (E7.out.below BR.out)
        have G9 := Lib.hid (G8.out.below BR.out)
        have B9 := Lib.hid (below_then B7.out BR.out)
        clear V7 E7 G8 B7 BR HCG F7
        have hqt : (k : Int).tdiv 3 = ((k / 3 : Nat) : Int) := by rw [Int.tdiv_eq_ediv_of_nonneg (by omega)]; omega
        obtain ⟨q, hq⟩ : ∃ q, k / 3 = q := ⟨_, rfl⟩
        rw [hq] at hqt
        have hqk : q ≤ k := by omega
        have hwq := wrapV (q : Int) (by omega) (by omega)
        have hwd := wrapV ((k : Int) - q) (by omega) (by omega)
        have hdd : (k : Int) - q = ((k - q : Nat) : Int) := by omega
        clear hq
        have HP1 := Lib.hid (play_yes (x := u) (n := (q : Int)) (by unfold playB; rw [HV.out, betQ_iff.2 ⟨by omega, by omega⟩]; rfl))
        rw [Int.toNat_natCast] at HP1
        have HVQ := Lib.hid (adv_ok HV.out q)
        have HP2 := Lib.hid (play_yes (x := adv u q) (n := (k : Int) - q) (by unfold playB; rw [HVQ.out, betQ_iff.2 ⟨by omega, by omega⟩]; rfl))
        rw [hdd, Int.toNat_natCast, ← adv_add, show q + (k - q) = k by omega, ← hdd] at HP2
        have HSA : Hid (smp u k = smp u q ++ smp (adv u q) (k - q)) := Lib.hid (by rw [← smp_add]; congr 1; omega)
        have HVK := Lib.hid (adv_ok HV.out k)
        clear hdd
        go_wp2_with (first | (refine vo_load (by rfl) _ rfl bk rfl u V9.out ?_))
        refine (im_play u (q : Int) _).mono ?_; rintro e w10 ⟨Aa, ca, fa, rfl, hca, ia, na, bl⟩
        rw [HP1.out.1, smp_len] at ia hca
        rw [HP1.out.1, HP1.out.2, smp_len]
        have E10 := Lib.hid (E9.out.below bl)
        have G10 := Lib.hid (G9.out.below bl)
        have B10 := Lib.hid (below_then B9.out bl)
        have A10 := Lib.hid ia
        clear bl V9 E9 G9 B9 ia na
        have BNw11 : Hid (Box (w10.alloc (.cells #[.int .i64 0, .int .i64 0, .int .i64 0, .int .i64 0, .int .i64 0] 24)) w10.heap.size 24 (vcs .zero)) := Lib.hid (Box.new w10 _ _)
        go_upto_region 17 with (first | (refine vo_store (by rfl) _ _ rfl w10.heap.size rfl (adv u q) rfl (vcs .zero) BNw11.out rfl ?_))
        have bl : Below w10.heap.size w10 ((w10.alloc (.cells #[.int .i64 0, .int .i64 0, .int .i64 0, .int .i64 0, .int .i64 0] 24)).setRow w10.heap.size (vcs (adv u q)).toArray) := below_row (below1 w10 _) (Nat.le_refl _) _
        have M11 : Hid (Box ((w10.alloc (.cells #[.int .i64 0, .int .i64 0, .int .i64 0, .int .i64 0, .int .i64 0] 24)).setRow w10.heap.size (vcs (adv u q)).toArray) w10.heap.size 24 (vcs (adv u q))) := Lib.hid (Box.row BNw11.out)
        have E11 := Lib.hid (E10.out.below bl)
        have G11 := Lib.hid (G10.out.below bl)
        have A11 := Lib.hid (A10.out.below bl)
        have zzw11 : ∀ b, b < w10.heap.size → b ≠ w10.heap.size := fun b h => by omega
        have neE11 := Lib.hid (zzw11 _ E10.out.lt)
        have B11 := Lib.hid (below_then B10.out bl)
        clear bl BNw11 B10 zzw11 E10 G10 A10 neE11
        generalize ((w10.alloc (.cells #[.int .i64 0, .int .i64 0, .int .i64 0, .int .i64 0, .int .i64 0] 24)).setRow w10.heap.size (vcs (adv u q)).toArray) = w11 at M11 B11 E11 G11 A11 ⊢
        generalize w10.heap.size = bm at M11 ⊢
        go_wp2_with (first | (refine vo_load (by rfl) _ rfl bm rfl (adv u q) M11.out ?_))
        refine (im_play (adv u q) ((k : Int) - q) _).mono ?_; rintro e w12 ⟨Ab, cb, fb, rfl, hcb, ib, nb, bl⟩
        rw [HP2.out.1, smp_len] at ib hcb
        rw [HP2.out.1, HP2.out.2, smp_len]
        have E12 := Lib.hid (E11.out.below bl)
        have G12 := Lib.hid (G11.out.below bl)
        have A12 := Lib.hid (A11.out.below bl)
        have B12 := Lib.hid (below_then B11.out bl)
        have Z12 := Lib.hid ib
        clear bl E11 G11 A11 B11 M11 ib nb
        have BNw13 : Hid (Box (w12.alloc (.cells #[.int .i64 0, .int .i64 0, .int .i64 0, .int .i64 0, .int .i64 0] 24)) w12.heap.size 24 (vcs .zero)) := Lib.hid (Box.new w12 _ _)
        go_upto_region 18 with (first | (refine vo_store (by rfl) _ _ rfl w12.heap.size rfl (adv u k) rfl (vcs .zero) BNw13.out rfl ?_))
        have bl : Below w12.heap.size w12 ((w12.alloc (.cells #[.int .i64 0, .int .i64 0, .int .i64 0, .int .i64 0, .int .i64 0] 24)).setRow w12.heap.size (vcs (adv u k)).toArray) := below_row (below1 w12 _) (Nat.le_refl _) _
        have Y13 : Hid (Box ((w12.alloc (.cells #[.int .i64 0, .int .i64 0, .int .i64 0, .int .i64 0, .int .i64 0] 24)).setRow w12.heap.size (vcs (adv u k)).toArray) w12.heap.size 24 (vcs (adv u k))) := Lib.hid (Box.row BNw13.out)
        have E13 := Lib.hid (E12.out.below bl)
        have G13 := Lib.hid (G12.out.below bl)
        have A13 := Lib.hid (A12.out.below bl)
        have Z13 := Lib.hid (Z12.out.below bl)
        have zzw13 : ∀ b, b < w12.heap.size → b ≠ w12.heap.size := fun b h => by omega
        have neE13 := Lib.hid (zzw13 _ E12.out.lt)
        have B13 := Lib.hid (below_then B12.out bl)
        clear bl BNw13 B12 zzw13 E12 G12 A12 Z12 neE13
        generalize ((w12.alloc (.cells #[.int .i64 0, .int .i64 0, .int .i64 0, .int .i64 0, .int .i64 0] 24)).setRow w12.heap.size (vcs (adv u k)).toArray) = w13 at Y13 B13 E13 G13 A13 Z13 ⊢
        generalize w12.heap.size = be at Y13 ⊢
        have AE : Hid (Ints (w13.alloc (.cells #[] 3)) Aa q (smp u q) fa) := Lib.hid (A13.out.below (below1 _ _))
        have OE : Hid ((w13.alloc (.cells #[] 3)).ownsRow w13.heap.size 3 1 (.slice (some ⟨w13.heap.size, 0, none⟩) 0 0) 0 (iv [])) := Lib.hid (own_empty w13 3 w13.heap.size (Nat.le_refl _))
        go_wp2_with (first
          | (at_builtin; refine wpList_append_ints rfl _ _ rfl w13.heap.size (.slice (some ⟨w13.heap.size, 0, none⟩) 0 0) 0 [] rfl OE.out Aa q ca (smp u q) fa rfl AE.out (by omega) (by simp) ?_; intro v1 wy own1 gr1 _; have O1 := Lib.hid own1; have BY : Hid (Below w13.heap.size w13 wy) := Lib.hid (below_grown (below1 w13 _) gr1 (by simp) (fun b hb => (own_lt OE.out b hb).1)); have ZY := Lib.hid (Z13.out.below BY.out); clear own1 gr1)
          | (at_builtin; refine wpList_append_ints rfl _ _ rfl w13.heap.size v1 (0 + q) ([] ++ smp u q) rfl O1.out Ab (k - q) cb (smp (adv u q) (k - q)) fb rfl ZY.out (by omega) (by have := BY.out.size; omega) ?_; intro v2 wz own2 gr2 _; obtain ⟨A2, c2, f2, rfl, _, _, h2, _⟩ := own_ints own2; have SZ := Lib.hid h2; have BZ : Hid (Below w13.heap.size w13 wz) := Lib.hid (below_grown BY.out gr2 BY.out.size (fun b hb => (own_lt O1.out b hb).1)); clear own2 gr2 h2))
        rw [List.nil_append, ← HSA.out, show 0 + q + (k - q) = k by omega] at SZ
        have G14 := Lib.hid (G13.out.below BZ.out)
        have E14 := Lib.hid (E13.out.below BZ.out)
        have Y14 := Lib.hid (Y13.out.below BZ.out)
        have B14 := Lib.hid (below_then B13.out BZ.out)
        try rw [show 0 + q + (k - q) = k by omega]
        clear AE OE O1 BY ZY BZ A13 Z13 G13 E13 Y13 B13
        refine (same_ints A2 (some ⟨pg, og, none⟩) k c2 cg (smp u k) f2 fg _ SZ.out G14.out (by omega)).mono ?_; rintro e w15 ⟨rfl, q15, hq15⟩
        have bl : Below wz.heap.size wz w15 := by rw [hq15]; exact below_drewN (Below.refl _ _) _
        have E15 := Lib.hid (E14.out.below bl)
        have Y15 := Lib.hid (Y14.out.below bl)
        have B15 := Lib.hid (below_then B14.out bl)
        clear bl hq15 SZ G14 E14 Y14 B14
        go_wp2_with (first | (refine vo_load (by rfl) _ rfl be rfl (adv u k) Y15.out ?_) | (refine vo_load (by rfl) _ rfl b6 rfl (adv u k) E15.out ?_))
        refine (im_voiceValid (adv u k) _).mono ?_; rw [HVK.out]; rintro e w16 ⟨rfl, bl⟩
        have B16 := Lib.hid (below_then B15.out bl)
        clear bl
        go_wp2_with fail
        go_ret
        exact ⟨rfl, B16.out⟩
  · have hs' : 1048576 < len0 := by omega
    go_enter Try.func4, Try.ntmps4
    go_wp2_with fail
    go_ret
    exact ⟨rfl, Below.refl _ _⟩
end Go.Proofs.Ytfbpnneegenhgaa
