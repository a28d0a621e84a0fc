/- The law on columns of real changes, walked. -/
import Derived.Test.YtddllcgbdgpkbaaBmL
import Derived.Test.YtddllcgbdgpkbaaTypedZ
namespace Go.Proofs.Ytddllcgbdgpkbaa
open Go.ChangeShapes Go.WideShapes Go.ChangeAt Go.RowKit
set_option linter.unusedVariables false

set_option maxRecDepth 100000 in
set_option maxHeartbeats 8000000 in
theorem walk_FnBeamParts (a0 : Option Addr) (len0 cap0 : Nat) (z0 : List Int) (w : World) (w0 : IsRow .u8 w a0 len0 cap0 z0) :
    Calls Try.prog 5 #[.slice a0 len0 cap0] w fun e w' => e = .returned (.bool true) ∧ Below w.heap.size w w' := by
  have H := Lib.hid w0
  have hl := isRow_len w0
  clear w0
  by_cases hs : len0 ≤ 1048576
  · go_enter Try.func5, Try.ntmps5
    go_wp2_with fail
    refine (draw_beamParts _ _ _ _ _ H.out).mono ?_; rintro e w1 ⟨x, y, A, n, c, L, fs, rfl, hn, hc, hi, hb⟩
    have I1 := Lib.hid hi
    have B1 := Lib.hid hb
    have hn9 : n ≤ 1000000000 := by omega
    clear hi hb
    obtain ⟨q, hq⟩ : ∃ q, (ptT L n x y).length = q := ⟨_, rfl⟩
    obtain ⟨HM, HA, hqn⟩ := ptT_facts L n x y
    rw [hq] at HM HA hqn
    have HN := Lib.hid hq
    clear hq
    obtain ⟨X, hX⟩ : ∃ X, ptT L n x y = X := ⟨_, rfl⟩
    rw [hX] at HM HA
    have HX := Lib.hid hX
    have HMM := Lib.hid HM
    have HAA := Lib.hid HA
    clear hX HM HA
    go_wp2_with fail
    refine (im_bmParts A n c L fs x y _ I1.out hn9).mono ?_; rw [HN.out, HX.out]; rintro e w2 ⟨R, r, fr, rfl, hr, hi2, _, bl⟩
    have J2 := Lib.hid hi2
    have I2 := Lib.hid (I1.out.below bl)
    have B2 := Lib.hid (below_then B1.out bl)
    clear hi2 bl I1 B1
    go_wp2_with fail
    refine (spec_bmParts A n c L fs x y _ I2.out hn9).mono ?_; rw [HN.out, HX.out]; rintro e w3 ⟨R', r', fr', rfl, _, hi3, _, bl⟩
    have K3 := Lib.hid hi3
    have J3 := Lib.hid (J2.out.below bl)
    have I3 := Lib.hid (I2.out.below bl)
    have B3 := Lib.hid (below_then B2.out bl)
    clear hi3 bl I2 J2 B2
    go_wp2_with fail
    refine (same_ints R R' q r r' X fr fr' _ J3.out K3.out (by omega)).mono ?_; rintro e w4 ⟨rfl, qq, hqq⟩
    have bl : Below w3.heap.size w3 w4 := by rw [hqq]; exact below_drewN (Below.refl _ _) _
    have J4 := Lib.hid (J3.out.below bl)
    have I4 := Lib.hid (I3.out.below bl)
    have B4 := Lib.hid (below_then B3.out bl)
    clear hqq bl I3 J3 K3 B3
    go_wp2_with fail
    go_loopw [7] (fun i wr => ∃ k : Nat, k ≤ q ∧ i = .int .i64 k ∧ Below w4.heap.size w4 wr) (fun i _ => q - (intOf i).toNat)
    case atStart => exact ⟨0, by omega, rfl, Below.refl _ _⟩
    case round =>
      obtain ⟨k, hk, rfl, hb⟩ := hrel
      have BR := Lib.hid hb
      clear hb
      by_cases hkq : k < q
      · have hkq' : (k : Int) < q := by omega
        have HKQ := Lib.hid hkq'
        obtain ⟨pr, ro, rfl, _, _, hcz⟩ := (J4.out.below BR.out).at_ (by omega)
        obtain ⟨j0, hj0, hcj⟩ := HMM.out k hkq
        obtain ⟨p, o, rfl, _, _, hcz2⟩ := (I4.out.below BR.out).at_ (by omega)
        clear hcz hcz2
        have HCX : Hid (∀ i, i < q → ∀ wx, Below w4.heap.size w4 wx → wx.cell? ⟨pr, ro + i, none⟩ = some (.int .i64 (X.getD i 0))) := Lib.hid fun i hi wx hb => by
          obtain ⟨p', o', he, _, _, hcz⟩ := (J4.out.below hb).at_ (by omega)
          injection he with he
          injection he with e1 e2 _
          subst e1 e2
          exact hcz i hi
        have HVA := Lib.hid (HAA.out k)
        have HV1 := HCX.out k hkq
        obtain ⟨vk, hvk⟩ : ∃ vk, X.getD k 0 = vk := ⟨_, rfl⟩
        have HVK0 := Lib.hid hvk
        rw [hvk] at hcj HVA HV1
        have HCJ0 := Lib.hid (anyC_yes hj0 hcj)
        clear hvk hj0 hcj
        have HV1 := Lib.hid HV1
        go_wp2_with fail
        go_loopw [8, 9] (fun b i wr => ∃ j : Nat, j ≤ n ∧ i = .int .i64 j ∧ b = .bool (anyC L vk j) ∧ Below w4.heap.size w4 wr) (fun _ i _ => n - (intOf i).toNat)
        case atStart => exact ⟨0, by omega, rfl, rfl, BR.out⟩
        case round =>
          obtain ⟨j, hj, rfl, rfl, hb⟩ := hrel
          have BW := Lib.hid hb
          clear hb BR
          have HVK : Hid (∀ wx, Below wr.heap.size wr wx → wx.cell? ⟨pr, ro + k, none⟩ = some (.int .i64 vk)) := Lib.hid fun wx hb => HV1.out wx (below_then BW.out hb)
          by_cases hjn : j < n
          · have hjn' : (j : Int) < n := by omega
            have HJN := Lib.hid hjn'
            have HCJ : Hid (∀ wx, Below wr.heap.size wr wx → wx.cell? ⟨p, o + j * 3, none⟩ = some (.int .i64 (cC L j))) := Lib.hid fun wx hb => (chg_cell (I4.out.below (below_then BW.out hb)) hjn).1
            have HST := Lib.hid (anyC_step L vk j)
            generalize cC L j = cj at HCJ HST
            obtain ⟨b, hbb⟩ : ∃ b, anyC L vk j = b := ⟨_, rfl⟩
            rw [hbb] at HST ⊢
            clear hbb
            cases b
            · by_cases he : cj = vk
              · have HAN : Hid (anyC L vk (j + 1) = true) := Lib.hid (by rw [HST.out, he]; simp)
                have HEQ := Lib.hid he
                clear he
                go_upto_region 14 with fail
                refine wp_region_typed2 (ClB wr) RlB (Ty [TV (.bool false), TV (.bool false), TV (.slice (some ⟨p, o, none⟩) n c), TV (.int .i64 (j : Int)), TV (.pointer (some ⟨p, o + j * 3, none⟩)), TV (.pointer (some ⟨p, o + j * 3, none⟩)), TV (.int .i64 cj), TV (.slice (some ⟨pr, ro, none⟩) q r), TV (.int .i64 (k : Int)), TV (.pointer (some ⟨pr, ro + k, none⟩)), TV (.int .i64 vk), TV (.bool true), TV (.bool true), TV (.bool true)])
                  (by kernel_rfl) (by kernel_rfl) (stab_ty _ ⟨stabB_k _, stabB_k _, stabB_k _, stabB_k _, stabB_k _, stabB_k _, stabB_k _, stabB_k _, stabB_k _, stabB_k _, stabB_k _, stabB_k _, stabB_k _, stabB_k _, trivial⟩) (Below.refl _ _).drew ?_ ?_
                · refine ⟨?_, ?_, ?_, ?_, ?_, ?_, ?_, ?_, ?_, ?_, ?_, ?_, ?_, ?_, trivial⟩
                  · exact lz_move 0 8 13 (.inl rfl) rfl (by kernel_rfl) (by kernel_rfl) fun w => rfl
                  · refine ob2_of ?_
                    exact lb_move (.tmp 42) (.inl rfl) (fun _ _ _ => want_none rfl) fun ρ wx hc hx hp => hp.1 rfl
                  · refine ob2_of ?_
                    exact lb_move (.tmp 5) (.inl rfl) (fun ρ wx hp => want_of 1 false 43 rfl rfl (hp.1 rfl)) fun ρ wx hc hx hp => hx 5 rfl
                  · refine ob2_of ?_
                    exact lb_move (.tmp 9) (.inl rfl) (fun ρ wx hp => want_of 1 false 43 rfl rfl (hp.1 rfl)) fun ρ wx hc hx hp => hx 9 rfl
                  · refine ob2_of ?_
                    refine lb_val (.pointer (some ⟨p, o + j * 3, none⟩)) (fun ρ wx hp => want_of 1 false 43 rfl rfl (hp.2.2.1 rfl)) fun ρ wx hb hc hx hp => ⟨?_, rfl⟩
                    have h44 : ρ (.tmp 44) = .slice (some ⟨p, o, none⟩) n c := hp.1 rfl
                    have h45 : ρ (.tmp 45) = .int .i64 (j : Int) := hp.2.1 rfl
                    have h0 := HJN.out
                    unfold execOp
                    simp only [h44, h45]
                    clear h44 h45 hx hp hc hb
                    go_simp
                  · refine ob2_of ?_
                    refine lb_val (.pointer (some ⟨p, o + j * 3, none⟩)) (fun ρ wx hp => want_of 1 false 43 rfl rfl (hp.2.1 rfl)) fun ρ wx hb hc hx hp => ⟨?_, rfl⟩
                    have h46 : ρ (.tmp 46) = .pointer (some ⟨p, o + j * 3, none⟩) := hp.1 rfl
                    unfold execOp
                    simp only [h46]
                    clear h46 hx hp hc hb
                    go_simp
                  · refine ob2_of ?_
                    refine lb_val (.int .i64 cj) (fun ρ wx hp => want_of 1 false 43 rfl rfl (hp.2.1 rfl)) fun ρ wx hb hc hx hp => ⟨?_, rfl⟩
                    have h47 : ρ (.tmp 47) = .pointer (some ⟨p, o + j * 3, none⟩) := hp.1 rfl
                    have c1 := HCJ.out wx hb
                    unfold execOp
                    simp only [h47]
                    clear h47 hx hp hc hb
                    go_simp
                  · refine ob2_of ?_
                    exact lb_move (.tmp 6) (.inl rfl) (fun ρ wx hp => want_of 1 false 43 rfl rfl (hp.1 rfl)) fun ρ wx hc hx hp => hx 6 rfl
                  · refine ob2_of ?_
                    exact lb_move (.tmp 7) (.inl rfl) (fun ρ wx hp => want_of 1 false 43 rfl rfl (hp.1 rfl)) fun ρ wx hc hx hp => hx 7 rfl
                  · refine ob2_of ?_
                    refine lb_val (.pointer (some ⟨pr, ro + k, none⟩)) (fun ρ wx hp => want_of 1 false 43 rfl rfl (hp.2.2.1 rfl)) fun ρ wx hb hc hx hp => ⟨?_, rfl⟩
                    have h49 : ρ (.tmp 49) = .slice (some ⟨pr, ro, none⟩) q r := hp.1 rfl
                    have h50 : ρ (.tmp 50) = .int .i64 (k : Int) := hp.2.1 rfl
                    have h0 := HKQ.out
                    unfold execOp
                    simp only [h49, h50]
                    clear h49 h50 hx hp hc hb
                    go_simp
                  · refine ob2_of ?_
                    refine lb_val (.int .i64 vk) (fun ρ wx hp => want_of 1 false 43 rfl rfl (hp.2.1 rfl)) fun ρ wx hb hc hx hp => ⟨?_, rfl⟩
                    have h51 : ρ (.tmp 51) = .pointer (some ⟨pr, ro + k, none⟩) := hp.1 rfl
                    have c1 := HVK.out wx hb
                    unfold execOp
                    simp only [h51]
                    clear h51 hx hp hc hb
                    go_simp
                  · refine ob2_of ?_
                    refine lb_val (.bool true) (fun ρ wx hp => want_of 1 false 43 rfl rfl (hp.2.2.1 rfl)) fun ρ wx hb hc hx hp => ⟨?_, rfl⟩
                    have h48 : ρ (.tmp 48) = .int .i64 cj := hp.1 rfl
                    have h52 : ρ (.tmp 52) = .int .i64 vk := hp.2.1 rfl
                    have h0 := HEQ.out
                    unfold execOp
                    simp only [h48, h52]
                    clear h48 h52 hx hp hc hb
                    go_simp
                  · refine ob2_of ?_
                    exact lb_pick (.tmp 43) (.const (.bool true)) (.tmp 53) rfl false (fun _ _ _ => want_none rfl) fun ρ wx hc hp => ⟨hp.1 rfl, hp.2.1 rfl⟩
                  · refine ob2_of ?_
                    exact lb_move (.tmp 54) (.inr rfl) (fun _ _ _ => want_none rfl) fun ρ wx hc hx hp => hp.1 rfl
                intro vs wx hI hF
                obtain ⟨-, -, -, -, -, -, -, -, -, -, -, -, -, h13, -⟩ := hF
                replace h13 : vs 13 = .bool true := h13
                have bl : Below wr.heap.size wr wx := hI
                simp only [putAll, Act.put, List.setIfInBounds_toArray, List.set_cons_zero, List.set_cons_succ, h13]
                clear hI h13
                have BX := Lib.hid (below_then BW.out bl)
                clear bl
                go_wp2_with fail
                go_roundw
                case rel => exact ⟨j + 1, by omega, by go_num, by rw [HAN.out], BX.out⟩
                case measure => simp [intOf]; omega
              · have HAN : Hid (anyC L vk (j + 1) = false) := Lib.hid (by rw [HST.out]; simpa using he)
                have HEQ := Lib.hid he
                clear he
                go_upto_region 14 with fail
                refine wp_region_typed2 (ClB wr) RlB (Ty [TV (.bool false), TV (.bool false), TV (.slice (some ⟨p, o, none⟩) n c), TV (.int .i64 (j : Int)), TV (.pointer (some ⟨p, o + j * 3, none⟩)), TV (.pointer (some ⟨p, o + j * 3, none⟩)), TV (.int .i64 cj), TV (.slice (some ⟨pr, ro, none⟩) q r), TV (.int .i64 (k : Int)), TV (.pointer (some ⟨pr, ro + k, none⟩)), TV (.int .i64 vk), TV (.bool false), TV (.bool false), TV (.bool false)])
                  (by kernel_rfl) (by kernel_rfl) (stab_ty _ ⟨stabB_k _, stabB_k _, stabB_k _, stabB_k _, stabB_k _, stabB_k _, stabB_k _, stabB_k _, stabB_k _, stabB_k _, stabB_k _, stabB_k _, stabB_k _, stabB_k _, trivial⟩) (Below.refl _ _).drew ?_ ?_
                · refine ⟨?_, ?_, ?_, ?_, ?_, ?_, ?_, ?_, ?_, ?_, ?_, ?_, ?_, ?_, trivial⟩
                  · exact lz_move 0 8 13 (.inl rfl) rfl (by kernel_rfl) (by kernel_rfl) fun w => rfl
                  · refine ob2_of ?_
                    exact lb_move (.tmp 42) (.inl rfl) (fun _ _ _ => want_none rfl) fun ρ wx hc hx hp => hp.1 rfl
                  · refine ob2_of ?_
                    exact lb_move (.tmp 5) (.inl rfl) (fun ρ wx hp => want_of 1 false 43 rfl rfl (hp.1 rfl)) fun ρ wx hc hx hp => hx 5 rfl
                  · refine ob2_of ?_
                    exact lb_move (.tmp 9) (.inl rfl) (fun ρ wx hp => want_of 1 false 43 rfl rfl (hp.1 rfl)) fun ρ wx hc hx hp => hx 9 rfl
                  · refine ob2_of ?_
                    refine lb_val (.pointer (some ⟨p, o + j * 3, none⟩)) (fun ρ wx hp => want_of 1 false 43 rfl rfl (hp.2.2.1 rfl)) fun ρ wx hb hc hx hp => ⟨?_, rfl⟩
                    have h44 : ρ (.tmp 44) = .slice (some ⟨p, o, none⟩) n c := hp.1 rfl
                    have h45 : ρ (.tmp 45) = .int .i64 (j : Int) := hp.2.1 rfl
                    have h0 := HJN.out
                    unfold execOp
                    simp only [h44, h45]
                    clear h44 h45 hx hp hc hb
                    go_simp
                  · refine ob2_of ?_
                    refine lb_val (.pointer (some ⟨p, o + j * 3, none⟩)) (fun ρ wx hp => want_of 1 false 43 rfl rfl (hp.2.1 rfl)) fun ρ wx hb hc hx hp => ⟨?_, rfl⟩
                    have h46 : ρ (.tmp 46) = .pointer (some ⟨p, o + j * 3, none⟩) := hp.1 rfl
                    unfold execOp
                    simp only [h46]
                    clear h46 hx hp hc hb
                    go_simp
                  · refine ob2_of ?_
                    refine lb_val (.int .i64 cj) (fun ρ wx hp => want_of 1 false 43 rfl rfl (hp.2.1 rfl)) fun ρ wx hb hc hx hp => ⟨?_, rfl⟩
                    have h47 : ρ (.tmp 47) = .pointer (some ⟨p, o + j * 3, none⟩) := hp.1 rfl
                    have c1 := HCJ.out wx hb
                    unfold execOp
                    simp only [h47]
                    clear h47 hx hp hc hb
                    go_simp
                  · refine ob2_of ?_
                    exact lb_move (.tmp 6) (.inl rfl) (fun ρ wx hp => want_of 1 false 43 rfl rfl (hp.1 rfl)) fun ρ wx hc hx hp => hx 6 rfl
                  · refine ob2_of ?_
                    exact lb_move (.tmp 7) (.inl rfl) (fun ρ wx hp => want_of 1 false 43 rfl rfl (hp.1 rfl)) fun ρ wx hc hx hp => hx 7 rfl
                  · refine ob2_of ?_
                    refine lb_val (.pointer (some ⟨pr, ro + k, none⟩)) (fun ρ wx hp => want_of 1 false 43 rfl rfl (hp.2.2.1 rfl)) fun ρ wx hb hc hx hp => ⟨?_, rfl⟩
                    have h49 : ρ (.tmp 49) = .slice (some ⟨pr, ro, none⟩) q r := hp.1 rfl
                    have h50 : ρ (.tmp 50) = .int .i64 (k : Int) := hp.2.1 rfl
                    have h0 := HKQ.out
                    unfold execOp
                    simp only [h49, h50]
                    clear h49 h50 hx hp hc hb
                    go_simp
                  · refine ob2_of ?_
                    refine lb_val (.int .i64 vk) (fun ρ wx hp => want_of 1 false 43 rfl rfl (hp.2.1 rfl)) fun ρ wx hb hc hx hp => ⟨?_, rfl⟩
                    have h51 : ρ (.tmp 51) = .pointer (some ⟨pr, ro + k, none⟩) := hp.1 rfl
                    have c1 := HVK.out wx hb
                    unfold execOp
                    simp only [h51]
                    clear h51 hx hp hc hb
                    go_simp
                  · refine ob2_of ?_
                    refine lb_val (.bool false) (fun ρ wx hp => want_of 1 false 43 rfl rfl (hp.2.2.1 rfl)) fun ρ wx hb hc hx hp => ⟨?_, rfl⟩
                    have h48 : ρ (.tmp 48) = .int .i64 cj := hp.1 rfl
                    have h52 : ρ (.tmp 52) = .int .i64 vk := hp.2.1 rfl
                    have h0 := HEQ.out
                    unfold execOp
                    simp only [h48, h52]
                    clear h48 h52 hx hp hc hb
                    go_simp
                  · refine ob2_of ?_
                    exact lb_pick (.tmp 43) (.const (.bool true)) (.tmp 53) rfl false (fun _ _ _ => want_none rfl) fun ρ wx hc hp => ⟨hp.1 rfl, hp.2.1 rfl⟩
                  · refine ob2_of ?_
                    exact lb_move (.tmp 54) (.inr rfl) (fun _ _ _ => want_none rfl) fun ρ wx hc hx hp => hp.1 rfl
                intro vs wx hI hF
                obtain ⟨-, -, -, -, -, -, -, -, -, -, -, -, -, h13, -⟩ := hF
                replace h13 : vs 13 = .bool false := h13
                have bl : Below wr.heap.size wr wx := hI
                simp only [putAll, Act.put, List.setIfInBounds_toArray, List.set_cons_zero, List.set_cons_succ, h13]
                clear hI h13
                have BX := Lib.hid (below_then BW.out bl)
                clear bl
                go_wp2_with fail
                go_roundw
                case rel => exact ⟨j + 1, by omega, by go_num, by rw [HAN.out], BX.out⟩
                case measure => simp [intOf]; omega
            · have HAN : Hid (anyC L vk (j + 1) = true) := Lib.hid (by rw [HST.out]; rfl)
              go_upto_region 14 with fail
              refine wp_region_typed2 (ClB wr) RlB (Ty [TV (.bool true), TV (.bool true), TV undef, TV undef, TV undef, TV undef, TV undef, TV undef, TV undef, TV undef, TV undef, TV undef, TV (.bool true), TV (.bool true)])
                (by kernel_rfl) (by kernel_rfl) (stab_ty _ ⟨stabB_k _, stabB_k _, stabB_k _, stabB_k _, stabB_k _, stabB_k _, stabB_k _, stabB_k _, stabB_k _, stabB_k _, stabB_k _, stabB_k _, stabB_k _, stabB_k _, trivial⟩) (Below.refl _ _).drew ?_ ?_
              · refine ⟨?_, ?_, ?_, ?_, ?_, ?_, ?_, ?_, ?_, ?_, ?_, ?_, ?_, ?_, trivial⟩
                · exact lz_move 0 8 13 (.inl rfl) rfl (by kernel_rfl) (by kernel_rfl) fun w => rfl
                · refine ob2_of ?_
                  exact lb_move (.tmp 42) (.inl rfl) (fun _ _ _ => want_none rfl) fun ρ wx hc hx hp => hp.1 rfl
                · refine ob2_of ?_
                  exact lb_not (fun ρ wx hp => want_not 1 false 43 rfl rfl (hp.1 rfl)) (fun _ => rfl)
                · refine ob2_of ?_
                  exact lb_not (fun ρ wx hp => want_not 1 false 43 rfl rfl (hp.1 rfl)) (fun _ => rfl)
                · refine ob2_of ?_
                  exact lb_not (fun ρ wx hp => want_not 1 false 43 rfl rfl (hp.2.2.1 rfl)) (fun _ => rfl)
                · refine ob2_of ?_
                  exact lb_not (fun ρ wx hp => want_not 1 false 43 rfl rfl (hp.2.1 rfl)) (fun _ => rfl)
                · refine ob2_of ?_
                  exact lb_not (fun ρ wx hp => want_not 1 false 43 rfl rfl (hp.2.1 rfl)) (fun _ => rfl)
                · refine ob2_of ?_
                  exact lb_not (fun ρ wx hp => want_not 1 false 43 rfl rfl (hp.1 rfl)) (fun _ => rfl)
                · refine ob2_of ?_
                  exact lb_not (fun ρ wx hp => want_not 1 false 43 rfl rfl (hp.1 rfl)) (fun _ => rfl)
                · refine ob2_of ?_
                  exact lb_not (fun ρ wx hp => want_not 1 false 43 rfl rfl (hp.2.2.1 rfl)) (fun _ => rfl)
                · refine ob2_of ?_
                  exact lb_not (fun ρ wx hp => want_not 1 false 43 rfl rfl (hp.2.1 rfl)) (fun _ => rfl)
                · refine ob2_of ?_
                  exact lb_not (fun ρ wx hp => want_not 1 false 43 rfl rfl (hp.2.2.1 rfl)) (fun _ => rfl)
                · refine ob2_of ?_
                  exact lb_pick (.tmp 43) (.const (.bool true)) (.tmp 53) rfl true (fun _ _ _ => want_none rfl) fun ρ wx hc hp => ⟨hp.1 rfl, hc _⟩
                · refine ob2_of ?_
                  exact lb_move (.tmp 54) (.inr rfl) (fun _ _ _ => want_none rfl) fun ρ wx hc hx hp => hp.1 rfl
              intro vs wx hI hF
              obtain ⟨-, -, -, -, -, -, -, -, -, -, -, -, -, h13, -⟩ := hF
              replace h13 : vs 13 = .bool true := h13
              have bl : Below wr.heap.size wr wx := hI
              simp only [putAll, Act.put, List.setIfInBounds_toArray, List.set_cons_zero, List.set_cons_succ, h13]
              clear hI h13
              have BX := Lib.hid (below_then BW.out bl)
              clear bl
              go_wp2_with fail
              go_roundw
              case rel => exact ⟨j + 1, by omega, by go_num, by rw [HAN.out], BX.out⟩
              case measure => simp [intOf]; omega
          · obtain rfl : j = n := by omega
            rw [HCJ0.out]
            by_cases hk0 : 0 < k
            · have HPOS : Hid ((0 : Int) < k) := Lib.hid (by omega)
              obtain ⟨km, hkm⟩ : ∃ km : Nat, k - 1 = km := ⟨_, rfl⟩
              have HKM : Hid (IntKind.i64.wrap ((k : Int) - 1) = (km : Int)) := Lib.hid (by rw [IntKind.wrap_i64]; omega)
              have HKMQ : Hid ((km : Int) < q) := Lib.hid (by omega)
              have HVM : Hid (∀ wx, Below wr.heap.size wr wx → wx.cell? ⟨pr, ro + km, none⟩ = some (.int .i64 (X.getD km 0))) := Lib.hid fun wx hb => HCX.out km (by omega) wx (below_then BW.out hb)
              have hlt := HVA.out hk0 hkq
              rw [hkm] at hlt
              generalize X.getD km 0 = vm at HVM hlt
              have HGE : Hid (vm < vk) := Lib.hid hlt
              clear hlt hkm
              go_upto_region 15 with fail
              refine wp_region_typed (ClB wr) RlB (Ty [TV (.bool true), TV (.bool false), TV (.bool false), TV (.int .i64 (k : Int)), TV (.bool true), TV (.bool true), TV (.slice (some ⟨pr, ro, none⟩) q r), TV (.int .i64 (k : Int)), TV (.int .i64 (km : Int)), TV (.pointer (some ⟨pr, ro + km, none⟩)), TV (.int .i64 vm), TV (.slice (some ⟨pr, ro, none⟩) q r), TV (.int .i64 (k : Int)), TV (.pointer (some ⟨pr, ro + k, none⟩)), TV (.int .i64 vk), TV (.bool false), TV (.bool false), TV (.bool false)])
                (by kernel_rfl) (by kernel_rfl) (stab_ty _ ⟨stabB_k _, stabB_k _, stabB_k _, stabB_k _, stabB_k _, stabB_k _, stabB_k _, stabB_k _, stabB_k _, stabB_k _, stabB_k _, stabB_k _, stabB_k _, stabB_k _, stabB_k _, stabB_k _, stabB_k _, stabB_k _, trivial⟩) (Below.refl _ _).drew ?_ ?_
              · refine ⟨?_, ?_, ?_, ?_, ?_, ?_, ?_, ?_, ?_, ?_, ?_, ?_, ?_, ?_, ?_, ?_, ?_, ?_, trivial⟩
                · exact lb_move (.tmp 8) (.inl rfl) (fun _ _ _ => want_none rfl) fun ρ wx hc hx hp => hx 8 rfl
                · refine lb_val (.bool false) (fun _ _ _ => want_none rfl) fun ρ wx hb hc hx hp => ⟨?_, rfl⟩
                  have h55 : ρ (.tmp 55) = .bool true := hp.1 rfl
                  unfold execOp
                  simp only [h55]
                  clear h55 hx hp hc hb
                  go_simp
                · exact lb_move (.tmp 56) (.inl rfl) (fun _ _ _ => want_none rfl) fun ρ wx hc hx hp => hp.1 rfl
                · exact lb_move (.tmp 7) (.inl rfl) (fun ρ wx hp => want_of 2 false 57 rfl rfl (hp.1 rfl)) fun ρ wx hc hx hp => hx 7 rfl
                · refine lb_val (.bool true) (fun ρ wx hp => want_of 2 false 57 rfl rfl (hp.2.1 rfl)) fun ρ wx hb hc hx hp => ⟨?_, rfl⟩
                  have h58 : ρ (.tmp 58) = .int .i64 (k : Int) := hp.1 rfl
                  have hk0 := hc (.int .i64 0)
                  have h0 := HPOS.out
                  unfold execOp
                  simp only [h58, hk0]
                  clear h58 hk0 hx hp hc hb
                  go_simp
                · exact lb_move (.tmp 59) (.inl rfl) (fun ρ wx hp => want_of 2 false 57 rfl rfl (hp.2.1 rfl)) fun ρ wx hc hx hp => hp.1 rfl
                · exact lb_move (.tmp 6) (.inl rfl) (fun ρ wx hp => want_of 5 true 60 rfl rfl (hp.1 rfl)) fun ρ wx hc hx hp => hx 6 rfl
                · exact lb_move (.tmp 7) (.inl rfl) (fun ρ wx hp => want_of 5 true 60 rfl rfl (hp.1 rfl)) fun ρ wx hc hx hp => hx 7 rfl
                · refine lb_val (.int .i64 (km : Int)) (fun ρ wx hp => want_of 5 true 60 rfl rfl (hp.2.1 rfl)) fun ρ wx hb hc hx hp => ⟨?_, rfl⟩
                  have h62 : ρ (.tmp 62) = .int .i64 (k : Int) := hp.1 rfl
                  have hk0 := hc (.int .i64 1)
                  have h0 := HKM.out
                  unfold execOp
                  simp only [h62, hk0]
                  clear h62 hk0 hx hp hc hb
                  go_simp
                · refine lb_val (.pointer (some ⟨pr, ro + km, none⟩)) (fun ρ wx hp => want_of 5 true 60 rfl rfl (hp.2.2.1 rfl)) fun ρ wx hb hc hx hp => ⟨?_, rfl⟩
                  have h61 : ρ (.tmp 61) = .slice (some ⟨pr, ro, none⟩) q r := hp.1 rfl
                  have h63 : ρ (.tmp 63) = .int .i64 (km : Int) := hp.2.1 rfl
                  have h0 := HKMQ.out
                  unfold execOp
                  simp only [h61, h63]
                  clear h61 h63 hx hp hc hb
                  go_simp
                · refine lb_val (.int .i64 vm) (fun ρ wx hp => want_of 5 true 60 rfl rfl (hp.2.1 rfl)) fun ρ wx hb hc hx hp => ⟨?_, rfl⟩
                  have h64 : ρ (.tmp 64) = .pointer (some ⟨pr, ro + km, none⟩) := hp.1 rfl
                  have c1 := HVM.out wx hb
                  unfold execOp
                  simp only [h64]
                  clear h64 hx hp hc hb
                  go_simp
                · exact lb_move (.tmp 6) (.inl rfl) (fun ρ wx hp => want_of 5 true 60 rfl rfl (hp.1 rfl)) fun ρ wx hc hx hp => hx 6 rfl
                · exact lb_move (.tmp 7) (.inl rfl) (fun ρ wx hp => want_of 5 true 60 rfl rfl (hp.1 rfl)) fun ρ wx hc hx hp => hx 7 rfl
                · refine lb_val (.pointer (some ⟨pr, ro + k, none⟩)) (fun ρ wx hp => want_of 5 true 60 rfl rfl (hp.2.2.1 rfl)) fun ρ wx hb hc hx hp => ⟨?_, rfl⟩
                  have h66 : ρ (.tmp 66) = .slice (some ⟨pr, ro, none⟩) q r := hp.1 rfl
                  have h67 : ρ (.tmp 67) = .int .i64 (k : Int) := hp.2.1 rfl
                  have h0 := HKQ.out
                  unfold execOp
                  simp only [h66, h67]
                  clear h66 h67 hx hp hc hb
                  go_simp
                · refine lb_val (.int .i64 vk) (fun ρ wx hp => want_of 5 true 60 rfl rfl (hp.2.1 rfl)) fun ρ wx hb hc hx hp => ⟨?_, rfl⟩
                  have h68 : ρ (.tmp 68) = .pointer (some ⟨pr, ro + k, none⟩) := hp.1 rfl
                  have c1 := HVK.out wx hb
                  unfold execOp
                  simp only [h68]
                  clear h68 hx hp hc hb
                  go_simp
                · refine lb_val (.bool false) (fun ρ wx hp => want_of 5 true 60 rfl rfl (hp.2.2.1 rfl)) fun ρ wx hb hc hx hp => ⟨?_, rfl⟩
                  have h65 : ρ (.tmp 65) = .int .i64 vm := hp.1 rfl
                  have h69 : ρ (.tmp 69) = .int .i64 vk := hp.2.1 rfl
                  have h0 := HGE.out
                  unfold execOp
                  simp only [h65, h69]
                  clear h65 h69 hx hp hc hb
                  go_simp
                · exact lb_pick (.tmp 60) (.tmp 70) (.const (.bool false)) rfl true (fun ρ wx hp => want_of 2 false 57 rfl rfl (hp.2.2.1 rfl)) fun ρ wx hc hp => ⟨hp.1 rfl, hp.2.1 rfl⟩
                · exact lb_pick (.tmp 57) (.const (.bool true)) (.tmp 71) rfl false (fun _ _ _ => want_none rfl) fun ρ wx hc hp => ⟨hp.1 rfl, hp.2.1 rfl⟩
              intro vs wx hI hF
              obtain ⟨-, -, -, -, -, -, -, -, -, -, -, -, -, -, -, -, -, h17, -⟩ := hF
              replace h17 : vs 17 = .bool false := h17
              have bl : Below wr.heap.size wr wx := hI
              simp only [putAll, Act.put, List.setIfInBounds_toArray, List.set_cons_zero, List.set_cons_succ, h17]
              clear hI h17
              have BX := Lib.hid (below_then BW.out bl)
              clear bl
              go_wp2_with fail
              go_roundw
              case rel => exact ⟨k + 1, by omega, by go_num, BX.out⟩
              case measure => simp [intOf]; omega
            · have HPOS : Hid ((k : Int) ≤ 0) := Lib.hid (by omega)
              go_upto_region 15 with fail
              refine wp_region_typed (ClB wr) RlB (Ty [TV (.bool true), TV (.bool false), TV (.bool false), TV (.int .i64 (k : Int)), TV (.bool false), TV (.bool false), TV undef, TV undef, TV undef, TV undef, TV undef, TV undef, TV undef, TV undef, TV undef, TV undef, TV (.bool false), TV (.bool false)])
                (by kernel_rfl) (by kernel_rfl) (stab_ty _ ⟨stabB_k _, stabB_k _, stabB_k _, stabB_k _, stabB_k _, stabB_k _, stabB_k _, stabB_k _, stabB_k _, stabB_k _, stabB_k _, stabB_k _, stabB_k _, stabB_k _, stabB_k _, stabB_k _, stabB_k _, stabB_k _, trivial⟩) (Below.refl _ _).drew ?_ ?_
              · refine ⟨?_, ?_, ?_, ?_, ?_, ?_, ?_, ?_, ?_, ?_, ?_, ?_, ?_, ?_, ?_, ?_, ?_, ?_, trivial⟩
                · exact lb_move (.tmp 8) (.inl rfl) (fun _ _ _ => want_none rfl) fun ρ wx hc hx hp => hx 8 rfl
                · refine lb_val (.bool false) (fun _ _ _ => want_none rfl) fun ρ wx hb hc hx hp => ⟨?_, rfl⟩
                  have h55 : ρ (.tmp 55) = .bool true := hp.1 rfl
                  unfold execOp
                  simp only [h55]
                  clear h55 hx hp hc hb
                  go_simp
                · exact lb_move (.tmp 56) (.inl rfl) (fun _ _ _ => want_none rfl) fun ρ wx hc hx hp => hp.1 rfl
                · exact lb_move (.tmp 7) (.inl rfl) (fun ρ wx hp => want_of 2 false 57 rfl rfl (hp.1 rfl)) fun ρ wx hc hx hp => hx 7 rfl
                · refine lb_val (.bool false) (fun ρ wx hp => want_of 2 false 57 rfl rfl (hp.2.1 rfl)) fun ρ wx hb hc hx hp => ⟨?_, rfl⟩
                  have h58 : ρ (.tmp 58) = .int .i64 (k : Int) := hp.1 rfl
                  have hk0 := hc (.int .i64 0)
                  have h0 := HPOS.out
                  unfold execOp
                  simp only [h58, hk0]
                  clear h58 hk0 hx hp hc hb
                  go_simp
                · exact lb_move (.tmp 59) (.inl rfl) (fun ρ wx hp => want_of 2 false 57 rfl rfl (hp.2.1 rfl)) fun ρ wx hc hx hp => hp.1 rfl
                · exact lb_not (fun ρ wx hp => want_not 5 true 60 rfl rfl (hp.1 rfl)) (fun _ => rfl)
                · exact lb_not (fun ρ wx hp => want_not 5 true 60 rfl rfl (hp.1 rfl)) (fun _ => rfl)
                · exact lb_not (fun ρ wx hp => want_not 5 true 60 rfl rfl (hp.2.1 rfl)) (fun _ => rfl)
                · exact lb_not (fun ρ wx hp => want_not 5 true 60 rfl rfl (hp.2.2.1 rfl)) (fun _ => rfl)
                · exact lb_not (fun ρ wx hp => want_not 5 true 60 rfl rfl (hp.2.1 rfl)) (fun _ => rfl)
                · exact lb_not (fun ρ wx hp => want_not 5 true 60 rfl rfl (hp.1 rfl)) (fun _ => rfl)
                · exact lb_not (fun ρ wx hp => want_not 5 true 60 rfl rfl (hp.1 rfl)) (fun _ => rfl)
                · exact lb_not (fun ρ wx hp => want_not 5 true 60 rfl rfl (hp.2.2.1 rfl)) (fun _ => rfl)
                · exact lb_not (fun ρ wx hp => want_not 5 true 60 rfl rfl (hp.2.1 rfl)) (fun _ => rfl)
                · exact lb_not (fun ρ wx hp => want_not 5 true 60 rfl rfl (hp.2.2.1 rfl)) (fun _ => rfl)
                · exact lb_pick (.tmp 60) (.tmp 70) (.const (.bool false)) rfl false (fun ρ wx hp => want_of 2 false 57 rfl rfl (hp.2.2.1 rfl)) fun ρ wx hc hp => ⟨hp.1 rfl, hc _⟩
                · exact lb_pick (.tmp 57) (.const (.bool true)) (.tmp 71) rfl false (fun _ _ _ => want_none rfl) fun ρ wx hc hp => ⟨hp.1 rfl, hp.2.1 rfl⟩
              intro vs wx hI hF
              obtain ⟨-, -, -, -, -, -, -, -, -, -, -, -, -, -, -, -, -, h17, -⟩ := hF
              replace h17 : vs 17 = .bool false := h17
              have bl : Below wr.heap.size wr wx := hI
              simp only [putAll, Act.put, List.setIfInBounds_toArray, List.set_cons_zero, List.set_cons_succ, h17]
              clear hI h17
              have BX := Lib.hid (below_then BW.out bl)
              clear bl
              go_wp2_with fail
              go_roundw
              case rel => exact ⟨k + 1, by omega, by go_num, BX.out⟩
              case measure => simp [intOf]; omega
      · obtain rfl : k = q := by omega
        have B5 := Lib.hid (below_then B4.out BR.out)
        have hkn : (k : Int) ≤ n := by omega
        have IE := Lib.hid (lone_chg wr 3 7 7)
        have BE := Lib.hid (B5.out.alloc B5.out.size (.cells #[.int .i64 3, .int .i64 7, .int .i64 7] 27))
        go_wp2_with fail
        refine (im_bmParts (some ⟨wr.heap.size, 0, none⟩) 1 1 [3, 7, 7] [wr.heap.size] 7 7 _ IE.out (by omega)).mono ?_
        rw [ptT_seven]
        rintro e w6 ⟨R6, r6, f6, rfl, _, _, _, bl⟩
        have B6 := Lib.hid (below_then BE.out bl)
        clear bl
        rw [show ([] : List Int).length = 0 from rfl]
        go_wp2_with fail
        refine (alive_any _).mono ?_; rintro e w' ⟨rfl, rfl⟩
        go_wp2_with fail
        go_ret
        exact ⟨rfl, B6.out⟩
  · have hs' : 1048576 < len0 := by omega
    go_enter Try.func5, Try.ntmps5
    go_wp2_with fail
    go_ret
    exact ⟨rfl, Below.refl _ _⟩
end Go.Proofs.Ytddllcgbdgpkbaa
