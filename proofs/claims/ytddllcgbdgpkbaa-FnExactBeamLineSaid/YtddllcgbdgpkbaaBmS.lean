/- The model's ChangesValid. -/
import Derived.Test.YtddllcgbdgpkbaaBmM
import Derived.Test.YtddllcgbdgpkbaaFldC
import Derived.Test.YtddllcgbdgpkbaaGC
namespace Go.Proofs.Ytddllcgbdgpkbaa
open Go.ChangeShapes Go.WideShapes Go.ChangeAt Go.RowKit
set_option linter.unusedVariables false

theorem want_undef {ops : Array Oper} {ρ : Operand → Value} {o : Oper} (j : Nat) (b : Bool) (d : Nat) (hg : o.guard = some (j, b)) (hd : (ops[j]?).bind (·.dst) = some d) (he : ρ (.tmp d) = undef) : wantV ops (slotR ρ) o = false := by
  unfold wantV; rw [hg]; simp only [hd, slotR, he]; simp [undef]
theorem chgB_no {L : List Int} {n k : Nat} (hk : k < n) (h : chg1 L k = false) : chgB L n = false := by unfold chgB; rw [chgK_no hk h]; rfl
set_option maxRecDepth 100000 in
set_option maxHeartbeats 8000000 in
theorem spec_chgValid (A : Option Addr) (n c : Nat) (L : List Int) (fp : List Nat) (w : World) (h : Ints w A (3 * n) L fp) (hn : n ≤ 1000000000) :
    Calls Try.prog 12 #[.slice A n c] w fun e w' => e = .returned (.bool (chgB L n)) ∧ Below w.heap.size w w' := by
  have H := Lib.hid h
  clear h
  go_enter Try.func12, Try.ntmps12
  go_wp2_with fail
  go_loopw [3] (fun i wr => ∃ k : Nat, k ≤ n ∧ i = .int .i64 k ∧ Below w.heap.size w wr ∧ chgK L k = true) (fun i _ => n - (intOf i).toNat)
  case atStart => exact ⟨0, by omega, rfl, Below.refl _ _, rfl⟩
  case round =>
    obtain ⟨k, hk, rfl, hb, hall⟩ := hrel
    have HK := Lib.hid hall
    have BR := Lib.hid hb
    clear hall hb
    by_cases hlt : k < n
    · obtain ⟨p, o, rfl, _, hpl, hc⟩ := H.out.at_ (by omega)
      have hlt' : (k : Int) < n := by omega
      have HLT : Hid ((k : Int) < n) := Lib.hid hlt'
      have HCC : Hid (∀ j q, q < n → j < 3 → ∀ W, Below wr.heap.size wr W → W.cell? ⟨p, o + q * 3 + j, none⟩ = some (.int .i64 (L.getD (3 * q + j) 0))) := Lib.hid fun j q hq hj W hb => by
        rw [(below_then BR.out hb).cell (by exact hpl)]
        have := hc (3 * q + j) (by omega)
        rwa [show o + (3 * q + j) = o + q * 3 + j by omega] at this
      have HC0 : Hid (∀ W, Below wr.heap.size wr W → W.cell? ⟨p, o + k * 3, none⟩ = some (.int .i64 (cC L k))) := Lib.hid fun W hb => HCC.out 0 k hlt (by omega) W hb
      have HC1 : Hid (∀ W, Below wr.heap.size wr W → W.cell? ⟨p, o + k * 3 + 1, none⟩ = some (.int .i64 (cX L k))) := Lib.hid fun W hb => HCC.out 1 k hlt (by omega) W hb
      have HC2 : Hid (∀ W, Below wr.heap.size wr W → W.cell? ⟨p, o + k * 3 + 2, none⟩ = some (.int .i64 (cY L k))) := Lib.hid fun W hb => HCC.out 2 k hlt (by omega) W hb
      have HV : Hid (chg1 L k = (betB (cC L k) 0 31 && !(decide (0 < k) && decide (cC L (k - 1) > cC L k)) && betB (cX L k) 0 255 && betB (cY L k) 0 255)) := Lib.hid rfl
      have HNO := Lib.hid (fun (h : chg1 L k = false) => chgB_no hlt h)
      have HYES : Hid (chg1 L k = true → chgK L (k + 1) = true) := Lib.hid fun h => by rw [chgK_step, HK.out, h]; rfl
      clear hc
      go_wp2_with fail
      cases h1 : betB (cC L k) 0 31
      · have H1 := Lib.hid h1
        have HN : Hid (chgB L n = false) := Lib.hid (HNO.out (by rw [HV.out, h1]; simp))
        clear h1
        refine wp_region_typed (ClB wr) RlB (Ty [TV (.slice (some ⟨p, o, none⟩) n c), TV (.int .i64 (k : Int)), TV (.pointer (some ⟨p, o + k * 3, none⟩)), TV (.pointer (some ⟨p, o + k * 3, none⟩)), TV (.int .i64 (cC L k)), TV (.bool false), TV (.bool true), TV (.bool true), TV undef, TV undef, TV undef, TV undef, TV undef, TV undef, TV undef, TV undef, TV undef, TV undef, TV undef, TV undef, TV undef, TV undef, TV undef, TV undef, TV (.bool true), TV (.bool true), TV undef, TV undef, TV undef, TV undef, TV undef, TV undef, TV undef, TV (.bool true), TV (.bool true), TV undef, TV undef, TV undef, TV undef, TV undef, TV undef, TV undef, TV (.bool true)])
          (by kernel_rfl) (by kernel_rfl) (stab_ty _ ⟨stabB_k _, stabB_k _, stabB_k _, stabB_k _, stabB_k _, stabB_k _, stabB_k _, stabB_k _, stabB_k _, stabB_k _, stabB_k _, stabB_k _, stabB_k _, stabB_k _, stabB_k _, stabB_k _, stabB_k _, stabB_k _, stabB_k _, stabB_k _, stabB_k _, stabB_k _, stabB_k _, stabB_k _, stabB_k _, stabB_k _, stabB_k _, stabB_k _, stabB_k _, stabB_k _, stabB_k _, stabB_k _, stabB_k _, stabB_k _, stabB_k _, stabB_k _, stabB_k _, stabB_k _, stabB_k _, stabB_k _, stabB_k _, stabB_k _, stabB_k _, trivial⟩) (Below.refl _ _).drew ?_ ?_
        · refine ⟨?_, ?_, ?_, ?_, ?_, ?_, ?_, ?_, ?_, ?_, ?_, ?_, ?_, ?_, ?_, ?_, ?_, ?_, ?_, ?_, ?_, ?_, ?_, ?_, ?_, ?_, ?_, ?_, ?_, ?_, ?_, ?_, ?_, ?_, ?_, ?_, ?_, ?_, ?_, ?_, ?_, ?_, ?_, trivial⟩
          · exact lb_move (.tmp 0) (.inl rfl) (fun _ _ _ => want_none rfl) fun ρ wx hc hx hp => hx 0 rfl
          · exact lb_move (.tmp 3) (.inl rfl) (fun _ _ _ => want_none rfl) fun ρ wx hc hx hp => hx 3 rfl
          · refine lb_val (.pointer (some ⟨p, o + k * 3, none⟩)) (fun _ _ _ => want_none rfl) fun ρ wx hb hc hx hp => ⟨?_, rfl⟩
            have h10 : ρ (.tmp 10) = .slice (some ⟨p, o, none⟩) n c := hp.1 rfl
            have h11 : ρ (.tmp 11) = .int .i64 (k : Int) := hp.2.1 rfl
            have h0 := HLT.out
            unfold execOp
            simp only [h10, h11]
            clear h10 h11 hx hp hc hb
            go_simp
          · refine lb_val (.pointer (some ⟨p, o + k * 3, none⟩)) (fun _ _ _ => want_none rfl) fun ρ wx hb hc hx hp => ⟨?_, rfl⟩
            have h12 : ρ (.tmp 12) = .pointer (some ⟨p, o + k * 3, none⟩) := hp.1 rfl
            unfold execOp
            simp only [h12]
            clear h12 hx hp hc hb
            go_simp
          · refine lb_val (.int .i64 (cC L k)) (fun _ _ _ => want_none rfl) fun ρ wx hb hc hx hp => ⟨?_, rfl⟩
            have h13 : ρ (.tmp 13) = .pointer (some ⟨p, o + k * 3, none⟩) := hp.1 rfl
            have c1 := HC0.out wx hb
            unfold execOp
            simp only [h13]
            clear h13 hx hp hc hb
            go_simp
          · refine lb_known _ _ _ (.bool false) (fun _ _ => by simp [go_sem]) rfl (fun _ _ _ => want_none rfl) #[.int .i64 (cC L k), .int .i64 0, .int .i64 31] (fun wq hb => (l1In_any (cC L k) 0 31 wq).mono fun e w' ⟨e1, e2⟩ => ⟨by rw [e1, H1.out], e2 ▸ Below.refl _ _⟩) (fun ρ wx hc hx hp => ?_) (fun _ => rfl)
            have h0 : ρ (.tmp 14) = .int .i64 (cC L k) := hp.1 rfl
            have h1 := hc (.int .i64 0)
            have h2 := hc (.int .i64 31)
            simp only [List.map_toArray, List.map_cons, List.map_nil, h0, h1, h2]
          · refine lb_val (.bool true) (fun _ _ _ => want_none rfl) fun ρ wx hb hc hx hp => ⟨?_, rfl⟩
            have h15 : ρ (.tmp 15) = .bool false := hp.1 rfl
            unfold execOp
            simp only [h15]
            clear h15 hx hp hc hb
            go_simp
          · exact lb_move (.tmp 16) (.inl rfl) (fun _ _ _ => want_none rfl) fun ρ wx hc hx hp => hp.1 rfl
          · exact lb_not (fun ρ wx hp => want_not 7 false 17 rfl rfl (hp.1 rfl)) (fun _ => rfl)
          · exact lb_not (fun ρ wx hp => want_not 7 false 17 rfl rfl (hp.2.1 rfl)) (fun _ => rfl)
          · exact lb_not (fun ρ wx hp => want_not 7 false 17 rfl rfl (hp.2.1 rfl)) (fun _ => rfl)
          · exact lb_not (fun ρ wx hp => want_undef 10 true 20 rfl rfl (hp.1 rfl)) (fun _ => rfl)
          · exact lb_not (fun ρ wx hp => want_undef 10 true 20 rfl rfl (hp.1 rfl)) (fun _ => rfl)
          · exact lb_not (fun ρ wx hp => want_undef 10 true 20 rfl rfl (hp.2.1 rfl)) (fun _ => rfl)
          · exact lb_not (fun ρ wx hp => want_undef 10 true 20 rfl rfl (hp.2.2.1 rfl)) (fun _ => rfl)
          · exact lb_not (fun ρ wx hp => want_undef 10 true 20 rfl rfl (hp.2.1 rfl)) (fun _ => rfl)
          · exact lb_not (fun ρ wx hp => want_undef 10 true 20 rfl rfl (hp.2.1 rfl)) (fun _ => rfl)
          · exact lb_not (fun ρ wx hp => want_undef 10 true 20 rfl rfl (hp.1 rfl)) (fun _ => rfl)
          · exact lb_not (fun ρ wx hp => want_undef 10 true 20 rfl rfl (hp.1 rfl)) (fun _ => rfl)
          · exact lb_not (fun ρ wx hp => want_undef 10 true 20 rfl rfl (hp.2.2.1 rfl)) (fun _ => rfl)
          · exact lb_not (fun ρ wx hp => want_undef 10 true 20 rfl rfl (hp.2.1 rfl)) (fun _ => rfl)
          · exact lb_not (fun ρ wx hp => want_undef 10 true 20 rfl rfl (hp.2.1 rfl)) (fun _ => rfl)
          · exact lb_not (fun ρ wx hp => want_undef 10 true 20 rfl rfl (hp.2.2.1 rfl)) (fun _ => rfl)
          · exact lb_not (fun ρ wx hp => want_not 7 false 17 rfl rfl (hp.2.2.1 rfl)) (fun _ => rfl)
          · exact lb_pick (.tmp 17) (.const (.bool true)) (.tmp 33) rfl true (fun _ _ _ => want_none rfl) fun ρ wx hc hp => ⟨hp.1 rfl, hc _⟩
          · exact lb_move (.tmp 34) (.inl rfl) (fun _ _ _ => want_none rfl) fun ρ wx hc hx hp => hp.1 rfl
          · exact lb_not (fun ρ wx hp => want_not 25 false 35 rfl rfl (hp.1 rfl)) (fun _ => rfl)
          · exact lb_not (fun ρ wx hp => want_not 25 false 35 rfl rfl (hp.1 rfl)) (fun _ => rfl)
          · exact lb_not (fun ρ wx hp => want_not 25 false 35 rfl rfl (hp.2.2.1 rfl)) (fun _ => rfl)
          · exact lb_not (fun ρ wx hp => want_not 25 false 35 rfl rfl (hp.2.1 rfl)) (fun _ => rfl)
          · exact lb_not (fun ρ wx hp => want_not 25 false 35 rfl rfl (hp.2.1 rfl)) (fun _ => rfl)
          · exact lb_not (fun ρ wx hp => want_not 25 false 35 rfl rfl (hp.2.1 rfl)) (fun _ => rfl)
          · exact lb_not (fun ρ wx hp => want_not 25 false 35 rfl rfl (hp.2.1 rfl)) (fun _ => rfl)
          · exact lb_pick (.tmp 35) (.const (.bool true)) (.tmp 42) rfl true (fun _ _ _ => want_none rfl) fun ρ wx hc hp => ⟨hp.1 rfl, hc _⟩
          · exact lb_move (.tmp 43) (.inl rfl) (fun _ _ _ => want_none rfl) fun ρ wx hc hx hp => hp.1 rfl
          · exact lb_not (fun ρ wx hp => want_not 34 false 44 rfl rfl (hp.1 rfl)) (fun _ => rfl)
          · exact lb_not (fun ρ wx hp => want_not 34 false 44 rfl rfl (hp.1 rfl)) (fun _ => rfl)
          · exact lb_not (fun ρ wx hp => want_not 34 false 44 rfl rfl (hp.2.2.1 rfl)) (fun _ => rfl)
          · exact lb_not (fun ρ wx hp => want_not 34 false 44 rfl rfl (hp.2.1 rfl)) (fun _ => rfl)
          · exact lb_not (fun ρ wx hp => want_not 34 false 44 rfl rfl (hp.2.1 rfl)) (fun _ => rfl)
          · exact lb_not (fun ρ wx hp => want_not 34 false 44 rfl rfl (hp.2.1 rfl)) (fun _ => rfl)
          · exact lb_not (fun ρ wx hp => want_not 34 false 44 rfl rfl (hp.2.1 rfl)) (fun _ => rfl)
          · exact lb_pick (.tmp 44) (.const (.bool true)) (.tmp 51) rfl true (fun _ _ _ => want_none rfl) fun ρ wx hc hp => ⟨hp.1 rfl, hc _⟩
        intro vs wx hI hF
        obtain ⟨-, -, -, -, -, -, -, -, -, -, -, -, -, -, -, -, -, -, -, -, -, -, -, -, -, -, -, -, -, -, -, -, -, -, -, -, -, -, -, -, -, -, h42, -⟩ := hF
        replace h42 : vs 42 = .bool true := h42
        have bl : Below wr.heap.size wr wx := hI
        simp only [putAll, Act.put, List.setIfInBounds_toArray, List.set_cons_zero, List.set_cons_succ, h42]
        clear hI h42
        have BX := Lib.hid (below_then BR.out bl)
        go_wp2_with fail
        go_ret
        exact ⟨ret_bool HN.out.symm, BX.out⟩
      · have H1 := Lib.hid h1
        clear h1
        by_cases hk0 : k = 0
        · have HK0 : Hid (k = 0) := Lib.hid hk0
          have HKZ := Lib.hid hk0
          clear hk0
          cases h2 : betB (cX L k) 0 255
          · have H2 := Lib.hid h2
            have HN : Hid (chgB L n = false) := Lib.hid (HNO.out (by rw [HV.out, h2]; simp))
            clear h2
            refine wp_region_typed (ClB wr) RlB (Ty [TV (.slice (some ⟨p, o, none⟩) n c), TV (.int .i64 (k : Int)), TV (.pointer (some ⟨p, o + k * 3, none⟩)), TV (.pointer (some ⟨p, o + k * 3, none⟩)), TV (.int .i64 (cC L k)), TV (.bool true), TV (.bool false), TV (.bool false), TV (.int .i64 (k : Int)), TV (.bool false), TV (.bool false), TV undef, TV undef, TV undef, TV undef, TV undef, TV undef, TV undef, TV undef, TV undef, TV undef, TV undef, TV undef, TV (.bool false), TV (.bool false), TV (.bool false), TV (.slice (some ⟨p, o, none⟩) n c), TV (.int .i64 (k : Int)), TV (.pointer (some ⟨p, o + k * 3, none⟩)), TV (.pointer (some ⟨p, o + k * 3 + 1, none⟩)), TV (.int .i64 (cX L k)), TV (.bool false), TV (.bool true), TV (.bool true), TV (.bool true), TV undef, TV undef, TV undef, TV undef, TV undef, TV undef, TV undef, TV (.bool true)])
              (by kernel_rfl) (by kernel_rfl) (stab_ty _ ⟨stabB_k _, stabB_k _, stabB_k _, stabB_k _, stabB_k _, stabB_k _, stabB_k _, stabB_k _, stabB_k _, stabB_k _, stabB_k _, stabB_k _, stabB_k _, stabB_k _, stabB_k _, stabB_k _, stabB_k _, stabB_k _, stabB_k _, stabB_k _, stabB_k _, stabB_k _, stabB_k _, stabB_k _, stabB_k _, stabB_k _, stabB_k _, stabB_k _, stabB_k _, stabB_k _, stabB_k _, stabB_k _, stabB_k _, stabB_k _, stabB_k _, stabB_k _, stabB_k _, stabB_k _, stabB_k _, stabB_k _, stabB_k _, stabB_k _, stabB_k _, trivial⟩) (Below.refl _ _).drew ?_ ?_
            · refine ⟨?_, ?_, ?_, ?_, ?_, ?_, ?_, ?_, ?_, ?_, ?_, ?_, ?_, ?_, ?_, ?_, ?_, ?_, ?_, ?_, ?_, ?_, ?_, ?_, ?_, ?_, ?_, ?_, ?_, ?_, ?_, ?_, ?_, ?_, ?_, ?_, ?_, ?_, ?_, ?_, ?_, ?_, ?_, trivial⟩
              · exact lb_move (.tmp 0) (.inl rfl) (fun _ _ _ => want_none rfl) fun ρ wx hc hx hp => hx 0 rfl
              · exact lb_move (.tmp 3) (.inl rfl) (fun _ _ _ => want_none rfl) fun ρ wx hc hx hp => hx 3 rfl
              · refine lb_val (.pointer (some ⟨p, o + k * 3, none⟩)) (fun _ _ _ => want_none rfl) fun ρ wx hb hc hx hp => ⟨?_, rfl⟩
                have h10 : ρ (.tmp 10) = .slice (some ⟨p, o, none⟩) n c := hp.1 rfl
                have h11 : ρ (.tmp 11) = .int .i64 (k : Int) := hp.2.1 rfl
                have h0 := HLT.out
                unfold execOp
                simp only [h10, h11]
                clear h10 h11 hx hp hc hb
                go_simp
              · refine lb_val (.pointer (some ⟨p, o + k * 3, none⟩)) (fun _ _ _ => want_none rfl) fun ρ wx hb hc hx hp => ⟨?_, rfl⟩
                have h12 : ρ (.tmp 12) = .pointer (some ⟨p, o + k * 3, none⟩) := hp.1 rfl
                unfold execOp
                simp only [h12]
                clear h12 hx hp hc hb
                go_simp
              · refine lb_val (.int .i64 (cC L k)) (fun _ _ _ => want_none rfl) fun ρ wx hb hc hx hp => ⟨?_, rfl⟩
                have h13 : ρ (.tmp 13) = .pointer (some ⟨p, o + k * 3, none⟩) := hp.1 rfl
                have c1 := HC0.out wx hb
                unfold execOp
                simp only [h13]
                clear h13 hx hp hc hb
                go_simp
              · refine lb_known _ _ _ (.bool true) (fun _ _ => by simp [go_sem]) rfl (fun _ _ _ => want_none rfl) #[.int .i64 (cC L k), .int .i64 0, .int .i64 31] (fun wq hb => (l1In_any (cC L k) 0 31 wq).mono fun e w' ⟨e1, e2⟩ => ⟨by rw [e1, H1.out], e2 ▸ Below.refl _ _⟩) (fun ρ wx hc hx hp => ?_) (fun _ => rfl)
                have h0 : ρ (.tmp 14) = .int .i64 (cC L k) := hp.1 rfl
                have h1 := hc (.int .i64 0)
                have h2 := hc (.int .i64 31)
                simp only [List.map_toArray, List.map_cons, List.map_nil, h0, h1, h2]
              · refine lb_val (.bool false) (fun _ _ _ => want_none rfl) fun ρ wx hb hc hx hp => ⟨?_, rfl⟩
                have h15 : ρ (.tmp 15) = .bool true := hp.1 rfl
                unfold execOp
                simp only [h15]
                clear h15 hx hp hc hb
                go_simp
              · exact lb_move (.tmp 16) (.inl rfl) (fun _ _ _ => want_none rfl) fun ρ wx hc hx hp => hp.1 rfl
              · exact lb_move (.tmp 3) (.inl rfl) (fun ρ wx hp => want_of 7 false 17 rfl rfl (hp.1 rfl)) fun ρ wx hc hx hp => hx 3 rfl
              · refine lb_val (.bool false) (fun ρ wx hp => want_of 7 false 17 rfl rfl (hp.2.1 rfl)) fun ρ wx hb hc hx hp => ⟨?_, rfl⟩
                have h18 : ρ (.tmp 18) = .int .i64 (k : Int) := hp.1 rfl
                have hk0 := hc (.int .i64 0)
                have h0 := HK0.out
                unfold execOp
                simp only [h18, hk0]
                clear h18 hk0 hx hp hc hb
                go_simp
              · exact lb_move (.tmp 19) (.inl rfl) (fun ρ wx hp => want_of 7 false 17 rfl rfl (hp.2.1 rfl)) fun ρ wx hc hx hp => hp.1 rfl
              · exact lb_not (fun ρ wx hp => want_not 10 true 20 rfl rfl (hp.1 rfl)) (fun _ => rfl)
              · exact lb_not (fun ρ wx hp => want_not 10 true 20 rfl rfl (hp.1 rfl)) (fun _ => rfl)
              · exact lb_not (fun ρ wx hp => want_not 10 true 20 rfl rfl (hp.2.1 rfl)) (fun _ => rfl)
              · exact lb_not (fun ρ wx hp => want_not 10 true 20 rfl rfl (hp.2.2.1 rfl)) (fun _ => rfl)
              · exact lb_not (fun ρ wx hp => want_not 10 true 20 rfl rfl (hp.2.1 rfl)) (fun _ => rfl)
              · exact lb_not (fun ρ wx hp => want_not 10 true 20 rfl rfl (hp.2.1 rfl)) (fun _ => rfl)
              · exact lb_not (fun ρ wx hp => want_not 10 true 20 rfl rfl (hp.1 rfl)) (fun _ => rfl)
              · exact lb_not (fun ρ wx hp => want_not 10 true 20 rfl rfl (hp.1 rfl)) (fun _ => rfl)
              · exact lb_not (fun ρ wx hp => want_not 10 true 20 rfl rfl (hp.2.2.1 rfl)) (fun _ => rfl)
              · exact lb_not (fun ρ wx hp => want_not 10 true 20 rfl rfl (hp.2.1 rfl)) (fun _ => rfl)
              · exact lb_not (fun ρ wx hp => want_not 10 true 20 rfl rfl (hp.2.1 rfl)) (fun _ => rfl)
              · exact lb_not (fun ρ wx hp => want_not 10 true 20 rfl rfl (hp.2.2.1 rfl)) (fun _ => rfl)
              · exact lb_pick (.tmp 20) (.tmp 32) (.const (.bool false)) rfl false (fun ρ wx hp => want_of 7 false 17 rfl rfl (hp.2.2.1 rfl)) fun ρ wx hc hp => ⟨hp.1 rfl, hc _⟩
              · exact lb_pick (.tmp 17) (.const (.bool true)) (.tmp 33) rfl false (fun _ _ _ => want_none rfl) fun ρ wx hc hp => ⟨hp.1 rfl, hp.2.1 rfl⟩
              · exact lb_move (.tmp 34) (.inl rfl) (fun _ _ _ => want_none rfl) fun ρ wx hc hx hp => hp.1 rfl
              · exact lb_move (.tmp 0) (.inl rfl) (fun ρ wx hp => want_of 25 false 35 rfl rfl (hp.1 rfl)) fun ρ wx hc hx hp => hx 0 rfl
              · exact lb_move (.tmp 3) (.inl rfl) (fun ρ wx hp => want_of 25 false 35 rfl rfl (hp.1 rfl)) fun ρ wx hc hx hp => hx 3 rfl
              · refine lb_val (.pointer (some ⟨p, o + k * 3, none⟩)) (fun ρ wx hp => want_of 25 false 35 rfl rfl (hp.2.2.1 rfl)) fun ρ wx hb hc hx hp => ⟨?_, rfl⟩
                have h36 : ρ (.tmp 36) = .slice (some ⟨p, o, none⟩) n c := hp.1 rfl
                have h37 : ρ (.tmp 37) = .int .i64 (k : Int) := hp.2.1 rfl
                have h0 := HLT.out
                unfold execOp
                simp only [h36, h37]
                clear h36 h37 hx hp hc hb
                go_simp
              · refine lb_val (.pointer (some ⟨p, o + k * 3 + 1, none⟩)) (fun ρ wx hp => want_of 25 false 35 rfl rfl (hp.2.1 rfl)) fun ρ wx hb hc hx hp => ⟨?_, rfl⟩
                have h38 : ρ (.tmp 38) = .pointer (some ⟨p, o + k * 3, none⟩) := hp.1 rfl
                unfold execOp
                simp only [h38]
                clear h38 hx hp hc hb
                go_simp
              · refine lb_val (.int .i64 (cX L k)) (fun ρ wx hp => want_of 25 false 35 rfl rfl (hp.2.1 rfl)) fun ρ wx hb hc hx hp => ⟨?_, rfl⟩
                have h39 : ρ (.tmp 39) = .pointer (some ⟨p, o + k * 3 + 1, none⟩) := hp.1 rfl
                have c1 := HC1.out wx hb
                unfold execOp
                simp only [h39]
                clear h39 hx hp hc hb
                go_simp
              · refine lb_known _ _ _ (.bool false) (fun _ _ => by simp [go_sem]) rfl (fun ρ wx hp => want_of 25 false 35 rfl rfl (hp.2.1 rfl)) #[.int .i64 (cX L k), .int .i64 0, .int .i64 255] (fun wq hb => (l1In_any (cX L k) 0 255 wq).mono fun e w' ⟨e1, e2⟩ => ⟨by rw [e1, H2.out], e2 ▸ Below.refl _ _⟩) (fun ρ wx hc hx hp => ?_) (fun _ => rfl)
                have h0 : ρ (.tmp 40) = .int .i64 (cX L k) := hp.1 rfl
                have h1 := hc (.int .i64 0)
                have h2 := hc (.int .i64 255)
                simp only [List.map_toArray, List.map_cons, List.map_nil, h0, h1, h2]
              · refine lb_val (.bool true) (fun ρ wx hp => want_of 25 false 35 rfl rfl (hp.2.1 rfl)) fun ρ wx hb hc hx hp => ⟨?_, rfl⟩
                have h41 : ρ (.tmp 41) = .bool false := hp.1 rfl
                unfold execOp
                simp only [h41]
                clear h41 hx hp hc hb
                go_simp
              · exact lb_pick (.tmp 35) (.const (.bool true)) (.tmp 42) rfl false (fun _ _ _ => want_none rfl) fun ρ wx hc hp => ⟨hp.1 rfl, hp.2.1 rfl⟩
              · exact lb_move (.tmp 43) (.inl rfl) (fun _ _ _ => want_none rfl) fun ρ wx hc hx hp => hp.1 rfl
              · exact lb_not (fun ρ wx hp => want_not 34 false 44 rfl rfl (hp.1 rfl)) (fun _ => rfl)
              · exact lb_not (fun ρ wx hp => want_not 34 false 44 rfl rfl (hp.1 rfl)) (fun _ => rfl)
              · exact lb_not (fun ρ wx hp => want_not 34 false 44 rfl rfl (hp.2.2.1 rfl)) (fun _ => rfl)
              · exact lb_not (fun ρ wx hp => want_not 34 false 44 rfl rfl (hp.2.1 rfl)) (fun _ => rfl)
              · exact lb_not (fun ρ wx hp => want_not 34 false 44 rfl rfl (hp.2.1 rfl)) (fun _ => rfl)
              · exact lb_not (fun ρ wx hp => want_not 34 false 44 rfl rfl (hp.2.1 rfl)) (fun _ => rfl)
              · exact lb_not (fun ρ wx hp => want_not 34 false 44 rfl rfl (hp.2.1 rfl)) (fun _ => rfl)
              · exact lb_pick (.tmp 44) (.const (.bool true)) (.tmp 51) rfl true (fun _ _ _ => want_none rfl) fun ρ wx hc hp => ⟨hp.1 rfl, hc _⟩
            intro vs wx hI hF
            obtain ⟨-, -, -, -, -, -, -, -, -, -, -, -, -, -, -, -, -, -, -, -, -, -, -, -, -, -, -, -, -, -, -, -, -, -, -, -, -, -, -, -, -, -, h42, -⟩ := hF
            replace h42 : vs 42 = .bool true := h42
            have bl : Below wr.heap.size wr wx := hI
            simp only [putAll, Act.put, List.setIfInBounds_toArray, List.set_cons_zero, List.set_cons_succ, h42]
            clear hI h42
            have BX := Lib.hid (below_then BR.out bl)
            go_wp2_with fail
            go_ret
            exact ⟨ret_bool HN.out.symm, BX.out⟩
          · have H2 := Lib.hid h2
            cases h3 : betB (cY L k) 0 255
            · have H3 := Lib.hid h3
              have HN : Hid (chgB L n = false) := Lib.hid (HNO.out (by rw [HV.out, h3]; simp))
              clear h2 h3
              refine wp_region_typed (ClB wr) RlB (Ty [TV (.slice (some ⟨p, o, none⟩) n c), TV (.int .i64 (k : Int)), TV (.pointer (some ⟨p, o + k * 3, none⟩)), TV (.pointer (some ⟨p, o + k * 3, none⟩)), TV (.int .i64 (cC L k)), TV (.bool true), TV (.bool false), TV (.bool false), TV (.int .i64 (k : Int)), TV (.bool false), TV (.bool false), TV undef, TV undef, TV undef, TV undef, TV undef, TV undef, TV undef, TV undef, TV undef, TV undef, TV undef, TV undef, TV (.bool false), TV (.bool false), TV (.bool false), TV (.slice (some ⟨p, o, none⟩) n c), TV (.int .i64 (k : Int)), TV (.pointer (some ⟨p, o + k * 3, none⟩)), TV (.pointer (some ⟨p, o + k * 3 + 1, none⟩)), TV (.int .i64 (cX L k)), TV (.bool true), TV (.bool false), TV (.bool false), TV (.bool false), TV (.slice (some ⟨p, o, none⟩) n c), TV (.int .i64 (k : Int)), TV (.pointer (some ⟨p, o + k * 3, none⟩)), TV (.pointer (some ⟨p, o + k * 3 + 2, none⟩)), TV (.int .i64 (cY L k)), TV (.bool false), TV (.bool true), TV (.bool true)])
                (by kernel_rfl) (by kernel_rfl) (stab_ty _ ⟨stabB_k _, stabB_k _, stabB_k _, stabB_k _, stabB_k _, stabB_k _, stabB_k _, stabB_k _, stabB_k _, stabB_k _, stabB_k _, stabB_k _, stabB_k _, stabB_k _, stabB_k _, stabB_k _, stabB_k _, stabB_k _, stabB_k _, stabB_k _, stabB_k _, stabB_k _, stabB_k _, stabB_k _, stabB_k _, stabB_k _, stabB_k _, stabB_k _, stabB_k _, stabB_k _, stabB_k _, stabB_k _, stabB_k _, stabB_k _, stabB_k _, stabB_k _, stabB_k _, stabB_k _, stabB_k _, stabB_k _, stabB_k _, stabB_k _, stabB_k _, trivial⟩) (Below.refl _ _).drew ?_ ?_
              · refine ⟨?_, ?_, ?_, ?_, ?_, ?_, ?_, ?_, ?_, ?_, ?_, ?_, ?_, ?_, ?_, ?_, ?_, ?_, ?_, ?_, ?_, ?_, ?_, ?_, ?_, ?_, ?_, ?_, ?_, ?_, ?_, ?_, ?_, ?_, ?_, ?_, ?_, ?_, ?_, ?_, ?_, ?_, ?_, trivial⟩
                · exact lb_move (.tmp 0) (.inl rfl) (fun _ _ _ => want_none rfl) fun ρ wx hc hx hp => hx 0 rfl
                · exact lb_move (.tmp 3) (.inl rfl) (fun _ _ _ => want_none rfl) fun ρ wx hc hx hp => hx 3 rfl
                · refine lb_val (.pointer (some ⟨p, o + k * 3, none⟩)) (fun _ _ _ => want_none rfl) fun ρ wx hb hc hx hp => ⟨?_, rfl⟩
                  have h10 : ρ (.tmp 10) = .slice (some ⟨p, o, none⟩) n c := hp.1 rfl
                  have h11 : ρ (.tmp 11) = .int .i64 (k : Int) := hp.2.1 rfl
                  have h0 := HLT.out
                  unfold execOp
                  simp only [h10, h11]
                  clear h10 h11 hx hp hc hb
                  go_simp
                · refine lb_val (.pointer (some ⟨p, o + k * 3, none⟩)) (fun _ _ _ => want_none rfl) fun ρ wx hb hc hx hp => ⟨?_, rfl⟩
                  have h12 : ρ (.tmp 12) = .pointer (some ⟨p, o + k * 3, none⟩) := hp.1 rfl
                  unfold execOp
                  simp only [h12]
                  clear h12 hx hp hc hb
                  go_simp
                · refine lb_val (.int .i64 (cC L k)) (fun _ _ _ => want_none rfl) fun ρ wx hb hc hx hp => ⟨?_, rfl⟩
                  have h13 : ρ (.tmp 13) = .pointer (some ⟨p, o + k * 3, none⟩) := hp.1 rfl
                  have c1 := HC0.out wx hb
                  unfold execOp
                  simp only [h13]
                  clear h13 hx hp hc hb
                  go_simp
                · refine lb_known _ _ _ (.bool true) (fun _ _ => by simp [go_sem]) rfl (fun _ _ _ => want_none rfl) #[.int .i64 (cC L k), .int .i64 0, .int .i64 31] (fun wq hb => (l1In_any (cC L k) 0 31 wq).mono fun e w' ⟨e1, e2⟩ => ⟨by rw [e1, H1.out], e2 ▸ Below.refl _ _⟩) (fun ρ wx hc hx hp => ?_) (fun _ => rfl)
                  have h0 : ρ (.tmp 14) = .int .i64 (cC L k) := hp.1 rfl
                  have h1 := hc (.int .i64 0)
                  have h2 := hc (.int .i64 31)
                  simp only [List.map_toArray, List.map_cons, List.map_nil, h0, h1, h2]
                · refine lb_val (.bool false) (fun _ _ _ => want_none rfl) fun ρ wx hb hc hx hp => ⟨?_, rfl⟩
                  have h15 : ρ (.tmp 15) = .bool true := hp.1 rfl
                  unfold execOp
                  simp only [h15]
                  clear h15 hx hp hc hb
                  go_simp
                · exact lb_move (.tmp 16) (.inl rfl) (fun _ _ _ => want_none rfl) fun ρ wx hc hx hp => hp.1 rfl
                · exact lb_move (.tmp 3) (.inl rfl) (fun ρ wx hp => want_of 7 false 17 rfl rfl (hp.1 rfl)) fun ρ wx hc hx hp => hx 3 rfl
                · refine lb_val (.bool false) (fun ρ wx hp => want_of 7 false 17 rfl rfl (hp.2.1 rfl)) fun ρ wx hb hc hx hp => ⟨?_, rfl⟩
                  have h18 : ρ (.tmp 18) = .int .i64 (k : Int) := hp.1 rfl
                  have hk0 := hc (.int .i64 0)
                  have h0 := HK0.out
                  unfold execOp
                  simp only [h18, hk0]
                  clear h18 hk0 hx hp hc hb
                  go_simp
                · exact lb_move (.tmp 19) (.inl rfl) (fun ρ wx hp => want_of 7 false 17 rfl rfl (hp.2.1 rfl)) fun ρ wx hc hx hp => hp.1 rfl
                · exact lb_not (fun ρ wx hp => want_not 10 true 20 rfl rfl (hp.1 rfl)) (fun _ => rfl)
                · exact lb_not (fun ρ wx hp => want_not 10 true 20 rfl rfl (hp.1 rfl)) (fun _ => rfl)
                · exact lb_not (fun ρ wx hp => want_not 10 true 20 rfl rfl (hp.2.1 rfl)) (fun _ => rfl)
                · exact lb_not (fun ρ wx hp => want_not 10 true 20 rfl rfl (hp.2.2.1 rfl)) (fun _ => rfl)
                · exact lb_not (fun ρ wx hp => want_not 10 true 20 rfl rfl (hp.2.1 rfl)) (fun _ => rfl)
                · exact lb_not (fun ρ wx hp => want_not 10 true 20 rfl rfl (hp.2.1 rfl)) (fun _ => rfl)
                · exact lb_not (fun ρ wx hp => want_not 10 true 20 rfl rfl (hp.1 rfl)) (fun _ => rfl)
                · exact lb_not (fun ρ wx hp => want_not 10 true 20 rfl rfl (hp.1 rfl)) (fun _ => rfl)
                · exact lb_not (fun ρ wx hp => want_not 10 true 20 rfl rfl (hp.2.2.1 rfl)) (fun _ => rfl)
                · exact lb_not (fun ρ wx hp => want_not 10 true 20 rfl rfl (hp.2.1 rfl)) (fun _ => rfl)
                · exact lb_not (fun ρ wx hp => want_not 10 true 20 rfl rfl (hp.2.1 rfl)) (fun _ => rfl)
                · exact lb_not (fun ρ wx hp => want_not 10 true 20 rfl rfl (hp.2.2.1 rfl)) (fun _ => rfl)
                · exact lb_pick (.tmp 20) (.tmp 32) (.const (.bool false)) rfl false (fun ρ wx hp => want_of 7 false 17 rfl rfl (hp.2.2.1 rfl)) fun ρ wx hc hp => ⟨hp.1 rfl, hc _⟩
                · exact lb_pick (.tmp 17) (.const (.bool true)) (.tmp 33) rfl false (fun _ _ _ => want_none rfl) fun ρ wx hc hp => ⟨hp.1 rfl, hp.2.1 rfl⟩
                · exact lb_move (.tmp 34) (.inl rfl) (fun _ _ _ => want_none rfl) fun ρ wx hc hx hp => hp.1 rfl
                · exact lb_move (.tmp 0) (.inl rfl) (fun ρ wx hp => want_of 25 false 35 rfl rfl (hp.1 rfl)) fun ρ wx hc hx hp => hx 0 rfl
                · exact lb_move (.tmp 3) (.inl rfl) (fun ρ wx hp => want_of 25 false 35 rfl rfl (hp.1 rfl)) fun ρ wx hc hx hp => hx 3 rfl
                · refine lb_val (.pointer (some ⟨p, o + k * 3, none⟩)) (fun ρ wx hp => want_of 25 false 35 rfl rfl (hp.2.2.1 rfl)) fun ρ wx hb hc hx hp => ⟨?_, rfl⟩
                  have h36 : ρ (.tmp 36) = .slice (some ⟨p, o, none⟩) n c := hp.1 rfl
                  have h37 : ρ (.tmp 37) = .int .i64 (k : Int) := hp.2.1 rfl
                  have h0 := HLT.out
                  unfold execOp
                  simp only [h36, h37]
                  clear h36 h37 hx hp hc hb
                  go_simp
                · refine lb_val (.pointer (some ⟨p, o + k * 3 + 1, none⟩)) (fun ρ wx hp => want_of 25 false 35 rfl rfl (hp.2.1 rfl)) fun ρ wx hb hc hx hp => ⟨?_, rfl⟩
                  have h38 : ρ (.tmp 38) = .pointer (some ⟨p, o + k * 3, none⟩) := hp.1 rfl
                  unfold execOp
                  simp only [h38]
                  clear h38 hx hp hc hb
                  go_simp
                · refine lb_val (.int .i64 (cX L k)) (fun ρ wx hp => want_of 25 false 35 rfl rfl (hp.2.1 rfl)) fun ρ wx hb hc hx hp => ⟨?_, rfl⟩
                  have h39 : ρ (.tmp 39) = .pointer (some ⟨p, o + k * 3 + 1, none⟩) := hp.1 rfl
                  have c1 := HC1.out wx hb
                  unfold execOp
                  simp only [h39]
                  clear h39 hx hp hc hb
                  go_simp
                · refine lb_known _ _ _ (.bool true) (fun _ _ => by simp [go_sem]) rfl (fun ρ wx hp => want_of 25 false 35 rfl rfl (hp.2.1 rfl)) #[.int .i64 (cX L k), .int .i64 0, .int .i64 255] (fun wq hb => (l1In_any (cX L k) 0 255 wq).mono fun e w' ⟨e1, e2⟩ => ⟨by rw [e1, H2.out], e2 ▸ Below.refl _ _⟩) (fun ρ wx hc hx hp => ?_) (fun _ => rfl)
                  have h0 : ρ (.tmp 40) = .int .i64 (cX L k) := hp.1 rfl
                  have h1 := hc (.int .i64 0)
                  have h2 := hc (.int .i64 255)
                  simp only [List.map_toArray, List.map_cons, List.map_nil, h0, h1, h2]
                · refine lb_val (.bool false) (fun ρ wx hp => want_of 25 false 35 rfl rfl (hp.2.1 rfl)) fun ρ wx hb hc hx hp => ⟨?_, rfl⟩
                  have h41 : ρ (.tmp 41) = .bool true := hp.1 rfl
                  unfold execOp
                  simp only [h41]
                  clear h41 hx hp hc hb
                  go_simp
                · exact lb_pick (.tmp 35) (.const (.bool true)) (.tmp 42) rfl false (fun _ _ _ => want_none rfl) fun ρ wx hc hp => ⟨hp.1 rfl, hp.2.1 rfl⟩
                · exact lb_move (.tmp 43) (.inl rfl) (fun _ _ _ => want_none rfl) fun ρ wx hc hx hp => hp.1 rfl
                · exact lb_move (.tmp 0) (.inl rfl) (fun ρ wx hp => want_of 34 false 44 rfl rfl (hp.1 rfl)) fun ρ wx hc hx hp => hx 0 rfl
                · exact lb_move (.tmp 3) (.inl rfl) (fun ρ wx hp => want_of 34 false 44 rfl rfl (hp.1 rfl)) fun ρ wx hc hx hp => hx 3 rfl
                · refine lb_val (.pointer (some ⟨p, o + k * 3, none⟩)) (fun ρ wx hp => want_of 34 false 44 rfl rfl (hp.2.2.1 rfl)) fun ρ wx hb hc hx hp => ⟨?_, rfl⟩
                  have h45 : ρ (.tmp 45) = .slice (some ⟨p, o, none⟩) n c := hp.1 rfl
                  have h46 : ρ (.tmp 46) = .int .i64 (k : Int) := hp.2.1 rfl
                  have h0 := HLT.out
                  unfold execOp
                  simp only [h45, h46]
                  clear h45 h46 hx hp hc hb
                  go_simp
                · refine lb_val (.pointer (some ⟨p, o + k * 3 + 2, none⟩)) (fun ρ wx hp => want_of 34 false 44 rfl rfl (hp.2.1 rfl)) fun ρ wx hb hc hx hp => ⟨?_, rfl⟩
                  have h47 : ρ (.tmp 47) = .pointer (some ⟨p, o + k * 3, none⟩) := hp.1 rfl
                  unfold execOp
                  simp only [h47]
                  clear h47 hx hp hc hb
                  go_simp
                · refine lb_val (.int .i64 (cY L k)) (fun ρ wx hp => want_of 34 false 44 rfl rfl (hp.2.1 rfl)) fun ρ wx hb hc hx hp => ⟨?_, rfl⟩
                  have h48 : ρ (.tmp 48) = .pointer (some ⟨p, o + k * 3 + 2, none⟩) := hp.1 rfl
                  have c1 := HC2.out wx hb
                  unfold execOp
                  simp only [h48]
                  clear h48 hx hp hc hb
                  go_simp
                · refine lb_known _ _ _ (.bool false) (fun _ _ => by simp [go_sem]) rfl (fun ρ wx hp => want_of 34 false 44 rfl rfl (hp.2.1 rfl)) #[.int .i64 (cY L k), .int .i64 0, .int .i64 255] (fun wq hb => (l1In_any (cY L k) 0 255 wq).mono fun e w' ⟨e1, e2⟩ => ⟨by rw [e1, H3.out], e2 ▸ Below.refl _ _⟩) (fun ρ wx hc hx hp => ?_) (fun _ => rfl)
                  have h0 : ρ (.tmp 49) = .int .i64 (cY L k) := hp.1 rfl
                  have h1 := hc (.int .i64 0)
                  have h2 := hc (.int .i64 255)
                  simp only [List.map_toArray, List.map_cons, List.map_nil, h0, h1, h2]
                · refine lb_val (.bool true) (fun ρ wx hp => want_of 34 false 44 rfl rfl (hp.2.1 rfl)) fun ρ wx hb hc hx hp => ⟨?_, rfl⟩
                  have h50 : ρ (.tmp 50) = .bool false := hp.1 rfl
                  unfold execOp
                  simp only [h50]
                  clear h50 hx hp hc hb
                  go_simp
                · exact lb_pick (.tmp 44) (.const (.bool true)) (.tmp 51) rfl false (fun _ _ _ => want_none rfl) fun ρ wx hc hp => ⟨hp.1 rfl, hp.2.1 rfl⟩
              intro vs wx hI hF
              obtain ⟨-, -, -, -, -, -, -, -, -, -, -, -, -, -, -, -, -, -, -, -, -, -, -, -, -, -, -, -, -, -, -, -, -, -, -, -, -, -, -, -, -, -, h42, -⟩ := hF
              replace h42 : vs 42 = .bool true := h42
              have bl : Below wr.heap.size wr wx := hI
              simp only [putAll, Act.put, List.setIfInBounds_toArray, List.set_cons_zero, List.set_cons_succ, h42]
              clear hI h42
              have BX := Lib.hid (below_then BR.out bl)
              go_wp2_with fail
              go_ret
              exact ⟨ret_bool HN.out.symm, BX.out⟩
            · have H3 := Lib.hid h3
              have HY : Hid (chgK L (k + 1) = true) := Lib.hid (HYES.out (by rw [HV.out, H1.out, h2, h3]; simp; have := HKZ.out; omega))
              clear h2 h3
              refine wp_region_typed (ClB wr) RlB (Ty [TV (.slice (some ⟨p, o, none⟩) n c), TV (.int .i64 (k : Int)), TV (.pointer (some ⟨p, o + k * 3, none⟩)), TV (.pointer (some ⟨p, o + k * 3, none⟩)), TV (.int .i64 (cC L k)), TV (.bool true), TV (.bool false), TV (.bool false), TV (.int .i64 (k : Int)), TV (.bool false), TV (.bool false), TV undef, TV undef, TV undef, TV undef, TV undef, TV undef, TV undef, TV undef, TV undef, TV undef, TV undef, TV undef, TV (.bool false), TV (.bool false), TV (.bool false), TV (.slice (some ⟨p, o, none⟩) n c), TV (.int .i64 (k : Int)), TV (.pointer (some ⟨p, o + k * 3, none⟩)), TV (.pointer (some ⟨p, o + k * 3 + 1, none⟩)), TV (.int .i64 (cX L k)), TV (.bool true), TV (.bool false), TV (.bool false), TV (.bool false), TV (.slice (some ⟨p, o, none⟩) n c), TV (.int .i64 (k : Int)), TV (.pointer (some ⟨p, o + k * 3, none⟩)), TV (.pointer (some ⟨p, o + k * 3 + 2, none⟩)), TV (.int .i64 (cY L k)), TV (.bool true), TV (.bool false), TV (.bool false)])
                (by kernel_rfl) (by kernel_rfl) (stab_ty _ ⟨stabB_k _, stabB_k _, stabB_k _, stabB_k _, stabB_k _, stabB_k _, stabB_k _, stabB_k _, stabB_k _, stabB_k _, stabB_k _, stabB_k _, stabB_k _, stabB_k _, stabB_k _, stabB_k _, stabB_k _, stabB_k _, stabB_k _, stabB_k _, stabB_k _, stabB_k _, stabB_k _, stabB_k _, stabB_k _, stabB_k _, stabB_k _, stabB_k _, stabB_k _, stabB_k _, stabB_k _, stabB_k _, stabB_k _, stabB_k _, stabB_k _, stabB_k _, stabB_k _, stabB_k _, stabB_k _, stabB_k _, stabB_k _, stabB_k _, stabB_k _, trivial⟩) (Below.refl _ _).drew ?_ ?_
              · refine ⟨?_, ?_, ?_, ?_, ?_, ?_, ?_, ?_, ?_, ?_, ?_, ?_, ?_, ?_, ?_, ?_, ?_, ?_, ?_, ?_, ?_, ?_, ?_, ?_, ?_, ?_, ?_, ?_, ?_, ?_, ?_, ?_, ?_, ?_, ?_, ?_, ?_, ?_, ?_, ?_, ?_, ?_, ?_, trivial⟩
                · exact lb_move (.tmp 0) (.inl rfl) (fun _ _ _ => want_none rfl) fun ρ wx hc hx hp => hx 0 rfl
                · exact lb_move (.tmp 3) (.inl rfl) (fun _ _ _ => want_none rfl) fun ρ wx hc hx hp => hx 3 rfl
                · refine lb_val (.pointer (some ⟨p, o + k * 3, none⟩)) (fun _ _ _ => want_none rfl) fun ρ wx hb hc hx hp => ⟨?_, rfl⟩
                  have h10 : ρ (.tmp 10) = .slice (some ⟨p, o, none⟩) n c := hp.1 rfl
                  have h11 : ρ (.tmp 11) = .int .i64 (k : Int) := hp.2.1 rfl
                  have h0 := HLT.out
                  unfold execOp
                  simp only [h10, h11]
                  clear h10 h11 hx hp hc hb
                  go_simp
                · refine lb_val (.pointer (some ⟨p, o + k * 3, none⟩)) (fun _ _ _ => want_none rfl) fun ρ wx hb hc hx hp => ⟨?_, rfl⟩
                  have h12 : ρ (.tmp 12) = .pointer (some ⟨p, o + k * 3, none⟩) := hp.1 rfl
                  unfold execOp
                  simp only [h12]
                  clear h12 hx hp hc hb
                  go_simp
                · refine lb_val (.int .i64 (cC L k)) (fun _ _ _ => want_none rfl) fun ρ wx hb hc hx hp => ⟨?_, rfl⟩
                  have h13 : ρ (.tmp 13) = .pointer (some ⟨p, o + k * 3, none⟩) := hp.1 rfl
                  have c1 := HC0.out wx hb
                  unfold execOp
                  simp only [h13]
                  clear h13 hx hp hc hb
                  go_simp
                · refine lb_known _ _ _ (.bool true) (fun _ _ => by simp [go_sem]) rfl (fun _ _ _ => want_none rfl) #[.int .i64 (cC L k), .int .i64 0, .int .i64 31] (fun wq hb => (l1In_any (cC L k) 0 31 wq).mono fun e w' ⟨e1, e2⟩ => ⟨by rw [e1, H1.out], e2 ▸ Below.refl _ _⟩) (fun ρ wx hc hx hp => ?_) (fun _ => rfl)
                  have h0 : ρ (.tmp 14) = .int .i64 (cC L k) := hp.1 rfl
                  have h1 := hc (.int .i64 0)
                  have h2 := hc (.int .i64 31)
                  simp only [List.map_toArray, List.map_cons, List.map_nil, h0, h1, h2]
                · refine lb_val (.bool false) (fun _ _ _ => want_none rfl) fun ρ wx hb hc hx hp => ⟨?_, rfl⟩
                  have h15 : ρ (.tmp 15) = .bool true := hp.1 rfl
                  unfold execOp
                  simp only [h15]
                  clear h15 hx hp hc hb
                  go_simp
                · exact lb_move (.tmp 16) (.inl rfl) (fun _ _ _ => want_none rfl) fun ρ wx hc hx hp => hp.1 rfl
                · exact lb_move (.tmp 3) (.inl rfl) (fun ρ wx hp => want_of 7 false 17 rfl rfl (hp.1 rfl)) fun ρ wx hc hx hp => hx 3 rfl
                · refine lb_val (.bool false) (fun ρ wx hp => want_of 7 false 17 rfl rfl (hp.2.1 rfl)) fun ρ wx hb hc hx hp => ⟨?_, rfl⟩
                  have h18 : ρ (.tmp 18) = .int .i64 (k : Int) := hp.1 rfl
                  have hk0 := hc (.int .i64 0)
                  have h0 := HK0.out
                  unfold execOp
                  simp only [h18, hk0]
                  clear h18 hk0 hx hp hc hb
                  go_simp
                · exact lb_move (.tmp 19) (.inl rfl) (fun ρ wx hp => want_of 7 false 17 rfl rfl (hp.2.1 rfl)) fun ρ wx hc hx hp => hp.1 rfl
                · exact lb_not (fun ρ wx hp => want_not 10 true 20 rfl rfl (hp.1 rfl)) (fun _ => rfl)
                · exact lb_not (fun ρ wx hp => want_not 10 true 20 rfl rfl (hp.1 rfl)) (fun _ => rfl)
                · exact lb_not (fun ρ wx hp => want_not 10 true 20 rfl rfl (hp.2.1 rfl)) (fun _ => rfl)
                · exact lb_not (fun ρ wx hp => want_not 10 true 20 rfl rfl (hp.2.2.1 rfl)) (fun _ => rfl)
                · exact lb_not (fun ρ wx hp => want_not 10 true 20 rfl rfl (hp.2.1 rfl)) (fun _ => rfl)
                · exact lb_not (fun ρ wx hp => want_not 10 true 20 rfl rfl (hp.2.1 rfl)) (fun _ => rfl)
                · exact lb_not (fun ρ wx hp => want_not 10 true 20 rfl rfl (hp.1 rfl)) (fun _ => rfl)
                · exact lb_not (fun ρ wx hp => want_not 10 true 20 rfl rfl (hp.1 rfl)) (fun _ => rfl)
                · exact lb_not (fun ρ wx hp => want_not 10 true 20 rfl rfl (hp.2.2.1 rfl)) (fun _ => rfl)
                · exact lb_not (fun ρ wx hp => want_not 10 true 20 rfl rfl (hp.2.1 rfl)) (fun _ => rfl)
                · exact lb_not (fun ρ wx hp => want_not 10 true 20 rfl rfl (hp.2.1 rfl)) (fun _ => rfl)
                · exact lb_not (fun ρ wx hp => want_not 10 true 20 rfl rfl (hp.2.2.1 rfl)) (fun _ => rfl)
                · exact lb_pick (.tmp 20) (.tmp 32) (.const (.bool false)) rfl false (fun ρ wx hp => want_of 7 false 17 rfl rfl (hp.2.2.1 rfl)) fun ρ wx hc hp => ⟨hp.1 rfl, hc _⟩
                · exact lb_pick (.tmp 17) (.const (.bool true)) (.tmp 33) rfl false (fun _ _ _ => want_none rfl) fun ρ wx hc hp => ⟨hp.1 rfl, hp.2.1 rfl⟩
                · exact lb_move (.tmp 34) (.inl rfl) (fun _ _ _ => want_none rfl) fun ρ wx hc hx hp => hp.1 rfl
                · exact lb_move (.tmp 0) (.inl rfl) (fun ρ wx hp => want_of 25 false 35 rfl rfl (hp.1 rfl)) fun ρ wx hc hx hp => hx 0 rfl
                · exact lb_move (.tmp 3) (.inl rfl) (fun ρ wx hp => want_of 25 false 35 rfl rfl (hp.1 rfl)) fun ρ wx hc hx hp => hx 3 rfl
                · refine lb_val (.pointer (some ⟨p, o + k * 3, none⟩)) (fun ρ wx hp => want_of 25 false 35 rfl rfl (hp.2.2.1 rfl)) fun ρ wx hb hc hx hp => ⟨?_, rfl⟩
                  have h36 : ρ (.tmp 36) = .slice (some ⟨p, o, none⟩) n c := hp.1 rfl
                  have h37 : ρ (.tmp 37) = .int .i64 (k : Int) := hp.2.1 rfl
                  have h0 := HLT.out
                  unfold execOp
                  simp only [h36, h37]
                  clear h36 h37 hx hp hc hb
                  go_simp
                · refine lb_val (.pointer (some ⟨p, o + k * 3 + 1, none⟩)) (fun ρ wx hp => want_of 25 false 35 rfl rfl (hp.2.1 rfl)) fun ρ wx hb hc hx hp => ⟨?_, rfl⟩
                  have h38 : ρ (.tmp 38) = .pointer (some ⟨p, o + k * 3, none⟩) := hp.1 rfl
                  unfold execOp
                  simp only [h38]
                  clear h38 hx hp hc hb
                  go_simp
                · refine lb_val (.int .i64 (cX L k)) (fun ρ wx hp => want_of 25 false 35 rfl rfl (hp.2.1 rfl)) fun ρ wx hb hc hx hp => ⟨?_, rfl⟩
                  have h39 : ρ (.tmp 39) = .pointer (some ⟨p, o + k * 3 + 1, none⟩) := hp.1 rfl
                  have c1 := HC1.out wx hb
                  unfold execOp
                  simp only [h39]
                  clear h39 hx hp hc hb
                  go_simp
                · refine lb_known _ _ _ (.bool true) (fun _ _ => by simp [go_sem]) rfl (fun ρ wx hp => want_of 25 false 35 rfl rfl (hp.2.1 rfl)) #[.int .i64 (cX L k), .int .i64 0, .int .i64 255] (fun wq hb => (l1In_any (cX L k) 0 255 wq).mono fun e w' ⟨e1, e2⟩ => ⟨by rw [e1, H2.out], e2 ▸ Below.refl _ _⟩) (fun ρ wx hc hx hp => ?_) (fun _ => rfl)
                  have h0 : ρ (.tmp 40) = .int .i64 (cX L k) := hp.1 rfl
                  have h1 := hc (.int .i64 0)
                  have h2 := hc (.int .i64 255)
                  simp only [List.map_toArray, List.map_cons, List.map_nil, h0, h1, h2]
                · refine lb_val (.bool false) (fun ρ wx hp => want_of 25 false 35 rfl rfl (hp.2.1 rfl)) fun ρ wx hb hc hx hp => ⟨?_, rfl⟩
                  have h41 : ρ (.tmp 41) = .bool true := hp.1 rfl
                  unfold execOp
                  simp only [h41]
                  clear h41 hx hp hc hb
                  go_simp
                · exact lb_pick (.tmp 35) (.const (.bool true)) (.tmp 42) rfl false (fun _ _ _ => want_none rfl) fun ρ wx hc hp => ⟨hp.1 rfl, hp.2.1 rfl⟩
                · exact lb_move (.tmp 43) (.inl rfl) (fun _ _ _ => want_none rfl) fun ρ wx hc hx hp => hp.1 rfl
                · exact lb_move (.tmp 0) (.inl rfl) (fun ρ wx hp => want_of 34 false 44 rfl rfl (hp.1 rfl)) fun ρ wx hc hx hp => hx 0 rfl
                · exact lb_move (.tmp 3) (.inl rfl) (fun ρ wx hp => want_of 34 false 44 rfl rfl (hp.1 rfl)) fun ρ wx hc hx hp => hx 3 rfl
                · refine lb_val (.pointer (some ⟨p, o + k * 3, none⟩)) (fun ρ wx hp => want_of 34 false 44 rfl rfl (hp.2.2.1 rfl)) fun ρ wx hb hc hx hp => ⟨?_, rfl⟩
                  have h45 : ρ (.tmp 45) = .slice (some ⟨p, o, none⟩) n c := hp.1 rfl
                  have h46 : ρ (.tmp 46) = .int .i64 (k : Int) := hp.2.1 rfl
                  have h0 := HLT.out
                  unfold execOp
                  simp only [h45, h46]
                  clear h45 h46 hx hp hc hb
                  go_simp
                · refine lb_val (.pointer (some ⟨p, o + k * 3 + 2, none⟩)) (fun ρ wx hp => want_of 34 false 44 rfl rfl (hp.2.1 rfl)) fun ρ wx hb hc hx hp => ⟨?_, rfl⟩
                  have h47 : ρ (.tmp 47) = .pointer (some ⟨p, o + k * 3, none⟩) := hp.1 rfl
                  unfold execOp
                  simp only [h47]
                  clear h47 hx hp hc hb
                  go_simp
                · refine lb_val (.int .i64 (cY L k)) (fun ρ wx hp => want_of 34 false 44 rfl rfl (hp.2.1 rfl)) fun ρ wx hb hc hx hp => ⟨?_, rfl⟩
                  have h48 : ρ (.tmp 48) = .pointer (some ⟨p, o + k * 3 + 2, none⟩) := hp.1 rfl
                  have c1 := HC2.out wx hb
                  unfold execOp
                  simp only [h48]
                  clear h48 hx hp hc hb
                  go_simp
                · refine lb_known _ _ _ (.bool true) (fun _ _ => by simp [go_sem]) rfl (fun ρ wx hp => want_of 34 false 44 rfl rfl (hp.2.1 rfl)) #[.int .i64 (cY L k), .int .i64 0, .int .i64 255] (fun wq hb => (l1In_any (cY L k) 0 255 wq).mono fun e w' ⟨e1, e2⟩ => ⟨by rw [e1, H3.out], e2 ▸ Below.refl _ _⟩) (fun ρ wx hc hx hp => ?_) (fun _ => rfl)
                  have h0 : ρ (.tmp 49) = .int .i64 (cY L k) := hp.1 rfl
                  have h1 := hc (.int .i64 0)
                  have h2 := hc (.int .i64 255)
                  simp only [List.map_toArray, List.map_cons, List.map_nil, h0, h1, h2]
                · refine lb_val (.bool false) (fun ρ wx hp => want_of 34 false 44 rfl rfl (hp.2.1 rfl)) fun ρ wx hb hc hx hp => ⟨?_, rfl⟩
                  have h50 : ρ (.tmp 50) = .bool true := hp.1 rfl
                  unfold execOp
                  simp only [h50]
                  clear h50 hx hp hc hb
                  go_simp
                · exact lb_pick (.tmp 44) (.const (.bool true)) (.tmp 51) rfl false (fun _ _ _ => want_none rfl) fun ρ wx hc hp => ⟨hp.1 rfl, hp.2.1 rfl⟩
              intro vs wx hI hF
              obtain ⟨-, -, -, -, -, -, -, -, -, -, -, -, -, -, -, -, -, -, -, -, -, -, -, -, -, -, -, -, -, -, -, -, -, -, -, -, -, -, -, -, -, -, h42, -⟩ := hF
              replace h42 : vs 42 = .bool false := h42
              have bl : Below wr.heap.size wr wx := hI
              simp only [putAll, Act.put, List.setIfInBounds_toArray, List.set_cons_zero, List.set_cons_succ, h42]
              clear hI h42
              have BX := Lib.hid (below_then BR.out bl)
              go_wp2_with fail
              go_roundw
              case rel => exact ⟨k + 1, by omega, by go_num, BX.out, HY.out⟩
              case measure => simp [intOf]; omega
        · have HK0 : Hid (0 < k) := Lib.hid (by omega)
          obtain ⟨q, hq⟩ : ∃ q, k = q + 1 := ⟨k - 1, by omega⟩
          have HQ : Hid (IntKind.i64.wrap ((k : Int) - 1) = (q : Int)) := Lib.hid (by rw [IntKind.wrap_i64]; omega)
          have HLQ : Hid ((q : Int) < n) := Lib.hid (by omega)
          have HCQ : Hid (∀ W, Below wr.heap.size wr W → W.cell? ⟨p, o + q * 3, none⟩ = some (.int .i64 (cC L q))) := Lib.hid fun W hb => HCC.out 0 q (by omega) (by omega) W hb
          have HQ1 : Hid (k - 1 = q ∧ 0 < k) := Lib.hid ⟨by omega, by omega⟩
          clear hq
          by_cases hgt : cC L k < cC L q
          · have HGT : Hid (cC L k < cC L q) := Lib.hid hgt
            have HN : Hid (chgB L n = false) := Lib.hid (HNO.out (by rw [HV.out, HQ1.out.1]; simp [HQ1.out.2, hgt]))
            clear hgt
            refine wp_region_typed (ClB wr) RlB (Ty [TV (.slice (some ⟨p, o, none⟩) n c), TV (.int .i64 (k : Int)), TV (.pointer (some ⟨p, o + k * 3, none⟩)), TV (.pointer (some ⟨p, o + k * 3, none⟩)), TV (.int .i64 (cC L k)), TV (.bool true), TV (.bool false), TV (.bool false), TV (.int .i64 (k : Int)), TV (.bool true), TV (.bool true), TV (.slice (some ⟨p, o, none⟩) n c), TV (.int .i64 (k : Int)), TV (.int .i64 (q : Int)), TV (.pointer (some ⟨p, o + q * 3, none⟩)), TV (.pointer (some ⟨p, o + q * 3, none⟩)), TV (.int .i64 (cC L q)), TV (.slice (some ⟨p, o, none⟩) n c), TV (.int .i64 (k : Int)), TV (.pointer (some ⟨p, o + k * 3, none⟩)), TV (.pointer (some ⟨p, o + k * 3, none⟩)), TV (.int .i64 (cC L k)), TV (.bool true), TV (.bool true), TV (.bool true), TV (.bool true), TV undef, TV undef, TV undef, TV undef, TV undef, TV undef, TV undef, TV (.bool true), TV (.bool true), TV undef, TV undef, TV undef, TV undef, TV undef, TV undef, TV undef, TV (.bool true)])
              (by kernel_rfl) (by kernel_rfl) (stab_ty _ ⟨stabB_k _, stabB_k _, stabB_k _, stabB_k _, stabB_k _, stabB_k _, stabB_k _, stabB_k _, stabB_k _, stabB_k _, stabB_k _, stabB_k _, stabB_k _, stabB_k _, stabB_k _, stabB_k _, stabB_k _, stabB_k _, stabB_k _, stabB_k _, stabB_k _, stabB_k _, stabB_k _, stabB_k _, stabB_k _, stabB_k _, stabB_k _, stabB_k _, stabB_k _, stabB_k _, stabB_k _, stabB_k _, stabB_k _, stabB_k _, stabB_k _, stabB_k _, stabB_k _, stabB_k _, stabB_k _, stabB_k _, stabB_k _, stabB_k _, stabB_k _, trivial⟩) (Below.refl _ _).drew ?_ ?_
            · refine ⟨?_, ?_, ?_, ?_, ?_, ?_, ?_, ?_, ?_, ?_, ?_, ?_, ?_, ?_, ?_, ?_, ?_, ?_, ?_, ?_, ?_, ?_, ?_, ?_, ?_, ?_, ?_, ?_, ?_, ?_, ?_, ?_, ?_, ?_, ?_, ?_, ?_, ?_, ?_, ?_, ?_, ?_, ?_, trivial⟩
              · exact lb_move (.tmp 0) (.inl rfl) (fun _ _ _ => want_none rfl) fun ρ wx hc hx hp => hx 0 rfl
              · exact lb_move (.tmp 3) (.inl rfl) (fun _ _ _ => want_none rfl) fun ρ wx hc hx hp => hx 3 rfl
              · refine lb_val (.pointer (some ⟨p, o + k * 3, none⟩)) (fun _ _ _ => want_none rfl) fun ρ wx hb hc hx hp => ⟨?_, rfl⟩
                have h10 : ρ (.tmp 10) = .slice (some ⟨p, o, none⟩) n c := hp.1 rfl
                have h11 : ρ (.tmp 11) = .int .i64 (k : Int) := hp.2.1 rfl
                have h0 := HLT.out
                unfold execOp
                simp only [h10, h11]
                clear h10 h11 hx hp hc hb
                go_simp
              · refine lb_val (.pointer (some ⟨p, o + k * 3, none⟩)) (fun _ _ _ => want_none rfl) fun ρ wx hb hc hx hp => ⟨?_, rfl⟩
                have h12 : ρ (.tmp 12) = .pointer (some ⟨p, o + k * 3, none⟩) := hp.1 rfl
                unfold execOp
                simp only [h12]
                clear h12 hx hp hc hb
                go_simp
              · refine lb_val (.int .i64 (cC L k)) (fun _ _ _ => want_none rfl) fun ρ wx hb hc hx hp => ⟨?_, rfl⟩
                have h13 : ρ (.tmp 13) = .pointer (some ⟨p, o + k * 3, none⟩) := hp.1 rfl
                have c1 := HC0.out wx hb
                unfold execOp
                simp only [h13]
                clear h13 hx hp hc hb
                go_simp
              · refine lb_known _ _ _ (.bool true) (fun _ _ => by simp [go_sem]) rfl (fun _ _ _ => want_none rfl) #[.int .i64 (cC L k), .int .i64 0, .int .i64 31] (fun wq hb => (l1In_any (cC L k) 0 31 wq).mono fun e w' ⟨e1, e2⟩ => ⟨by rw [e1, H1.out], e2 ▸ Below.refl _ _⟩) (fun ρ wx hc hx hp => ?_) (fun _ => rfl)
                have h0 : ρ (.tmp 14) = .int .i64 (cC L k) := hp.1 rfl
                have h1 := hc (.int .i64 0)
                have h2 := hc (.int .i64 31)
                simp only [List.map_toArray, List.map_cons, List.map_nil, h0, h1, h2]
              · refine lb_val (.bool false) (fun _ _ _ => want_none rfl) fun ρ wx hb hc hx hp => ⟨?_, rfl⟩
                have h15 : ρ (.tmp 15) = .bool true := hp.1 rfl
                unfold execOp
                simp only [h15]
                clear h15 hx hp hc hb
                go_simp
              · exact lb_move (.tmp 16) (.inl rfl) (fun _ _ _ => want_none rfl) fun ρ wx hc hx hp => hp.1 rfl
              · exact lb_move (.tmp 3) (.inl rfl) (fun ρ wx hp => want_of 7 false 17 rfl rfl (hp.1 rfl)) fun ρ wx hc hx hp => hx 3 rfl
              · refine lb_val (.bool true) (fun ρ wx hp => want_of 7 false 17 rfl rfl (hp.2.1 rfl)) fun ρ wx hb hc hx hp => ⟨?_, rfl⟩
                have h18 : ρ (.tmp 18) = .int .i64 (k : Int) := hp.1 rfl
                have hk0 := hc (.int .i64 0)
                have h0 := HK0.out
                unfold execOp
                simp only [h18, hk0]
                clear h18 hk0 hx hp hc hb
                go_simp
              · exact lb_move (.tmp 19) (.inl rfl) (fun ρ wx hp => want_of 7 false 17 rfl rfl (hp.2.1 rfl)) fun ρ wx hc hx hp => hp.1 rfl
              · exact lb_move (.tmp 0) (.inl rfl) (fun ρ wx hp => want_of 10 true 20 rfl rfl (hp.1 rfl)) fun ρ wx hc hx hp => hx 0 rfl
              · exact lb_move (.tmp 3) (.inl rfl) (fun ρ wx hp => want_of 10 true 20 rfl rfl (hp.1 rfl)) fun ρ wx hc hx hp => hx 3 rfl
              · refine lb_val (.int .i64 (q : Int)) (fun ρ wx hp => want_of 10 true 20 rfl rfl (hp.2.1 rfl)) fun ρ wx hb hc hx hp => ⟨?_, rfl⟩
                have h22 : ρ (.tmp 22) = .int .i64 (k : Int) := hp.1 rfl
                have hk0 := hc (.int .i64 1)
                have h0 := HQ.out
                unfold execOp
                simp only [h22, hk0]
                clear h22 hk0 hx hp hc hb
                go_simp
              · refine lb_val (.pointer (some ⟨p, o + q * 3, none⟩)) (fun ρ wx hp => want_of 10 true 20 rfl rfl (hp.2.2.1 rfl)) fun ρ wx hb hc hx hp => ⟨?_, rfl⟩
                have h21 : ρ (.tmp 21) = .slice (some ⟨p, o, none⟩) n c := hp.1 rfl
                have h23 : ρ (.tmp 23) = .int .i64 (q : Int) := hp.2.1 rfl
                have h0 := HLQ.out
                unfold execOp
                simp only [h21, h23]
                clear h21 h23 hx hp hc hb
                go_simp
              · refine lb_val (.pointer (some ⟨p, o + q * 3, none⟩)) (fun ρ wx hp => want_of 10 true 20 rfl rfl (hp.2.1 rfl)) fun ρ wx hb hc hx hp => ⟨?_, rfl⟩
                have h24 : ρ (.tmp 24) = .pointer (some ⟨p, o + q * 3, none⟩) := hp.1 rfl
                unfold execOp
                simp only [h24]
                clear h24 hx hp hc hb
                go_simp
              · refine lb_val (.int .i64 (cC L q)) (fun ρ wx hp => want_of 10 true 20 rfl rfl (hp.2.1 rfl)) fun ρ wx hb hc hx hp => ⟨?_, rfl⟩
                have h25 : ρ (.tmp 25) = .pointer (some ⟨p, o + q * 3, none⟩) := hp.1 rfl
                have c1 := HCQ.out wx hb
                unfold execOp
                simp only [h25]
                clear h25 hx hp hc hb
                go_simp
              · exact lb_move (.tmp 0) (.inl rfl) (fun ρ wx hp => want_of 10 true 20 rfl rfl (hp.1 rfl)) fun ρ wx hc hx hp => hx 0 rfl
              · exact lb_move (.tmp 3) (.inl rfl) (fun ρ wx hp => want_of 10 true 20 rfl rfl (hp.1 rfl)) fun ρ wx hc hx hp => hx 3 rfl
              · refine lb_val (.pointer (some ⟨p, o + k * 3, none⟩)) (fun ρ wx hp => want_of 10 true 20 rfl rfl (hp.2.2.1 rfl)) fun ρ wx hb hc hx hp => ⟨?_, rfl⟩
                have h27 : ρ (.tmp 27) = .slice (some ⟨p, o, none⟩) n c := hp.1 rfl
                have h28 : ρ (.tmp 28) = .int .i64 (k : Int) := hp.2.1 rfl
                have h0 := HLT.out
                unfold execOp
                simp only [h27, h28]
                clear h27 h28 hx hp hc hb
                go_simp
              · refine lb_val (.pointer (some ⟨p, o + k * 3, none⟩)) (fun ρ wx hp => want_of 10 true 20 rfl rfl (hp.2.1 rfl)) fun ρ wx hb hc hx hp => ⟨?_, rfl⟩
                have h29 : ρ (.tmp 29) = .pointer (some ⟨p, o + k * 3, none⟩) := hp.1 rfl
                unfold execOp
                simp only [h29]
                clear h29 hx hp hc hb
                go_simp
              · refine lb_val (.int .i64 (cC L k)) (fun ρ wx hp => want_of 10 true 20 rfl rfl (hp.2.1 rfl)) fun ρ wx hb hc hx hp => ⟨?_, rfl⟩
                have h30 : ρ (.tmp 30) = .pointer (some ⟨p, o + k * 3, none⟩) := hp.1 rfl
                have c1 := HC0.out wx hb
                unfold execOp
                simp only [h30]
                clear h30 hx hp hc hb
                go_simp
              · refine lb_val (.bool true) (fun ρ wx hp => want_of 10 true 20 rfl rfl (hp.2.2.1 rfl)) fun ρ wx hb hc hx hp => ⟨?_, rfl⟩
                have h26 : ρ (.tmp 26) = .int .i64 (cC L q) := hp.1 rfl
                have h31 : ρ (.tmp 31) = .int .i64 (cC L k) := hp.2.1 rfl
                have h0 := HGT.out
                unfold execOp
                simp only [h26, h31]
                clear h26 h31 hx hp hc hb
                go_simp
              · exact lb_pick (.tmp 20) (.tmp 32) (.const (.bool false)) rfl true (fun ρ wx hp => want_of 7 false 17 rfl rfl (hp.2.2.1 rfl)) fun ρ wx hc hp => ⟨hp.1 rfl, hp.2.1 rfl⟩
              · exact lb_pick (.tmp 17) (.const (.bool true)) (.tmp 33) rfl false (fun _ _ _ => want_none rfl) fun ρ wx hc hp => ⟨hp.1 rfl, hp.2.1 rfl⟩
              · exact lb_move (.tmp 34) (.inl rfl) (fun _ _ _ => want_none rfl) fun ρ wx hc hx hp => hp.1 rfl
              · exact lb_not (fun ρ wx hp => want_not 25 false 35 rfl rfl (hp.1 rfl)) (fun _ => rfl)
              · exact lb_not (fun ρ wx hp => want_not 25 false 35 rfl rfl (hp.1 rfl)) (fun _ => rfl)
              · exact lb_not (fun ρ wx hp => want_not 25 false 35 rfl rfl (hp.2.2.1 rfl)) (fun _ => rfl)
              · exact lb_not (fun ρ wx hp => want_not 25 false 35 rfl rfl (hp.2.1 rfl)) (fun _ => rfl)
              · exact lb_not (fun ρ wx hp => want_not 25 false 35 rfl rfl (hp.2.1 rfl)) (fun _ => rfl)
              · exact lb_not (fun ρ wx hp => want_not 25 false 35 rfl rfl (hp.2.1 rfl)) (fun _ => rfl)
              · exact lb_not (fun ρ wx hp => want_not 25 false 35 rfl rfl (hp.2.1 rfl)) (fun _ => rfl)
              · exact lb_pick (.tmp 35) (.const (.bool true)) (.tmp 42) rfl true (fun _ _ _ => want_none rfl) fun ρ wx hc hp => ⟨hp.1 rfl, hc _⟩
              · exact lb_move (.tmp 43) (.inl rfl) (fun _ _ _ => want_none rfl) fun ρ wx hc hx hp => hp.1 rfl
              · exact lb_not (fun ρ wx hp => want_not 34 false 44 rfl rfl (hp.1 rfl)) (fun _ => rfl)
              · exact lb_not (fun ρ wx hp => want_not 34 false 44 rfl rfl (hp.1 rfl)) (fun _ => rfl)
              · exact lb_not (fun ρ wx hp => want_not 34 false 44 rfl rfl (hp.2.2.1 rfl)) (fun _ => rfl)
              · exact lb_not (fun ρ wx hp => want_not 34 false 44 rfl rfl (hp.2.1 rfl)) (fun _ => rfl)
              · exact lb_not (fun ρ wx hp => want_not 34 false 44 rfl rfl (hp.2.1 rfl)) (fun _ => rfl)
              · exact lb_not (fun ρ wx hp => want_not 34 false 44 rfl rfl (hp.2.1 rfl)) (fun _ => rfl)
              · exact lb_not (fun ρ wx hp => want_not 34 false 44 rfl rfl (hp.2.1 rfl)) (fun _ => rfl)
              · exact lb_pick (.tmp 44) (.const (.bool true)) (.tmp 51) rfl true (fun _ _ _ => want_none rfl) fun ρ wx hc hp => ⟨hp.1 rfl, hc _⟩
            intro vs wx hI hF
            obtain ⟨-, -, -, -, -, -, -, -, -, -, -, -, -, -, -, -, -, -, -, -, -, -, -, -, -, -, -, -, -, -, -, -, -, -, -, -, -, -, -, -, -, -, h42, -⟩ := hF
            replace h42 : vs 42 = .bool true := h42
            have bl : Below wr.heap.size wr wx := hI
            simp only [putAll, Act.put, List.setIfInBounds_toArray, List.set_cons_zero, List.set_cons_succ, h42]
            clear hI h42
            have BX := Lib.hid (below_then BR.out bl)
            go_wp2_with fail
            go_ret
            exact ⟨ret_bool HN.out.symm, BX.out⟩
          · have HGT : Hid (¬ cC L k < cC L q) := Lib.hid hgt
            cases h2 : betB (cX L k) 0 255
            · have H2 := Lib.hid h2
              have HN : Hid (chgB L n = false) := Lib.hid (HNO.out (by rw [HV.out, h2]; simp))
              clear h2
              refine wp_region_typed (ClB wr) RlB (Ty [TV (.slice (some ⟨p, o, none⟩) n c), TV (.int .i64 (k : Int)), TV (.pointer (some ⟨p, o + k * 3, none⟩)), TV (.pointer (some ⟨p, o + k * 3, none⟩)), TV (.int .i64 (cC L k)), TV (.bool true), TV (.bool false), TV (.bool false), TV (.int .i64 (k : Int)), TV (.bool true), TV (.bool true), TV (.slice (some ⟨p, o, none⟩) n c), TV (.int .i64 (k : Int)), TV (.int .i64 (q : Int)), TV (.pointer (some ⟨p, o + q * 3, none⟩)), TV (.pointer (some ⟨p, o + q * 3, none⟩)), TV (.int .i64 (cC L q)), TV (.slice (some ⟨p, o, none⟩) n c), TV (.int .i64 (k : Int)), TV (.pointer (some ⟨p, o + k * 3, none⟩)), TV (.pointer (some ⟨p, o + k * 3, none⟩)), TV (.int .i64 (cC L k)), TV (.bool false), TV (.bool false), TV (.bool false), TV (.bool false), TV (.slice (some ⟨p, o, none⟩) n c), TV (.int .i64 (k : Int)), TV (.pointer (some ⟨p, o + k * 3, none⟩)), TV (.pointer (some ⟨p, o + k * 3 + 1, none⟩)), TV (.int .i64 (cX L k)), TV (.bool false), TV (.bool true), TV (.bool true), TV (.bool true), TV undef, TV undef, TV undef, TV undef, TV undef, TV undef, TV undef, TV (.bool true)])
                (by kernel_rfl) (by kernel_rfl) (stab_ty _ ⟨stabB_k _, stabB_k _, stabB_k _, stabB_k _, stabB_k _, stabB_k _, stabB_k _, stabB_k _, stabB_k _, stabB_k _, stabB_k _, stabB_k _, stabB_k _, stabB_k _, stabB_k _, stabB_k _, stabB_k _, stabB_k _, stabB_k _, stabB_k _, stabB_k _, stabB_k _, stabB_k _, stabB_k _, stabB_k _, stabB_k _, stabB_k _, stabB_k _, stabB_k _, stabB_k _, stabB_k _, stabB_k _, stabB_k _, stabB_k _, stabB_k _, stabB_k _, stabB_k _, stabB_k _, stabB_k _, stabB_k _, stabB_k _, stabB_k _, stabB_k _, trivial⟩) (Below.refl _ _).drew ?_ ?_
              · refine ⟨?_, ?_, ?_, ?_, ?_, ?_, ?_, ?_, ?_, ?_, ?_, ?_, ?_, ?_, ?_, ?_, ?_, ?_, ?_, ?_, ?_, ?_, ?_, ?_, ?_, ?_, ?_, ?_, ?_, ?_, ?_, ?_, ?_, ?_, ?_, ?_, ?_, ?_, ?_, ?_, ?_, ?_, ?_, trivial⟩
                · exact lb_move (.tmp 0) (.inl rfl) (fun _ _ _ => want_none rfl) fun ρ wx hc hx hp => hx 0 rfl
                · exact lb_move (.tmp 3) (.inl rfl) (fun _ _ _ => want_none rfl) fun ρ wx hc hx hp => hx 3 rfl
                · refine lb_val (.pointer (some ⟨p, o + k * 3, none⟩)) (fun _ _ _ => want_none rfl) fun ρ wx hb hc hx hp => ⟨?_, rfl⟩
                  have h10 : ρ (.tmp 10) = .slice (some ⟨p, o, none⟩) n c := hp.1 rfl
                  have h11 : ρ (.tmp 11) = .int .i64 (k : Int) := hp.2.1 rfl
                  have h0 := HLT.out
                  unfold execOp
                  simp only [h10, h11]
                  clear h10 h11 hx hp hc hb
                  go_simp
                · refine lb_val (.pointer (some ⟨p, o + k * 3, none⟩)) (fun _ _ _ => want_none rfl) fun ρ wx hb hc hx hp => ⟨?_, rfl⟩
                  have h12 : ρ (.tmp 12) = .pointer (some ⟨p, o + k * 3, none⟩) := hp.1 rfl
                  unfold execOp
                  simp only [h12]
                  clear h12 hx hp hc hb
                  go_simp
                · refine lb_val (.int .i64 (cC L k)) (fun _ _ _ => want_none rfl) fun ρ wx hb hc hx hp => ⟨?_, rfl⟩
                  have h13 : ρ (.tmp 13) = .pointer (some ⟨p, o + k * 3, none⟩) := hp.1 rfl
                  have c1 := HC0.out wx hb
                  unfold execOp
                  simp only [h13]
                  clear h13 hx hp hc hb
                  go_simp
                · refine lb_known _ _ _ (.bool true) (fun _ _ => by simp [go_sem]) rfl (fun _ _ _ => want_none rfl) #[.int .i64 (cC L k), .int .i64 0, .int .i64 31] (fun wq hb => (l1In_any (cC L k) 0 31 wq).mono fun e w' ⟨e1, e2⟩ => ⟨by rw [e1, H1.out], e2 ▸ Below.refl _ _⟩) (fun ρ wx hc hx hp => ?_) (fun _ => rfl)
                  have h0 : ρ (.tmp 14) = .int .i64 (cC L k) := hp.1 rfl
                  have h1 := hc (.int .i64 0)
                  have h2 := hc (.int .i64 31)
                  simp only [List.map_toArray, List.map_cons, List.map_nil, h0, h1, h2]
                · refine lb_val (.bool false) (fun _ _ _ => want_none rfl) fun ρ wx hb hc hx hp => ⟨?_, rfl⟩
                  have h15 : ρ (.tmp 15) = .bool true := hp.1 rfl
                  unfold execOp
                  simp only [h15]
                  clear h15 hx hp hc hb
                  go_simp
                · exact lb_move (.tmp 16) (.inl rfl) (fun _ _ _ => want_none rfl) fun ρ wx hc hx hp => hp.1 rfl
                · exact lb_move (.tmp 3) (.inl rfl) (fun ρ wx hp => want_of 7 false 17 rfl rfl (hp.1 rfl)) fun ρ wx hc hx hp => hx 3 rfl
                · refine lb_val (.bool true) (fun ρ wx hp => want_of 7 false 17 rfl rfl (hp.2.1 rfl)) fun ρ wx hb hc hx hp => ⟨?_, rfl⟩
                  have h18 : ρ (.tmp 18) = .int .i64 (k : Int) := hp.1 rfl
                  have hk0 := hc (.int .i64 0)
                  have h0 := HK0.out
                  unfold execOp
                  simp only [h18, hk0]
                  clear h18 hk0 hx hp hc hb
                  go_simp
                · exact lb_move (.tmp 19) (.inl rfl) (fun ρ wx hp => want_of 7 false 17 rfl rfl (hp.2.1 rfl)) fun ρ wx hc hx hp => hp.1 rfl
                · exact lb_move (.tmp 0) (.inl rfl) (fun ρ wx hp => want_of 10 true 20 rfl rfl (hp.1 rfl)) fun ρ wx hc hx hp => hx 0 rfl
                · exact lb_move (.tmp 3) (.inl rfl) (fun ρ wx hp => want_of 10 true 20 rfl rfl (hp.1 rfl)) fun ρ wx hc hx hp => hx 3 rfl
                · refine lb_val (.int .i64 (q : Int)) (fun ρ wx hp => want_of 10 true 20 rfl rfl (hp.2.1 rfl)) fun ρ wx hb hc hx hp => ⟨?_, rfl⟩
                  have h22 : ρ (.tmp 22) = .int .i64 (k : Int) := hp.1 rfl
                  have hk0 := hc (.int .i64 1)
                  have h0 := HQ.out
                  unfold execOp
                  simp only [h22, hk0]
                  clear h22 hk0 hx hp hc hb
                  go_simp
                · refine lb_val (.pointer (some ⟨p, o + q * 3, none⟩)) (fun ρ wx hp => want_of 10 true 20 rfl rfl (hp.2.2.1 rfl)) fun ρ wx hb hc hx hp => ⟨?_, rfl⟩
                  have h21 : ρ (.tmp 21) = .slice (some ⟨p, o, none⟩) n c := hp.1 rfl
                  have h23 : ρ (.tmp 23) = .int .i64 (q : Int) := hp.2.1 rfl
                  have h0 := HLQ.out
                  unfold execOp
                  simp only [h21, h23]
                  clear h21 h23 hx hp hc hb
                  go_simp
                · refine lb_val (.pointer (some ⟨p, o + q * 3, none⟩)) (fun ρ wx hp => want_of 10 true 20 rfl rfl (hp.2.1 rfl)) fun ρ wx hb hc hx hp => ⟨?_, rfl⟩
                  have h24 : ρ (.tmp 24) = .pointer (some ⟨p, o + q * 3, none⟩) := hp.1 rfl
                  unfold execOp
                  simp only [h24]
                  clear h24 hx hp hc hb
                  go_simp
                · refine lb_val (.int .i64 (cC L q)) (fun ρ wx hp => want_of 10 true 20 rfl rfl (hp.2.1 rfl)) fun ρ wx hb hc hx hp => ⟨?_, rfl⟩
                  have h25 : ρ (.tmp 25) = .pointer (some ⟨p, o + q * 3, none⟩) := hp.1 rfl
                  have c1 := HCQ.out wx hb
                  unfold execOp
                  simp only [h25]
                  clear h25 hx hp hc hb
                  go_simp
                · exact lb_move (.tmp 0) (.inl rfl) (fun ρ wx hp => want_of 10 true 20 rfl rfl (hp.1 rfl)) fun ρ wx hc hx hp => hx 0 rfl
                · exact lb_move (.tmp 3) (.inl rfl) (fun ρ wx hp => want_of 10 true 20 rfl rfl (hp.1 rfl)) fun ρ wx hc hx hp => hx 3 rfl
                · refine lb_val (.pointer (some ⟨p, o + k * 3, none⟩)) (fun ρ wx hp => want_of 10 true 20 rfl rfl (hp.2.2.1 rfl)) fun ρ wx hb hc hx hp => ⟨?_, rfl⟩
                  have h27 : ρ (.tmp 27) = .slice (some ⟨p, o, none⟩) n c := hp.1 rfl
                  have h28 : ρ (.tmp 28) = .int .i64 (k : Int) := hp.2.1 rfl
                  have h0 := HLT.out
                  unfold execOp
                  simp only [h27, h28]
                  clear h27 h28 hx hp hc hb
                  go_simp
                · refine lb_val (.pointer (some ⟨p, o + k * 3, none⟩)) (fun ρ wx hp => want_of 10 true 20 rfl rfl (hp.2.1 rfl)) fun ρ wx hb hc hx hp => ⟨?_, rfl⟩
                  have h29 : ρ (.tmp 29) = .pointer (some ⟨p, o + k * 3, none⟩) := hp.1 rfl
                  unfold execOp
                  simp only [h29]
                  clear h29 hx hp hc hb
                  go_simp
                · refine lb_val (.int .i64 (cC L k)) (fun ρ wx hp => want_of 10 true 20 rfl rfl (hp.2.1 rfl)) fun ρ wx hb hc hx hp => ⟨?_, rfl⟩
                  have h30 : ρ (.tmp 30) = .pointer (some ⟨p, o + k * 3, none⟩) := hp.1 rfl
                  have c1 := HC0.out wx hb
                  unfold execOp
                  simp only [h30]
                  clear h30 hx hp hc hb
                  go_simp
                · refine lb_val (.bool false) (fun ρ wx hp => want_of 10 true 20 rfl rfl (hp.2.2.1 rfl)) fun ρ wx hb hc hx hp => ⟨?_, rfl⟩
                  have h26 : ρ (.tmp 26) = .int .i64 (cC L q) := hp.1 rfl
                  have h31 : ρ (.tmp 31) = .int .i64 (cC L k) := hp.2.1 rfl
                  have h0 := HGT.out
                  unfold execOp
                  simp only [h26, h31]
                  clear h26 h31 hx hp hc hb
                  go_simp
                · exact lb_pick (.tmp 20) (.tmp 32) (.const (.bool false)) rfl true (fun ρ wx hp => want_of 7 false 17 rfl rfl (hp.2.2.1 rfl)) fun ρ wx hc hp => ⟨hp.1 rfl, hp.2.1 rfl⟩
                · exact lb_pick (.tmp 17) (.const (.bool true)) (.tmp 33) rfl false (fun _ _ _ => want_none rfl) fun ρ wx hc hp => ⟨hp.1 rfl, hp.2.1 rfl⟩
                · exact lb_move (.tmp 34) (.inl rfl) (fun _ _ _ => want_none rfl) fun ρ wx hc hx hp => hp.1 rfl
                · exact lb_move (.tmp 0) (.inl rfl) (fun ρ wx hp => want_of 25 false 35 rfl rfl (hp.1 rfl)) fun ρ wx hc hx hp => hx 0 rfl
                · exact lb_move (.tmp 3) (.inl rfl) (fun ρ wx hp => want_of 25 false 35 rfl rfl (hp.1 rfl)) fun ρ wx hc hx hp => hx 3 rfl
                · refine lb_val (.pointer (some ⟨p, o + k * 3, none⟩)) (fun ρ wx hp => want_of 25 false 35 rfl rfl (hp.2.2.1 rfl)) fun ρ wx hb hc hx hp => ⟨?_, rfl⟩
                  have h36 : ρ (.tmp 36) = .slice (some ⟨p, o, none⟩) n c := hp.1 rfl
                  have h37 : ρ (.tmp 37) = .int .i64 (k : Int) := hp.2.1 rfl
                  have h0 := HLT.out
                  unfold execOp
                  simp only [h36, h37]
                  clear h36 h37 hx hp hc hb
                  go_simp
                · refine lb_val (.pointer (some ⟨p, o + k * 3 + 1, none⟩)) (fun ρ wx hp => want_of 25 false 35 rfl rfl (hp.2.1 rfl)) fun ρ wx hb hc hx hp => ⟨?_, rfl⟩
                  have h38 : ρ (.tmp 38) = .pointer (some ⟨p, o + k * 3, none⟩) := hp.1 rfl
                  unfold execOp
                  simp only [h38]
                  clear h38 hx hp hc hb
                  go_simp
                · refine lb_val (.int .i64 (cX L k)) (fun ρ wx hp => want_of 25 false 35 rfl rfl (hp.2.1 rfl)) fun ρ wx hb hc hx hp => ⟨?_, rfl⟩
                  have h39 : ρ (.tmp 39) = .pointer (some ⟨p, o + k * 3 + 1, none⟩) := hp.1 rfl
                  have c1 := HC1.out wx hb
                  unfold execOp
                  simp only [h39]
                  clear h39 hx hp hc hb
                  go_simp
                · refine lb_known _ _ _ (.bool false) (fun _ _ => by simp [go_sem]) rfl (fun ρ wx hp => want_of 25 false 35 rfl rfl (hp.2.1 rfl)) #[.int .i64 (cX L k), .int .i64 0, .int .i64 255] (fun wq hb => (l1In_any (cX L k) 0 255 wq).mono fun e w' ⟨e1, e2⟩ => ⟨by rw [e1, H2.out], e2 ▸ Below.refl _ _⟩) (fun ρ wx hc hx hp => ?_) (fun _ => rfl)
                  have h0 : ρ (.tmp 40) = .int .i64 (cX L k) := hp.1 rfl
                  have h1 := hc (.int .i64 0)
                  have h2 := hc (.int .i64 255)
                  simp only [List.map_toArray, List.map_cons, List.map_nil, h0, h1, h2]
                · refine lb_val (.bool true) (fun ρ wx hp => want_of 25 false 35 rfl rfl (hp.2.1 rfl)) fun ρ wx hb hc hx hp => ⟨?_, rfl⟩
                  have h41 : ρ (.tmp 41) = .bool false := hp.1 rfl
                  unfold execOp
                  simp only [h41]
                  clear h41 hx hp hc hb
                  go_simp
                · exact lb_pick (.tmp 35) (.const (.bool true)) (.tmp 42) rfl false (fun _ _ _ => want_none rfl) fun ρ wx hc hp => ⟨hp.1 rfl, hp.2.1 rfl⟩
                · exact lb_move (.tmp 43) (.inl rfl) (fun _ _ _ => want_none rfl) fun ρ wx hc hx hp => hp.1 rfl
                · exact lb_not (fun ρ wx hp => want_not 34 false 44 rfl rfl (hp.1 rfl)) (fun _ => rfl)
                · exact lb_not (fun ρ wx hp => want_not 34 false 44 rfl rfl (hp.1 rfl)) (fun _ => rfl)
                · exact lb_not (fun ρ wx hp => want_not 34 false 44 rfl rfl (hp.2.2.1 rfl)) (fun _ => rfl)
                · exact lb_not (fun ρ wx hp => want_not 34 false 44 rfl rfl (hp.2.1 rfl)) (fun _ => rfl)
                · exact lb_not (fun ρ wx hp => want_not 34 false 44 rfl rfl (hp.2.1 rfl)) (fun _ => rfl)
                · exact lb_not (fun ρ wx hp => want_not 34 false 44 rfl rfl (hp.2.1 rfl)) (fun _ => rfl)
                · exact lb_not (fun ρ wx hp => want_not 34 false 44 rfl rfl (hp.2.1 rfl)) (fun _ => rfl)
                · exact lb_pick (.tmp 44) (.const (.bool true)) (.tmp 51) rfl true (fun _ _ _ => want_none rfl) fun ρ wx hc hp => ⟨hp.1 rfl, hc _⟩
              intro vs wx hI hF
              obtain ⟨-, -, -, -, -, -, -, -, -, -, -, -, -, -, -, -, -, -, -, -, -, -, -, -, -, -, -, -, -, -, -, -, -, -, -, -, -, -, -, -, -, -, h42, -⟩ := hF
              replace h42 : vs 42 = .bool true := h42
              have bl : Below wr.heap.size wr wx := hI
              simp only [putAll, Act.put, List.setIfInBounds_toArray, List.set_cons_zero, List.set_cons_succ, h42]
              clear hI h42
              have BX := Lib.hid (below_then BR.out bl)
              go_wp2_with fail
              go_ret
              exact ⟨ret_bool HN.out.symm, BX.out⟩
            · have H2 := Lib.hid h2
              cases h3 : betB (cY L k) 0 255
              · have H3 := Lib.hid h3
                have HN : Hid (chgB L n = false) := Lib.hid (HNO.out (by rw [HV.out, h3]; simp))
                clear h2 h3
                refine wp_region_typed (ClB wr) RlB (Ty [TV (.slice (some ⟨p, o, none⟩) n c), TV (.int .i64 (k : Int)), TV (.pointer (some ⟨p, o + k * 3, none⟩)), TV (.pointer (some ⟨p, o + k * 3, none⟩)), TV (.int .i64 (cC L k)), TV (.bool true), TV (.bool false), TV (.bool false), TV (.int .i64 (k : Int)), TV (.bool true), TV (.bool true), TV (.slice (some ⟨p, o, none⟩) n c), TV (.int .i64 (k : Int)), TV (.int .i64 (q : Int)), TV (.pointer (some ⟨p, o + q * 3, none⟩)), TV (.pointer (some ⟨p, o + q * 3, none⟩)), TV (.int .i64 (cC L q)), TV (.slice (some ⟨p, o, none⟩) n c), TV (.int .i64 (k : Int)), TV (.pointer (some ⟨p, o + k * 3, none⟩)), TV (.pointer (some ⟨p, o + k * 3, none⟩)), TV (.int .i64 (cC L k)), TV (.bool false), TV (.bool false), TV (.bool false), TV (.bool false), TV (.slice (some ⟨p, o, none⟩) n c), TV (.int .i64 (k : Int)), TV (.pointer (some ⟨p, o + k * 3, none⟩)), TV (.pointer (some ⟨p, o + k * 3 + 1, none⟩)), TV (.int .i64 (cX L k)), TV (.bool true), TV (.bool false), TV (.bool false), TV (.bool false), TV (.slice (some ⟨p, o, none⟩) n c), TV (.int .i64 (k : Int)), TV (.pointer (some ⟨p, o + k * 3, none⟩)), TV (.pointer (some ⟨p, o + k * 3 + 2, none⟩)), TV (.int .i64 (cY L k)), TV (.bool false), TV (.bool true), TV (.bool true)])
                  (by kernel_rfl) (by kernel_rfl) (stab_ty _ ⟨stabB_k _, stabB_k _, stabB_k _, stabB_k _, stabB_k _, stabB_k _, stabB_k _, stabB_k _, stabB_k _, stabB_k _, stabB_k _, stabB_k _, stabB_k _, stabB_k _, stabB_k _, stabB_k _, stabB_k _, stabB_k _, stabB_k _, stabB_k _, stabB_k _, stabB_k _, stabB_k _, stabB_k _, stabB_k _, stabB_k _, stabB_k _, stabB_k _, stabB_k _, stabB_k _, stabB_k _, stabB_k _, stabB_k _, stabB_k _, stabB_k _, stabB_k _, stabB_k _, stabB_k _, stabB_k _, stabB_k _, stabB_k _, stabB_k _, stabB_k _, trivial⟩) (Below.refl _ _).drew ?_ ?_
                · refine ⟨?_, ?_, ?_, ?_, ?_, ?_, ?_, ?_, ?_, ?_, ?_, ?_, ?_, ?_, ?_, ?_, ?_, ?_, ?_, ?_, ?_, ?_, ?_, ?_, ?_, ?_, ?_, ?_, ?_, ?_, ?_, ?_, ?_, ?_, ?_, ?_, ?_, ?_, ?_, ?_, ?_, ?_, ?_, trivial⟩
                  · exact lb_move (.tmp 0) (.inl rfl) (fun _ _ _ => want_none rfl) fun ρ wx hc hx hp => hx 0 rfl
                  · exact lb_move (.tmp 3) (.inl rfl) (fun _ _ _ => want_none rfl) fun ρ wx hc hx hp => hx 3 rfl
                  · refine lb_val (.pointer (some ⟨p, o + k * 3, none⟩)) (fun _ _ _ => want_none rfl) fun ρ wx hb hc hx hp => ⟨?_, rfl⟩
                    have h10 : ρ (.tmp 10) = .slice (some ⟨p, o, none⟩) n c := hp.1 rfl
                    have h11 : ρ (.tmp 11) = .int .i64 (k : Int) := hp.2.1 rfl
                    have h0 := HLT.out
                    unfold execOp
                    simp only [h10, h11]
                    clear h10 h11 hx hp hc hb
                    go_simp
                  · refine lb_val (.pointer (some ⟨p, o + k * 3, none⟩)) (fun _ _ _ => want_none rfl) fun ρ wx hb hc hx hp => ⟨?_, rfl⟩
                    have h12 : ρ (.tmp 12) = .pointer (some ⟨p, o + k * 3, none⟩) := hp.1 rfl
                    unfold execOp
                    simp only [h12]
                    clear h12 hx hp hc hb
                    go_simp
                  · refine lb_val (.int .i64 (cC L k)) (fun _ _ _ => want_none rfl) fun ρ wx hb hc hx hp => ⟨?_, rfl⟩
                    have h13 : ρ (.tmp 13) = .pointer (some ⟨p, o + k * 3, none⟩) := hp.1 rfl
                    have c1 := HC0.out wx hb
                    unfold execOp
                    simp only [h13]
                    clear h13 hx hp hc hb
                    go_simp
                  · refine lb_known _ _ _ (.bool true) (fun _ _ => by simp [go_sem]) rfl (fun _ _ _ => want_none rfl) #[.int .i64 (cC L k), .int .i64 0, .int .i64 31] (fun wq hb => (l1In_any (cC L k) 0 31 wq).mono fun e w' ⟨e1, e2⟩ => ⟨by rw [e1, H1.out], e2 ▸ Below.refl _ _⟩) (fun ρ wx hc hx hp => ?_) (fun _ => rfl)
                    have h0 : ρ (.tmp 14) = .int .i64 (cC L k) := hp.1 rfl
                    have h1 := hc (.int .i64 0)
                    have h2 := hc (.int .i64 31)
                    simp only [List.map_toArray, List.map_cons, List.map_nil, h0, h1, h2]
                  · refine lb_val (.bool false) (fun _ _ _ => want_none rfl) fun ρ wx hb hc hx hp => ⟨?_, rfl⟩
                    have h15 : ρ (.tmp 15) = .bool true := hp.1 rfl
                    unfold execOp
                    simp only [h15]
                    clear h15 hx hp hc hb
                    go_simp
                  · exact lb_move (.tmp 16) (.inl rfl) (fun _ _ _ => want_none rfl) fun ρ wx hc hx hp => hp.1 rfl
                  · exact lb_move (.tmp 3) (.inl rfl) (fun ρ wx hp => want_of 7 false 17 rfl rfl (hp.1 rfl)) fun ρ wx hc hx hp => hx 3 rfl
                  · refine lb_val (.bool true) (fun ρ wx hp => want_of 7 false 17 rfl rfl (hp.2.1 rfl)) fun ρ wx hb hc hx hp => ⟨?_, rfl⟩
                    have h18 : ρ (.tmp 18) = .int .i64 (k : Int) := hp.1 rfl
                    have hk0 := hc (.int .i64 0)
                    have h0 := HK0.out
                    unfold execOp
                    simp only [h18, hk0]
                    clear h18 hk0 hx hp hc hb
                    go_simp
                  · exact lb_move (.tmp 19) (.inl rfl) (fun ρ wx hp => want_of 7 false 17 rfl rfl (hp.2.1 rfl)) fun ρ wx hc hx hp => hp.1 rfl
                  · exact lb_move (.tmp 0) (.inl rfl) (fun ρ wx hp => want_of 10 true 20 rfl rfl (hp.1 rfl)) fun ρ wx hc hx hp => hx 0 rfl
                  · exact lb_move (.tmp 3) (.inl rfl) (fun ρ wx hp => want_of 10 true 20 rfl rfl (hp.1 rfl)) fun ρ wx hc hx hp => hx 3 rfl
                  · refine lb_val (.int .i64 (q : Int)) (fun ρ wx hp => want_of 10 true 20 rfl rfl (hp.2.1 rfl)) fun ρ wx hb hc hx hp => ⟨?_, rfl⟩
                    have h22 : ρ (.tmp 22) = .int .i64 (k : Int) := hp.1 rfl
                    have hk0 := hc (.int .i64 1)
                    have h0 := HQ.out
                    unfold execOp
                    simp only [h22, hk0]
                    clear h22 hk0 hx hp hc hb
                    go_simp
                  · refine lb_val (.pointer (some ⟨p, o + q * 3, none⟩)) (fun ρ wx hp => want_of 10 true 20 rfl rfl (hp.2.2.1 rfl)) fun ρ wx hb hc hx hp => ⟨?_, rfl⟩
                    have h21 : ρ (.tmp 21) = .slice (some ⟨p, o, none⟩) n c := hp.1 rfl
                    have h23 : ρ (.tmp 23) = .int .i64 (q : Int) := hp.2.1 rfl
                    have h0 := HLQ.out
                    unfold execOp
                    simp only [h21, h23]
                    clear h21 h23 hx hp hc hb
                    go_simp
                  · refine lb_val (.pointer (some ⟨p, o + q * 3, none⟩)) (fun ρ wx hp => want_of 10 true 20 rfl rfl (hp.2.1 rfl)) fun ρ wx hb hc hx hp => ⟨?_, rfl⟩
                    have h24 : ρ (.tmp 24) = .pointer (some ⟨p, o + q * 3, none⟩) := hp.1 rfl
                    unfold execOp
                    simp only [h24]
                    clear h24 hx hp hc hb
                    go_simp
                  · refine lb_val (.int .i64 (cC L q)) (fun ρ wx hp => want_of 10 true 20 rfl rfl (hp.2.1 rfl)) fun ρ wx hb hc hx hp => ⟨?_, rfl⟩
                    have h25 : ρ (.tmp 25) = .pointer (some ⟨p, o + q * 3, none⟩) := hp.1 rfl
                    have c1 := HCQ.out wx hb
                    unfold execOp
                    simp only [h25]
                    clear h25 hx hp hc hb
                    go_simp
                  · exact lb_move (.tmp 0) (.inl rfl) (fun ρ wx hp => want_of 10 true 20 rfl rfl (hp.1 rfl)) fun ρ wx hc hx hp => hx 0 rfl
                  · exact lb_move (.tmp 3) (.inl rfl) (fun ρ wx hp => want_of 10 true 20 rfl rfl (hp.1 rfl)) fun ρ wx hc hx hp => hx 3 rfl
                  · refine lb_val (.pointer (some ⟨p, o + k * 3, none⟩)) (fun ρ wx hp => want_of 10 true 20 rfl rfl (hp.2.2.1 rfl)) fun ρ wx hb hc hx hp => ⟨?_, rfl⟩
                    have h27 : ρ (.tmp 27) = .slice (some ⟨p, o, none⟩) n c := hp.1 rfl
                    have h28 : ρ (.tmp 28) = .int .i64 (k : Int) := hp.2.1 rfl
                    have h0 := HLT.out
                    unfold execOp
                    simp only [h27, h28]
                    clear h27 h28 hx hp hc hb
                    go_simp
                  · refine lb_val (.pointer (some ⟨p, o + k * 3, none⟩)) (fun ρ wx hp => want_of 10 true 20 rfl rfl (hp.2.1 rfl)) fun ρ wx hb hc hx hp => ⟨?_, rfl⟩
                    have h29 : ρ (.tmp 29) = .pointer (some ⟨p, o + k * 3, none⟩) := hp.1 rfl
                    unfold execOp
                    simp only [h29]
                    clear h29 hx hp hc hb
                    go_simp
                  · refine lb_val (.int .i64 (cC L k)) (fun ρ wx hp => want_of 10 true 20 rfl rfl (hp.2.1 rfl)) fun ρ wx hb hc hx hp => ⟨?_, rfl⟩
                    have h30 : ρ (.tmp 30) = .pointer (some ⟨p, o + k * 3, none⟩) := hp.1 rfl
                    have c1 := HC0.out wx hb
                    unfold execOp
                    simp only [h30]
                    clear h30 hx hp hc hb
                    go_simp
                  · refine lb_val (.bool false) (fun ρ wx hp => want_of 10 true 20 rfl rfl (hp.2.2.1 rfl)) fun ρ wx hb hc hx hp => ⟨?_, rfl⟩
                    have h26 : ρ (.tmp 26) = .int .i64 (cC L q) := hp.1 rfl
                    have h31 : ρ (.tmp 31) = .int .i64 (cC L k) := hp.2.1 rfl
                    have h0 := HGT.out
                    unfold execOp
                    simp only [h26, h31]
                    clear h26 h31 hx hp hc hb
                    go_simp
                  · exact lb_pick (.tmp 20) (.tmp 32) (.const (.bool false)) rfl true (fun ρ wx hp => want_of 7 false 17 rfl rfl (hp.2.2.1 rfl)) fun ρ wx hc hp => ⟨hp.1 rfl, hp.2.1 rfl⟩
                  · exact lb_pick (.tmp 17) (.const (.bool true)) (.tmp 33) rfl false (fun _ _ _ => want_none rfl) fun ρ wx hc hp => ⟨hp.1 rfl, hp.2.1 rfl⟩
                  · exact lb_move (.tmp 34) (.inl rfl) (fun _ _ _ => want_none rfl) fun ρ wx hc hx hp => hp.1 rfl
                  · exact lb_move (.tmp 0) (.inl rfl) (fun ρ wx hp => want_of 25 false 35 rfl rfl (hp.1 rfl)) fun ρ wx hc hx hp => hx 0 rfl
                  · exact lb_move (.tmp 3) (.inl rfl) (fun ρ wx hp => want_of 25 false 35 rfl rfl (hp.1 rfl)) fun ρ wx hc hx hp => hx 3 rfl
                  · refine lb_val (.pointer (some ⟨p, o + k * 3, none⟩)) (fun ρ wx hp => want_of 25 false 35 rfl rfl (hp.2.2.1 rfl)) fun ρ wx hb hc hx hp => ⟨?_, rfl⟩
                    have h36 : ρ (.tmp 36) = .slice (some ⟨p, o, none⟩) n c := hp.1 rfl
                    have h37 : ρ (.tmp 37) = .int .i64 (k : Int) := hp.2.1 rfl
                    have h0 := HLT.out
                    unfold execOp
                    simp only [h36, h37]
                    clear h36 h37 hx hp hc hb
                    go_simp
                  · refine lb_val (.pointer (some ⟨p, o + k * 3 + 1, none⟩)) (fun ρ wx hp => want_of 25 false 35 rfl rfl (hp.2.1 rfl)) fun ρ wx hb hc hx hp => ⟨?_, rfl⟩
                    have h38 : ρ (.tmp 38) = .pointer (some ⟨p, o + k * 3, none⟩) := hp.1 rfl
                    unfold execOp
                    simp only [h38]
                    clear h38 hx hp hc hb
                    go_simp
                  · refine lb_val (.int .i64 (cX L k)) (fun ρ wx hp => want_of 25 false 35 rfl rfl (hp.2.1 rfl)) fun ρ wx hb hc hx hp => ⟨?_, rfl⟩
                    have h39 : ρ (.tmp 39) = .pointer (some ⟨p, o + k * 3 + 1, none⟩) := hp.1 rfl
                    have c1 := HC1.out wx hb
                    unfold execOp
                    simp only [h39]
                    clear h39 hx hp hc hb
                    go_simp
                  · refine lb_known _ _ _ (.bool true) (fun _ _ => by simp [go_sem]) rfl (fun ρ wx hp => want_of 25 false 35 rfl rfl (hp.2.1 rfl)) #[.int .i64 (cX L k), .int .i64 0, .int .i64 255] (fun wq hb => (l1In_any (cX L k) 0 255 wq).mono fun e w' ⟨e1, e2⟩ => ⟨by rw [e1, H2.out], e2 ▸ Below.refl _ _⟩) (fun ρ wx hc hx hp => ?_) (fun _ => rfl)
                    have h0 : ρ (.tmp 40) = .int .i64 (cX L k) := hp.1 rfl
                    have h1 := hc (.int .i64 0)
                    have h2 := hc (.int .i64 255)
                    simp only [List.map_toArray, List.map_cons, List.map_nil, h0, h1, h2]
                  · refine lb_val (.bool false) (fun ρ wx hp => want_of 25 false 35 rfl rfl (hp.2.1 rfl)) fun ρ wx hb hc hx hp => ⟨?_, rfl⟩
                    have h41 : ρ (.tmp 41) = .bool true := hp.1 rfl
                    unfold execOp
                    simp only [h41]
                    clear h41 hx hp hc hb
                    go_simp
                  · exact lb_pick (.tmp 35) (.const (.bool true)) (.tmp 42) rfl false (fun _ _ _ => want_none rfl) fun ρ wx hc hp => ⟨hp.1 rfl, hp.2.1 rfl⟩
                  · exact lb_move (.tmp 43) (.inl rfl) (fun _ _ _ => want_none rfl) fun ρ wx hc hx hp => hp.1 rfl
                  · exact lb_move (.tmp 0) (.inl rfl) (fun ρ wx hp => want_of 34 false 44 rfl rfl (hp.1 rfl)) fun ρ wx hc hx hp => hx 0 rfl
                  · exact lb_move (.tmp 3) (.inl rfl) (fun ρ wx hp => want_of 34 false 44 rfl rfl (hp.1 rfl)) fun ρ wx hc hx hp => hx 3 rfl
                  · refine lb_val (.pointer (some ⟨p, o + k * 3, none⟩)) (fun ρ wx hp => want_of 34 false 44 rfl rfl (hp.2.2.1 rfl)) fun ρ wx hb hc hx hp => ⟨?_, rfl⟩
                    have h45 : ρ (.tmp 45) = .slice (some ⟨p, o, none⟩) n c := hp.1 rfl
                    have h46 : ρ (.tmp 46) = .int .i64 (k : Int) := hp.2.1 rfl
                    have h0 := HLT.out
                    unfold execOp
                    simp only [h45, h46]
                    clear h45 h46 hx hp hc hb
                    go_simp
                  · refine lb_val (.pointer (some ⟨p, o + k * 3 + 2, none⟩)) (fun ρ wx hp => want_of 34 false 44 rfl rfl (hp.2.1 rfl)) fun ρ wx hb hc hx hp => ⟨?_, rfl⟩
                    have h47 : ρ (.tmp 47) = .pointer (some ⟨p, o + k * 3, none⟩) := hp.1 rfl
                    unfold execOp
                    simp only [h47]
                    clear h47 hx hp hc hb
                    go_simp
                  · refine lb_val (.int .i64 (cY L k)) (fun ρ wx hp => want_of 34 false 44 rfl rfl (hp.2.1 rfl)) fun ρ wx hb hc hx hp => ⟨?_, rfl⟩
                    have h48 : ρ (.tmp 48) = .pointer (some ⟨p, o + k * 3 + 2, none⟩) := hp.1 rfl
                    have c1 := HC2.out wx hb
                    unfold execOp
                    simp only [h48]
                    clear h48 hx hp hc hb
                    go_simp
                  · refine lb_known _ _ _ (.bool false) (fun _ _ => by simp [go_sem]) rfl (fun ρ wx hp => want_of 34 false 44 rfl rfl (hp.2.1 rfl)) #[.int .i64 (cY L k), .int .i64 0, .int .i64 255] (fun wq hb => (l1In_any (cY L k) 0 255 wq).mono fun e w' ⟨e1, e2⟩ => ⟨by rw [e1, H3.out], e2 ▸ Below.refl _ _⟩) (fun ρ wx hc hx hp => ?_) (fun _ => rfl)
                    have h0 : ρ (.tmp 49) = .int .i64 (cY L k) := hp.1 rfl
                    have h1 := hc (.int .i64 0)
                    have h2 := hc (.int .i64 255)
                    simp only [List.map_toArray, List.map_cons, List.map_nil, h0, h1, h2]
                  · refine lb_val (.bool true) (fun ρ wx hp => want_of 34 false 44 rfl rfl (hp.2.1 rfl)) fun ρ wx hb hc hx hp => ⟨?_, rfl⟩
                    have h50 : ρ (.tmp 50) = .bool false := hp.1 rfl
                    unfold execOp
                    simp only [h50]
                    clear h50 hx hp hc hb
                    go_simp
                  · exact lb_pick (.tmp 44) (.const (.bool true)) (.tmp 51) rfl false (fun _ _ _ => want_none rfl) fun ρ wx hc hp => ⟨hp.1 rfl, hp.2.1 rfl⟩
                intro vs wx hI hF
                obtain ⟨-, -, -, -, -, -, -, -, -, -, -, -, -, -, -, -, -, -, -, -, -, -, -, -, -, -, -, -, -, -, -, -, -, -, -, -, -, -, -, -, -, -, h42, -⟩ := hF
                replace h42 : vs 42 = .bool true := h42
                have bl : Below wr.heap.size wr wx := hI
                simp only [putAll, Act.put, List.setIfInBounds_toArray, List.set_cons_zero, List.set_cons_succ, h42]
                clear hI h42
                have BX := Lib.hid (below_then BR.out bl)
                go_wp2_with fail
                go_ret
                exact ⟨ret_bool HN.out.symm, BX.out⟩
              · have H3 := Lib.hid h3
                have HY : Hid (chgK L (k + 1) = true) := Lib.hid (HYES.out (by rw [HV.out, H1.out, h2, h3]; simp; rw [HQ1.out.1]; omega))
                clear h2 h3
                refine wp_region_typed (ClB wr) RlB (Ty [TV (.slice (some ⟨p, o, none⟩) n c), TV (.int .i64 (k : Int)), TV (.pointer (some ⟨p, o + k * 3, none⟩)), TV (.pointer (some ⟨p, o + k * 3, none⟩)), TV (.int .i64 (cC L k)), TV (.bool true), TV (.bool false), TV (.bool false), TV (.int .i64 (k : Int)), TV (.bool true), TV (.bool true), TV (.slice (some ⟨p, o, none⟩) n c), TV (.int .i64 (k : Int)), TV (.int .i64 (q : Int)), TV (.pointer (some ⟨p, o + q * 3, none⟩)), TV (.pointer (some ⟨p, o + q * 3, none⟩)), TV (.int .i64 (cC L q)), TV (.slice (some ⟨p, o, none⟩) n c), TV (.int .i64 (k : Int)), TV (.pointer (some ⟨p, o + k * 3, none⟩)), TV (.pointer (some ⟨p, o + k * 3, none⟩)), TV (.int .i64 (cC L k)), TV (.bool false), TV (.bool false), TV (.bool false), TV (.bool false), TV (.slice (some ⟨p, o, none⟩) n c), TV (.int .i64 (k : Int)), TV (.pointer (some ⟨p, o + k * 3, none⟩)), TV (.pointer (some ⟨p, o + k * 3 + 1, none⟩)), TV (.int .i64 (cX L k)), TV (.bool true), TV (.bool false), TV (.bool false), TV (.bool false), TV (.slice (some ⟨p, o, none⟩) n c), TV (.int .i64 (k : Int)), TV (.pointer (some ⟨p, o + k * 3, none⟩)), TV (.pointer (some ⟨p, o + k * 3 + 2, none⟩)), TV (.int .i64 (cY L k)), TV (.bool true), TV (.bool false), TV (.bool false)])
                  (by kernel_rfl) (by kernel_rfl) (stab_ty _ ⟨stabB_k _, stabB_k _, stabB_k _, stabB_k _, stabB_k _, stabB_k _, stabB_k _, stabB_k _, stabB_k _, stabB_k _, stabB_k _, stabB_k _, stabB_k _, stabB_k _, stabB_k _, stabB_k _, stabB_k _, stabB_k _, stabB_k _, stabB_k _, stabB_k _, stabB_k _, stabB_k _, stabB_k _, stabB_k _, stabB_k _, stabB_k _, stabB_k _, stabB_k _, stabB_k _, stabB_k _, stabB_k _, stabB_k _, stabB_k _, stabB_k _, stabB_k _, stabB_k _, stabB_k _, stabB_k _, stabB_k _, stabB_k _, stabB_k _, stabB_k _, trivial⟩) (Below.refl _ _).drew ?_ ?_
                · refine ⟨?_, ?_, ?_, ?_, ?_, ?_, ?_, ?_, ?_, ?_, ?_, ?_, ?_, ?_, ?_, ?_, ?_, ?_, ?_, ?_, ?_, ?_, ?_, ?_, ?_, ?_, ?_, ?_, ?_, ?_, ?_, ?_, ?_, ?_, ?_, ?_, ?_, ?_, ?_, ?_, ?_, ?_, ?_, trivial⟩
                  · exact lb_move (.tmp 0) (.inl rfl) (fun _ _ _ => want_none rfl) fun ρ wx hc hx hp => hx 0 rfl
                  · exact lb_move (.tmp 3) (.inl rfl) (fun _ _ _ => want_none rfl) fun ρ wx hc hx hp => hx 3 rfl
                  · refine lb_val (.pointer (some ⟨p, o + k * 3, none⟩)) (fun _ _ _ => want_none rfl) fun ρ wx hb hc hx hp => ⟨?_, rfl⟩
                    have h10 : ρ (.tmp 10) = .slice (some ⟨p, o, none⟩) n c := hp.1 rfl
                    have h11 : ρ (.tmp 11) = .int .i64 (k : Int) := hp.2.1 rfl
                    have h0 := HLT.out
                    unfold execOp
                    simp only [h10, h11]
                    clear h10 h11 hx hp hc hb
                    go_simp
                  · refine lb_val (.pointer (some ⟨p, o + k * 3, none⟩)) (fun _ _ _ => want_none rfl) fun ρ wx hb hc hx hp => ⟨?_, rfl⟩
                    have h12 : ρ (.tmp 12) = .pointer (some ⟨p, o + k * 3, none⟩) := hp.1 rfl
                    unfold execOp
                    simp only [h12]
                    clear h12 hx hp hc hb
                    go_simp
                  · refine lb_val (.int .i64 (cC L k)) (fun _ _ _ => want_none rfl) fun ρ wx hb hc hx hp => ⟨?_, rfl⟩
                    have h13 : ρ (.tmp 13) = .pointer (some ⟨p, o + k * 3, none⟩) := hp.1 rfl
                    have c1 := HC0.out wx hb
                    unfold execOp
                    simp only [h13]
                    clear h13 hx hp hc hb
                    go_simp
                  · refine lb_known _ _ _ (.bool true) (fun _ _ => by simp [go_sem]) rfl (fun _ _ _ => want_none rfl) #[.int .i64 (cC L k), .int .i64 0, .int .i64 31] (fun wq hb => (l1In_any (cC L k) 0 31 wq).mono fun e w' ⟨e1, e2⟩ => ⟨by rw [e1, H1.out], e2 ▸ Below.refl _ _⟩) (fun ρ wx hc hx hp => ?_) (fun _ => rfl)
                    have h0 : ρ (.tmp 14) = .int .i64 (cC L k) := hp.1 rfl
                    have h1 := hc (.int .i64 0)
                    have h2 := hc (.int .i64 31)
                    simp only [List.map_toArray, List.map_cons, List.map_nil, h0, h1, h2]
                  · refine lb_val (.bool false) (fun _ _ _ => want_none rfl) fun ρ wx hb hc hx hp => ⟨?_, rfl⟩
                    have h15 : ρ (.tmp 15) = .bool true := hp.1 rfl
                    unfold execOp
                    simp only [h15]
                    clear h15 hx hp hc hb
                    go_simp
                  · exact lb_move (.tmp 16) (.inl rfl) (fun _ _ _ => want_none rfl) fun ρ wx hc hx hp => hp.1 rfl
                  · exact lb_move (.tmp 3) (.inl rfl) (fun ρ wx hp => want_of 7 false 17 rfl rfl (hp.1 rfl)) fun ρ wx hc hx hp => hx 3 rfl
                  · refine lb_val (.bool true) (fun ρ wx hp => want_of 7 false 17 rfl rfl (hp.2.1 rfl)) fun ρ wx hb hc hx hp => ⟨?_, rfl⟩
                    have h18 : ρ (.tmp 18) = .int .i64 (k : Int) := hp.1 rfl
                    have hk0 := hc (.int .i64 0)
                    have h0 := HK0.out
                    unfold execOp
                    simp only [h18, hk0]
                    clear h18 hk0 hx hp hc hb
                    go_simp
                  · exact lb_move (.tmp 19) (.inl rfl) (fun ρ wx hp => want_of 7 false 17 rfl rfl (hp.2.1 rfl)) fun ρ wx hc hx hp => hp.1 rfl
                  · exact lb_move (.tmp 0) (.inl rfl) (fun ρ wx hp => want_of 10 true 20 rfl rfl (hp.1 rfl)) fun ρ wx hc hx hp => hx 0 rfl
                  · exact lb_move (.tmp 3) (.inl rfl) (fun ρ wx hp => want_of 10 true 20 rfl rfl (hp.1 rfl)) fun ρ wx hc hx hp => hx 3 rfl
                  · refine lb_val (.int .i64 (q : Int)) (fun ρ wx hp => want_of 10 true 20 rfl rfl (hp.2.1 rfl)) fun ρ wx hb hc hx hp => ⟨?_, rfl⟩
                    have h22 : ρ (.tmp 22) = .int .i64 (k : Int) := hp.1 rfl
                    have hk0 := hc (.int .i64 1)
                    have h0 := HQ.out
                    unfold execOp
                    simp only [h22, hk0]
                    clear h22 hk0 hx hp hc hb
                    go_simp
                  · refine lb_val (.pointer (some ⟨p, o + q * 3, none⟩)) (fun ρ wx hp => want_of 10 true 20 rfl rfl (hp.2.2.1 rfl)) fun ρ wx hb hc hx hp => ⟨?_, rfl⟩
                    have h21 : ρ (.tmp 21) = .slice (some ⟨p, o, none⟩) n c := hp.1 rfl
                    have h23 : ρ (.tmp 23) = .int .i64 (q : Int) := hp.2.1 rfl
                    have h0 := HLQ.out
                    unfold execOp
                    simp only [h21, h23]
                    clear h21 h23 hx hp hc hb
                    go_simp
                  · refine lb_val (.pointer (some ⟨p, o + q * 3, none⟩)) (fun ρ wx hp => want_of 10 true 20 rfl rfl (hp.2.1 rfl)) fun ρ wx hb hc hx hp => ⟨?_, rfl⟩
                    have h24 : ρ (.tmp 24) = .pointer (some ⟨p, o + q * 3, none⟩) := hp.1 rfl
                    unfold execOp
                    simp only [h24]
                    clear h24 hx hp hc hb
                    go_simp
                  · refine lb_val (.int .i64 (cC L q)) (fun ρ wx hp => want_of 10 true 20 rfl rfl (hp.2.1 rfl)) fun ρ wx hb hc hx hp => ⟨?_, rfl⟩
                    have h25 : ρ (.tmp 25) = .pointer (some ⟨p, o + q * 3, none⟩) := hp.1 rfl
                    have c1 := HCQ.out wx hb
                    unfold execOp
                    simp only [h25]
                    clear h25 hx hp hc hb
                    go_simp
                  · exact lb_move (.tmp 0) (.inl rfl) (fun ρ wx hp => want_of 10 true 20 rfl rfl (hp.1 rfl)) fun ρ wx hc hx hp => hx 0 rfl
                  · exact lb_move (.tmp 3) (.inl rfl) (fun ρ wx hp => want_of 10 true 20 rfl rfl (hp.1 rfl)) fun ρ wx hc hx hp => hx 3 rfl
                  · refine lb_val (.pointer (some ⟨p, o + k * 3, none⟩)) (fun ρ wx hp => want_of 10 true 20 rfl rfl (hp.2.2.1 rfl)) fun ρ wx hb hc hx hp => ⟨?_, rfl⟩
                    have h27 : ρ (.tmp 27) = .slice (some ⟨p, o, none⟩) n c := hp.1 rfl
                    have h28 : ρ (.tmp 28) = .int .i64 (k : Int) := hp.2.1 rfl
                    have h0 := HLT.out
                    unfold execOp
                    simp only [h27, h28]
                    clear h27 h28 hx hp hc hb
                    go_simp
                  · refine lb_val (.pointer (some ⟨p, o + k * 3, none⟩)) (fun ρ wx hp => want_of 10 true 20 rfl rfl (hp.2.1 rfl)) fun ρ wx hb hc hx hp => ⟨?_, rfl⟩
                    have h29 : ρ (.tmp 29) = .pointer (some ⟨p, o + k * 3, none⟩) := hp.1 rfl
                    unfold execOp
                    simp only [h29]
                    clear h29 hx hp hc hb
                    go_simp
                  · refine lb_val (.int .i64 (cC L k)) (fun ρ wx hp => want_of 10 true 20 rfl rfl (hp.2.1 rfl)) fun ρ wx hb hc hx hp => ⟨?_, rfl⟩
                    have h30 : ρ (.tmp 30) = .pointer (some ⟨p, o + k * 3, none⟩) := hp.1 rfl
                    have c1 := HC0.out wx hb
                    unfold execOp
                    simp only [h30]
                    clear h30 hx hp hc hb
                    go_simp
                  · refine lb_val (.bool false) (fun ρ wx hp => want_of 10 true 20 rfl rfl (hp.2.2.1 rfl)) fun ρ wx hb hc hx hp => ⟨?_, rfl⟩
                    have h26 : ρ (.tmp 26) = .int .i64 (cC L q) := hp.1 rfl
                    have h31 : ρ (.tmp 31) = .int .i64 (cC L k) := hp.2.1 rfl
                    have h0 := HGT.out
                    unfold execOp
                    simp only [h26, h31]
                    clear h26 h31 hx hp hc hb
                    go_simp
                  · exact lb_pick (.tmp 20) (.tmp 32) (.const (.bool false)) rfl true (fun ρ wx hp => want_of 7 false 17 rfl rfl (hp.2.2.1 rfl)) fun ρ wx hc hp => ⟨hp.1 rfl, hp.2.1 rfl⟩
                  · exact lb_pick (.tmp 17) (.const (.bool true)) (.tmp 33) rfl false (fun _ _ _ => want_none rfl) fun ρ wx hc hp => ⟨hp.1 rfl, hp.2.1 rfl⟩
                  · exact lb_move (.tmp 34) (.inl rfl) (fun _ _ _ => want_none rfl) fun ρ wx hc hx hp => hp.1 rfl
                  · exact lb_move (.tmp 0) (.inl rfl) (fun ρ wx hp => want_of 25 false 35 rfl rfl (hp.1 rfl)) fun ρ wx hc hx hp => hx 0 rfl
                  · exact lb_move (.tmp 3) (.inl rfl) (fun ρ wx hp => want_of 25 false 35 rfl rfl (hp.1 rfl)) fun ρ wx hc hx hp => hx 3 rfl
                  · refine lb_val (.pointer (some ⟨p, o + k * 3, none⟩)) (fun ρ wx hp => want_of 25 false 35 rfl rfl (hp.2.2.1 rfl)) fun ρ wx hb hc hx hp => ⟨?_, rfl⟩
                    have h36 : ρ (.tmp 36) = .slice (some ⟨p, o, none⟩) n c := hp.1 rfl
                    have h37 : ρ (.tmp 37) = .int .i64 (k : Int) := hp.2.1 rfl
                    have h0 := HLT.out
                    unfold execOp
                    simp only [h36, h37]
                    clear h36 h37 hx hp hc hb
                    go_simp
                  · refine lb_val (.pointer (some ⟨p, o + k * 3 + 1, none⟩)) (fun ρ wx hp => want_of 25 false 35 rfl rfl (hp.2.1 rfl)) fun ρ wx hb hc hx hp => ⟨?_, rfl⟩
                    have h38 : ρ (.tmp 38) = .pointer (some ⟨p, o + k * 3, none⟩) := hp.1 rfl
                    unfold execOp
                    simp only [h38]
                    clear h38 hx hp hc hb
                    go_simp
                  · refine lb_val (.int .i64 (cX L k)) (fun ρ wx hp => want_of 25 false 35 rfl rfl (hp.2.1 rfl)) fun ρ wx hb hc hx hp => ⟨?_, rfl⟩
                    have h39 : ρ (.tmp 39) = .pointer (some ⟨p, o + k * 3 + 1, none⟩) := hp.1 rfl
                    have c1 := HC1.out wx hb
                    unfold execOp
                    simp only [h39]
                    clear h39 hx hp hc hb
                    go_simp
                  · refine lb_known _ _ _ (.bool true) (fun _ _ => by simp [go_sem]) rfl (fun ρ wx hp => want_of 25 false 35 rfl rfl (hp.2.1 rfl)) #[.int .i64 (cX L k), .int .i64 0, .int .i64 255] (fun wq hb => (l1In_any (cX L k) 0 255 wq).mono fun e w' ⟨e1, e2⟩ => ⟨by rw [e1, H2.out], e2 ▸ Below.refl _ _⟩) (fun ρ wx hc hx hp => ?_) (fun _ => rfl)
                    have h0 : ρ (.tmp 40) = .int .i64 (cX L k) := hp.1 rfl
                    have h1 := hc (.int .i64 0)
                    have h2 := hc (.int .i64 255)
                    simp only [List.map_toArray, List.map_cons, List.map_nil, h0, h1, h2]
                  · refine lb_val (.bool false) (fun ρ wx hp => want_of 25 false 35 rfl rfl (hp.2.1 rfl)) fun ρ wx hb hc hx hp => ⟨?_, rfl⟩
                    have h41 : ρ (.tmp 41) = .bool true := hp.1 rfl
                    unfold execOp
                    simp only [h41]
                    clear h41 hx hp hc hb
                    go_simp
                  · exact lb_pick (.tmp 35) (.const (.bool true)) (.tmp 42) rfl false (fun _ _ _ => want_none rfl) fun ρ wx hc hp => ⟨hp.1 rfl, hp.2.1 rfl⟩
                  · exact lb_move (.tmp 43) (.inl rfl) (fun _ _ _ => want_none rfl) fun ρ wx hc hx hp => hp.1 rfl
                  · exact lb_move (.tmp 0) (.inl rfl) (fun ρ wx hp => want_of 34 false 44 rfl rfl (hp.1 rfl)) fun ρ wx hc hx hp => hx 0 rfl
                  · exact lb_move (.tmp 3) (.inl rfl) (fun ρ wx hp => want_of 34 false 44 rfl rfl (hp.1 rfl)) fun ρ wx hc hx hp => hx 3 rfl
                  · refine lb_val (.pointer (some ⟨p, o + k * 3, none⟩)) (fun ρ wx hp => want_of 34 false 44 rfl rfl (hp.2.2.1 rfl)) fun ρ wx hb hc hx hp => ⟨?_, rfl⟩
                    have h45 : ρ (.tmp 45) = .slice (some ⟨p, o, none⟩) n c := hp.1 rfl
                    have h46 : ρ (.tmp 46) = .int .i64 (k : Int) := hp.2.1 rfl
                    have h0 := HLT.out
                    unfold execOp
                    simp only [h45, h46]
                    clear h45 h46 hx hp hc hb
                    go_simp
                  · refine lb_val (.pointer (some ⟨p, o + k * 3 + 2, none⟩)) (fun ρ wx hp => want_of 34 false 44 rfl rfl (hp.2.1 rfl)) fun ρ wx hb hc hx hp => ⟨?_, rfl⟩
                    have h47 : ρ (.tmp 47) = .pointer (some ⟨p, o + k * 3, none⟩) := hp.1 rfl
                    unfold execOp
                    simp only [h47]
                    clear h47 hx hp hc hb
                    go_simp
                  · refine lb_val (.int .i64 (cY L k)) (fun ρ wx hp => want_of 34 false 44 rfl rfl (hp.2.1 rfl)) fun ρ wx hb hc hx hp => ⟨?_, rfl⟩
                    have h48 : ρ (.tmp 48) = .pointer (some ⟨p, o + k * 3 + 2, none⟩) := hp.1 rfl
                    have c1 := HC2.out wx hb
                    unfold execOp
                    simp only [h48]
                    clear h48 hx hp hc hb
                    go_simp
                  · refine lb_known _ _ _ (.bool true) (fun _ _ => by simp [go_sem]) rfl (fun ρ wx hp => want_of 34 false 44 rfl rfl (hp.2.1 rfl)) #[.int .i64 (cY L k), .int .i64 0, .int .i64 255] (fun wq hb => (l1In_any (cY L k) 0 255 wq).mono fun e w' ⟨e1, e2⟩ => ⟨by rw [e1, H3.out], e2 ▸ Below.refl _ _⟩) (fun ρ wx hc hx hp => ?_) (fun _ => rfl)
                    have h0 : ρ (.tmp 49) = .int .i64 (cY L k) := hp.1 rfl
                    have h1 := hc (.int .i64 0)
                    have h2 := hc (.int .i64 255)
                    simp only [List.map_toArray, List.map_cons, List.map_nil, h0, h1, h2]
                  · refine lb_val (.bool false) (fun ρ wx hp => want_of 34 false 44 rfl rfl (hp.2.1 rfl)) fun ρ wx hb hc hx hp => ⟨?_, rfl⟩
                    have h50 : ρ (.tmp 50) = .bool true := hp.1 rfl
                    unfold execOp
                    simp only [h50]
                    clear h50 hx hp hc hb
                    go_simp
                  · exact lb_pick (.tmp 44) (.const (.bool true)) (.tmp 51) rfl false (fun _ _ _ => want_none rfl) fun ρ wx hc hp => ⟨hp.1 rfl, hp.2.1 rfl⟩
                intro vs wx hI hF
                obtain ⟨-, -, -, -, -, -, -, -, -, -, -, -, -, -, -, -, -, -, -, -, -, -, -, -, -, -, -, -, -, -, -, -, -, -, -, -, -, -, -, -, -, -, h42, -⟩ := hF
                replace h42 : vs 42 = .bool false := h42
                have bl : Below wr.heap.size wr wx := hI
                simp only [putAll, Act.put, List.setIfInBounds_toArray, List.set_cons_zero, List.set_cons_succ, h42]
                clear hI h42
                have BX := Lib.hid (below_then BR.out bl)
                go_wp2_with fail
                go_roundw
                case rel => exact ⟨k + 1, by omega, by go_num, BX.out, HY.out⟩
                case measure => simp [intOf]; omega
    · have hge : ¬ (k : Int) < n := by omega
      obtain rfl : k = n := by omega
      by_cases h8 : k ≤ 8
      · have h8' : (k : Int) ≤ 8 := by omega
        have HR : Hid (chgB L k = true) := Lib.hid (by unfold chgB; rw [HK.out]; simp [h8])
        go_wp2_with fail
        go_ret
        exact ⟨ret_bool HR.out.symm, BR.out⟩
      · have h8' : ¬ (k : Int) ≤ 8 := by omega
        have HR : Hid (chgB L k = false) := Lib.hid (by unfold chgB; simp [h8])
        go_wp2_with fail
        go_ret
        exact ⟨ret_bool HR.out.symm, BR.out⟩
end Go.Proofs.Ytddllcgbdgpkbaa
