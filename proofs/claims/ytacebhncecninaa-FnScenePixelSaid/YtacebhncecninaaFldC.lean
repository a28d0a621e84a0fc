/- The model's FieldValid. -/
import Derived.Test.YtacebhncecninaaGD
namespace Go.Proofs.Ytacebhncecninaa
open Go.ChangeShapes Go.WideShapes Go.ChangeAt Go.RowKit
set_option linter.unusedVariables false

theorem l1In_q (a l h : Int) (w : World) : Calls Try.prog 57 #[.int .i64 a, .int .i64 l, .int .i64 h] w fun e w' => e = .returned (.bool (betB a l h)) ∧ ∃ m, w' = w.drewN m :=
  (l1In_any a l h w).mono fun _ _ ⟨e, hw⟩ => ⟨e, 0, hw.symm⟩
set_option maxHeartbeats 4000000 in
theorem spec_fieldValid (F : Fld) (A : Option Addr) (c : Nat) (T : Option Addr) (d : Nat) (fa ft : List Nat) (w : World) (hF : FHas w A T F fa ft) (hs : FSmall F) :
    Calls Try.prog 56 #[fv F A c T d] w fun e w' => e = .returned (.bool (fldB F)) ∧ Below w.heap.size w w' := by
  have HE := Lib.hid (fldB_spec F)
  obtain ⟨W, xs, m, zs, sx, sy⟩ := F
  obtain ⟨hF1, hF2⟩ := hF
  obtain ⟨hs1, hs2⟩ := hs
  simp only at hs1 hs2 hF1 hF2
  obtain ⟨n, hn⟩ : ∃ n, n = xs.length := ⟨_, rfl⟩
  show Calls Try.prog 56 #[fldV W A xs.length c T m d sx sy] w fun e w' => e = .returned (.bool (fldB ⟨W, xs, m, zs, sx, sy⟩)) ∧ Below w.heap.size w w'
  have HT1 : Hid (tblB W n = (betB W 1 8 && decide ((n : Int) % W = 0) && betB ((n : Int) / W) 1 8)) := Lib.hid rfl
  simp only at HE
  rw [← hn] at hs1 hF1 HE ⊢
  rw [HT1.out] at HE
  clear HT1
  have n0 : (0 : Int) ≤ n := by omega
  have B1 := Lib.hid (below1 w (.cells #[.int .i64 W, .slice A n c, .slice T m d, .int .i64 sx, .int .i64 sy] 26))
  have X1 := Lib.hid (Box.new w #[.int .i64 W, .slice A n c, .slice T m d, .int .i64 sx, .int .i64 sy] 26)
  have HA := Lib.hid (hF1.below B1.out)
  have HT := Lib.hid (hF2.below B1.out)
  have HN := Lib.hid hn
  have HZ := Lib.hid hF2.1
  clear hF1 hF2 hn
  generalize fldB ⟨W, xs, m, zs, sx, sy⟩ = R at HE ⊢
  go_enter Try.func56, Try.ntmps56
  go_wp2_with fail
  generalize w.alloc (.cells #[.int .i64 W, .slice A n c, .slice T m d, .int .i64 sx, .int .i64 sy] 26) = w1 at X1 B1 HA HT ⊢
  generalize hbb : w.heap.size = bb at X1 B1 ⊢
  have k0 : w1.cell? ⟨bb, 0, none⟩ = some (.int .i64 W) := X1.out.cell 0
  have k1 : w1.cell? ⟨bb, 1, none⟩ = some (.slice A n c) := X1.out.cell 1
  have k2 : w1.cell? ⟨bb, 2, none⟩ = some (.slice T m d) := X1.out.cell 2
  have k3 : w1.cell? ⟨bb, 3, none⟩ = some (.int .i64 sx) := X1.out.cell 3
  have k4 : w1.cell? ⟨bb, 4, none⟩ = some (.int .i64 sy) := X1.out.cell 4
  refine (l1In_any W 1 8 _).mono ?_; rintro e w2 ⟨rfl, rfl⟩
  cases hx : betB W 1 8
  · rw [hx] at HE
    go_wp2_with fail
    go_ret
    exact ⟨ret_bool (by rw [HE.out]; simp), by first | exact B1.out | (rw [hbb]; exact B1.out)⟩
  rw [hx] at HE
  obtain ⟨w1', w8⟩ := betB_iff.1 hx
  have wne : W ≠ 0 := by omega
  clear hx
  have q0 : 0 ≤ (n : Int) / W := Int.ediv_nonneg (by omega) (by omega)
  have q1 : (n : Int) / W ≤ 1000000000 := Int.le_trans (Int.ediv_le_self _ (by omega)) (by omega)
  by_cases hr : ¬ (n : Int) % W = 0
  · have HD : Hid (decide ((n : Int) % W = 0) = false) := Lib.hid (by simpa using hr)
    rw [HD.out] at HE
    go_wp2_with fail
    go_ret
    exact ⟨ret_bool (by rw [HE.out]; simp), by first | exact B1.out | (rw [hbb]; exact B1.out)⟩
  have hr : (n : Int) % W = 0 := Classical.not_not.1 hr
  have HD : Hid (decide ((n : Int) % W = 0) = true) := Lib.hid (by simpa using hr)
  rw [HD.out] at HE
  clear HD
  obtain ⟨q, hq⟩ : ∃ q, q = (n : Int) / W := ⟨_, rfl⟩
  rw [← hq] at HE q0 q1
  go_wp2_with fail
  rw [← hq]
  clear hq
  refine (l1In_any q 1 8 _).mono ?_; rintro e w2 ⟨rfl, rfl⟩
  cases hx : betB q 1 8
  · rw [hx] at HE
    go_wp2_with fail
    go_ret
    exact ⟨ret_bool (by rw [HE.out]; simp), by first | exact B1.out | (rw [hbb]; exact B1.out)⟩
  rw [hx] at HE
  clear hx
  go_wp2_with fail
  refine (l1In_any (m : Int) 1 16 _).mono ?_; rintro e w2 ⟨rfl, rfl⟩
  cases hx : betB (m : Int) 1 16
  · rw [hx] at HE
    go_wp2_with fail
    go_ret
    exact ⟨ret_bool (by rw [HE.out]; simp), by first | exact B1.out | (rw [hbb]; exact B1.out)⟩
  rw [hx] at HE
  clear hx
  go_wp2_with fail
  refine (l1In_any sx 0 255 _).mono ?_; rintro e w2 ⟨rfl, rfl⟩
  cases hx : betB sx 0 255
  · rw [hx] at HE
    go_wp2_with fail
    go_ret
    exact ⟨ret_bool (by rw [HE.out]; simp), by first | exact B1.out | (rw [hbb]; exact B1.out)⟩
  rw [hx] at HE
  clear hx
  go_wp2_with fail
  refine (l1In_any sy 0 255 _).mono ?_; rintro e w2 ⟨rfl, rfl⟩
  cases hx : betB sy 0 255
  · rw [hx] at HE
    go_wp2_with fail
    go_ret
    exact ⟨ret_bool (by rw [HE.out]; simp), by first | exact B1.out | (rw [hbb]; exact B1.out)⟩
  rw [hx] at HE
  clear hx hr q0 q1 wne
  have HR : Hid (R = (tilB zs && knownB m xs)) := Lib.hid (by rw [HE.out]; rfl)
  clear HE k0 k1 k2 k3 k4
  have k1 : w1.cell? ⟨bb, 1, none⟩ = some (.slice A n c) := X1.out.cell 1
  have k2 : w1.cell? ⟨bb, 2, none⟩ = some (.slice T m d) := X1.out.cell 2
  go_wp2_with fail
  clear k1 k2
  go_loopw [3] (fun i wr => ∃ k : Nat, k ≤ m ∧ i = .int .i64 k ∧ Below bb w wr ∧ Below w1.heap.size w1 wr ∧ ∀ j, j < k → tilB (tl zs j) = true) (fun i _ => m - (intOf i).toNat)
  case atStart => exact ⟨0, by omega, rfl, B1.out, Below.refl _ _, fun j hj => by omega⟩
  case round =>
    obtain ⟨k, hk, rfl, hb, hb1, hall⟩ := hrel
    have HK := Lib.hid hall
    have HB := Lib.hid hb
    have HB1 := Lib.hid hb1
    have XR := Lib.hid (X1.out.below hb1)
    clear hall hb hb1
    have k1 : wr.cell? ⟨bb, 1, none⟩ = some (.slice A n c) := XR.out.cell 1
    have k2 : wr.cell? ⟨bb, 2, none⟩ = some (.slice T m d) := XR.out.cell 2
    by_cases hlt : k < m
    · obtain ⟨p, o, rfl, _, _, hc⟩ := HT.out.at_ (by omega)
      clear hc
      have RG := Lib.hid (til_range (HT.out.below HB1.out) hlt)
      have h64 := Lib.hid (tl_len HZ.out hlt)
      obtain ⟨px, hpx⟩ : ∃ px, tl zs k = px := ⟨_, rfl⟩
      rw [hpx] at RG h64
      have HP := Lib.hid hpx
      clear hpx
      go_wp2_with (first | (refine st_loadm (by rfl) _ rfl _ _ rfl px h64.out RG.out ?_))
      refine (spec_tileValid px h64.out _).mono ?_; rintro e w2 ⟨rfl, b2⟩
      have B2 : Hid (Below bb w w2) := Lib.hid (HB.out.trans (b2.mono (by have := HB.out.size; have := XR.out.lt; omega)))
      have B3 : Hid (Below w1.heap.size w1 w2) := Lib.hid (below_then HB1.out b2)
      clear b2
      cases hv : tilB px
      · have HF := Lib.hid (tls_no HZ.out k hlt (by rw [HP.out]; exact hv))
        go_wp2_with fail
        go_ret
        exact ⟨ret_bool (by rw [HR.out, HF.out]; rfl), by first | exact B2.out | (rw [hbb]; exact B2.out)⟩
      · have HV := Lib.hid hv
        clear hv
        go_wp2_with fail
        go_roundw
        case rel => exact ⟨k + 1, by omega, by go_num, B2.out, B3.out, fun j hj => by
          by_cases e : j = k
          · subst e; rw [HP.out]; exact HV.out
          · exact HK.out j (by omega)⟩
        case measure => simp [intOf]; omega
    · have HF := Lib.hid (tls_yes HZ.out fun j hj => HK.out j (by omega))
      have HA2 := Lib.hid (HA.out.below HB1.out)
      have HR2 : Hid (R = knownB m xs) := Lib.hid (by rw [HR.out, HF.out]; rfl)
      clear HR HF HK X1 B1 HA HT HB1
      obtain ⟨W0, rfl⟩ : ∃ W0, W0 = wr := ⟨wr, rfl⟩
      go_wp2_with fail
      clear k1 k2
      go_loopw [4] (fun i wr => ∃ k : Nat, k ≤ n ∧ i = .int .i64 k ∧ Below W0.heap.size W0 wr ∧ ∀ j, j < k → betB (xs.getD j 0) 0 ((m : Int) - 1) = true) (fun i _ => n - (intOf i).toNat)
      case atStart => exact ⟨0, by omega, rfl, Below.refl _ _, fun j hj => by omega⟩
      case round =>
        obtain ⟨k, hk, rfl, hq, hall⟩ := hrel
        have HK := Lib.hid hall
        have HQ := Lib.hid hq
        have HBQ : Hid (Below bb w wr) := Lib.hid (HB.out.trans (hq.mono (by have := HB.out.size; have := XR.out.lt; omega)))
        have k1 : wr.cell? ⟨bb, 1, none⟩ = some (.slice A n c) := (XR.out.below hq).cell 1
        have k2 : wr.cell? ⟨bb, 2, none⟩ = some (.slice T m d) := (XR.out.below hq).cell 2
        have HA3 := Lib.hid (HA2.out.below hq)
        clear hall hq
        by_cases hlt : k < n
        · obtain ⟨p, o, rfl, _, _, hc⟩ := HA3.out.at_ (by omega)
          have c1 := hc k hlt
          clear hc
          obtain ⟨x, hx⟩ : ∃ x, xs.getD k 0 = x := ⟨_, rfl⟩
          rw [hx] at c1
          have HX := Lib.hid hx
          clear hx
          go_wp2_with fail
          go_quiet ((go_at_call 57; exact Calls.quiet_of (l1In_q x 0 _ _)))
          cases hb : betB x 0 ((m : Int) - 1)
          · have HF := Lib.hid (knownB_no (n := m) (xs := xs) k (by rw [← HN.out]; exact hlt) (by rw [HX.out]; exact hb))
            go_wp2_with fail
            go_ret
            exact ⟨ret_bool (by rw [HR2.out, HF.out]), by first | exact below_drewN HBQ.out _ | (rw [hbb]; exact below_drewN HBQ.out _) | exact HBQ.out | (rw [hbb]; exact HBQ.out)⟩
          · have HV := Lib.hid hb
            clear hb
            go_wp2_with fail
            go_roundw
            case rel => exact ⟨k + 1, by omega, by go_num, below_drewN HQ.out _, fun j hj => by
              by_cases e : j = k
              · subst e; rw [HX.out]; exact HV.out
              · exact HK.out j (by omega)⟩
            case measure => simp [intOf]; omega
        · have HF := Lib.hid (knownB_iff (n := m) (xs := xs) |>.2 fun j hj => HK.out j (by rw [← HN.out] at hj; omega))
          go_wp2_with fail
          go_ret
          exact ⟨ret_bool (by rw [HR2.out, HF.out]), by first | exact below_drewN HBQ.out _ | (rw [hbb]; exact below_drewN HBQ.out _) | exact HBQ.out | (rw [hbb]; exact HBQ.out)⟩
end Go.Proofs.Ytacebhncecninaa
