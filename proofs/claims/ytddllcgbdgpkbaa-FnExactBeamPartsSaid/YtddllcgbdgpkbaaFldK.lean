/- The laws' own functions on slices of tiles: equal, marked, held; their sizes. -/
import Derived.Test.YtddllcgbdgpkbaaFldJ
namespace Go.Proofs.Ytddllcgbdgpkbaa
open Go.ChangeShapes Go.WideShapes Go.ChangeAt Go.RowKit
set_option linter.unusedVariables false

set_option maxHeartbeats 2000000 in
theorem eq_tiles (A B : Option Addr) (m c d : Nat) (zs : List Int) (fa fb : List Nat) (w : World) (ha : Ints w A (64 * m) zs fa) (hb : Ints w B (64 * m) zs fb) (hn : m ≤ 1000000000) :
    Calls Try.prog 56 #[.slice A m c, .slice B m d] w fun e w' => e = .returned (.bool true) ∧ Below w.heap.size w w' := by
  have HA := Lib.hid ha
  have HB := Lib.hid hb
  have HZ := Lib.hid ha.1
  clear ha hb
  go_enter Try.func56, Try.ntmps56
  go_wp2_with fail
  go_loopw [5] (fun i wr => ∃ k : Nat, k ≤ m ∧ i = .int .i64 k ∧ Below w.heap.size w wr) (fun i _ => m - (intOf i).toNat)
  case atStart => exact ⟨0, by omega, rfl, Below.refl _ _⟩
  case round =>
    obtain ⟨k, hk, rfl, hbl⟩ := hrel
    have BR := Lib.hid hbl
    clear hbl
    by_cases hlt : k < m
    · obtain ⟨p, o, rfl, _, _, hc⟩ := HA.out.at_ (by omega)
      obtain ⟨q, u, rfl, _, _, hd⟩ := HB.out.at_ (by omega)
      clear hc hd
      have RA : Hid (∀ w', Below wr.heap.size wr w' → w'.rangeAt p (o + k * 64) (iv (tl zs k))) := Lib.hid fun w' hw' => til_range ((HA.out.below BR.out).below hw') hlt
      have RB : Hid (∀ w', Below wr.heap.size wr w' → w'.rangeAt q (u + k * 64) (iv (tl zs k))) := Lib.hid fun w' hw' => til_range ((HB.out.below BR.out).below hw') hlt
      have h64 := Lib.hid (tl_len HZ.out hlt)
      generalize tl zs k = px at RA RB h64
      have hkm : (k : Int) < m := by omega
      have hk0 : 0 ≤ (k : Int) := by omega
      go_wp2_with fail
      refine wp_region_typed (ClB wr) RlB (Ty [TV (.slice (some ⟨p, o, none⟩) m c), TV (.int .i64 k), TV (.pointer (some ⟨p, o + k * 64, none⟩)), TV (tilV px), TV (.slice (some ⟨q, u, none⟩) m d), TV (.int .i64 k), TV (.pointer (some ⟨q, u + k * 64, none⟩)), TV (tilV px), TV (.bool true), TV (.bool false)])
        (by kernel_rfl) (by kernel_rfl) (stab_ty _ ⟨stabB_k _, stabB_k _, stabB_k _, stabB_k _, stabB_k _, stabB_k _, stabB_k _, stabB_k _, stabB_k _, stabB_k _, trivial⟩) (Below.refl _ _).drew ?_ ?_
      · refine ⟨?_, ?_, ?_, ?_, ?_, ?_, ?_, ?_, ?_, ?_, trivial⟩
        · exact lb_move (.tmp 0) (.inl rfl) (fun _ _ _ => want_none rfl) fun ρ wx hc hx hp => hx 0 rfl
        · exact lb_move (.tmp 5) (.inl rfl) (fun _ _ _ => want_none rfl) fun ρ wx hc hx hp => hx 5 rfl
        · refine lb_val (.pointer (some ⟨p, o + k * 64, none⟩)) (fun _ _ _ => want_none rfl) fun ρ wx hb hc hx hp => ⟨?_, rfl⟩
          have h0 : ρ (.tmp 17) = .slice (some ⟨p, o, none⟩) m c := hp.1 rfl
          have h1 : ρ (.tmp 18) = .int .i64 k := hp.2.1 rfl
          unfold execOp
          simp only [h0, h1]
          clear h0 h1 hx hc hp hb
          go_simp
        · exact lb_tilm (.tmp 19) p (o + k * 64) px rfl h64.out RA.out (fun _ _ _ => want_none rfl) fun ρ wx hx hp => ⟨hp.1 rfl, rfl⟩
        · exact lb_move (.tmp 1) (.inl rfl) (fun _ _ _ => want_none rfl) fun ρ wx hc hx hp => hx 1 rfl
        · exact lb_move (.tmp 5) (.inl rfl) (fun _ _ _ => want_none rfl) fun ρ wx hc hx hp => hx 5 rfl
        · refine lb_val (.pointer (some ⟨q, u + k * 64, none⟩)) (fun _ _ _ => want_none rfl) fun ρ wx hb hc hx hp => ⟨?_, rfl⟩
          have h0 : ρ (.tmp 21) = .slice (some ⟨q, u, none⟩) m d := hp.1 rfl
          have h1 : ρ (.tmp 22) = .int .i64 k := hp.2.1 rfl
          unfold execOp
          simp only [h0, h1]
          clear h0 h1 hx hc hp hb
          go_simp
        · exact lb_tilm (.tmp 23) q (u + k * 64) px rfl h64.out RB.out (fun _ _ _ => want_none rfl) fun ρ wx hx hp => ⟨hp.1 rfl, rfl⟩
        · refine lb_known _ _ _ (.bool true) (fun _ _ => by simp [go_sem]) rfl (fun _ _ _ => want_none rfl) #[tilV px, tilV px] (fun w hb => eq_til px h64.out w) (fun ρ wx hc hx hp => ?_) (fun _ => rfl)
          have h0 : ρ (.tmp 20) = tilV px := hp.1 rfl
          have h1 : ρ (.tmp 24) = tilV px := hp.2.1 rfl
          simp only [List.map_toArray, List.map_cons, List.map_nil, h0, h1]
        · exact lb_unot (.tmp 25) _ true rfl (fun _ _ _ => want_none rfl) fun ρ wx hp => ⟨hp.1 rfl, rfl⟩
      intro vs wx hI hF
      obtain ⟨_, _, _, _, _, _, _, _, _, h9, _⟩ := hF
      replace h9 : vs 9 = .bool false := h9
      have HI : Hid (Below wr.heap.size wr wx) := hI
      simp only [putAll, Act.put, List.setIfInBounds_toArray, List.set_cons_zero, List.set_cons_succ, h9]
      clear hI h9
      have BX := Lib.hid (below_then BR.out HI.out)
      go_wp2_with fail
      go_roundw
      case rel => exact ⟨k + 1, by omega, by go_num, BX.out⟩
      case measure => simp [intOf]; omega
    · go_wp2_with fail
      go_ret
      exact ⟨rfl, BR.out⟩
theorem sz_tiles_yes (A : Option Addr) (n c : Nat) (left : Int) (w : World) (h : (n : Int) ≤ left) (hl : left ≤ 1000000000) :
    Calls Try.prog 53 #[.slice A n c, .int .i64 left] w fun e w' => e = .returned (.int .i64 (left - n)) ∧ w = w' := by
  go_enter Try.func53, Try.ntmps53
  go_wp2
  go_ret
  exact ⟨rfl, rfl⟩
theorem sz_tiles_no (A : Option Addr) (n c : Nat) (left : Int) (w : World) (h : left < n) (hl : -1 ≤ left) (hn : n ≤ 9223372036854775807) :
    Calls Try.prog 53 #[.slice A n c, .int .i64 left] w fun e w' => e = .returned (.int .i64 (-1)) ∧ w = w' := by
  go_enter Try.func53, Try.ntmps53
  go_wp2
  go_ret
  exact ⟨rfl, rfl⟩
set_option maxHeartbeats 2000000 in
theorem mark_tiles (A : Option Addr) (m c : Nat) (k0 : Int) (xs : List Int) (fp : List Nat) (w : World) (ha : Ints w A (64 * m) xs fp) (hf : ∀ b ∈ fp, ∀ o, w.frozen? ⟨b, o, none⟩ = false) (hn : m ≤ 100000000) (h0 : 0 ≤ k0) (h1 : k0 ≤ 10000000000) :
    Calls Try.prog 57 #[.slice A m c, .int .i64 k0] w (MarkedI A (64 * m) k0 fp w) := by
  have HA := Lib.hid ha
  have HF := Lib.hid hf
  clear ha hf
  go_enter Try.func57, Try.ntmps57
  go_wp2
  go_loopw [1, 5] (fun q i wr => ∃ (k : Nat) (cur : List Int), k ≤ m ∧ i = .int .i64 k ∧ q = .int .i64 (k0 + 64 * k) ∧ Ints wr A (64 * m) cur fp ∧ (∀ j, j < 64 * k → cur.getD j 0 = k0 + j) ∧ Only fp w wr ∧ (∀ b ∈ fp, ∀ o, wr.frozen? ⟨b, o, none⟩ = false)) (fun _ i _ => m - (intOf i).toNat)
  case atStart => exact ⟨0, xs, Nat.zero_le _, rfl, by simp, HA.out, fun j hj => by omega, Only.refl _ _, HF.out⟩
  case round =>
    obtain ⟨k, cur, hk, rfl, rfl, hr, hm, hb, hf⟩ := hrel
    have HR := Lib.hid hr
    have HM := Lib.hid hm
    have HB := Lib.hid hb
    have HG := Lib.hid hf
    clear hr hb hf hm HA HF
    by_cases hlt : k < m
    · obtain ⟨p, o, rfl, hfp, hp, hc⟩ := HR.out.at_ (by omega)
      have HP := Lib.hid hfp
      clear hc hfp hp
      obtain ⟨W0, rfl⟩ : ∃ W0, W0 = wr := ⟨wr, rfl⟩
      have hkm : (k : Int) < m := by omega
      have hk0 : 0 ≤ (k : Int) := by omega
      go_wp2_with fail
      go_loopw [1, 6] (fun q i wr => ∃ (j : Nat) (cur : List Int), j ≤ 64 ∧ i = .int .i64 j ∧ q = .int .i64 (k0 + 64 * k + j) ∧ Ints wr (some ⟨p, o, none⟩) (64 * m) cur fp ∧ (∀ x, x < 64 * k + j → cur.getD x 0 = k0 + x) ∧ Only fp w wr ∧ (∀ b ∈ fp, ∀ o, wr.frozen? ⟨b, o, none⟩ = false)) (fun _ i _ => 64 - (intOf i).toNat)
      case atStart => exact ⟨0, cur, by omega, rfl, by simp, HR.out, HM.out, HB.out, HG.out⟩
      case round =>
        obtain ⟨j, cu, hj, rfl, rfl, hr, hm, hb, hf⟩ := hrel
        have HR2 := Lib.hid hr
        have HM2 := Lib.hid hm
        have HB2 := Lib.hid hb
        have HG2 := Lib.hid hf
        clear hr hb hf hm HR HM HB HG
        by_cases hl2 : j < 64
        · obtain ⟨p', o', he, _, _, hc⟩ := HR2.out.at_ (by omega)
          injection he with he
          injection he with e1 e2 _
          subst e1 e2
          have c1 := hc (64 * k + j) (by omega)
          rw [show o + (64 * k + j) = o + k * 64 + j by omega] at c1
          have c2 := HG2.out p (by rw [HP.out]; simp) (o + k * 64 + j)
          clear hc
          generalize cu.getD (64 * k + j) 0 = x at c1
          have i64 : (j : Int) < 64 := by omega
          have j0 : 0 ≤ (j : Int) := by omega
          go_wp2_with fail
          go_roundw
          case rel =>
            have hl := HR2.out.1
            have hs := HR2.out.set (k := 64 * k + j) (by omega) (k0 + 64 * k + j)
            rw [show o + (64 * k + j) = o + k * 64 + j by omega] at hs
            refine ⟨j + 1, cu.set (64 * k + j) (k0 + 64 * k + j), by omega, by go_num, by go_num, hs, fun x hx => ?_, HB2.out.setCell (.inl (by rw [HP.out]; simp)) _, fun b hb o' => by rw [World.frozen?_setCell]; exact HG2.out b hb o'⟩
            simp only [List.getD_eq_getElem?_getD, List.getElem?_set]
            by_cases hjk : 64 * k + j = x
            · subst hjk
              rw [if_pos rfl, if_pos (by omega)]
              simp only [Option.getD_some]
              omega
            · rw [if_neg hjk, ← List.getD_eq_getElem?_getD]; exact HM2.out x (by omega)
          case measure => simp [intOf]; omega
        · obtain rfl : j = 64 := by omega
          go_wp2_with fail
          go_roundw
          case rel => exact ⟨k + 1, cu, by omega, by go_num, by go_num, HR2.out, fun x hx => HM2.out x (by omega), HB2.out, HG2.out⟩
          case measure => simp [intOf]; omega
    · obtain rfl : k = m := by omega
      go_wp2
      go_ret
      refine ⟨ret_int (by omega), HB.out, ?_, HG.out⟩
      have e : cur = upFrom k0 (64 * k) := list_ext0 _ _ (by rw [upFrom_len]; exact HR.out.1) (fun i hi => by rw [upFrom_len] at hi; rw [upFrom_at _ _ _ hi, HM.out i hi])
      rw [← e]; exact HR.out
end Go.Proofs.Ytddllcgbdgpkbaa
