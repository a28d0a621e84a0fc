/- Laws of chapter 11, walked. -/
import Derived.Test.YtpmeppknbpoibaaSprU
import Derived.Test.YtpmeppknbpoibaaSprT
import Derived.Test.YtpmeppknbpoibaaGA
import Derived.Deep.DeepCutAuto
namespace Go.Proofs.Ytpmeppknbpoibaa
open Go.ChangeShapes Go.WideShapes Go.ChangeAt Go.RowKit
set_option linter.unusedVariables false

set_option maxRecDepth 100000 in
set_option maxHeartbeats 8000000 in
theorem walk_FnSpritesHidden (a0 : Option Addr) (len0 cap0 : Nat) (z0 : List Int) (w : World) (w0 : IsRow .u8 w a0 len0 cap0 z0) :
    Calls Try.prog 6 #[.slice a0 len0 cap0] w fun e w' => e = .returned (.bool true) ∧ Below w.heap.size w w' := by
  have H := Lib.hid w0
  have hl := isRow_len w0
  clear w0
  by_cases hs : len0 ≤ 1048576
  · go_enter Try.func6, Try.ntmps6
    go_wp2_with fail
    refine (draw_spritesHidden _ _ _ _ _ H.out).mono ?_; rintro e w1 ⟨A, n, c, S, fs, T, m, d, zs, ft, y, rfl, hy, hg⟩
    obtain ⟨n1, hnc, m1, m4, hmd, hs1, ht1, b1⟩ := hg
    have S1 := Lib.hid hs1
    have T1 := Lib.hid ht1
    have B1 := Lib.hid b1
    have HL := Lib.hid hs1.1
    have hn9 : n ≤ 1000000000 := by omega
    have hm9 : m ≤ 1000000000 := by omega
    clear hs1 ht1 b1
    go_wp2_with fail
    refine (im_hidden A n c S fs T m d zs ft y _ S1.out T1.out hn9 hm9).mono ?_; rintro e w2 ⟨rfl, bl⟩
    obtain ⟨V, hV⟩ : ∃ V, hidT S m zs y = V := ⟨_, rfl⟩
    have HV := Lib.hid hV
    rw [hV]
    clear hV
    have S2 := Lib.hid (S1.out.below bl)
    have T2 := Lib.hid (T1.out.below bl)
    have B2 := Lib.hid (below_then B1.out bl)
    clear S1 T1 B1 bl
    go_wp2_with fail
    refine (spec_hidden A n c S fs T m d zs ft y _ S2.out T2.out hn9 hm9).mono ?_; rintro e w3 ⟨rfl, bl⟩
    rw [HV.out]
    have S3 := Lib.hid (S2.out.below bl)
    have T3 := Lib.hid (T2.out.below bl)
    have B3 := Lib.hid (below_then B2.out bl)
    clear S2 T2 B2 bl
    cases hok : (sprB S m zs && betB y 0 15)
    · have hv : V = -1 := by rw [← HV.out]; unfold hidT; rw [hok]; rfl
      subst hv
      go_wp2_with fail
      refine (alive_any _).mono ?_; rintro e w' ⟨rfl, rfl⟩
      go_wp2_with fail
      go_ret
      exact ⟨rfl, B3.out⟩
    · obtain ⟨N, hN⟩ : ∃ N : Nat, hidF S y = N := ⟨_, rfl⟩
      have hv : V = N := by rw [← HV.out, ← hN]; unfold hidT; rw [hok]; rfl
      have HO : Hid (onT S m zs y = onF S y) := Lib.hid (by unfold onT; rw [hok]; rfl)
      have HN := Lib.hid hN
      have hval : sprB S m zs = true := (Bool.and_eq_true _ _ ▸ hok).1
      have hyb := betB_iff.1 (show betB y 0 15 = true from (Bool.and_eq_true _ _ ▸ hok).2)
      have HY := Lib.hid (fun i (hi : i < n) => (sprB_iff.1 hval).2.1 i (by rw [HL.out]; exact hi))
      subst hv
      have hn0 : ¬ (N : Int) < 0 := by omega
      have HNL : Hid (N ≤ n) := Lib.hid (by
        rw [← HN.out]; unfold hidF allF
        have := onN_le S y S.length
        rw [HL.out] at this ⊢; omega)
      clear hok hval hN HV
      go_wp2_with fail
      go_loopw [7, 8] (fun t i wr => ∃ k : Nat, k ≤ n ∧ i = .int .i64 k ∧ t = .int .i64 ((onN S y k).length : Nat) ∧ Below w3.heap.size w3 wr) (fun _ i _ => n - (intOf i).toNat)
      case atStart => exact ⟨0, by omega, rfl, rfl, Below.refl _ _⟩
      case round =>
        obtain ⟨k, hk, rfl, rfl, hbl⟩ := hrel
        have BR := Lib.hid hbl
        have LK := Lib.hid (onN_le S y k)
        clear hbl
        obtain ⟨q, hq⟩ : ∃ q : Nat, (onN S y k).length = q := ⟨_, rfl⟩
        have HQ := Lib.hid hq
        have qk : q ≤ k := by have := LK.out; omega
        rw [hq]
        clear hq
        by_cases hlt : k < n
        · obtain ⟨p, o, rfl, _, hpl, hc⟩ := S3.out.at_ (by omega)
          have c1 : wr.cell? ⟨p, o + k * 6 + 1, none⟩ = some (.int .i64 (S.getD k .zero).y) := by
            rw [BR.out.cell (by exact hpl)]
            have := hc k hlt 1 _ rfl
            rwa [show o + (6 * k + 1) = o + k * 6 + 1 by omega] at this
          have hyk := HY.out k hlt
          unfold sprOk at hyk
          simp only [Bool.and_eq_true, betB_iff] at hyk
          have hyk1 := hyk.1.2
          clear hyk
          have HCV : Hid (covB S y k = betB (y - (S.getD k .zero).y) 0 7) := Lib.hid rfl
          generalize (S.getD k .zero).y = sy at c1 hyk1 HCV
          clear hc
          have hk' : (k : Int) < n := by omega
          have hw : IntKind.i64.wrap (y - sy) = y - sy := by rw [IntKind.wrap_i64]; omega
          by_cases h1 : sy ≤ y
          · by_cases h2 : y - sy ≤ 7
            · have hcv : covB S y k = true := by rw [HCV.out]; exact betB_iff.2 ⟨by omega, by omega⟩
              have HC := Lib.hid hcv
              clear hcv
              go_wp2_with fail
              go_roundw
              case rel => exact ⟨k + 1, by omega, by go_num, by rw [onN_yes HC.out, List.length_append, HQ.out]; go_num, BR.out⟩
              case measure => simp [intOf]; omega
            · have hcv : covB S y k = false := by rw [HCV.out]; exact betB_no (by omega)
              have HC := Lib.hid hcv
              have hd : decide (y - sy ≤ 7) = false := by simp; omega
              clear hcv h2
              go_wp2_with fail
              go_roundw
              case rel => exact ⟨k + 1, by omega, by go_num, by rw [onN_no HC.out, HQ.out], BR.out⟩
              case measure => simp [intOf]; omega
          · have hcv : covB S y k = false := by rw [HCV.out]; exact betB_no (by omega)
            have HC := Lib.hid hcv
            have hd : decide (sy ≤ y) = false := by simp; omega
            clear hcv h1
            go_wp2_with fail
            go_roundw
            case rel => exact ⟨k + 1, by omega, by go_num, by rw [onN_no HC.out, HQ.out], BR.out⟩
            case measure => simp [intOf]; omega
        · obtain rfl : k = n := by omega
          have hlt' : ¬ (k : Int) < k := by omega
          have HF : Hid (N + (onF S y).length = q) := Lib.hid (by rw [← HN.out, onF_sum]; unfold allF; rw [HL.out, HQ.out])
          go_wp2_with fail
          refine (im_onLine A k c S fs T m d zs ft y _ (S3.out.below BR.out) (T3.out.below BR.out) hn9 hm9).mono ?_
          rw [HO.out]
          rintro e w5 ⟨Ro, ro, lo, rfl, _, _, _, bo⟩
          have B5 := Lib.hid (below_then B3.out (below_then BR.out bo))
          clear bo
          obtain ⟨r, hr⟩ : ∃ r : Nat, (onF S y).length = r := ⟨_, rfl⟩
          rw [hr] at HF ⊢
          have hrr : N + r = q := HF.out
          have hri : (N : Int) + r = q := by omega
          have hrw : IntKind.i64.wrap ((N : Int) + r) = q := by rw [IntKind.wrap_i64]; omega
          clear hr hrr
          go_wp2_with fail
          go_ret
          exact ⟨by simp, B5.out⟩
  · have hs' : 1048576 < len0 := by omega
    go_enter Try.func6, Try.ntmps6
    go_wp2_with fail
    go_ret
    exact ⟨rfl, Below.refl _ _⟩
theorem onT_le4 (S : List Spr) (m : Nat) (zs : List Int) (y : Int) : (onT S m zs y).length ≤ 4 := by
  unfold onT
  split
  · exact onF_len S y
  · simp
set_option maxRecDepth 100000 in
set_option maxHeartbeats 8000000 in
theorem walk_FnSpritesOnLine (a0 : Option Addr) (len0 cap0 : Nat) (z0 : List Int) (w : World) (w0 : IsRow .u8 w a0 len0 cap0 z0) :
    Calls Try.prog 4 #[.slice a0 len0 cap0] w fun e w' => e = .returned (.bool true) ∧ Below w.heap.size w w' := by
  have H := Lib.hid w0
  have hl := isRow_len w0
  clear w0
  by_cases hs : len0 ≤ 1048576
  · go_enter Try.func4, Try.ntmps4
    go_wp2_with fail
    refine (draw_spritesOnLine _ _ _ _ _ H.out).mono ?_; rintro e w1 ⟨A, n, c, S, fs, T, m, d, zs, ft, y, rfl, hy, hg⟩
    obtain ⟨n1, hnc, m1, m4, hmd, hs1, ht1, b1⟩ := hg
    have S1 := Lib.hid hs1
    have T1 := Lib.hid ht1
    have B1 := Lib.hid b1
    have HL := Lib.hid hs1.1
    have hn9 : n ≤ 1000000000 := by omega
    have hm9 : m ≤ 1000000000 := by omega
    clear hs1 ht1 b1
    go_wp2_with fail
    refine (im_onLine A n c S fs T m d zs ft y _ S1.out T1.out hn9 hm9).mono ?_; rintro e w2 ⟨Rg, rg, lg, rfl, hrg, hig, hng, bl⟩
    obtain ⟨q, hq⟩ : ∃ q, (onT S m zs y).length = q := ⟨_, rfl⟩
    have HN := Lib.hid hq
    obtain ⟨L, hL⟩ : ∃ L, nums (onT S m zs y) = L := ⟨_, rfl⟩
    have HLS := Lib.hid hL
    have q4 : q ≤ 4 := by rw [← hq]; exact onT_le4 S m zs y
    rw [hq, hL] at hig
    rw [hq] at hrg ⊢
    clear hq hL
    have S2 := Lib.hid (S1.out.below bl)
    have T2 := Lib.hid (T1.out.below bl)
    have B2 := Lib.hid (below_then B1.out bl)
    clear S1 T1 B1 bl
    have G2 := Lib.hid hig
    clear hig hng hrg
    go_wp2_with fail
    refine (spec_onLine A n c S fs T m d zs ft y _ S2.out T2.out hn9 hm9).mono ?_; rintro e w3 ⟨Rw, rw_, lw, rfl, hrw_, hiw, hnw, bl⟩
    rw [HN.out, HLS.out] at hiw
    rw [HN.out] at hrw_ ⊢
    have S3 := Lib.hid (S2.out.below bl)
    have T3 := Lib.hid (T2.out.below bl)
    have B3 := Lib.hid (below_then B2.out bl)
    have G3 := Lib.hid (G2.out.below bl)
    clear S2 T2 B2 G2 bl
    have W3 := Lib.hid hiw
    clear hiw hnw hrw_
    go_wp2_with fail
    refine (same_ints Rg Rw q rg rw_ L lg lw _ G3.out W3.out (by omega)).mono ?_; rintro e w4 ⟨rfl, qq, hqq⟩
    have bl : Below w3.heap.size w3 w4 := by rw [hqq]; exact below_drewN (Below.refl _ _) _
    clear hqq W3
    have S4 := Lib.hid (S3.out.below bl)
    have T4 := Lib.hid (T3.out.below bl)
    have B4 := Lib.hid (below_then B3.out bl)
    have G4 := Lib.hid (G3.out.below bl)
    clear S3 T3 B3 G3 bl
    by_cases n0 : q = 0
    · subst n0
      have hle : hidT S m zs y ≤ 0 := by
        unfold hidT
        split
        · rename_i hok
          have h0 : (onF S y).length = 0 := by have := HN.out; unfold onT at this; rw [if_pos hok] at this; exact this
          have := onF_few (S := S) (y := y) (by omega)
          omega
        · omega
      go_wp2_with fail
      refine (im_hidden A n c S fs T m d zs ft y _ S4.out T4.out hn9 hm9).mono ?_; rintro e w5 ⟨rfl, bl⟩
      generalize hidT S m zs y = V at hle
      have S5 := Lib.hid (S4.out.below bl)
      have T5 := Lib.hid (T4.out.below bl)
      have B5 := Lib.hid (below_then B4.out bl)
      clear S4 T4 B4 bl
      go_wp2_with fail
      refine (alive_any _).mono ?_; rintro e w' ⟨rfl, rfl⟩
      go_wp2_with fail
      go_ret
      exact ⟨rfl, B5.out⟩
    · have n0' : ¬ (q : Int) = 0 := by omega
      have hok : (sprB S m zs && betB y 0 15) = true := by
        cases e : (sprB S m zs && betB y 0 15)
        · have := HN.out; unfold onT at this; rw [e] at this; simp at this; omega
        · rfl
      have hval : sprB S m zs = true := (Bool.and_eq_true _ _ ▸ hok).1
      have hyb := betB_iff.1 (show betB y 0 15 = true from (Bool.and_eq_true _ _ ▸ hok).2)
      have HO : Hid (onT S m zs y = onF S y) := Lib.hid (by unfold onT; rw [hok]; rfl)
      have hq' : (onF S y).length = q := by rw [← HO.out, HN.out]
      have HQ := Lib.hid hq'
      have HHV : Hid (q < 4 → hidT S m zs y = 0) := Lib.hid fun h => by unfold hidT; rw [hok]; simp; exact onF_few (by omega)
      have HON : Hid (∀ k, k < q → ∃ j : Nat, (onF S y)[k]? = some j ∧ L.getD k 0 = (j : Int) ∧ j < n ∧ 0 ≤ y - (S.getD j .zero).y ∧ y - (S.getD j .zero).y ≤ 7) := Lib.hid fun k hk => by
        obtain ⟨j, hj, hjn, hcv⟩ := onF_get (S := S) (y := y) (i := k) (by omega)
        refine ⟨j, hj, ?_, by rw [← HL.out]; exact hjn, betB_iff.1 hcv⟩
        rw [← HLS.out, HO.out]; exact nums_get _ _ _ hj
      clear hok hval hq'
      obtain ⟨gp, go, rfl, _, hgp, hgc⟩ := G4.out.at_ (by omega)
      obtain ⟨p, o, rfl, _, hpl, hc⟩ := S4.out.at_ (by have := HON.out 0 (by omega); omega)
      have HGC := Lib.hid hgc
      have HC := Lib.hid hc
      clear hgc hc
      go_wp2_with fail
      go_loopw [7] (fun i wr => ∃ k : Nat, k ≤ q ∧ i = .int .i64 k ∧ Below w4.heap.size w4 wr) (fun i _ => q - (intOf i).toNat)
      case atStart => exact ⟨0, by omega, rfl, Below.refl _ _⟩
      case round =>
        obtain ⟨k, hk, rfl, hbl⟩ := hrel
        have BR := Lib.hid hbl
        clear hbl
        by_cases hlt : k < q
        · obtain ⟨j, hj, hlj, hjn, hd0, hd7⟩ := HON.out k hlt
          have hlt' : (k : Int) < q := by omega
          have g1 : wr.cell? ⟨gp, go + k, none⟩ = some (.int .i64 j) := by rw [BR.out.cell (by exact hgp), HGC.out k hlt, hlj]
          have c1 : wr.cell? ⟨p, o + j * 6 + 1, none⟩ = some (.int .i64 (S.getD j .zero).y) := by
            rw [BR.out.cell (by exact hpl)]
            have := HC.out j hjn 1 _ rfl
            rwa [show o + (6 * j + 1) = o + j * 6 + 1 by omega] at this
          generalize (S.getD j .zero).y = sy at c1 hd0 hd7
          have hjn' : (j : Int) < n := by omega
          have hw : IntKind.i64.wrap (y - sy) = y - sy := by rw [IntKind.wrap_i64]; omega
          have HD0 := Lib.hid hd0
          have HD7 := Lib.hid hd7
          have hdd : decide (y - sy < 0) = false := by simp; omega
          have hde : decide (7 < y - sy) = false := by simp; omega
          have HLJ := Lib.hid hlj
          have HJ := Lib.hid hj
          clear hd0 hd7 hlj hj
          by_cases k0 : k = 0
          · subst k0
            rw [Nat.add_zero] at g1
            rw [show ((0 : Nat) : Int) = 0 from rfl]
            go_wp2_with fail
            go_quiet (fail)
            go_wp2_with fail
            go_roundw
            case rel => exact ⟨1, by omega, by go_num, below_drewN BR.out _⟩
            case measure => simp [intOf]; omega
          · obtain ⟨i, hi, hli, _, _, _⟩ := HON.out (k - 1) (by omega)
            have hij : (i : Int) < j := by have := onF_asc (show k - 1 < k by omega) hi HJ.out; omega
            have g2 : wr.cell? ⟨gp, go + (k - 1), none⟩ = some (.int .i64 i) := by rw [BR.out.cell (by exact hgp), HGC.out (k - 1) (by omega), hli]
            have k1 : (0 : Int) < k := by omega
            have k1n : 0 < k := by omega
            obtain ⟨kk, hkk⟩ : ∃ kk : Nat, k - 1 = kk := ⟨_, rfl⟩
            rw [hkk] at g2
            have hkw : IntKind.i64.wrap ((k : Int) - 1) = (kk : Int) := by rw [IntKind.wrap_i64]; omega
            have hkq : (kk : Int) < q := by omega
            have hdi : decide ((j : Int) ≤ i) = false := by simp; omega
            clear hi hli hkk k0
            go_wp2_with fail
            go_quiet (fail)
            go_wp2_with fail
            go_roundw
            case rel => exact ⟨k + 1, by omega, by go_num, below_drewN BR.out _⟩
            case measure => simp [intOf]; omega
        · obtain rfl : k = q := by omega
          have hlt' : ¬ (k : Int) < k := by omega
          have q4' : (k : Int) ≤ 4 := by omega
          by_cases h4 : k = 4
          · subst h4
            go_wp2_with fail
            go_ret
            exact ⟨rfl, below_then B4.out BR.out⟩
          · have h4' : ¬ (k : Int) = 4 := by omega
            have HV := Lib.hid (HHV.out (by omega))
            go_wp2_with fail
            refine (im_hidden (some ⟨p, o, none⟩) n c S fs T m d zs ft y _ (S4.out.below BR.out) (T4.out.below BR.out) hn9 hm9).mono ?_; rintro e w5 ⟨rfl, bl⟩
            rw [HV.out]
            have B5 := Lib.hid (below_then B4.out (below_then BR.out bl))
            clear bl
            go_wp2_with fail
            go_ret
            exact ⟨rfl, B5.out⟩
  · have hs' : 1048576 < len0 := by omega
    go_enter Try.func4, Try.ntmps4
    go_wp2_with fail
    go_ret
    exact ⟨rfl, Below.refl _ _⟩
end Go.Proofs.Ytpmeppknbpoibaa
