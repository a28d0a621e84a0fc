/- The exact laws of chapter 11, walked. -/
import Derived.Test.YtpmeppknbpoibaaGE
import Derived.Test.YtpmeppknbpoibaaSprK
import Derived.Test.YtpmeppknbpoibaaSprT
namespace Go.Proofs.Ytpmeppknbpoibaa
open Go.ChangeShapes Go.WideShapes Go.ChangeAt Go.RowKit
set_option linter.unusedVariables false

theorem onT_le (S : List Spr) (m : Nat) (zs : List Int) (y : Int) : (onT S m zs y).length ≤ 4 := by
  unfold onT
  split
  · exact onF_len S y
  · simp
set_option maxRecDepth 100000 in
set_option maxHeartbeats 4000000 in
theorem walk_FnExactSpritesValid (A : Option Addr) (n c : Nat) (S : List Spr) (T : Option Addr) (m d : Nat) (zs : List Int) (w : World) (hi1 : InSprs w A n S) (hi2 : InTls w T m zs) : Calls Try.prog 9 #[.slice A n c, .slice T m d] w fun e w' => e = .returned (.bool true) ∧ Below w.heap.size w w' := by
  obtain ⟨hn, fs, hS⟩ := hi1
  obtain ⟨hm, ft, hT⟩ := hi2
  have HSR : Hid (∀ W, Below w.heap.size w W → Sprs W A n S fs) := Lib.hid fun W h => hS.below h
  have HTR : Hid (∀ W, Below w.heap.size w W → Ints W T (64 * m) zs ft) := Lib.hid fun W h => hT.below h
  clear hS hT
  go_enter Try.func9, Try.ntmps9
  go_wp2_with fail
  by_cases hsz : (n : Int) ≤ 1048576
  · refine (sz_sprs_yes A n c 1048576 _ hsz (by omega)).mono ?_; rintro e w' ⟨rfl, rfl⟩
    have hl0 : 0 ≤ 1048576 - (n : Int) := by omega
    obtain ⟨lf, hlf⟩ : ∃ lf, 1048576 - (n : Int) = lf := ⟨_, rfl⟩
    rw [hlf] at hl0 ⊢
    have hl1 : lf ≤ 1048576 := by omega
    clear hlf
    go_wp2_with fail
    by_cases hst : (m : Int) ≤ lf
    · refine (sz_tiles_yes T m d lf _ hst (by omega)).mono ?_; rintro e w' ⟨rfl, rfl⟩
      have hl2 : 0 ≤ lf - (m : Int) := by omega
      obtain ⟨lg, hlg⟩ : ∃ lg, lf - (m : Int) = lg := ⟨_, rfl⟩
      rw [hlg] at hl2 ⊢
      have hn9 : n ≤ 1000000000 := by omega
      have hm9 : m ≤ 1000000000 := by omega
      have hn2 : n ≤ 1048576 := by omega
      have hm2 : m ≤ 1048576 := by omega
      clear hlg hst hl0 hl1 hsz hn hm
      have BB0 := Lib.hid (Below.refl w.heap.size w)
      go_wp2_with fail
      refine (to_sprs A n c S fs _ (HSR.out _ BB0.out) hn9).mono ?_; rintro e w1 ⟨Au, cu, fu, rfl, hcu, hsu, hnu, bl⟩
      have Ru := Lib.hid (fun b (hb : b ∈ fu) => hnu.lt b hb)
      have BB1 := Lib.hid (below_then BB0.out bl)
      have HZ0 := Lib.hid (bl.size)
      clear BB0 bl
      have Su1 := Lib.hid (hsu)
      clear hsu hnu hcu
      go_wp2_with fail
      refine (to_tiles T m d zs ft _ (HTR.out _ BB1.out) hm9).mono ?_; rintro e w2 ⟨Av, cv, fv, rfl, hcv, hsv, hnv, bl⟩
      have Rv := Lib.hid (fun b (hb : b ∈ fv) => hnv.lt b hb)
      have BB2 := Lib.hid (below_then BB1.out bl)
      have Su2 := Lib.hid (Su1.out.below bl)
      have HZ1 := Lib.hid (bl.size)
      clear BB1 Su1 bl
      have Sv2 := Lib.hid (hsv)
      clear hsv hnv hcv
      go_wp2_with fail
      refine (spec_sprValid Au n cu S fu Av m cv zs fv _ Su2.out Sv2.out hn9 hm9).mono ?_; rintro e w3 ⟨rfl, bl⟩
      have BB3 := Lib.hid (below_then BB2.out bl)
      have HZ2 := Lib.hid (bl.size)
      clear BB2 bl
      obtain ⟨V, hV⟩ : ∃ V, sprB S m zs = V := ⟨_, rfl⟩
      have HV := Lib.hid hV
      rw [hV]
      clear hV
      go_wp2_with fail
      refine (to_sprs A n c S fs _ (HSR.out _ BB3.out) hn9).mono ?_; rintro e w4 ⟨Ax, cx, fx, rfl, hcx, hsx, hnx, bl⟩
      have Rx := Lib.hid (fun b (hb : b ∈ fx) => hnx.lt b hb)
      have BB4 := Lib.hid (below_then BB3.out bl)
      have HZ3 := Lib.hid (bl.size)
      clear BB3 bl
      have Sx4 := Lib.hid (hsx)
      clear hsx hnx hcx
      go_wp2_with fail
      refine (to_tiles T m d zs ft _ (HTR.out _ BB4.out) hm9).mono ?_; rintro e w5 ⟨At, ct, ft_, rfl, hct, hst, hnt, bl⟩
      have Rt := Lib.hid (fun b (hb : b ∈ ft_) => hnt.lt b hb)
      have BB5 := Lib.hid (below_then BB4.out bl)
      have Sx5 := Lib.hid (Sx4.out.below bl)
      have HZ4 := Lib.hid (bl.size)
      clear BB4 Sx4 bl
      have St5 := Lib.hid (hst)
      clear hst hnt hct
      go_wp2_with fail
      refine (im_sprValid Ax n cx S fx At m ct zs ft_ _ Sx5.out St5.out hn9 hm9).mono ?_; rintro e w6 ⟨rfl, bl⟩
      have BB6 := Lib.hid (below_then BB5.out bl)
      have Sx6 := Lib.hid (Sx5.out.below bl)
      have St6 := Lib.hid (St5.out.below bl)
      have HZ5 := Lib.hid (bl.size)
      clear BB5 Sx5 St5 bl
      rw [HV.out]
      clear HV
      cases V
      all_goals
        go_wp2_with fail
        refine (to_sprs A n c S fs _ (HSR.out _ BB6.out) hn9).mono ?_; rintro e w7 ⟨Ap, cp, fp, rfl, hcp, hsp, hnp, bl⟩
        have Rp := Lib.hid (fun b (hb : b ∈ fp) => hnp.lt b hb)
        have BB7 := Lib.hid (below_then BB6.out bl)
        have Sx7 := Lib.hid (Sx6.out.below bl)
        have St7 := Lib.hid (St6.out.below bl)
        have HZ6 := Lib.hid (bl.size)
        clear BB6 Sx6 St6 bl
        have Sp7 := Lib.hid (hsp)
        clear hsp hnp hcp
        go_wp2_with fail
        refine (eq_sprs Ax Ap n cx cp S fx fp _ Sx7.out Sp7.out hn9).mono ?_; rintro e w8 ⟨rfl, bl⟩
        have BB8 := Lib.hid (below_then BB7.out bl)
        have Sx8 := Lib.hid (Sx7.out.below bl)
        have St8 := Lib.hid (St7.out.below bl)
        have HZ7 := Lib.hid (bl.size)
        clear BB7 Sx7 St7 bl
        go_wp2_with fail
        refine (to_tiles T m d zs ft _ (HTR.out _ BB8.out) hm9).mono ?_; rintro e w9 ⟨Aq, cq, fq, rfl, hcq, hsq, hnq, bl⟩
        have Rq := Lib.hid (fun b (hb : b ∈ fq) => hnq.lt b hb)
        have BB9 := Lib.hid (below_then BB8.out bl)
        have Sx9 := Lib.hid (Sx8.out.below bl)
        have St9 := Lib.hid (St8.out.below bl)
        have HZ8 := Lib.hid (bl.size)
        clear BB8 Sx8 St8 bl
        have Sq9 := Lib.hid (hsq)
        clear hsq hnq hcq
        go_wp2_with fail
        refine (eq_tiles At Aq m ct cq zs ft_ fq _ St9.out Sq9.out hm9).mono ?_; rintro e w10 ⟨rfl, bl⟩
        have BB10 := Lib.hid (below_then BB9.out bl)
        have Sx10 := Lib.hid (Sx9.out.below bl)
        have St10 := Lib.hid (St9.out.below bl)
        have HZ9 := Lib.hid (bl.size)
        clear BB9 Sx9 St9 bl
        go_wp2_with fail
        go_ret
        exact ⟨rfl, BB10.out⟩
    · refine (sz_tiles_no T m d lf _ (by omega) (by omega) hm).mono ?_; rintro e w' ⟨rfl, rfl⟩
      go_wp2_with fail
      go_ret
      exact ⟨rfl, Below.refl _ _⟩
  · refine (sz_sprs_no A n c 1048576 _ (by omega) (by omega) hn).mono ?_; rintro e w' ⟨rfl, rfl⟩
    go_wp2_with fail
    go_ret
    exact ⟨rfl, Below.refl _ _⟩
set_option maxRecDepth 100000 in
set_option maxHeartbeats 4000000 in
theorem walk_FnExactSpritesHidden (A : Option Addr) (n c : Nat) (S : List Spr) (T : Option Addr) (m d : Nat) (zs : List Int) (y : Int) (w : World) (hi1 : InSprs w A n S) (hi2 : InTls w T m zs) : Calls Try.prog 12 #[.slice A n c, .slice T m d, .int .i64 y] w fun e w' => e = .returned (.bool true) ∧ Below w.heap.size w w' := by
  obtain ⟨hn, fs, hS⟩ := hi1
  obtain ⟨hm, ft, hT⟩ := hi2
  have HSR : Hid (∀ W, Below w.heap.size w W → Sprs W A n S fs) := Lib.hid fun W h => hS.below h
  have HTR : Hid (∀ W, Below w.heap.size w W → Ints W T (64 * m) zs ft) := Lib.hid fun W h => hT.below h
  clear hS hT
  go_enter Try.func12, Try.ntmps12
  go_wp2_with fail
  by_cases hsz : (n : Int) ≤ 1048576
  · refine (sz_sprs_yes A n c 1048576 _ hsz (by omega)).mono ?_; rintro e w' ⟨rfl, rfl⟩
    have hl0 : 0 ≤ 1048576 - (n : Int) := by omega
    obtain ⟨lf, hlf⟩ : ∃ lf, 1048576 - (n : Int) = lf := ⟨_, rfl⟩
    rw [hlf] at hl0 ⊢
    have hl1 : lf ≤ 1048576 := by omega
    clear hlf
    go_wp2_with fail
    by_cases hst : (m : Int) ≤ lf
    · refine (sz_tiles_yes T m d lf _ hst (by omega)).mono ?_; rintro e w' ⟨rfl, rfl⟩
      have hl2 : 0 ≤ lf - (m : Int) := by omega
      obtain ⟨lg, hlg⟩ : ∃ lg, lf - (m : Int) = lg := ⟨_, rfl⟩
      rw [hlg] at hl2 ⊢
      have hn9 : n ≤ 1000000000 := by omega
      have hm9 : m ≤ 1000000000 := by omega
      have hn2 : n ≤ 1048576 := by omega
      have hm2 : m ≤ 1048576 := by omega
      clear hlg hst hl0 hl1 hsz hn hm
      have BB0 := Lib.hid (Below.refl w.heap.size w)
      go_wp2_with fail
      refine (to_sprs A n c S fs _ (HSR.out _ BB0.out) hn9).mono ?_; rintro e w1 ⟨Au, cu, fu, rfl, hcu, hsu, hnu, bl⟩
      have Ru := Lib.hid (fun b (hb : b ∈ fu) => hnu.lt b hb)
      have BB1 := Lib.hid (below_then BB0.out bl)
      have HZ0 := Lib.hid (bl.size)
      clear BB0 bl
      have Su1 := Lib.hid (hsu)
      clear hsu hnu hcu
      go_wp2_with fail
      refine (to_tiles T m d zs ft _ (HTR.out _ BB1.out) hm9).mono ?_; rintro e w2 ⟨Av, cv, fv, rfl, hcv, hsv, hnv, bl⟩
      have Rv := Lib.hid (fun b (hb : b ∈ fv) => hnv.lt b hb)
      have BB2 := Lib.hid (below_then BB1.out bl)
      have Su2 := Lib.hid (Su1.out.below bl)
      have HZ1 := Lib.hid (bl.size)
      clear BB1 Su1 bl
      have Sv2 := Lib.hid (hsv)
      clear hsv hnv hcv
      go_wp2_with fail
      refine (spec_hidden Au n cu S fu Av m cv zs fv y _ Su2.out Sv2.out hn9 hm9).mono ?_; rintro e w3 ⟨rfl, bl⟩
      have BB3 := Lib.hid (below_then BB2.out bl)
      have HZ2 := Lib.hid (bl.size)
      clear BB2 bl
      obtain ⟨V, hV⟩ : ∃ V, hidT S m zs y = V := ⟨_, rfl⟩
      have HV := Lib.hid hV
      rw [hV]
      clear hV
      go_wp2_with fail
      refine (to_sprs A n c S fs _ (HSR.out _ BB3.out) hn9).mono ?_; rintro e w4 ⟨Ax, cx, fx, rfl, hcx, hsx, hnx, bl⟩
      have Rx := Lib.hid (fun b (hb : b ∈ fx) => hnx.lt b hb)
      have BB4 := Lib.hid (below_then BB3.out bl)
      have HZ3 := Lib.hid (bl.size)
      clear BB3 bl
      have Sx4 := Lib.hid (hsx)
      clear hsx hnx hcx
      go_wp2_with fail
      refine (to_tiles T m d zs ft _ (HTR.out _ BB4.out) hm9).mono ?_; rintro e w5 ⟨At, ct, ft_, rfl, hct, hst, hnt, bl⟩
      have Rt := Lib.hid (fun b (hb : b ∈ ft_) => hnt.lt b hb)
      have BB5 := Lib.hid (below_then BB4.out bl)
      have Sx5 := Lib.hid (Sx4.out.below bl)
      have HZ4 := Lib.hid (bl.size)
      clear BB4 Sx4 bl
      have St5 := Lib.hid (hst)
      clear hst hnt hct
      go_wp2_with fail
      refine (im_hidden Ax n cx S fx At m ct zs ft_ y _ Sx5.out St5.out hn9 hm9).mono ?_; rintro e w6 ⟨rfl, bl⟩
      have BB6 := Lib.hid (below_then BB5.out bl)
      have Sx6 := Lib.hid (Sx5.out.below bl)
      have St6 := Lib.hid (St5.out.below bl)
      have HZ5 := Lib.hid (bl.size)
      clear BB5 Sx5 St5 bl
      rw [HV.out]
      go_wp2_with fail
      refine (to_sprs A n c S fs _ (HSR.out _ BB6.out) hn9).mono ?_; rintro e w7 ⟨Ap, cp, fp, rfl, hcp, hsp, hnp, bl⟩
      have Rp := Lib.hid (fun b (hb : b ∈ fp) => hnp.lt b hb)
      have BB7 := Lib.hid (below_then BB6.out bl)
      have Sx7 := Lib.hid (Sx6.out.below bl)
      have St7 := Lib.hid (St6.out.below bl)
      have HZ6 := Lib.hid (bl.size)
      clear BB6 Sx6 St6 bl
      have Sp7 := Lib.hid (hsp)
      clear hsp hnp hcp
      go_wp2_with fail
      refine (eq_sprs Ax Ap n cx cp S fx fp _ Sx7.out Sp7.out hn9).mono ?_; rintro e w8 ⟨rfl, bl⟩
      have BB8 := Lib.hid (below_then BB7.out bl)
      have Sx8 := Lib.hid (Sx7.out.below bl)
      have St8 := Lib.hid (St7.out.below bl)
      have HZ7 := Lib.hid (bl.size)
      clear BB7 Sx7 St7 bl
      go_wp2_with fail
      refine (to_tiles T m d zs ft _ (HTR.out _ BB8.out) hm9).mono ?_; rintro e w9 ⟨Aq, cq, fq, rfl, hcq, hsq, hnq, bl⟩
      have Rq := Lib.hid (fun b (hb : b ∈ fq) => hnq.lt b hb)
      have BB9 := Lib.hid (below_then BB8.out bl)
      have Sx9 := Lib.hid (Sx8.out.below bl)
      have St9 := Lib.hid (St8.out.below bl)
      have HZ8 := Lib.hid (bl.size)
      clear BB8 Sx8 St8 bl
      have Sq9 := Lib.hid (hsq)
      clear hsq hnq hcq
      go_wp2_with fail
      refine (eq_tiles At Aq m ct cq zs ft_ fq _ St9.out Sq9.out hm9).mono ?_; rintro e w10 ⟨rfl, bl⟩
      have BB10 := Lib.hid (below_then BB9.out bl)
      have Sx10 := Lib.hid (Sx9.out.below bl)
      have St10 := Lib.hid (St9.out.below bl)
      have HZ9 := Lib.hid (bl.size)
      clear BB9 Sx9 St9 bl
      go_wp2_with fail
      go_ret
      exact ⟨rfl, BB10.out⟩
    · refine (sz_tiles_no T m d lf _ (by omega) (by omega) hm).mono ?_; rintro e w' ⟨rfl, rfl⟩
      go_wp2_with fail
      go_ret
      exact ⟨rfl, Below.refl _ _⟩
  · refine (sz_sprs_no A n c 1048576 _ (by omega) (by omega) hn).mono ?_; rintro e w' ⟨rfl, rfl⟩
    go_wp2_with fail
    go_ret
    exact ⟨rfl, Below.refl _ _⟩
set_option maxRecDepth 100000 in
set_option maxHeartbeats 4000000 in
theorem walk_FnExactSpriteAt (A : Option Addr) (n c : Nat) (S : List Spr) (T : Option Addr) (m d : Nat) (zs : List Int) (x y : Int) (w : World) (hi1 : InSprs w A n S) (hi2 : InTls w T m zs) : Calls Try.prog 11 #[.slice A n c, .slice T m d, .int .i64 x, .int .i64 y] w fun e w' => e = .returned (.bool true) ∧ Below w.heap.size w w' := by
  obtain ⟨hn, fs, hS⟩ := hi1
  obtain ⟨hm, ft, hT⟩ := hi2
  have HSR : Hid (∀ W, Below w.heap.size w W → Sprs W A n S fs) := Lib.hid fun W h => hS.below h
  have HTR : Hid (∀ W, Below w.heap.size w W → Ints W T (64 * m) zs ft) := Lib.hid fun W h => hT.below h
  clear hS hT
  go_enter Try.func11, Try.ntmps11
  go_wp2_with fail
  by_cases hsz : (n : Int) ≤ 1048576
  · refine (sz_sprs_yes A n c 1048576 _ hsz (by omega)).mono ?_; rintro e w' ⟨rfl, rfl⟩
    have hl0 : 0 ≤ 1048576 - (n : Int) := by omega
    obtain ⟨lf, hlf⟩ : ∃ lf, 1048576 - (n : Int) = lf := ⟨_, rfl⟩
    rw [hlf] at hl0 ⊢
    have hl1 : lf ≤ 1048576 := by omega
    clear hlf
    go_wp2_with fail
    by_cases hst : (m : Int) ≤ lf
    · refine (sz_tiles_yes T m d lf _ hst (by omega)).mono ?_; rintro e w' ⟨rfl, rfl⟩
      have hl2 : 0 ≤ lf - (m : Int) := by omega
      obtain ⟨lg, hlg⟩ : ∃ lg, lf - (m : Int) = lg := ⟨_, rfl⟩
      rw [hlg] at hl2 ⊢
      have hn9 : n ≤ 1000000000 := by omega
      have hm9 : m ≤ 1000000000 := by omega
      have hn2 : n ≤ 1048576 := by omega
      have hm2 : m ≤ 1048576 := by omega
      clear hlg hst hl0 hl1 hsz hn hm
      have BB0 := Lib.hid (Below.refl w.heap.size w)
      go_wp2_with fail
      refine (to_sprs A n c S fs _ (HSR.out _ BB0.out) hn9).mono ?_; rintro e w1 ⟨Au, cu, fu, rfl, hcu, hsu, hnu, bl⟩
      have Ru := Lib.hid (fun b (hb : b ∈ fu) => hnu.lt b hb)
      have BB1 := Lib.hid (below_then BB0.out bl)
      have HZ0 := Lib.hid (bl.size)
      clear BB0 bl
      have Su1 := Lib.hid (hsu)
      clear hsu hnu hcu
      go_wp2_with fail
      refine (to_tiles T m d zs ft _ (HTR.out _ BB1.out) hm9).mono ?_; rintro e w2 ⟨Av, cv, fv, rfl, hcv, hsv, hnv, bl⟩
      have Rv := Lib.hid (fun b (hb : b ∈ fv) => hnv.lt b hb)
      have BB2 := Lib.hid (below_then BB1.out bl)
      have Su2 := Lib.hid (Su1.out.below bl)
      have HZ1 := Lib.hid (bl.size)
      clear BB1 Su1 bl
      have Sv2 := Lib.hid (hsv)
      clear hsv hnv hcv
      go_wp2_with fail
      refine (spec_at Au n cu S fu Av m cv zs fv x y _ Su2.out Sv2.out hn9 hm9).mono ?_; rintro e w3 ⟨rfl, bl⟩
      have BB3 := Lib.hid (below_then BB2.out bl)
      have HZ2 := Lib.hid (bl.size)
      clear BB2 bl
      obtain ⟨V, hV⟩ : ∃ V, atR S zs x y (atT S m zs x y) = V := ⟨_, rfl⟩
      have HV := Lib.hid hV
      rw [hV]
      clear hV
      obtain ⟨va, vb⟩ := V
      rw [show pairV (va, vb) = .tuple #[.int .i64 va, .int .i64 vb] from rfl]
      go_wp2_with fail
      refine (to_sprs A n c S fs _ (HSR.out _ BB3.out) hn9).mono ?_; rintro e w4 ⟨Ax, cx, fx, rfl, hcx, hsx, hnx, bl⟩
      have Rx := Lib.hid (fun b (hb : b ∈ fx) => hnx.lt b hb)
      have BB4 := Lib.hid (below_then BB3.out bl)
      have HZ3 := Lib.hid (bl.size)
      clear BB3 bl
      have Sx4 := Lib.hid (hsx)
      clear hsx hnx hcx
      go_wp2_with fail
      refine (to_tiles T m d zs ft _ (HTR.out _ BB4.out) hm9).mono ?_; rintro e w5 ⟨At, ct, ft_, rfl, hct, hst, hnt, bl⟩
      have Rt := Lib.hid (fun b (hb : b ∈ ft_) => hnt.lt b hb)
      have BB5 := Lib.hid (below_then BB4.out bl)
      have Sx5 := Lib.hid (Sx4.out.below bl)
      have HZ4 := Lib.hid (bl.size)
      clear BB4 Sx4 bl
      have St5 := Lib.hid (hst)
      clear hst hnt hct
      go_wp2_with fail
      refine (im_at Ax n cx S fx At m ct zs ft_ x y _ Sx5.out St5.out hn9 hm9).mono ?_; rintro e w6 ⟨rfl, bl⟩
      have BB6 := Lib.hid (below_then BB5.out bl)
      have Sx6 := Lib.hid (Sx5.out.below bl)
      have St6 := Lib.hid (St5.out.below bl)
      have HZ5 := Lib.hid (bl.size)
      clear BB5 Sx5 St5 bl
      rw [HV.out]
      rw [show pairV (va, vb) = .tuple #[.int .i64 va, .int .i64 vb] from rfl]
      go_wp2_with fail
      refine (to_sprs A n c S fs _ (HSR.out _ BB6.out) hn9).mono ?_; rintro e w7 ⟨Ap, cp, fp, rfl, hcp, hsp, hnp, bl⟩
      have Rp := Lib.hid (fun b (hb : b ∈ fp) => hnp.lt b hb)
      have BB7 := Lib.hid (below_then BB6.out bl)
      have Sx7 := Lib.hid (Sx6.out.below bl)
      have St7 := Lib.hid (St6.out.below bl)
      have HZ6 := Lib.hid (bl.size)
      clear BB6 Sx6 St6 bl
      have Sp7 := Lib.hid (hsp)
      clear hsp hnp hcp
      go_wp2_with fail
      refine (eq_sprs Ax Ap n cx cp S fx fp _ Sx7.out Sp7.out hn9).mono ?_; rintro e w8 ⟨rfl, bl⟩
      have BB8 := Lib.hid (below_then BB7.out bl)
      have Sx8 := Lib.hid (Sx7.out.below bl)
      have St8 := Lib.hid (St7.out.below bl)
      have HZ7 := Lib.hid (bl.size)
      clear BB7 Sx7 St7 bl
      go_wp2_with fail
      refine (to_tiles T m d zs ft _ (HTR.out _ BB8.out) hm9).mono ?_; rintro e w9 ⟨Aq, cq, fq, rfl, hcq, hsq, hnq, bl⟩
      have Rq := Lib.hid (fun b (hb : b ∈ fq) => hnq.lt b hb)
      have BB9 := Lib.hid (below_then BB8.out bl)
      have Sx9 := Lib.hid (Sx8.out.below bl)
      have St9 := Lib.hid (St8.out.below bl)
      have HZ8 := Lib.hid (bl.size)
      clear BB8 Sx8 St8 bl
      have Sq9 := Lib.hid (hsq)
      clear hsq hnq hcq
      go_wp2_with fail
      refine (eq_tiles At Aq m ct cq zs ft_ fq _ St9.out Sq9.out hm9).mono ?_; rintro e w10 ⟨rfl, bl⟩
      have BB10 := Lib.hid (below_then BB9.out bl)
      have Sx10 := Lib.hid (Sx9.out.below bl)
      have St10 := Lib.hid (St9.out.below bl)
      have HZ9 := Lib.hid (bl.size)
      clear BB9 Sx9 St9 bl
      go_wp2_with fail
      go_ret
      exact ⟨rfl, BB10.out⟩
    · refine (sz_tiles_no T m d lf _ (by omega) (by omega) hm).mono ?_; rintro e w' ⟨rfl, rfl⟩
      go_wp2_with fail
      go_ret
      exact ⟨rfl, Below.refl _ _⟩
  · refine (sz_sprs_no A n c 1048576 _ (by omega) (by omega) hn).mono ?_; rintro e w' ⟨rfl, rfl⟩
    go_wp2_with fail
    go_ret
    exact ⟨rfl, Below.refl _ _⟩
set_option maxRecDepth 100000 in
set_option maxHeartbeats 4000000 in
theorem walk_FnExactSpritesOnLine (A : Option Addr) (n c : Nat) (S : List Spr) (T : Option Addr) (m d : Nat) (zs : List Int) (y : Int) (w : World) (hi1 : InSprs w A n S) (hi2 : InTls w T m zs) : Calls Try.prog 10 #[.slice A n c, .slice T m d, .int .i64 y] w fun e w' => e = .returned (.bool true) ∧ Below w.heap.size w w' := by
  obtain ⟨hn, fs, hS⟩ := hi1
  obtain ⟨hm, ft, hT⟩ := hi2
  have HSR : Hid (∀ W, Below w.heap.size w W → Sprs W A n S fs) := Lib.hid fun W h => hS.below h
  have HTR : Hid (∀ W, Below w.heap.size w W → Ints W T (64 * m) zs ft) := Lib.hid fun W h => hT.below h
  clear hS hT
  go_enter Try.func10, Try.ntmps10
  go_wp2_with fail
  by_cases hsz : (n : Int) ≤ 1048576
  · refine (sz_sprs_yes A n c 1048576 _ hsz (by omega)).mono ?_; rintro e w' ⟨rfl, rfl⟩
    have hl0 : 0 ≤ 1048576 - (n : Int) := by omega
    obtain ⟨lf, hlf⟩ : ∃ lf, 1048576 - (n : Int) = lf := ⟨_, rfl⟩
    rw [hlf] at hl0 ⊢
    have hl1 : lf ≤ 1048576 := by omega
    clear hlf
    go_wp2_with fail
    by_cases hst : (m : Int) ≤ lf
    · refine (sz_tiles_yes T m d lf _ hst (by omega)).mono ?_; rintro e w' ⟨rfl, rfl⟩
      have hl2 : 0 ≤ lf - (m : Int) := by omega
      obtain ⟨lg, hlg⟩ : ∃ lg, lf - (m : Int) = lg := ⟨_, rfl⟩
      rw [hlg] at hl2 ⊢
      have hn9 : n ≤ 1000000000 := by omega
      have hm9 : m ≤ 1000000000 := by omega
      have hn2 : n ≤ 1048576 := by omega
      have hm2 : m ≤ 1048576 := by omega
      clear hlg hst hl0 hl1 hsz hn hm
      have BB0 := Lib.hid (Below.refl w.heap.size w)
      go_wp2_with fail
      obtain ⟨q, hq⟩ : ∃ q, (onT S m zs y).length = q := ⟨_, rfl⟩
      have q4 : q ≤ 4 := by rw [← hq]; exact onT_le S m zs y
      have HN := Lib.hid hq
      clear hq
      obtain ⟨L, hL⟩ : ∃ L, nums (onT S m zs y) = L := ⟨_, rfl⟩
      have HLS := Lib.hid hL
      clear hL
      refine (to_sprs A n c S fs _ (HSR.out _ BB0.out) hn9).mono ?_; rintro e w1 ⟨Au, cu, fu, rfl, hcu, hsu, hnu, bl⟩
      have Ru := Lib.hid (fun b (hb : b ∈ fu) => hnu.lt b hb)
      have BB1 := Lib.hid (below_then BB0.out bl)
      have HZ0 := Lib.hid (bl.size)
      clear BB0 bl
      have Su1 := Lib.hid (hsu)
      clear hsu hnu hcu
      go_wp2_with fail
      refine (to_tiles T m d zs ft _ (HTR.out _ BB1.out) hm9).mono ?_; rintro e w2 ⟨Av, cv, fv, rfl, hcv, hsv, hnv, bl⟩
      have Rv := Lib.hid (fun b (hb : b ∈ fv) => hnv.lt b hb)
      have BB2 := Lib.hid (below_then BB1.out bl)
      have Su2 := Lib.hid (Su1.out.below bl)
      have HZ1 := Lib.hid (bl.size)
      clear BB1 Su1 bl
      have Sv2 := Lib.hid (hsv)
      clear hsv hnv hcv
      go_wp2_with fail
      refine (spec_onLine Au n cu S fu Av m cv zs fv y _ Su2.out Sv2.out hn9 hm9).mono ?_; rw [HN.out, HLS.out]; rintro e w3 ⟨Aw, cw, fw, rfl, hcw, hsw, hnw, bl⟩
      have Rw := Lib.hid (fun b (hb : b ∈ fw) => hnw.lt b hb)
      have BB3 := Lib.hid (below_then BB2.out bl)
      have HZ2 := Lib.hid (bl.size)
      clear BB2 bl
      have WI3 := Lib.hid (hsw)
      clear hsw hnw hcw
      go_wp2_with fail
      refine (to_sprs A n c S fs _ (HSR.out _ BB3.out) hn9).mono ?_; rintro e w4 ⟨Ax, cx, fx, rfl, hcx, hsx, hnx, bl⟩
      have Rx := Lib.hid (fun b (hb : b ∈ fx) => hnx.lt b hb)
      have BB4 := Lib.hid (below_then BB3.out bl)
      have WI4 := Lib.hid (WI3.out.below bl)
      have HZ3 := Lib.hid (bl.size)
      clear BB3 WI3 bl
      have Sx4 := Lib.hid (hsx)
      have Nx4 := Lib.hid (hnx)
      clear hsx hnx hcx
      go_wp2_with fail
      refine (to_tiles T m d zs ft _ (HTR.out _ BB4.out) hm9).mono ?_; rintro e w5 ⟨At, ct, ft_, rfl, hct, hst, hnt, bl⟩
      have Rt := Lib.hid (fun b (hb : b ∈ ft_) => hnt.lt b hb)
      have BB5 := Lib.hid (below_then BB4.out bl)
      have WI5 := Lib.hid (WI4.out.below bl)
      have Sx5 := Lib.hid (Sx4.out.below bl)
      have Nx5 := Lib.hid (Nx4.out.keep (.of_below bl))
      have HZ4 := Lib.hid (bl.size)
      clear BB4 WI4 Sx4 Nx4 bl
      have St5 := Lib.hid (hst)
      have Nt5 := Lib.hid (hnt)
      clear hst hnt hct
      go_wp2_with fail
      refine (im_onLine Ax n cx S fx At m ct zs ft_ y _ Sx5.out St5.out hn9 hm9).mono ?_; rw [HN.out, HLS.out]; rintro e w6 ⟨Ag, cg, fg, rfl, hcg, hsg, hng, bl⟩
      have Rg := Lib.hid (fun b (hb : b ∈ fg) => hng.lt b hb)
      have BB6 := Lib.hid (below_then BB5.out bl)
      have WI6 := Lib.hid (WI5.out.below bl)
      have Sx6 := Lib.hid (Sx5.out.below bl)
      have Nx6 := Lib.hid (Nx5.out.keep (.of_below bl))
      have St6 := Lib.hid (St5.out.below bl)
      have Nt6 := Lib.hid (Nt5.out.keep (.of_below bl))
      have HZ5 := Lib.hid (bl.size)
      clear BB5 WI5 Sx5 Nx5 St5 Nt5 bl
      have GI6 := Lib.hid (hsg)
      have GN6 := Lib.hid (hng)
      clear hsg hng hcg
      go_wp2_with fail
      refine (eq_ints Ag Aw q cg cw L fg fw _ GI6.out WI6.out (by omega)).mono ?_; rintro e w7 ⟨rfl, qq, hqq⟩
      have bl : Below w6.heap.size w6 w7 := by rw [hqq]; exact below_drewN (Below.refl _ _) _
      clear hqq
      have BB7 := Lib.hid (below_then BB6.out bl)
      have WI7 := Lib.hid (WI6.out.below bl)
      have Sx7 := Lib.hid (Sx6.out.below bl)
      have Nx7 := Lib.hid (Nx6.out.keep (.of_below bl))
      have St7 := Lib.hid (St6.out.below bl)
      have Nt7 := Lib.hid (Nt6.out.keep (.of_below bl))
      have GI7 := Lib.hid (GI6.out.below bl)
      have GN7 := Lib.hid (GN6.out.keep (.of_below bl))
      have HZ6 := Lib.hid (bl.size)
      clear BB6 WI6 Sx6 Nx6 St6 Nt6 GI6 GN6 bl
      go_wp2_with fail
      refine (to_sprs A n c S fs _ (HSR.out _ BB7.out) hn9).mono ?_; rintro e w8 ⟨Ap, cp, fp, rfl, hcp, hsp, hnp, bl⟩
      have Rp := Lib.hid (fun b (hb : b ∈ fp) => hnp.lt b hb)
      have BB8 := Lib.hid (below_then BB7.out bl)
      have WI8 := Lib.hid (WI7.out.below bl)
      have Sx8 := Lib.hid (Sx7.out.below bl)
      have Nx8 := Lib.hid (Nx7.out.keep (.of_below bl))
      have St8 := Lib.hid (St7.out.below bl)
      have Nt8 := Lib.hid (Nt7.out.keep (.of_below bl))
      have GI8 := Lib.hid (GI7.out.below bl)
      have GN8 := Lib.hid (GN7.out.keep (.of_below bl))
      have HZ7 := Lib.hid (bl.size)
      clear BB7 WI7 Sx7 Nx7 St7 Nt7 GI7 GN7 bl
      have Sp8 := Lib.hid (hsp)
      clear hsp hnp hcp
      go_wp2_with fail
      refine (eq_sprs Ax Ap n cx cp S fx fp _ Sx8.out Sp8.out hn9).mono ?_; rintro e w9 ⟨rfl, bl⟩
      have BB9 := Lib.hid (below_then BB8.out bl)
      have WI9 := Lib.hid (WI8.out.below bl)
      have Sx9 := Lib.hid (Sx8.out.below bl)
      have Nx9 := Lib.hid (Nx8.out.keep (.of_below bl))
      have St9 := Lib.hid (St8.out.below bl)
      have Nt9 := Lib.hid (Nt8.out.keep (.of_below bl))
      have GI9 := Lib.hid (GI8.out.below bl)
      have GN9 := Lib.hid (GN8.out.keep (.of_below bl))
      have HZ8 := Lib.hid (bl.size)
      clear BB8 WI8 Sx8 Nx8 St8 Nt8 GI8 GN8 bl
      go_wp2_with fail
      refine (to_tiles T m d zs ft _ (HTR.out _ BB9.out) hm9).mono ?_; rintro e w10 ⟨Aq, cq, fq, rfl, hcq, hsq, hnq, bl⟩
      have Rq := Lib.hid (fun b (hb : b ∈ fq) => hnq.lt b hb)
      have BB10 := Lib.hid (below_then BB9.out bl)
      have WI10 := Lib.hid (WI9.out.below bl)
      have Sx10 := Lib.hid (Sx9.out.below bl)
      have Nx10 := Lib.hid (Nx9.out.keep (.of_below bl))
      have St10 := Lib.hid (St9.out.below bl)
      have Nt10 := Lib.hid (Nt9.out.keep (.of_below bl))
      have GI10 := Lib.hid (GI9.out.below bl)
      have GN10 := Lib.hid (GN9.out.keep (.of_below bl))
      have HZ9 := Lib.hid (bl.size)
      clear BB9 WI9 Sx9 Nx9 St9 Nt9 GI9 GN9 bl
      have Sq10 := Lib.hid (hsq)
      clear hsq hnq hcq
      go_wp2_with fail
      refine (eq_tiles At Aq m ct cq zs ft_ fq _ St10.out Sq10.out hm9).mono ?_; rintro e w11 ⟨rfl, bl⟩
      have BB11 := Lib.hid (below_then BB10.out bl)
      have WI11 := Lib.hid (WI10.out.below bl)
      have Sx11 := Lib.hid (Sx10.out.below bl)
      have Nx11 := Lib.hid (Nx10.out.keep (.of_below bl))
      have St11 := Lib.hid (St10.out.below bl)
      have Nt11 := Lib.hid (Nt10.out.keep (.of_below bl))
      have GI11 := Lib.hid (GI10.out.below bl)
      have GN11 := Lib.hid (GN10.out.keep (.of_below bl))
      have HZ10 := Lib.hid (bl.size)
      clear BB10 WI10 Sx10 Nx10 St10 Nt10 GI10 GN10 bl
      go_wp2_with fail
      refine (mark_sprs Ax n cx 1 S fx _ Sx11.out (fun b hb o => Nx11.out.free b hb o) (by omega) (by omega) (by omega)).mono ?_; rintro e w12 ⟨rfl, o⟩
      have HZ11 := Lib.hid (o.size)
      have St12 := Lib.hid (St11.out.keep (.of_only o fun b ht hx => by have h1 := Rx.out b hx; have h2 := Rt.out b ht; omega))
      have Nt12 := Lib.hid (Nt11.out.keep (.of_only o fun b ht hx => by have h1 := Rx.out b hx; have h2 := Rt.out b ht; omega))
      have GI12 := Lib.hid (GI11.out.keep (.of_only o fun b hg hx => by have h1 := Rx.out b hx; have h2 := Rg.out b hg; have z4 := HZ4.out; omega))
      have GN12 := Lib.hid (GN11.out.keep (.of_only o fun b hg hx => by have h1 := Rx.out b hx; have h2 := Rg.out b hg; have z4 := HZ4.out; omega))
      have WI12 := Lib.hid (WI11.out.keep (.of_only o fun b hw hx => by have h1 := Rw.out b hw; have h2 := Rx.out b hx; omega))
      have BB12 := Lib.hid (BB11.out.trans (o.below (fun b hx => by have h1 := Rx.out b hx; have z0 := HZ0.out; have z1 := HZ1.out; have z2 := HZ2.out; omega) BB11.out.size))
      clear o BB11 WI11 Sx11 Nx11 St11 Nt11 GI11 GN11
      have k1 : 0 ≤ (1 : Int) + 6 * n := by omega
      obtain ⟨k1v, hk1⟩ : ∃ k1v, (1 : Int) + 6 * n = k1v := ⟨_, rfl⟩
      have k1b : k1v ≤ 10000000000 := by omega
      rw [hk1] at k1 ⊢
      clear hk1
      go_wp2_with fail
      refine (mark_tiles At m ct k1v zs ft_ _ St12.out (fun b hb o => Nt12.out.free b hb o) (by omega) (by omega) (by omega)).mono ?_; rintro e w13 ⟨rfl, o, _, _⟩
      have HZ12 := Lib.hid (o.size)
      have GI13 := Lib.hid (GI12.out.keep (.of_only o fun b hg ht => by have h1 := Rt.out b ht; have h2 := Rg.out b hg; omega))
      have GN13 := Lib.hid (GN12.out.keep (.of_only o fun b hg ht => by have h1 := Rt.out b ht; have h2 := Rg.out b hg; omega))
      have WI13 := Lib.hid (WI12.out.keep (.of_only o fun b hw ht => by have h1 := Rw.out b hw; have h2 := Rt.out b ht; have z3 := HZ3.out; omega))
      have BB13 := Lib.hid (BB12.out.trans (o.below (fun b ht => by have h1 := Rt.out b ht; have z0 := HZ0.out; have z1 := HZ1.out; have z2 := HZ2.out; have z3 := HZ3.out; omega) BB12.out.size))
      clear o BB12 St12 Nt12 GI12 GN12 WI12
      have k2 : 0 ≤ k1v + ((64 * m : Nat) : Int) := by omega
      generalize k1v + ((64 * m : Nat) : Int) = k2v at k2
      have k2d : decide (k2v < 0) = false := by simp; omega
      go_wp2_with fail
      refine (eq_ints Ag Aw q cg cw L fg fw _ GI13.out WI13.out (by omega)).mono ?_; rintro e w14 ⟨rfl, qq, hqq⟩
      have bl : Below w13.heap.size w13 w14 := by rw [hqq]; exact below_drewN (Below.refl _ _) _
      clear hqq
      have BB14 := Lib.hid (below_then BB13.out bl)
      have GI14 := Lib.hid (GI13.out.below bl)
      have GN14 := Lib.hid (GN13.out.keep (.of_below bl))
      have WI14 := Lib.hid (WI13.out.below bl)
      have HZ13 := Lib.hid (bl.size)
      clear BB13 GI13 GN13 WI13 bl
      go_wp2_with fail
      refine (mark_ints Ag q cg 1 L fg _ GI14.out (fun b hb o => GN14.out.free b hb o) (by omega) (by omega) (by omega)).mono ?_; rintro e w15 ⟨rfl, o, hig, frg⟩
      have HZ14 := Lib.hid (o.size)
      have WI15 := Lib.hid (WI14.out.keep (.of_only o fun b hw hg => by have h1 := Rw.out b hw; have h2 := Rg.out b hg; have z3 := HZ3.out; have z4 := HZ4.out; omega))
      have BB15 := Lib.hid (BB14.out.trans (o.below (fun b hg => by have h1 := Rg.out b hg; have z0 := HZ0.out; have z1 := HZ1.out; have z2 := HZ2.out; have z3 := HZ3.out; have z4 := HZ4.out; omega) BB14.out.size))
      clear o BB14 GI14 GN14 WI14
      have GI15 := Lib.hid (hig)
      clear hig frg
      have hn1 : 0 ≤ (1 : Int) + q := by omega
      go_wp2_with fail
      refine (held_ints Ag q cg 1 fg _ GI15.out (by omega) (by omega) (by omega)).mono ?_; rintro e w16 ⟨rfl, rfl⟩
      go_wp2_with fail
      refine (to_sprs A n c S fs _ (HSR.out _ BB15.out) hn9).mono ?_; rintro e w16 ⟨Ai, ci, fi, rfl, hci, hsi, hni, bl⟩
      have Ri := Lib.hid (fun b (hb : b ∈ fi) => hni.lt b hb)
      have BB16 := Lib.hid (below_then BB15.out bl)
      have WI16 := Lib.hid (WI15.out.below bl)
      have GI16 := Lib.hid (GI15.out.below bl)
      have HZ15 := Lib.hid (bl.size)
      clear BB15 WI15 GI15 bl
      have Si16 := Lib.hid (hsi)
      clear hsi hni hci
      go_wp2_with fail
      refine (to_tiles T m d zs ft _ (HTR.out _ BB16.out) hm9).mono ?_; rintro e w17 ⟨Aj, cj, fj, rfl, hcj, hsj, hnj, bl⟩
      have Rj := Lib.hid (fun b (hb : b ∈ fj) => hnj.lt b hb)
      have BB17 := Lib.hid (below_then BB16.out bl)
      have WI17 := Lib.hid (WI16.out.below bl)
      have GI17 := Lib.hid (GI16.out.below bl)
      have Si17 := Lib.hid (Si16.out.below bl)
      have HZ16 := Lib.hid (bl.size)
      clear BB16 WI16 GI16 Si16 bl
      have Sj17 := Lib.hid (hsj)
      clear hsj hnj hcj
      go_wp2_with fail
      refine (im_onLine Ai n ci S fi Aj m cj zs fj y _ Si17.out Sj17.out hn9 hm9).mono ?_; rw [HN.out, HLS.out]; rintro e w18 ⟨Ah, ch, fh, rfl, hch, hsh, hnh, bl⟩
      have Rh := Lib.hid (fun b (hb : b ∈ fh) => hnh.lt b hb)
      have BB18 := Lib.hid (below_then BB17.out bl)
      have WI18 := Lib.hid (WI17.out.below bl)
      have GI18 := Lib.hid (GI17.out.below bl)
      have HZ17 := Lib.hid (bl.size)
      clear BB17 WI17 GI17 bl
      have HI18 := Lib.hid (hsh)
      clear hsh hnh hch
      go_wp2_with fail
      refine (eq_ints Ah Aw q ch cw L fh fw _ HI18.out WI18.out (by omega)).mono ?_; rintro e w19 ⟨rfl, qq, hqq⟩
      have bl : Below w18.heap.size w18 w19 := by rw [hqq]; exact below_drewN (Below.refl _ _) _
      clear hqq
      have BB19 := Lib.hid (below_then BB18.out bl)
      have WI19 := Lib.hid (WI18.out.below bl)
      have GI19 := Lib.hid (GI18.out.below bl)
      have HI19 := Lib.hid (HI18.out.below bl)
      have HZ18 := Lib.hid (bl.size)
      clear BB18 WI18 GI18 HI18 bl
      go_wp2_with fail
      refine (held_ints Ag q cg 1 fg _ GI19.out (by omega) (by omega) (by omega)).mono ?_; rintro e w20 ⟨rfl, rfl⟩
      go_wp2_with fail
      go_ret
      exact ⟨rfl, BB19.out⟩
    · refine (sz_tiles_no T m d lf _ (by omega) (by omega) hm).mono ?_; rintro e w' ⟨rfl, rfl⟩
      go_wp2_with fail
      go_ret
      exact ⟨rfl, Below.refl _ _⟩
  · refine (sz_sprs_no A n c 1048576 _ (by omega) (by omega) hn).mono ?_; rintro e w' ⟨rfl, rfl⟩
    go_wp2_with fail
    go_ret
    exact ⟨rfl, Below.refl _ _⟩
end Go.Proofs.Ytpmeppknbpoibaa
