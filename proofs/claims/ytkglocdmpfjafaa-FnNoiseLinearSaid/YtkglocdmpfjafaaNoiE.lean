/- Noise: the counts filled, the distance. -/
import Derived.Test.YtkglocdmpfjafaaNoiD
import Derived.Deep.RegionLaw
import Derived.Deep.Cut
namespace Go.Proofs.Ytkglocdmpfjafaa
open Go.ChangeShapes Go.WideShapes Go.ChangeAt Go.RowKit
set_option linter.unusedVariables false

theorem cnt_cell {w : World} {g x : Nat} {t : TypeId} {xs : List Int} (h : Box w g t (u8v xs)) (hl : xs.length = 32768) (hx : x ≤ 32767) : w.cell? ⟨g, x, none⟩ = some (.int .u8 (xs.getD x 0)) := (h.cell x).trans (u8v_at (by omega))
set_option maxRecDepth 100000 in
set_option maxHeartbeats 4000000 in
theorem im_fill (zs : List Int) (hzs : zs = List.replicate 32768 0) (b g : Nat) (hb : b ≤ 32767) (w : World) (hg : Box w g 42 (u8v zs)) :
    Calls Try.prog 33 #[.pointer (some ⟨g, 0, none⟩), .int .i64 (b : Int)] w fun e w' => e = .returned (.tuple #[]) ∧ (∃ xs, CntIs b 151 xs ∧ Box w' g 42 (u8v xs)) ∧ Only [g] w w' := by
  have HB := Lib.hid hb
  have HG := Lib.hid hg
  have b0 : 0 ≤ (b : Int) := by omega
  have HZ : Hid (CntIs b 0 zs) := by rw [hzs]; exact Lib.hid (cnt_zero b)
  clear hb hg hzs
  go_enter Try.func33, Try.ntmps33
  go_wp2_with fail
  refine (im_newLeap _).mono ?_; rintro e w1 ⟨rfl, b1⟩
  have B1 := Lib.hid b1
  have G1 := Lib.hid (HG.out.below b1)
  have HGL := Lib.hid HG.out.lt
  clear b1 HG
  obtain ⟨h, hh⟩ : ∃ h, h = w1.heap.size := ⟨_, rfl⟩
  have HH : Hid (g < h) := by rw [hh]; exact Lib.hid G1.out.lt
  have HW : Hid (w.heap.size ≤ h) := by rw [hh]; exact Lib.hid B1.out.size
  go_wp2_with (first | (refine sa_store ty_leap (by rfl) _ _ rfl w1.heap.size rfl 52 [.int .i64 0, .int .i64 0, .int .i64 0, .int .i64 0, .int .i64 0, .int .i64 0, .int .i64 0, .int .i64 0, .int .i64 0, .int .i64 0, .int .i64 0, .int .i64 0, .int .i64 0, .int .i64 0, .int .i64 0] (iv (lpK 15)) rfl (Box.new w1 _ _) rfl (by simp [lpK_len]) (iv_all _) ?_))
  rw [lp_lit]
  obtain ⟨w2, hw2⟩ : ∃ w2, w2 = (w1.alloc (.cells (iv (lpK 0)).toArray 52)).setRow w1.heap.size (iv (lpK 15)).toArray := ⟨_, rfl⟩
  have X2 : Hid (Box w2 h 52 (iv (lpK 15))) := by rw [hw2, hh]; exact Box.row (Box.new w1 _ _)
  have G2 : Hid (Box w2 g 42 (u8v zs)) := by rw [hw2]; exact (G1.out.alloc _).rowFar (by have := HH.out; omega)
  have O2 : Hid (Only [g] w w2) := by rw [hw2]; exact ((Only.of_below B1.out).alloc _).row (.inr (by rw [← hh]; exact HW.out)) _
  rw [← hw2, ← hh]
  clear hw2 hh G1 B1
  go_loopw [5, 6] (fun s i wr => ∃ (j r : Nat) (xs : List Int), r + j = 151 ∧ s = .int .i64 (nxK (217 * j) b : Nat) ∧ i = .int .i64 (r : Int) ∧ CntIs b j xs ∧ Box wr h 52 (iv (lpK 15)) ∧ Box wr g 42 (u8v xs) ∧ Only [g] w wr) (fun _ i _ => (intOf i).toNat)
  case atStart => exact ⟨0, 151, zs, by omega, rfl, rfl, HZ.out, X2.out, G2.out, O2.out⟩
  case round =>
    obtain ⟨j, r, xs, hr, rfl, rfl, hc, hx, hy, ho⟩ := hrel
    have CR := Lib.hid hc
    have XR := Lib.hid hx
    have YR := Lib.hid hy
    have OR := Lib.hid ho
    clear hc hx hy ho X2 G2 O2 HZ
    by_cases h0 : 0 < r
    · have r0 : 0 < (r : Int) := by omega
      have r1 : (r : Int) ≤ 151 := by omega
      have HL := Lib.hid (nxK_le (217 * j) HB.out)
      have HN : Hid (nxK 217 (nxK (217 * j) b) = nxK (217 * (j + 1)) b) := by rw [← nxK_add]; exact Lib.hid rfl
      generalize nxK (217 * j) b = s at HL HN ⊢
      go_wp2_with fail
      refine (im_after s HL.out h _ XR.out).mono ?_; rintro e w' ⟨rfl, m, rfl⟩
      have HL2 := nxK_le (217 * (j + 1)) HB.out
      have HC := Lib.hid (cnt_step CR.out HB.out)
      rw [HN.out]
      obtain ⟨t, ht⟩ : ∃ t, nxK (217 * (j + 1)) b = t := ⟨_, rfl⟩
      rw [ht] at HL2 HC ⊢
      have HT := Lib.hid ht
      clear ht
      have t0 : 0 ≤ (t : Int) := by omega
      have t1 : (t : Int) < 32768 := by omega
      have c0 := cnt_cell (YR.out.drewN m) CR.out.1 HL2
      have g0 := (YR.out.drewN m).frozen t
      have XS := Lib.hid ((XR.out.drewN m).far (b' := g) (i := t) (by have := HH.out; omega) (.int .u8 (r : Int)))
      have YS : Hid (Box ((wr.drewN m).setCell ⟨g, t, none⟩ (.int .u8 (r : Int))) g 42 (u8v (xs.set t ((152 - (j + 1) : Nat) : Int)))) := by
        rw [← u8v_set, show ((152 - (j + 1) : Nat) : Int) = (r : Int) by omega]
        exact Lib.hid ((YR.out.drewN m).set t _)
      have OS := Lib.hid ((OR.out.drewN m).setCell (q := g) (j := t) (.inl (by simp)) (.int .u8 (r : Int)))
      clear HN HL
      go_wp2_with fail
      go_roundw
      case rel => exact ⟨j + 1, r - 1, _, by omega, by rw [HT.out], by go_num, HC.out, XS.out, YS.out, OS.out⟩
      case measure => simp [intOf]; omega
    · obtain rfl : r = 0 := by omega
      obtain rfl : j = 151 := by omega
      go_wp2_with fail
      go_end0
      exact ⟨rfl, ⟨xs, CR.out, YR.out⟩, OR.out⟩
set_option maxRecDepth 100000 in
set_option maxHeartbeats 4000000 in
theorem im_dist (x y : Int) (w : World) : Calls Try.prog 19 #[.int .i64 x, .int .i64 y] w fun e w' => e = .returned (.int .i64 (dsT x y)) ∧ Below w.heap.size w w' := by
  cases hx : betB x 1 32767
  · rw [dsT_no (by unfold dsB; rw [hx]; rfl)]
    have HX := Lib.hid hx
    clear hx
    go_enter Try.func19, Try.ntmps19
    go_wp2_with fail
    refine (im_isState x _).mono ?_; rintro e' w' ⟨rfl, rfl⟩
    rw [HX.out]
    go_wp2_with fail
    go_ret
    exact ⟨rfl, Below.refl _ _⟩
  cases hy : betB y 1 32767
  · rw [dsT_no (by unfold dsB; rw [hx, hy]; rfl)]
    have HX := Lib.hid hx
    have HY := Lib.hid hy
    clear hx hy
    go_enter Try.func19, Try.ntmps19
    go_wp2_with fail
    refine (im_isState x _).mono ?_; rintro e' w' ⟨rfl, rfl⟩
    rw [HX.out]
    go_wp2_with fail
    refine (im_isState y _).mono ?_; rintro e' w' ⟨rfl, rfl⟩
    rw [HY.out]
    go_wp2_with fail
    go_ret
    exact ⟨rfl, Below.refl _ _⟩
  have hx1 := betB_is.1 hx
  have hy1 := betB_is.1 hy
  obtain ⟨a, rfl⟩ := Int.eq_ofNat_of_zero_le (show 0 ≤ x by omega)
  obtain ⟨b, rfl⟩ := Int.eq_ofNat_of_zero_le (show 0 ≤ y by omega)
  have ha : 1 ≤ a ∧ a ≤ 32767 := by omega
  have hb : 1 ≤ b ∧ b ≤ 32767 := by omega
  obtain ⟨d, hd2, hd⟩ := dist_ex ha hb
  rw [dsT_at ha hb hd hd2]
  have HX := Lib.hid hx
  have HY := Lib.hid hy
  have HA := Lib.hid ha
  have HB := Lib.hid hb
  have HD := Lib.hid hd
  have HD2 := Lib.hid hd2
  clear hx hy hx1 hy1 ha hb hd hd2
  go_enter Try.func19, Try.ntmps19
  go_wp2_with fail
  refine (im_isState _ _).mono ?_; rintro e' w' ⟨rfl, rfl⟩
  rw [HX.out]
  go_wp2_with fail
  refine (im_isState _ _).mono ?_; rintro e' w' ⟨rfl, rfl⟩
  rw [HY.out]
  obtain ⟨zs, hzs⟩ : ∃ zs, zs = List.replicate 32768 (0 : Int) := ⟨_, rfl⟩
  have HZ := Lib.hid hzs
  clear hzs
  go_upto_region 3 with (fail)
  go_wp2_with (refine st_allocCnt zs HZ.out (by rfl) rfl ?_)
  obtain ⟨g, hg⟩ : ∃ g, g = w.heap.size := ⟨_, rfl⟩
  obtain ⟨w1, hw1⟩ : ∃ w1, w1 = w.alloc (.cells (u8v zs).toArray 42) := ⟨_, rfl⟩
  have G1 : Hid (Box w1 g 42 (u8v zs)) := by rw [hw1, hg]; exact Lib.hid (Box.new w _ _)
  have B1 : Hid (Below g w w1) := by rw [hw1, hg]; exact Lib.hid (below1 w _)
  have HGE := Lib.hid hg
  rw [← hw1, ← hg]
  clear hw1 hg
  refine (im_fill zs HZ.out b g HB.out.2 _ G1.out).mono ?_; rintro e' w2 ⟨rfl, ⟨xs, hc, hy⟩, ho⟩
  have HC := Lib.hid hc
  have G2 := Lib.hid hy
  have B2 := Lib.hid (B1.out.trans (ho.below (B := g) (fun b hb => by simp at hb; omega) (Nat.le_of_lt G1.out.lt)))
  clear hc hy ho G1 B1
  go_wp2_with fail
  go_loopw [0, 6] (fun s i wr => ∃ k : Nat, k ≤ d % 217 ∧ s = .int .i64 (nxK k a : Nat) ∧ i = .int .i64 k ∧ wr = w2) (fun _ i _ => d % 217 - (intOf i).toNat)
  case atStart => exact ⟨0, by omega, rfl, rfl, rfl⟩
  case round =>
    obtain ⟨k, hk, rfl, rfl, hw⟩ := hrel
    obtain rfl : w2 = wr := hw.symm
    have HS := Lib.hid (nxK_state k HA.out.1 HA.out.2)
    have HN := Lib.hid (nxK_succ k a)
    have t0 : 0 ≤ (nxK k a : Int) := by omega
    have t1 : (nxK k a : Int) < 32768 := by have := HS.out; omega
    have c0 := cnt_cell G2.out HC.out.1 HS.out.2
    have HM := Lib.hid (walk_mark HA.out HB.out HC.out HD.out HD2.out)
    have HW := Lib.hid (walk_done (s := k) HA.out HB.out HC.out HD.out HD2.out hk)
    have HK : Hid (k = d % 217 → xs.getD (nxK k a) 0 ≠ 0) := Lib.hid fun e => by rw [e]; exact HM.out
    obtain ⟨v, hv⟩ : ∃ v, xs.getD (nxK k a) 0 = v := ⟨_, rfl⟩
    rw [hv] at c0 HW HK
    clear hv HM hw
    generalize nxK k a = s at HS HN t0 t1 c0 ⊢
    by_cases h0 : v = 0
    · subst h0
      have hlt : k < d % 217 := by
        have := HK.out
        omega
      have hd7 : d % 217 < 217 := Nat.mod_lt _ (by omega)
      have k0 : 0 ≤ (k : Int) := by omega
      have k1 : (k : Int) < 217 := by omega
      clear HK HW
      go_wp2_with fail
      refine (im_step s HS.out.2 _).mono ?_; rintro e w' ⟨rfl, rfl⟩
      go_wp2_with fail
      go_roundw
      case rel => exact ⟨k + 1, by omega, by rw [HN.out], by go_num, trivial⟩
      case measure => simp [intOf]; omega
    · obtain ⟨i, i1, i2, rfl, hs⟩ := HW.out h0
      have hd7 : d % 217 < 217 := Nat.mod_lt _ (by omega)
      have k0 : 0 ≤ (k : Int) := by omega
      have k1 : (k : Int) < 217 := by omega
      have j1 : (1 : Int) ≤ i := by omega
      have j2 : (i : Int) ≤ 151 := by omega
      have HE : Hid ((k : Int) + 217 * ((i : Int) - 1) = (d : Int)) := Lib.hid (by omega)
      clear HK HW hs i1 i2 hd7
      have hi0 : ((i : Int) == 0) = false := by simp; omega
      clear h0
      go_upto_region 9 with (fail)
      go_wp2_with fail
      go_ret
      exact ⟨by rw [← HE.out]; rfl, by rw [← HGE.out]; exact B2.out⟩
end Go.Proofs.Ytkglocdmpfjafaa
