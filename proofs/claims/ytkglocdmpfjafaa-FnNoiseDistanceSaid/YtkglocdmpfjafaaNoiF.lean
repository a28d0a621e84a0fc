/- Noise: samples, the program's and the model's; the model's distance. -/
import Derived.Test.YtkglocdmpfjafaaNoiA
import Derived.Test.YtkglocdmpfjafaaGrow
import Derived.Deep.RegionLaw
import Derived.Deep.Cut
namespace Go.Proofs.Ytkglocdmpfjafaa
open Go.ChangeShapes Go.WideShapes Go.ChangeAt Go.RowKit
set_option linter.unusedVariables false

theorem infoIntZ : (Try.prog.info? 3).map (fun i => (i.zero, i.size, i.bytes)) = some (some (.int .i64 0), 1, 8) := by kernel_rfl
theorem made_zerosZ (n : Nat) : madeCells #[.int .i64 0] n = (iv (List.replicate n 0)).toArray := by
  apply Array.ext
  · rw [size_madeCells]; simp [iv]
  · intro j h1 h2
    simp only [madeCells, Array.getElem_map, Array.getElem_range, iv, List.map_replicate, List.getElem_toArray, List.getElem_replicate]
    simp [Nat.mod_one]
theorem run_make_intsZ (n : Nat) (hn : n ≤ 1000000) (w : World) : (Instr.makeSlice 29 (.int .i64 (n : Int)) (.int .i64 (n : Int))).run Try.prog w = .ok (.slice (some ⟨w.heap.size, 0, none⟩) n n) (w.alloc (.cells (iv (List.replicate n 0)).toArray 3)) := by
  have h := Go.run_make_row' (P := Try.prog) 29 3 (.int .i64 0) 8 Try.underlying29 infoIntZ rfl .i64 .i64 n (by omega) (by omega) w
  rw [made_zerosZ] at h
  exact h
theorem copied_boxZ {w w' : World} {n g : Nat} {t : TypeId} {xs : List Int} (h : Box w' g t (iv xs)) (hl : xs.length = n) (hg : w.heap.size ≤ g) (hb : Below w.heap.size w w') : Copied xs n w (.returned (.slice (some ⟨g, 0, none⟩) n n)) w' := by
  by_cases h0 : n = 0
  · subst h0
    have : xs = [] := List.eq_nil_of_length_eq_zero hl
    subst this
    exact ⟨_, _, [], rfl, Nat.le_refl _, .nil _ _, .nil _ _, hb⟩
  · refine ⟨_, _, [g], rfl, Nat.le_refl _, ⟨hl, .inr ⟨by omega, g, 0, rfl, rfl, h.lt, fun i hi => ?_⟩⟩, .one hg h.lt h.frozen, hb⟩
    rw [Nat.zero_add, h.cell i]
    exact iv_at xs i (by omega)
theorem ivSetY (S : List Int) (k : Nat) (a : Int) : (iv S).set k (.int .i64 a) = iv (S.set k a) := by simp [iv, List.map_set]
theorem lone_intZ (w : World) (u : Int) : Ints (w.alloc (.cells #[.int .i64 u] 3)) (some ⟨w.heap.size, 0, none⟩) 1 [u] [w.heap.size] := by
  have X : Box (w.alloc (.cells #[.int .i64 u] 3)) w.heap.size 3 [.int .i64 u] := Box.new w _ _
  refine ⟨rfl, .inr ⟨by omega, w.heap.size, 0, rfl, rfl, X.lt, fun i hi => ?_⟩⟩
  obtain rfl : i = 0 := by omega
  rw [Nat.zero_add, X.cell 0]; rfl
set_option maxRecDepth 100000 in
set_option maxHeartbeats 4000000 in
theorem im_samples (x n : Int) (w : World) : Calls Try.prog 15 #[.int .i64 x, .int .i64 n] w (Copied (smT x n) (smT x n).length w) := by
  cases hx : betB x 1 32767
  · rw [smT_no (by unfold smB; rw [hx]; rfl)]
    have HX := Lib.hid hx
    clear hx
    go_enter Try.func15, Try.ntmps15
    go_wp2_with fail
    refine (im_isState x _).mono ?_; rintro e' w' ⟨rfl, rfl⟩
    rw [HX.out]
    go_wp2_with fail
    go_ret
    exact ⟨none, 0, [], rfl, Nat.le_refl _, Ints.nil _ _, .nil _ _, Below.refl _ _⟩
  cases hn : betB n 0 400
  · rw [smT_no (by unfold smB; rw [hx, hn]; rfl)]
    have HX := Lib.hid hx
    have HN := Lib.hid hn
    clear hx hn
    go_enter Try.func15, Try.ntmps15
    go_wp2_with fail
    refine (im_isState x _).mono ?_; rintro e' w' ⟨rfl, rfl⟩
    rw [HX.out]
    go_wp2_with fail
    refine (im_isSamples n _).mono ?_; rintro e' w' ⟨rfl, rfl⟩
    rw [HN.out]
    go_wp2_with fail
    go_ret
    exact ⟨none, 0, [], rfl, Nat.le_refl _, Ints.nil _ _, .nil _ _, Below.refl _ _⟩
  have hx1 := betB_is.1 hx
  have hn1 := betB_is.1 hn
  obtain ⟨S, rfl⟩ := Int.eq_ofNat_of_zero_le (show 0 ≤ x by omega)
  obtain ⟨N, rfl⟩ := Int.eq_ofNat_of_zero_le (show 0 ≤ n by omega)
  have hN : N ≤ 400 := by omega
  have HSL : Hid (S ≤ 32767) := Lib.hid (by omega)
  rw [smT_yes (by omega) (by omega) hN, smK_len]
  have HX := Lib.hid hx
  have HN := Lib.hid hn
  clear hx hn hx1 hn1
  have hmk := run_make_intsZ N (by omega)
  have HZ := Lib.hid (smM_zero S N)
  generalize List.replicate N (0 : Int) = Z0 at hmk HZ
  obtain ⟨g, hg⟩ : ∃ g, g = w.heap.size := ⟨_, rfl⟩
  have HGE := Lib.hid hg
  obtain ⟨w1, hw1⟩ : ∃ w1, w1 = w.alloc (.cells (iv Z0).toArray 3) := ⟨_, rfl⟩
  have X1 : Hid (Box w1 g 3 (iv (smM S N 0))) := Lib.hid (by rw [hw1, hg, HZ.out]; exact Box.new w _ _)
  have B1 : Hid (Below g w w1) := Lib.hid (by rw [hw1, hg]; exact below1 w _)
  go_enter Try.func15, Try.ntmps15
  go_wp2_with fail
  refine (im_isState _ _).mono ?_; rintro e' w' ⟨rfl, rfl⟩
  rw [HX.out]
  go_wp2_with fail
  refine (im_isSamples _ _).mono ?_; rintro e' w' ⟨rfl, rfl⟩
  rw [HN.out]
  go_upto_region 4 with (fail)
  rw [← hw1, ← hg]
  clear hw1 hg hmk HZ
  go_wp2_with fail
  go_loopw [0, 19] (fun s i wr => ∃ k : Nat, k ≤ N ∧ s = .int .i64 (nxK k S : Nat) ∧ i = .int .i64 k ∧ Box wr g 3 (iv (smM S N k)) ∧ Below g w wr) (fun _ i _ => N - (intOf i).toNat)
  case atStart => exact ⟨0, by omega, rfl, rfl, X1.out, B1.out⟩
  case round =>
    obtain ⟨k, hk, rfl, rfl, hx, hb⟩ := hrel
    have XR := Lib.hid hx
    have BR := Lib.hid hb
    clear hx hb X1 B1
    by_cases hkN : k < N
    · have k1 : (k : Int) < (N : Int) := by omega
      have k0 : 0 ≤ (k : Int) := by omega
      have HL := Lib.hid (nxK_le k HSL.out)
      have HK := Lib.hid (nxK_succ k S)
      have HT := Lib.hid (smM_set S N k hkN)
      have hd : bits .and .i64 (nxK k S : Int) 1 = ((nxK k S % 2 : Nat) : Int) := and1_i64 _ (by have := HL.out; omega)
      have c0 := (XR.out.cell k).trans (iv_at (smM S N k) k (by rw [smM_len]; exact hkN))
      have g0 := XR.out.frozen k
      generalize nxK k S = s at HL HK HT hd ⊢
      obtain ⟨q, hq⟩ : ∃ q : Int, ((s % 2 : Nat) : Int) = q := ⟨_, rfl⟩
      rw [hq] at hd HT
      have XS : Hid (Box (wr.setCell ⟨g, k, none⟩ (.int .i64 q)) g 3 (iv (smM S N (k + 1)))) := by
        rw [← HT.out, ← ivSetY]
        exact Lib.hid (XR.out.set k _)
      clear hq
      go_wp2_with fail
      refine (im_step s HL.out _).mono ?_; rintro e w' ⟨rfl, rfl⟩
      go_wp2_with fail
      go_roundw
      case rel => exact ⟨k + 1, by omega, by rw [HK.out], by go_num, XS.out, BR.out.setCell (Nat.le_refl _) _⟩
      case measure => simp [intOf]; omega
    · obtain rfl : k = N := by omega
      have HA := Lib.hid (smM_all S k)
      go_wp2_with fail
      go_ret
      rw [← HA.out]
      exact copied_boxZ XR.out (smM_len _ _ _) (by rw [← HGE.out]; exact Nat.le_refl _) (by rw [← HGE.out]; exact BR.out)
theorem below_viaZ {b3 : Nat} {w w1 w2 : World} (h : Below b3 w w1) (k : Below w1.heap.size w1 w2) (hs : b3 ≤ w1.heap.size) : Below b3 w w2 := h.trans (k.mono hs)
set_option maxRecDepth 100000 in
set_option maxHeartbeats 4000000 in
theorem spec_samples (x n : Int) (w : World) : Calls Try.prog 17 #[.int .i64 x, .int .i64 n] w (Copied (smT x n) (smT x n).length w) := by
  obtain ⟨g, hg⟩ : ∃ g, g = w.heap.size := ⟨_, rfl⟩
  have HGE := Lib.hid hg
  obtain ⟨w1, hw1⟩ : ∃ w1, w1 = w.alloc (.cells #[] 3) := ⟨_, rfl⟩
  have E1 : Hid (w1.ownsRow g 3 1 (.slice (some ⟨g, 0, none⟩) 0 0) 0 (iv [])) := Lib.hid (by rw [hw1, hg]; exact own_empty w 3 w.heap.size (Nat.le_refl _))
  have B1 : Hid (Below g w w1) := Lib.hid (by rw [hw1, hg]; exact below1 w _)
  have hz1 : g ≤ w1.heap.size := by rw [hw1, hg]; simp
  cases hx : betB x 1 32767
  · rw [smT_no (by unfold smB; rw [hx]; rfl)]
    have HX := Lib.hid hx
    clear hx
    go_enter Try.func17, Try.ntmps17
    go_upto_region 2 with (fail)
    rw [← hw1, ← hg]
    clear hw1 hg
    go_wp2_with fail
    refine (l1In_any x 1 32767 _).mono ?_; rintro e' w' ⟨rfl, rfl⟩
    rw [HX.out]
    go_wp2_with fail
    go_ret
    exact copied_own (by rw [← HGE.out]; exact E1.out) (by rw [← HGE.out]; exact B1.out)
  cases hn : betB n 0 400
  · rw [smT_no (by unfold smB; rw [hx, hn]; rfl)]
    have HX := Lib.hid hx
    have HN := Lib.hid hn
    clear hx hn
    go_enter Try.func17, Try.ntmps17
    go_upto_region 2 with (fail)
    rw [← hw1, ← hg]
    clear hw1 hg
    go_wp2_with fail
    refine (l1In_any x 1 32767 _).mono ?_; rintro e' w' ⟨rfl, rfl⟩
    rw [HX.out]
    go_wp2_with fail
    refine (l1In_any n 0 400 _).mono ?_; rintro e' w' ⟨rfl, rfl⟩
    rw [HN.out]
    go_wp2_with fail
    go_ret
    exact copied_own (by rw [← HGE.out]; exact E1.out) (by rw [← HGE.out]; exact B1.out)
  have hx1 := betB_is.1 hx
  have hn1 := betB_is.1 hn
  obtain ⟨S, rfl⟩ := Int.eq_ofNat_of_zero_le (show 0 ≤ x by omega)
  obtain ⟨N, rfl⟩ := Int.eq_ofNat_of_zero_le (show 0 ≤ n by omega)
  have hN : N ≤ 400 := by omega
  have HSL : Hid (1 ≤ S ∧ S ≤ 32767) := Lib.hid (by omega)
  rw [smT_yes (by omega) (by omega) hN, smK_len]
  have HX := Lib.hid hx
  have HN := Lib.hid hn
  clear hx hn hx1 hn1
  go_enter Try.func17, Try.ntmps17
  go_upto_region 2 with (fail)
  rw [← hw1, ← hg]
  clear hw1 hg
  go_wp2_with fail
  refine (l1In_any _ 1 32767 _).mono ?_; rintro e' w' ⟨rfl, rfl⟩
  rw [HX.out]
  go_wp2_with fail
  refine (l1In_any _ 0 400 _).mono ?_; rintro e' w' ⟨rfl, rfl⟩
  rw [HN.out]
  go_wp2_with fail
  go_loopw [0, 5, 6] (fun s v i wr => ∃ (k : Nat) (A2 : Option Addr) (d2 : Nat), k ≤ N ∧ s = .int .i64 (nxK k S : Nat) ∧ v = .slice A2 k d2 ∧ i = .int .i64 k ∧ wr.ownsRow g 3 1 (.slice A2 k d2) k (iv (smK S k)) ∧ Below g w wr ∧ g ≤ wr.heap.size) (fun _ _ i _ => N - (intOf i).toNat)
  case atStart => exact ⟨0, _, _, by omega, rfl, rfl, rfl, E1.out, B1.out, hz1⟩
  case round =>
    obtain ⟨k, A2, d2, hk, rfl, rfl, rfl, ho, hb, hz⟩ := hrel
    have OR := Lib.hid ho
    have BR := Lib.hid hb
    clear ho hb E1 B1 hz1
    by_cases hkN : k < N
    · have k1 : (k : Int) < (N : Int) := by omega
      have HL := Lib.hid (nxK_state k HSL.out.1 HSL.out.2)
      have HK := Lib.hid (nxK_succ k S)
      have HSM := Lib.hid (smK_succ S k)
      have hd : (nxK k S : Int).tmod 2 = ((nxK k S % 2 : Nat) : Int) := by rw [Int.tmod_eq_emod_of_nonneg (by omega)]; omega
      have HXT := Lib.hid (nxT_at HL.out.1 HL.out.2)
      generalize nxK k S = s at HL HK HSM hd HXT ⊢
      obtain ⟨q, hq⟩ : ∃ q : Int, ((s % 2 : Nat) : Int) = q := ⟨_, rfl⟩
      rw [hq] at hd HSM
      clear hq
      have O6 := Lib.hid (own_keep OR.out (below1 wr (.cells #[.int .i64 q] 3)))
      have I6 : Hid (Ints (wr.alloc (.cells #[.int .i64 q] 3)) (some ⟨wr.heap.size, 0, none⟩) 1 [q] [wr.heap.size]) := Lib.hid (lone_intZ wr q)
      have B6 : Hid (Below g w (wr.alloc (.cells #[.int .i64 q] 3))) := Lib.hid (BR.out.alloc hz (.cells #[.int .i64 q] 3))
      have hb1 : g ≤ (wr.alloc (.cells #[.int .i64 q] 3)).heap.size := by simp; omega
      clear OR BR hz
      go_upto_region 8 with (at_builtin; refine wpList_append_ints rfl _ _ rfl g _ k _ rfl O6.out _ _ _ [q] _ rfl I6.out (by omega) hb1 ?_; intro v' w7 own7 gr7 ob7; obtain ⟨A7, d7, _, rfl, _⟩ := own_ints own7; have b7 := below_grown (Below.refl g _) gr7 hb1 (fun b hb => (own_lt O6.out b hb).1); have B7 := Lib.hid (B6.out.trans b7); have O7 := Lib.hid own7; have s7 : g ≤ w7.heap.size := (by have := b7.size; omega); clear own7 gr7 b7 B6 O6 I6 ob7 hb1)
      go_wp2_with fail
      refine (spec_next (s : Int) _).mono ?_; rintro e' w' ⟨rfl, rfl⟩
      rw [HXT.out]
      go_wp2_with fail
      go_roundw
      case rel => exact ⟨k + 1, _, _, by omega, by rw [HK.out], rfl, by go_num, by rw [HSM.out]; exact O7.out, B7.out, s7⟩
      case measure => simp [intOf]; omega
    · obtain rfl : k = N := by omega
      go_wp2_with fail
      go_ret
      exact copied_own (by rw [← HGE.out]; exact OR.out) (by rw [← HGE.out]; exact BR.out)
set_option maxRecDepth 100000 in
set_option maxHeartbeats 4000000 in
theorem spec_dist (x y : Int) (w : World) : Calls Try.prog 20 #[.int .i64 x, .int .i64 y] w fun e w' => e = .returned (.int .i64 (dsT x y)) ∧ w = w' := by
  cases hx : betB x 1 32767
  · rw [dsT_no (by unfold dsB; rw [hx]; rfl)]
    have HX := Lib.hid hx
    clear hx
    go_enter Try.func20, Try.ntmps20
    go_wp2_with fail
    refine (l1In_any x 1 32767 _).mono ?_; rintro e' w' ⟨rfl, rfl⟩
    rw [HX.out]
    go_wp2_with fail
    go_ret
    exact ⟨rfl, rfl⟩
  cases hy : betB y 1 32767
  · rw [dsT_no (by unfold dsB; rw [hx, hy]; rfl)]
    have HX := Lib.hid hx
    have HY := Lib.hid hy
    clear hx hy
    go_enter Try.func20, Try.ntmps20
    go_wp2_with fail
    refine (l1In_any x 1 32767 _).mono ?_; rintro e' w' ⟨rfl, rfl⟩
    rw [HX.out]
    go_wp2_with fail
    refine (l1In_any y 1 32767 _).mono ?_; rintro e' w' ⟨rfl, rfl⟩
    rw [HY.out]
    go_wp2_with fail
    go_ret
    exact ⟨rfl, rfl⟩
  have hx1 := betB_is.1 hx
  have hy1 := betB_is.1 hy
  obtain ⟨a, rfl⟩ := Int.eq_ofNat_of_zero_le (show 0 ≤ x by omega)
  obtain ⟨b, rfl⟩ := Int.eq_ofNat_of_zero_le (show 0 ≤ y by omega)
  have ha : 1 ≤ a ∧ a ≤ 32767 := by omega
  have hb : 1 ≤ b ∧ b ≤ 32767 := by omega
  obtain ⟨d, hd2, hd⟩ := dist_ex ha hb
  rw [dsT_at ha hb hd hd2]
  have HX := Lib.hid hx
  have HY := Lib.hid hy
  have HA := Lib.hid ha
  have HD := Lib.hid hd
  clear hx hy hx1 hy1 ha hb hd
  go_enter Try.func20, Try.ntmps20
  go_wp2_with fail
  refine (l1In_any _ 1 32767 _).mono ?_; rintro e' w' ⟨rfl, rfl⟩
  rw [HX.out]
  go_wp2_with fail
  refine (l1In_any _ 1 32767 _).mono ?_; rintro e' w' ⟨rfl, rfl⟩
  rw [HY.out]
  go_wp2_with fail
  go_loopw [0, 5] (fun s i wr => ∃ k : Nat, k ≤ d ∧ s = .int .i64 (nxK k a : Nat) ∧ i = .int .i64 k ∧ wr = w) (fun _ i _ => d - (intOf i).toNat)
  case atStart => exact ⟨0, by omega, rfl, rfl, rfl⟩
  case round =>
    obtain ⟨k, hk, rfl, rfl, hw⟩ := hrel
    obtain rfl : w = wr := hw.symm
    have HS := Lib.hid (nxK_state k HA.out.1 HA.out.2)
    have HK := Lib.hid (nxK_succ k a)
    have HXT := Lib.hid (nxT_at HS.out.1 HS.out.2)
    by_cases hkd : k < d
    · have hne : ¬ nxK k a = b := HD.out.2 k hkd
      clear hw
      generalize nxK k a = s at HS HK HXT hne ⊢
      have hn2 : ((s : Int) != (b : Int)) = true := by simp; omega
      have k0 : 0 ≤ (k : Int) := by omega
      have k1 : (k : Int) < 32767 := by omega
      go_wp2_with fail
      refine (spec_next (s : Int) _).mono ?_; rintro e' w' ⟨rfl, rfl⟩
      rw [HXT.out]
      go_wp2_with fail
      go_roundw
      case rel => exact ⟨k + 1, by omega, by rw [HK.out], by go_num, trivial⟩
      case measure => simp [intOf]; omega
    · obtain rfl : k = d := by omega
      have he : nxK k a = b := HD.out.1
      clear hw
      rw [he]
      go_wp2_with fail
      go_ret
      exact ⟨rfl, rfl⟩
end Go.Proofs.Ytkglocdmpfjafaa
