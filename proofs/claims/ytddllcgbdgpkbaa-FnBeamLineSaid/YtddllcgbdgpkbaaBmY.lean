/- The program's BeamParts. -/
import Derived.Test.YtddllcgbdgpkbaaBmO
namespace Go.Proofs.Ytddllcgbdgpkbaa
open Go.ChangeShapes Go.WideShapes Go.ChangeAt Go.RowKit
set_option linter.unusedVariables false

theorem own_noneI (w : World) (base : Nat) (e : TypeId) : w.ownsRow base e 1 (.slice none 0 0) 0 (iv []) := ⟨by simp [iv], .inl ⟨rfl, rfl⟩⟩
theorem chgB_K {L : List Int} {n : Nat} (h : chgB L n = true) : chgK L n = true := by
  unfold chgB at h
  rw [Bool.and_eq_true] at h
  exact h.1
theorem chgB_8 {L : List Int} {n : Nat} (h : chgB L n = true) : n ≤ 8 := by
  unfold chgB at h
  rw [Bool.and_eq_true, decide_eq_true_iff] at h
  exact h.2
set_option maxRecDepth 100000 in
set_option maxHeartbeats 4000000 in
theorem im_bmParts (Al : Option Addr) (n c' : Nat) (L : List Int) (fl : List Nat) (x y : Int) (w : World) (h : Ints w Al (3 * n) L fl) (hn : n ≤ 1000000000) :
    Calls Try.prog 18 #[.int .i64 x, .int .i64 y, .slice Al n c'] w (Copied (ptT L n x y) (ptT L n x y).length w) := by
  have H := Lib.hid h
  clear h
  go_enter Try.func18, Try.ntmps18
  go_wp2_with fail
  refine (im_isShift x _).mono ?_; rintro e w2 ⟨rfl, rfl⟩
  cases hx : betB x 0 255
  · have HT : Hid (ptT L n x y = []) := Lib.hid (ptT_no (by rw [hx]; simp))
    clear hx
    go_wp2_with fail
    go_ret
    rw [HT.out]
    exact ⟨none, 0, [], rfl, Nat.le_refl _, .nil _ _, .nil _ _, Below.refl _ _⟩
  have HX := Lib.hid hx
  clear hx
  go_wp2_with fail
  refine (im_isShift y _).mono ?_; rintro e w2 ⟨rfl, rfl⟩
  cases hy : betB y 0 255
  · have HT : Hid (ptT L n x y = []) := Lib.hid (ptT_no (by rw [hy, Bool.and_false]))
    clear hy
    go_wp2_with fail
    go_ret
    rw [HT.out]
    exact ⟨none, 0, [], rfl, Nat.le_refl _, .nil _ _, .nil _ _, Below.refl _ _⟩
  have HY := Lib.hid hy
  clear hy
  go_wp2_with fail
  refine (im_chgValid Al n c' L fl _ H.out hn).mono ?_; rintro e w1 ⟨rfl, b1⟩
  have B1 := Lib.hid b1
  clear b1
  cases hv : chgB L n
  · have HT : Hid (ptT L n x y = []) := Lib.hid (ptT_no (by rw [hv]; rfl))
    clear hv
    go_wp2_with fail
    go_ret
    rw [HT.out]
    exact ⟨none, 0, [], rfl, Nat.le_refl _, .nil _ _, .nil _ _, B1.out⟩
  have HT := Lib.hid (ptT_yes hv HX.out HY.out)
  have HK := Lib.hid (chgB_K hv)
  have H8 := Lib.hid (chgB_8 hv)
  clear hv
  go_wp2_with fail
  refine (im_real x y Al n c' L fl _ (H.out.below B1.out) hn).mono ?_; rintro e w3 ⟨m, hm, A, c, fp, rfl, hc, hi, hN, b3⟩
  obtain ⟨m', I⟩ := rc_inv x y HK.out n (Nat.le_refl _)
  obtain rfl : m' = m := by have := hi.1; have := I.len; omega
  have HP : Hid (ptT L n x y = (List.range m').map (cC (rcK L n x y n))) := Lib.hid (by rw [HT.out, I.cols])
  have HI := Lib.hid hi
  have B3 := Lib.hid (below_then B1.out b3)
  have hm8 : m' ≤ 8 := by have := H8.out; omega
  clear HT I hi hN b3 hm hc
  generalize rcK L n x y n = R at HP HI
  have HPL : Hid ((ptT L n x y).length = m') := Lib.hid (by rw [HP.out]; simp)
  go_wp2_with fail
  go_loopw [7, 28] (fun v i wr => ∃ j : Nat, j ≤ m' ∧ i = .int .i64 j ∧ wr.ownsRow w3.heap.size 3 1 v j (iv ((List.range j).map (cC R))) ∧ Below w3.heap.size w3 wr) (fun _ i _ => m' - (intOf i).toNat)
  case atStart => exact ⟨0, by omega, rfl, own_noneI _ _ _, Below.refl _ _⟩
  case round =>
    obtain ⟨j, hj, rfl, how, hb⟩ := hrel
    obtain ⟨A2, c2, f2, rfl, hc2, _, hi2, hn2, _⟩ := own_ints how
    have OW := Lib.hid how
    have BR := Lib.hid hb
    have I2 := Lib.hid hi2
    have N2 := Lib.hid hn2
    clear how hb hi2 hn2
    by_cases hlt : j < m'
    · have IR := Lib.hid (HI.out.below BR.out)
      obtain ⟨p, o, rfl, _, hpl, hc⟩ := HI.out.at_ (by omega)
      clear hc
      have hlt' : (j : Int) < m' := by omega
      have RG := Lib.hid (chg_range IR.out hlt)
      have HS : Hid ((List.range (j + 1)).map (cC R) = (List.range j).map (cC R) ++ [cC R j]) := Lib.hid (by rw [List.range_succ, List.map_append]; rfl)
      obtain ⟨P1, hP1⟩ : ∃ P1, (List.range (j + 1)).map (cC R) = P1 := ⟨_, rfl⟩
      have HP1 := Lib.hid hP1
      rw [hP1] at HS
      clear hP1
      generalize (List.range j).map (cC R) = P at HS OW I2
      generalize cC R j = u at RG HS
      generalize cX R j = v at RG
      generalize cY R j = q at RG
      have XC := Lib.hid (chg_made wr u v q)
      have BC := Lib.hid (below_chg wr u v q)
      go_upto_region 7 with (first | (refine ch_loadm (by rfl) _ rfl _ _ rfl u v q RG.out ?_) | (refine ch_store (by rfl) _ _ rfl _ rfl u v q rfl _ (Box.new _ _ _) (by rfl) ?_))
      simp only [Act.put]
      have OC := Lib.hid (own_keep_any OW.out BC.out)
      have BW := Lib.hid (below_then BR.out BC.out)
      generalize ((wr.alloc (chgO 0 0 0)).setRow wr.heap.size (iv [u, v, q]).toArray) = wc at XC OC BW ⊢
      generalize hgg : wr.heap.size = g at XC ⊢
      clear hgg RG BC OW BR IR
      have c0 := XC.out.cell 0
      have s4 : w3.heap.size ≤ wc.heap.size := BW.out.size
      have O6 := Lib.hid (own_keep_any OC.out (below1 wc (.cells #[.int .i64 u] 3)))
      have I6 : Hid (Ints (wc.alloc (.cells #[.int .i64 u] 3)) (some ⟨wc.heap.size, 0, none⟩) 1 [u] [wc.heap.size]) := Lib.hid (lone_int wc u)
      have B6 : Hid (Below w3.heap.size w3 (wc.alloc (.cells #[.int .i64 u] 3))) := Lib.hid (BW.out.alloc s4 (.cells #[.int .i64 u] 3))
      have hb1 : w3.heap.size ≤ (wc.alloc (.cells #[.int .i64 u] 3)).heap.size := by simp; omega
      go_wp2_with (at_builtin; refine wpList_append_ints rfl _ _ rfl w3.heap.size (.slice A2 j c2) j P rfl O6.out _ 1 1 [u] _ rfl I6.out (by omega) hb1 ?_; intro v' w7 own7 gr7 ob7; have O7 := Lib.hid own7; have B7 := Lib.hid (below_grown B6.out gr7 hb1 (fun b hb => (own_lt O6.out b hb).1)); clear own7 gr7 ob7)
      go_roundw
      case rel => exact ⟨j + 1, by omega, by go_num, by rw [HP1.out, HS.out]; exact O7.out, B7.out⟩
      case measure => simp [intOf]; omega
    · obtain rfl : j = m' := by omega
      go_wp2_with fail
      go_ret
      rw [HPL.out, HP.out]
      exact ⟨A2, c2, f2, rfl, hc2, I2.out, N2.out.mono (by have := B3.out.size; omega), B3.out.trans (BR.out.mono B3.out.size)⟩
end Go.Proofs.Ytddllcgbdgpkbaa
