/- The program's changes: one of them, all, the real ones, ChangesValid. -/
import Derived.Test.YtddllcgbdgpkbaaBmH
import Derived.Test.YtddllcgbdgpkbaaBmA
namespace Go.Proofs.Ytddllcgbdgpkbaa
open Go.ChangeShapes Go.WideShapes Go.ChangeAt Go.RowKit
set_option linter.unusedVariables false

abbrev chgO (c x y : Int) : Obj := .cells #[.int .i64 c, .int .i64 x, .int .i64 y] 27
theorem chg_new (w : World) (c x y : Int) : Box (w.alloc (chgO c x y)) w.heap.size 27 (iv [c, x, y]) := Box.new w _ _
theorem below_chg (w : World) (c x y : Int) : Below w.heap.size w ((w.alloc (chgO 0 0 0)).setRow w.heap.size (iv [c, x, y]).toArray) := below_row (below1 w _) (Nat.le_refl _) _
theorem chg_made (w : World) (c x y : Int) : Box ((w.alloc (chgO 0 0 0)).setRow w.heap.size (iv [c, x, y]).toArray) w.heap.size 27 (iv [c, x, y]) := Box.row (cs := iv [0, 0, 0]) (chg_new w 0 0 0)
/-- A change by itself. -/
def okC (c x y : Int) : Bool := betB c 0 31 && betB x 0 255 && betB y 0 255
theorem im_okC (c x y : Int) (w : World) : Calls Try.prog 36 #[chgV c x y] w fun e w' => e = .returned (.bool (okC c x y)) ∧ Below w.heap.size w w' := by
  have X1 := Lib.hid (chg_new w c x y)
  have B1 := Lib.hid (below1 w (chgO c x y))
  have HE : Hid (okC c x y = (betB c 0 31 && betB x 0 255 && betB y 0 255)) := Lib.hid rfl
  generalize okC c x y = R at HE ⊢
  go_enter Try.func36, Try.ntmps36
  go_upto_region 1 with (fail)
  generalize w.alloc (chgO c x y) = w1 at X1 B1 ⊢
  generalize hbb : w.heap.size = bb at X1 ⊢
  clear hbb
  have c0 := X1.out.cell 0
  have c1 := X1.out.cell 1
  have c2 := X1.out.cell 2
  go_wp2_with fail
  refine (im_isColumn c _).mono ?_; rintro e w2 ⟨rfl, rfl⟩
  cases hc : betB c 0 31
  · have HR : Hid (R = false) := Lib.hid (by rw [HE.out, hc]; rfl)
    clear hc HE
    go_wp2_with fail
    go_ret
    exact ⟨ret_bool HR.out.symm, B1.out⟩
  · have HC := Lib.hid hc
    clear hc
    go_wp2_with fail
    refine (im_isShift x _).mono ?_; rintro e w2 ⟨rfl, rfl⟩
    cases hx : betB x 0 255
    · have HR : Hid (R = false) := Lib.hid (by rw [HE.out, HC.out, hx]; rfl)
      clear hx HE
      go_wp2_with fail
      go_ret
      exact ⟨ret_bool HR.out.symm, B1.out⟩
    · have HX := Lib.hid hx
      clear hx
      go_wp2_with fail
      refine (im_isShift y _).mono ?_; rintro e w2 ⟨rfl, rfl⟩
      have HR : Hid (R = betB y 0 255) := Lib.hid (by rw [HE.out, HC.out, HX.out]; simp)
      clear HE
      cases hy : betB y 0 255
      · have HY := Lib.hid hy
        clear hy
        go_wp2_with fail
        go_ret
        exact ⟨ret_bool (by rw [HR.out, HY.out]), B1.out⟩
      · have HY := Lib.hid hy
        clear hy
        go_wp2_with fail
        go_ret
        exact ⟨ret_bool (by rw [HR.out, HY.out]), B1.out⟩
theorem im_same (c x y c' x' y' : Int) (w : World) : Calls Try.prog 66 #[chgV c x y, chgV c' x' y'] w fun e w' => e = .returned (.bool (decide (x = x') && decide (y = y'))) ∧ Below w.heap.size w w' := by
  have X1 := Lib.hid ((chg_new w c x y).alloc (chgO c' x' y'))
  have Y1 := Lib.hid (Box.new_at (w.alloc (chgO c x y)) #[.int .i64 c', .int .i64 x', .int .i64 y'] 27 (w.heap.size + 1) (by simp))
  have B1 := Lib.hid (below2 w (chgO c x y) (chgO c' x' y'))
  go_enter Try.func66, Try.ntmps66
  go_upto_region 1 with (fail)
  generalize (w.alloc (chgO c x y)).alloc (chgO c' x' y') = w1 at X1 Y1 B1 ⊢
  have c0 := X1.out.cell 1
  have c1 := X1.out.cell 2
  have d0 := Y1.out.cell 1
  have d1 := Y1.out.cell 2
  by_cases hx : x = x'
  · have HX := Lib.hid hx
    subst hx
    by_cases hy : y = y'
    · subst hy
      go_wp2_with fail
      go_ret
      exact ⟨ret_bool (by simp), B1.out⟩
    · have HY := Lib.hid hy
      have hyb : (y == y') = false := by simpa using hy
      clear hy
      go_wp2_with fail
      go_ret
      exact ⟨ret_bool (by rw [decide_eq_false HY.out] <;> simp), B1.out⟩
  · have HX := Lib.hid hx
    have hxb : (x == x') = false := by simpa using hx
    clear hx
    go_wp2_with fail
    go_ret
    exact ⟨ret_bool (by rw [decide_eq_false HX.out] <;> simp), B1.out⟩
/-- The column before which change k may not lie. -/
def lastC (L : List Int) (k : Nat) : Int := if k = 0 then 0 else cC L (k - 1)
theorem lastC_succ (L : List Int) (k : Nat) : lastC L (k + 1) = cC L k := by unfold lastC; rw [if_neg (by omega)]; rfl
theorem chg1_prog (L : List Int) (k : Nat) : chg1 L k = (okC (cC L k) (cX L k) (cY L k) && !decide (cC L k < lastC L k)) := by
  apply Bool.eq_iff_iff.2
  rw [chg1_iff]
  unfold okC lastC
  simp only [Bool.and_eq_true, betB_iff, Bool.not_eq_true', decide_eq_false_iff_not]
  by_cases h : k = 0
  · rw [if_pos h]
    constructor
    · rintro ⟨h1, h2, h3, h4⟩
      exact ⟨⟨⟨h1, h3⟩, h4⟩, by omega⟩
    · rintro ⟨⟨⟨h1, h3⟩, h4⟩, h5⟩
      exact ⟨h1, fun h0 => by omega, h3, h4⟩
  · rw [if_neg h]
    constructor
    · rintro ⟨h1, h2, h3, h4⟩
      exact ⟨⟨⟨h1, h3⟩, h4⟩, by have := h2 (by omega); omega⟩
    · rintro ⟨⟨⟨h1, h3⟩, h4⟩, h5⟩
      exact ⟨h1, fun h0 => by omega, h3, h4⟩
theorem chgB_noK {L : List Int} {n : Nat} (h : chgK L n = false) : chgB L n = false := by unfold chgB; rw [h]; rfl
set_option maxHeartbeats 1000000 in
theorem im_chgValid (Al : Option Addr) (n c' : Nat) (L : List Int) (fl : List Nat) (w : World) (h : Ints w Al (3 * n) L fl) (hn : n ≤ 1000000000) :
    Calls Try.prog 11 #[.slice Al n c'] w fun e w' => e = .returned (.bool (chgB L n)) ∧ Below w.heap.size w w' := by
  have H := Lib.hid h
  clear h
  by_cases h8 : n ≤ 8
  · have h8' : ¬ (8 : Int) < n := by omega
    have HB : Hid (chgK L n = true → chgB L n = true) := Lib.hid fun h => by unfold chgB; rw [h]; simpa using h8
    go_enter Try.func11, Try.ntmps11
    go_wp2_with fail
    go_loopw [3, 11] (fun l i ws => ∃ q : Nat, q ≤ n ∧ i = .int .i64 q ∧ l = .int .i64 (lastC L q) ∧ chgK L q = true ∧ Below w.heap.size w ws) (fun _ i _ => n - (intOf i).toNat)
    case atStart => exact ⟨0, by omega, rfl, rfl, rfl, Below.refl _ _⟩
    case round =>
      obtain ⟨q, hq, rfl, rfl, hk, hb⟩ := hrel
      have HK := Lib.hid hk
      have HC := Lib.hid hb
      clear hk hb
      by_cases hlt : q < n
      · obtain ⟨p, o, rfl, _, hpl, hc⟩ := H.out.at_ (by omega)
        clear hc
        have RG := Lib.hid (chg_range (H.out.below HC.out) hlt)
        have HS : Hid (chgK L (q + 1) = (okC (cC L q) (cX L q) (cY L q) && !decide (cC L q < lastC L q))) := Lib.hid (by rw [chgK_step, HK.out, chg1_prog]; rfl)
        have HNO : Hid (chgK L (q + 1) = false → chgB L n = false) := Lib.hid fun h => by
          rw [chgK_step, HK.out] at h
          exact chgB_noK (chgK_no hlt (by simpa using h))
        have HN : Hid (lastC L (q + 1) = cC L q) := Lib.hid (lastC_succ L q)
        generalize cC L q = u at RG HS HN
        generalize cX L q = v at RG HS
        generalize cY L q = z at RG HS
        generalize lastC L q = l at HS ⊢
        have hq' : (q : Int) < n := by omega
        go_wp2_with (first | (refine ch_loadm (by rfl) _ rfl _ _ rfl u v z RG.out ?_) | (refine ch_store (by rfl) _ _ rfl _ rfl u v z rfl _ (Box.new _ _ _) (by rfl) ?_) | (refine ch_load (by rfl) _ rfl _ rfl u v z (Box.row (cs := iv [0, 0, 0]) (Box.new _ _ _)) ?_))
        have XC := Lib.hid (chg_made wr u v z)
        have BC := Lib.hid (below_chg wr u v z)
        refine (im_okC u v z _).mono ?_; rintro e w2 ⟨rfl, b2⟩
        have X2 := Lib.hid (XC.out.below b2)
        have B2 := Lib.hid (below_then HC.out (below_then BC.out b2))
        clear b2 RG XC BC
        cases hok : okC u v z
        · have HF := Lib.hid (HNO.out (by rw [HS.out, hok]; rfl))
          clear hok
          go_wp2_with fail
          go_ret
          exact ⟨ret_bool HF.out.symm, B2.out⟩
        · have HOK := Lib.hid hok
          clear hok
          have c0 := X2.out.cell 0
          by_cases hul : u < l
          · have HF := Lib.hid (HNO.out (by rw [HS.out, decide_eq_true hul]; simp))
            go_wp2_with fail
            go_ret
            exact ⟨ret_bool HF.out.symm, B2.out⟩
          · have HV : Hid (chgK L (q + 1) = true) := Lib.hid (by rw [HS.out, HOK.out, decide_eq_false hul]; rfl)
            go_wp2_with fail
            go_roundw
            case rel => exact ⟨q + 1, by omega, by go_num, by rw [HN.out], HV.out, B2.out⟩
            case measure => simp [intOf]; omega
      · obtain rfl : q = n := by omega
        have HA := Lib.hid (HB.out HK.out)
        go_wp2_with fail
        go_ret
        exact ⟨ret_bool HA.out.symm, HC.out⟩
  · have HD : Hid (chgB L n = false) := Lib.hid (by unfold chgB; rw [decide_eq_false h8]; simp)
    have hgt : (8 : Int) < n := by omega
    go_enter Try.func11, Try.ntmps11
    go_wp2_with fail
    go_ret
    exact ⟨ret_bool HD.out.symm, Below.refl _ _⟩
end Go.Proofs.Ytddllcgbdgpkbaa
