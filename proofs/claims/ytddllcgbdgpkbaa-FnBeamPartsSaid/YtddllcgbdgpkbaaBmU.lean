/- The model's BeamLine. -/
import Derived.Test.YtddllcgbdgpkbaaBmT
import Derived.Test.YtddllcgbdgpkbaaGC
namespace Go.Proofs.Ytddllcgbdgpkbaa
open Go.ChangeShapes Go.WideShapes Go.ChangeAt Go.RowKit
set_option linter.unusedVariables false

theorem with_has {w : World} {A T : Option Addr} {F : Fld} {fa ft : List Nat} (h : FHas w A T F fa ft) (L : List Int) (k : Nat) : FHas w A T (withF F L k) fa ft := by
  unfold withF
  split
  · exact h
  · exact h
/-- A background's cells. -/
abbrev wcs (G : Fld) (A : Option Addr) (c : Nat) (T : Option Addr) (d : Nat) : List Value := fcs G.w A G.xs.length c T G.nt d G.sx G.sy
theorem bmT_no {F : Fld} {L : List Int} {n : Nat} {y : Int} (h : (fldB F && chgB L n && betB y 0 15) = false) : bmT F L n y = [] := by unfold bmT; rw [h]; rfl
theorem bmT_yes {F : Fld} {L : List Int} {n : Nat} {y : Int} (h1 : fldB F = true) (h2 : chgB L n = true) (h3 : betB y 0 15 = true) : bmT F L n y = bmL F L n y := by unfold bmT; rw [h1, h2, h3]; rfl
theorem grown_box {w w' : World} {row : Option Nat} {b : Nat} {t : TypeId} {cs : List Value} (h : Box w b t cs) (g : w.grownBy w' row) (hr : ∀ k, row = some k → k ≠ b) : Box w' b t cs := (g.block b h.lt fun e => hr b e.symm rfl).trans h
theorem chg_cell {w : World} {p o n : Nat} {L : List Int} {fp : List Nat} (h : Ints w (some ⟨p, o, none⟩) (3 * n) L fp) {k : Nat} (hk : k < n) : w.cell? ⟨p, o + k * 3, none⟩ = some (.int .i64 (cC L k)) ∧ w.cell? ⟨p, o + k * 3 + 1, none⟩ = some (.int .i64 (cX L k)) ∧ w.cell? ⟨p, o + k * 3 + 2, none⟩ = some (.int .i64 (cY L k)) := by
  obtain ⟨p', o', he, _, _, hc⟩ := h.at_ (by omega)
  injection he with he
  injection he with e1 e2 _
  subst e1 e2
  refine ⟨?_, ?_, ?_⟩
  · have := hc (3 * k) (by omega)
    rwa [show o + 3 * k = o + k * 3 by omega] at this
  · have := hc (3 * k + 1) (by omega)
    rwa [show o + (3 * k + 1) = o + k * 3 + 1 by omega] at this
  · have := hc (3 * k + 2) (by omega)
    rwa [show o + (3 * k + 2) = o + k * 3 + 2 by omega] at this
theorem B0X {b3 : Nat} {w w1 w2 : World} (h : Below b3 w w1) (k : Below w1.heap.size w1 w2) (hs : b3 ≤ w1.heap.size) : Below b3 w w2 := h.trans (k.mono hs)
theorem own_far {w : World} {v v' : Value} {b : Nat} (hl : b < w.heap.size) (s : ∀ g, v.ownBlock = some g → g ≠ b) (o : v'.ownBlock = v.ownBlock ∨ v'.ownBlock = some w.heap.size) : ∀ g, v'.ownBlock = some g → g ≠ b := fun g hg => by
  rcases o with e | e
  · exact s g (by rw [← e]; exact hg)
  · have h' := e.symm.trans hg
    injection h' with h'
    omega
theorem own_rowFar {w : World} {base : Nat} {e : TypeId} {s : Nat} {v : Value} {n : Nat} {xs : List Value} (h : w.ownsRow base e s v n xs) {b : Nat} (hb : ∀ g, v.ownBlock = some g → g ≠ b) (cs : Array Value) : (w.setRow b cs).ownsRow base e s v n xs := by
  rcases h with ⟨hl, h | ⟨g, cap, cur, rfl, hg, hh, hr⟩⟩
  · exact ⟨hl, .inl h⟩
  · exact ⟨hl, .inr ⟨g, cap, cur, rfl, hg, (setRow_other w b g cs (hb g rfl)).trans hh, hr⟩⟩
theorem with_step (F : Fld) (L : List Int) (k : Nat) : withF F L (k + 1) = ⟨F.w, F.xs, F.nt, F.zs, cX L k, cY L k⟩ := by unfold withF; rw [if_neg (by omega)]; rfl
theorem with_same (F : Fld) (L : List Int) (k : Nat) : (withF F L k).w = F.w ∧ (withF F L k).xs = F.xs ∧ (withF F L k).nt = F.nt ∧ (withF F L k).zs = F.zs := by unfold withF; split <;> exact ⟨rfl, rfl, rfl, rfl⟩
theorem with_zero (F : Fld) (L : List Int) : withF F L 0 = F := rfl
set_option maxRecDepth 100000 in
set_option maxHeartbeats 4000000 in
theorem spec_bmLine (F : Fld) (A : Option Addr) (c : Nat) (T : Option Addr) (d : Nat) (fa ft : List Nat) (Al : Option Addr) (n c' : Nat) (L : List Int) (fl : List Nat) (y : Int) (w : World) (hF : FHas w A T F fa ft) (hL : Ints w Al (3 * n) L fl) (hs : FSmall F) (hn : n ≤ 1000000000) :
    Calls Try.prog 17 #[fv F A c T d, .int .i64 y, .slice Al n c'] w (Copied (bmT F L n y) (bmT F L n y).length w) := by
  obtain ⟨w1, hw1⟩ : ∃ w1, w1 = (w.alloc (.cells #[.int .i64 F.w, .slice A F.xs.length c, .slice T F.nt d, .int .i64 F.sx, .int .i64 F.sy] 33)).alloc (.cells #[] 3) := ⟨_, rfl⟩
  have X1 : Hid (Box w1 w.heap.size 33 (fcs F.w A F.xs.length c T F.nt d F.sx F.sy)) := by rw [hw1]; exact (Box.new w _ _).alloc _
  have E1 : Hid (w1.ownsRow (w.heap.size + 1) 3 1 (.slice (some ⟨w.heap.size + 1, 0, none⟩) 0 0) 0 (iv [])) := by
    rw [hw1]
    have := own_empty (w.alloc (.cells #[.int .i64 F.w, .slice A F.xs.length c, .slice T F.nt d, .int .i64 F.sx, .int .i64 F.sy] 33)) 3 (w.heap.size + 1) (by simp)
    exact Lib.hid (by simpa using this)
  have B1 : Hid (Below w.heap.size w w1) := by rw [hw1]; exact below2 w _ _
  have hw1s : w.heap.size + 2 = w1.heap.size := by rw [hw1]; simp
  have HS := Lib.hid hs
  have HFR : Hid (∀ W, Below w.heap.size w W → FHas W A T F fa ft) := Lib.hid fun W h => hF.below h
  have HLR : Hid (∀ W, Below w.heap.size w W → Ints W Al (3 * n) L fl) := Lib.hid fun W h => hL.below h
  have HZ := Lib.hid hF.2.1
  clear hF hL hs
  go_enter Try.func17, Try.ntmps17
  go_upto_region 2 with (fail)
  rw [← hw1]
  clear hw1
  generalize hb3 : w.heap.size = b3 at X1 E1 B1 HFR HLR hw1s ⊢
  have HB3 := Lib.hid hb3
  clear hb3
  go_wp2_with (first | (refine fs_load (by rfl) _ rfl b3 rfl X1.out ?_))
  refine (spec_fieldValid F A c T d fa ft _ (HFR.out _ B1.out) HS.out).mono ?_; rintro e w2 ⟨rfl, bl⟩
  have X2 := Lib.hid (X1.out.below bl)
  have E2 := Lib.hid (own_keep E1.out bl)
  have B2 : Hid (Below b3 w w2) := Lib.hid (B1.out.trans (bl.mono (by omega)))
  have hw2s : b3 + 2 ≤ w2.heap.size := by have := bl.size; omega
  have HNB : Hid (b3 ≤ w.heap.size) := Lib.hid (by have := HB3.out; omega)
  clear bl X1 E1 B1 hw1s
  cases hv : fldB F
  · have HT : Hid (bmT F L n y = []) := Lib.hid (bmT_no (by rw [hv]; rfl))
    clear hv
    go_wp2_with fail
    go_ret
    rw [HT.out]
    show Copied [] 0 w _ _
    exact ⟨_, 0, [], rfl, by omega, Ints.nil _ _, .nil _ _, by rw [HB3.out]; exact B2.out⟩
  have HF := Lib.hid hv
  go_wp2_with fail
  refine (spec_chgValid Al n c' L fl _ (HLR.out _ B2.out) hn).mono ?_; rintro e w3 ⟨rfl, bl⟩
  have X3 := Lib.hid (X2.out.below bl)
  have E3 := Lib.hid (own_keep E2.out bl)
  have B3 : Hid (Below b3 w w3) := Lib.hid (B2.out.trans (bl.mono (by omega)))
  have hw3s : b3 + 2 ≤ w3.heap.size := by have := bl.size; omega
  clear bl X2 E2 B2 hw2s
  cases hc : chgB L n
  · have HT : Hid (bmT F L n y = []) := Lib.hid (bmT_no (by rw [hc]; simp))
    clear hv hc
    go_wp2_with fail
    go_ret
    rw [HT.out]
    show Copied [] 0 w _ _
    exact ⟨_, 0, [], rfl, by omega, Ints.nil _ _, .nil _ _, by rw [HB3.out]; exact B3.out⟩
  have HC := Lib.hid hc
  go_wp2_with fail
  refine (l1In_any y 0 15 _).mono ?_; rintro e w4 ⟨rfl, rfl⟩
  cases hy : betB y 0 15
  · have HT : Hid (bmT F L n y = []) := Lib.hid (bmT_no (by rw [hy, Bool.and_false]))
    clear hv hc hy
    go_wp2_with fail
    go_ret
    rw [HT.out]
    show Copied [] 0 w _ _
    exact ⟨_, 0, [], rfl, by omega, Ints.nil _ _, .nil _ _, by rw [HB3.out]; exact B3.out⟩
  have HT := Lib.hid (bmT_yes hv hc hy)
  have hyb := betB_iff.1 hy
  have HOK := Lib.hid (fldB_iff.1 hv)
  have HKN : Hid (chgK L n = true) := Lib.hid (by unfold chgB at hc; rw [Bool.and_eq_true] at hc; exact hc.1)
  have HL : Hid ((bmL F L n y).take 0 = []) := Lib.hid (List.take_zero)
  clear hv hc hy
  have e30 : b3 + 1 ≠ w3.heap.size := by omega
  obtain ⟨w5, hw5⟩ : ∃ w5, w5 = w3.alloc (.cells #[.int .i64 F.w, .slice A F.xs.length c, .slice T F.nt d, .int .i64 F.sx, .int .i64 F.sy] 33) := ⟨_, rfl⟩
  go_upto_region 5 with (first | (refine fs_load (by rfl) _ rfl b3 rfl X3.out ?_))
  have X5 : Hid (Box w5 b3 33 (fcs F.w A F.xs.length c T F.nt d F.sx F.sy)) := Lib.hid (by rw [hw5]; exact X3.out.alloc _)
  have N5 : Hid (Box w5 w3.heap.size 33 (wcs (withF F L 0) A c T d)) := Lib.hid (by rw [hw5, with_zero]; exact Box.new _ _ _)
  have E5 : Hid (w5.ownsRow (b3 + 1) 3 1 (.slice (some ⟨b3 + 1, 0, none⟩) 0 0) 0 (iv [])) := Lib.hid (by rw [hw5]; exact own_keep E3.out (below1 _ _))
  have B5 : Hid (Below b3 w w5) := Lib.hid (by rw [hw5]; exact B3.out.alloc (by omega) _)
  rw [← hw5]
  clear hw5 X3 E3 B3
  generalize w3.heap.size = b8 at N5 e30 hw3s ⊢
  go_wp2_with fail
  go_loopw [7, 9, 10] (fun v ai i wr => ∃ (k a : Nat) (A2 : Option Addr) (d2 : Nat), k ≤ 32 ∧ a ≤ n ∧ v = .slice A2 k d2 ∧ ai = .int .i64 a ∧ i = .int .i64 k ∧ wr.ownsRow (b3 + 1) 3 1 (.slice A2 k d2) k (iv ((bmL F L n y).take k)) ∧ Box wr b3 33 (fcs F.w A F.xs.length c T F.nt d F.sx F.sy) ∧ Box wr b8 33 (wcs (withF F L a) A c T d) ∧ Below b3 w wr ∧ (∀ g, (Value.slice A2 k d2).ownBlock = some g → g ≠ b8) ∧ (∀ j, j < a → cC L j ≤ (k : Int))) (fun _ _ i _ => 32 - (intOf i).toNat)
  case atStart => exact ⟨0, 0, _, _, by omega, by omega, rfl, rfl, rfl, by rw [HL.out]; exact E5.out, X5.out, N5.out, B5.out, fun g hg => by have h2 : some (b3 + 1) = some g := hg; injection h2 with h2; omega, fun j hj => by omega⟩
  case round =>
    obtain ⟨xk, a, A2, d2, hk, ha, rfl, rfl, rfl, ho, hx, hn8, hb, hsep, hle⟩ := hrel
    have OR := Lib.hid ho
    have XR := Lib.hid hx
    have NR := Lib.hid hn8
    have BR := Lib.hid hb
    have SR := Lib.hid hsep
    have LR := Lib.hid hle
    clear ho hx hn8 hb hsep hle X5 N5 E5 B5
    by_cases h32 : xk < 32
    · have i32 : (xk : Int) < 32 := by omega
      go_wp2_with fail
      go_loopw [9] (fun ai ws => ∃ k : Nat, k ≤ n ∧ ai = .int .i64 k ∧ ws.ownsRow (b3 + 1) 3 1 (.slice A2 xk d2) xk (iv ((bmL F L n y).take xk)) ∧ Box ws b3 33 (fcs F.w A F.xs.length c T F.nt d F.sx F.sy) ∧ Box ws b8 33 (wcs (withF F L k) A c T d) ∧ Below b3 w ws ∧ (∀ j, j < k → cC L j ≤ (xk : Int))) (fun ai _ => n - (intOf ai).toNat)
      case atStart => exact ⟨a, ha, rfl, OR.out, XR.out, NR.out, BR.out, LR.out⟩
      case round =>
        obtain ⟨k, hkn, rfl, ho, hx, hn8, hb, hle⟩ := hrel
        have OW := Lib.hid ho
        have XW := Lib.hid hx
        have NW := Lib.hid hn8
        have BW := Lib.hid hb
        have LW := Lib.hid hle
        clear ho hx hn8 hb hle OR XR NR BR LR
        have hex : (k = n ∨ (xk : Int) < cC L k) ∨ (k < n ∧ cC L k ≤ (xk : Int)) := by omega
        rcases hex with hex | ⟨hlt, hcx⟩
        · have HPX : Hid (bmF F L n (xk : Int) y = pixF (withF F L k) (xk : Int) y) := Lib.hid (by unfold bmF; rw [cnt_walk HKN.out hkn LW.out hex])
          have HX : Hid (k = n ∨ (k < n ∧ (xk : Int) < cC L k)) := Lib.hid (by omega)
          clear hex
          have OKW := Lib.hid (with_ok (L := L) (n := n) HOK.out HKN.out hkn)
          have HNT := Lib.hid (bmL_take F L n y xk h32)
          by_cases hkn2 : k = n
          · obtain rfl : n = k := hkn2.symm
            go_upto_region 12 with fail
            have HFK := Lib.hid (with_has (HFR.out _ BW.out) L n)
            go_wp2_with (first | (refine fs_load (by rfl) _ rfl b8 rfl NW.out ?_))
            refine (spec_pix (withF F L n) A c T d fa ft (xk : Int) y _ HFK.out OKW.out (by omega) (by omega) hyb.1 hyb.2).mono ?_; rintro e w6 ⟨rfl, b6⟩
            rw [← HPX.out]
            generalize bmF F L n (xk : Int) y = v at HNT ⊢
            have s6 : b3 + 1 ≤ w6.heap.size := by have := XW.out.lt; have := b6.size; omega
            have O6 := Lib.hid (own_keep (own_keep OW.out b6) (below1 w6 (.cells #[.int .i64 v] 3)))
            have I6 : Hid (Ints (w6.alloc (.cells #[.int .i64 v] 3)) (some ⟨w6.heap.size, 0, none⟩) 1 [v] [w6.heap.size]) := Lib.hid (lone_int w6 v)
            have X6 := Lib.hid ((XW.out.below b6).alloc (.cells #[.int .i64 v] 3))
            have N6 := Lib.hid ((NW.out.below b6).alloc (.cells #[.int .i64 v] 3))
            have B6 : Hid (Below b3 w (w6.alloc (.cells #[.int .i64 v] 3))) := Lib.hid ((B0X BW.out b6 (by have := BW.out.size; have := HNB.out; omega)).alloc (by omega) (.cells #[.int .i64 v] 3))
            have hb1 : b3 + 1 ≤ (w6.alloc (.cells #[.int .i64 v] 3)).heap.size := by simp; omega
            clear b6 XW NW BW OW
            go_wp2_with (at_builtin; refine wpList_append_ints rfl _ _ rfl (b3 + 1) _ xk _ rfl O6.out _ _ _ [v] _ rfl I6.out (by omega) hb1 ?_; intro v' w7 own7 gr7 ob7; obtain ⟨A7, d7, _, rfl, _⟩ := own_ints own7; have b7 := below_grown (Below.refl (b3 + 1) _) gr7 hb1 (fun b hb => (own_lt O6.out b hb).1); have X7 := Lib.hid (X6.out.keep b7 (by omega)); have N7 := Lib.hid (grown_box N6.out gr7 SR.out); have B7 := Lib.hid (B6.out.trans (b7.mono (by omega))); have S7 := Lib.hid (own_far N6.out.lt SR.out ob7); have O7 := Lib.hid own7; clear own7 gr7 b7 X6 N6 B6 O6 I6 ob7 SR)
            go_roundw
            case rel => exact ⟨xk + 1, n, _, _, by omega, by omega, rfl, rfl, by go_num, by rw [HNT.out]; exact O7.out, X7.out, N7.out, B7.out, S7.out, fun j hj => by have := LW.out j hj; omega⟩
            case measure => simp [intOf]; omega
          · have hlt : k < n := by omega
            have hgt : (xk : Int) < cC L k := by have := HX.out; omega
            have IL := HLR.out _ BW.out
            have hkn' : (k : Int) < n := by omega
            obtain ⟨p, o, rfl, _, _, hcz⟩ := IL.at_ (by omega)
            clear hcz
            have c1 := (chg_cell IL hlt).1
            generalize cC L k = ck at c1 hgt HX
            have hgd : decide (ck ≤ (xk : Int)) = false := decide_eq_false (by omega)
            clear IL
            go_upto_region 12 with fail
            clear c1
            have HFK := Lib.hid (with_has (HFR.out _ BW.out) L k)
            go_wp2_with (first | (refine fs_load (by rfl) _ rfl b8 rfl NW.out ?_))
            refine (spec_pix (withF F L k) A c T d fa ft (xk : Int) y _ HFK.out OKW.out (by omega) (by omega) hyb.1 hyb.2).mono ?_; rintro e w6 ⟨rfl, b6⟩
            rw [← HPX.out]
            generalize bmF F L n (xk : Int) y = v at HNT ⊢
            have s6 : b3 + 1 ≤ w6.heap.size := by have := XW.out.lt; have := b6.size; omega
            have O6 := Lib.hid (own_keep (own_keep OW.out b6) (below1 w6 (.cells #[.int .i64 v] 3)))
            have I6 : Hid (Ints (w6.alloc (.cells #[.int .i64 v] 3)) (some ⟨w6.heap.size, 0, none⟩) 1 [v] [w6.heap.size]) := Lib.hid (lone_int w6 v)
            have X6 := Lib.hid ((XW.out.below b6).alloc (.cells #[.int .i64 v] 3))
            have N6 := Lib.hid ((NW.out.below b6).alloc (.cells #[.int .i64 v] 3))
            have B6 : Hid (Below b3 w (w6.alloc (.cells #[.int .i64 v] 3))) := Lib.hid ((B0X BW.out b6 (by have := BW.out.size; have := HNB.out; omega)).alloc (by omega) (.cells #[.int .i64 v] 3))
            have hb1 : b3 + 1 ≤ (w6.alloc (.cells #[.int .i64 v] 3)).heap.size := by simp; omega
            clear b6 XW NW BW OW
            go_wp2_with (at_builtin; refine wpList_append_ints rfl _ _ rfl (b3 + 1) _ xk _ rfl O6.out _ _ _ [v] _ rfl I6.out (by omega) hb1 ?_; intro v' w7 own7 gr7 ob7; obtain ⟨A7, d7, _, rfl, _⟩ := own_ints own7; have b7 := below_grown (Below.refl (b3 + 1) _) gr7 hb1 (fun b hb => (own_lt O6.out b hb).1); have X7 := Lib.hid (X6.out.keep b7 (by omega)); have N7 := Lib.hid (grown_box N6.out gr7 SR.out); have B7 := Lib.hid (B6.out.trans (b7.mono (by omega))); have S7 := Lib.hid (own_far N6.out.lt SR.out ob7); have O7 := Lib.hid own7; clear own7 gr7 b7 X6 N6 B6 O6 I6 ob7 SR)
            go_roundw
            case rel => exact ⟨xk + 1, k, _, _, by omega, by omega, rfl, rfl, by go_num, by rw [HNT.out]; exact O7.out, X7.out, N7.out, B7.out, S7.out, fun j hj => by have := LW.out j hj; omega⟩
            case measure => simp [intOf]; omega
        · have IL := HLR.out _ BW.out
          have hkn' : (k : Int) < n := by omega
          have HLT := Lib.hid hkn'
          obtain ⟨p, o, rfl, _, _, hcz⟩ := IL.at_ (by omega)
          clear hcz
          have c1 := (chg_cell IL hlt).1
          have HC1 : Hid (∀ wx, Below wr.heap.size wr wx → wx.cell? ⟨p, o + k * 3 + 1, none⟩ = some (.int .i64 (cX L k))) := Lib.hid fun wx hb => (chg_cell (IL.below hb) hlt).2.1
          have HC2 : Hid (∀ wx, Below wr.heap.size wr wx → wx.cell? ⟨p, o + k * 3 + 2, none⟩ = some (.int .i64 (cY L k))) := Lib.hid fun wx hb => (chg_cell (IL.below hb) hlt).2.2
          have HLE : Hid (∀ j, j < k + 1 → cC L j ≤ (xk : Int)) := Lib.hid fun j hj => by
            by_cases e : j = k
            · subst e; exact hcx
            · exact LW.out j (by omega)
          have HWS : Hid (wcs (withF F L (k + 1)) A c T d = fcs F.w A F.xs.length c T F.nt d (cX L k) (cY L k)) := Lib.hid (by rw [with_step])
          generalize cC L k = ck at c1 hcx
          generalize cX L k = cx at HC1 HWS
          generalize cY L k = cy at HC2 HWS
          clear IL
          go_upto_region 10 with fail
          clear c1
          refine wp_region_end (by dsimp only [List.dropLast]) rfl (ClB wr) RlB
            (Ty [TV (fv F A c T d), TV (.slice (some ⟨p, o, none⟩) n c'), TV (.int .i64 (k : Int)), TV (.pointer (some ⟨p, o + k * 3, none⟩)), TV (.pointer (some ⟨p, o + k * 3 + 1, none⟩)), TV (.int .i64 cx), TV (.slice (some ⟨p, o, none⟩) n c'), TV (.int .i64 (k : Int)), TV (.pointer (some ⟨p, o + k * 3, none⟩)), TV (.pointer (some ⟨p, o + k * 3 + 2, none⟩)), TV (.int .i64 cy), TV (fldV F.w A F.xs.length c T F.nt d cx cy)])
            (by kernel_rfl) (by kernel_rfl) (by kernel_rfl) (stab_ty _ ⟨stabB_k _, stabB_k _, stabB_k _, stabB_k _, stabB_k _, stabB_k _, stabB_k _, stabB_k _, stabB_k _, stabB_k _, stabB_k _, stabB_k _, trivial⟩) (Below.refl _ _).drew ?_ ?_
          · refine ⟨?_, ?_, ?_, ?_, ?_, ?_, ?_, ?_, ?_, ?_, ?_, ?_, trivial⟩
            · refine lb_fld (.tmp 3) b3 rfl XW.out (fun _ _ _ => want_none rfl) fun ρ wx hx hp => ⟨hx 3 rfl, rfl⟩
            · exact lb_move (.tmp 2) (.inl rfl) (fun _ _ _ => want_none rfl) fun ρ wx hc hx hp => hx 2 rfl
            · exact lb_move (.tmp 9) (.inl rfl) (fun _ _ _ => want_none rfl) fun ρ wx hc hx hp => hx 9 rfl
            · refine lb_val (.pointer (some ⟨p, o + k * 3, none⟩)) (fun _ _ _ => want_none rfl) fun ρ wx hb hc hx hp => ⟨?_, rfl⟩
              have h45 : ρ (.tmp 45) = .slice (some ⟨p, o, none⟩) n c' := hp.1 rfl
              have h46 : ρ (.tmp 46) = .int .i64 (k : Int) := hp.2.1 rfl
              have h0 := HLT.out
              unfold execOp
              simp only [h45, h46]
              clear h45 h46 hx hp hc hb
              go_simp
            · refine lb_val (.pointer (some ⟨p, o + k * 3 + 1, none⟩)) (fun _ _ _ => want_none rfl) fun ρ wx hb hc hx hp => ⟨?_, rfl⟩
              have h47 : ρ (.tmp 47) = .pointer (some ⟨p, o + k * 3, none⟩) := hp.1 rfl
              unfold execOp
              simp only [h47]
              clear h47 hx hp hc hb
              go_simp
            · refine lb_val (.int .i64 cx) (fun _ _ _ => want_none rfl) fun ρ wx hb hc hx hp => ⟨?_, rfl⟩
              have h48 : ρ (.tmp 48) = .pointer (some ⟨p, o + k * 3 + 1, none⟩) := hp.1 rfl
              have c1 := HC1.out wx hb
              unfold execOp
              simp only [h48]
              clear h48 hx hp hc hb
              go_simp
            · exact lb_move (.tmp 2) (.inl rfl) (fun _ _ _ => want_none rfl) fun ρ wx hc hx hp => hx 2 rfl
            · exact lb_move (.tmp 9) (.inl rfl) (fun _ _ _ => want_none rfl) fun ρ wx hc hx hp => hx 9 rfl
            · refine lb_val (.pointer (some ⟨p, o + k * 3, none⟩)) (fun _ _ _ => want_none rfl) fun ρ wx hb hc hx hp => ⟨?_, rfl⟩
              have h50 : ρ (.tmp 50) = .slice (some ⟨p, o, none⟩) n c' := hp.1 rfl
              have h51 : ρ (.tmp 51) = .int .i64 (k : Int) := hp.2.1 rfl
              have h0 := HLT.out
              unfold execOp
              simp only [h50, h51]
              clear h50 h51 hx hp hc hb
              go_simp
            · refine lb_val (.pointer (some ⟨p, o + k * 3 + 2, none⟩)) (fun _ _ _ => want_none rfl) fun ρ wx hb hc hx hp => ⟨?_, rfl⟩
              have h52 : ρ (.tmp 52) = .pointer (some ⟨p, o + k * 3, none⟩) := hp.1 rfl
              unfold execOp
              simp only [h52]
              clear h52 hx hp hc hb
              go_simp
            · refine lb_val (.int .i64 cy) (fun _ _ _ => want_none rfl) fun ρ wx hb hc hx hp => ⟨?_, rfl⟩
              have h53 : ρ (.tmp 53) = .pointer (some ⟨p, o + k * 3 + 2, none⟩) := hp.1 rfl
              have c1 := HC2.out wx hb
              unfold execOp
              simp only [h53]
              clear h53 hx hp hc hb
              go_simp
            · refine lb_known _ _ _ (fldV F.w A F.xs.length c T F.nt d cx cy) (fun _ _ => by simp [go_sem]) rfl (fun _ _ _ => want_none rfl) #[fv F A c T d, .int .i64 cx, .int .i64 cy] (fun wq hb => spec_with F A c T d cx cy wq) (fun ρ wx hc hx hp => ?_) (fun _ => rfl)
              have h0 : ρ (.tmp 44) = fv F A c T d := hp.1 rfl
              have h1 : ρ (.tmp 49) = .int .i64 cx := hp.2.1 rfl
              have h2 : ρ (.tmp 54) = .int .i64 cy := hp.2.2.1 rfl
              simp only [List.map_toArray, List.map_cons, List.map_nil, h0, h1, h2]
          intro vs wx hI hF
          obtain ⟨-, -, -, -, -, -, -, -, -, -, -, h11, -⟩ := hF
          replace h11 : vs 11 = fldV F.w A F.xs.length c T F.nt d cx cy := h11
          have NX := Lib.hid (NW.out.below hI)
          have HI := Lib.hid hI
          simp only [putAll, Act.put, List.setIfInBounds_toArray, List.set_cons_zero, List.set_cons_succ, h11]
          refine ⟨wx.setRow b8 (fcs F.w A F.xs.length c T F.nt d cx cy).toArray, exec_storeF _ _ (.tmp 8) (.tmp 55) wx b8 (W := F.w) (A := A) (n := F.xs.length) (c := c) (Tt := T) (m := F.nt) (d := d) (sx := cx) (sy := cy) rfl rfl rfl NX.out rfl, ?_⟩
          have XX := Lib.hid ((XW.out.below hI).rowFar (g := b8) (ds := (fcs F.w A F.xs.length c T F.nt d cx cy).toArray) (by omega))
          have NX2 : Hid (Box (wx.setRow b8 (fcs F.w A F.xs.length c T F.nt d cx cy).toArray) b8 33 (wcs (withF F L (k + 1)) A c T d)) := Lib.hid (by rw [HWS.out]; exact Box.row NX.out)
          have OX := Lib.hid (own_rowFar (own_keep_any OW.out hI) SR.out (fcs F.w A F.xs.length c T F.nt d cx cy).toArray)
          have BX : Hid (Below b3 w (wx.setRow b8 (fcs F.w A F.xs.length c T F.nt d cx cy).toArray)) := Lib.hid (below_row (B := b3) (B0X BW.out hI (by have := BW.out.size; have := HNB.out; omega)) (by omega) _)
          clear hI h11 NX XW NW OW BW HC1 HC2
          go_wp2_with fail
          go_roundw
          case rel => exact ⟨k + 1, by omega, by go_num, OX.out, XX.out, NX2.out, BX.out, HLE.out⟩
          case measure => simp [intOf]; omega
    · obtain rfl : xk = 32 := by omega
      have OF : Hid (Copied (bmT F L n y) (bmT F L n y).length w (.returned (.slice A2 32 d2)) wr) := by
        have h := OR.out
        rw [List.take_of_length_le (by rw [bmL_len]; omega)] at h
        rw [HT.out, bmL_len]
        exact copied_own (own_down h (by have := HB3.out; omega)) (by rw [HB3.out]; exact BR.out)
      go_wp2_with fail
      go_ret
      exact OF.out
end Go.Proofs.Ytddllcgbdgpkbaa
