/- Drawn changes. -/
import Derived.Test.YtddllcgbdgpkbaaBmA
import Derived.Test.YtddllcgbdgpkbaaRowE
import Derived.Test.YtddllcgbdgpkbaaFldU
namespace Go.Proofs.Ytddllcgbdgpkbaa
open Go.ChangeShapes Go.WideShapes Go.ChangeAt Go.RowKit
set_option linter.unusedVariables false

/-- What drawing changes leaves. -/
def ChgsDrawn (q m : Nat) (w : World) (e : Ending) (w' : World) : Prop :=
  ∃ (A : Option Addr) (n c : Nat) (L : List Int) (fs : List Nat), e = .returned (.slice A n c) ∧ n ≤ 100 ∧ n ≤ c ∧ Ints w' A (3 * n) L fs ∧ New w.heap.size w' fs ∧ Only [q] w w' ∧ Rd w' q (m + 60)
theorem bms_set3 {w : World} {b : Nat} {t : TypeId} {u v z x y : Int} (h : Box w b t (iv [u, v, z])) : Box ((w.setCell ⟨b, 1, none⟩ (.int .i64 x)).setCell ⟨b, 2, none⟩ (.int .i64 y)) b t (iv [u, x, y]) := by
  have := (h.set 1 (.int .i64 x)).set 2 (.int .i64 y)
  simpa [iv] using this
set_option maxRecDepth 100000 in
set_option maxHeartbeats 4000000 in
theorem changes_any (q m : Nat) (bad : Int) (w : World) (h : Rd w q m) (hm : m ≤ 90000) (hb : 1 ≤ bad) (hb2 : bad ≤ 1000) : Calls Try.prog 34 #[.pointer (some ⟨q, 0, none⟩), .int .i64 bad] w (ChgsDrawn q m w) := by
  have hq := h.lt
  have D1 : Hid (RowD w q m 27 3 (.slice (some ⟨w.heap.size, 0, none⟩) 0 0) 0 (iv []) (w.alloc (.cells #[] 27))) := Lib.hid ⟨own_empty3 w _ _ (Nat.le_refl _), (Only.refl _ w).alloc _, h.alloc _, hq⟩
  clear h
  go_enter Try.func34, Try.ntmps34
  go_wp2_with fail
  generalize w.alloc (.cells #[] 27) = w1 at D1 ⊢
  refine (pick_any q _ 6 _ D1.out.rd (by omega) (by omega) (by omega)).mono ?_
  rintro e w2 ⟨K0, v0, v1, rfl, s2, r2⟩
  have D2 := Lib.hid (D1.out.drawn s2.only r2)
  clear s2 r2 D1
  obtain ⟨K, rfl⟩ : ∃ K : Nat, K0 = K := ⟨K0.toNat, by omega⟩
  have K5 : K ≤ 5 := by omega
  go_wp2_with fail
  clear v0 v1
  generalize (Value.slice (some ⟨w.heap.size, 0, none⟩) 0 0) = ov at D2 ⊢
  go_loopw [5, 6, 7] (fun ov a i wr => ∃ (rr j : Nat) (L : List Int) (at_ : Int), i = .int .i64 rr ∧ a = .int .i64 at_ ∧ 0 ≤ at_ ∧ at_ ≤ 31 ∧ rr + j = K ∧ RowD w q (m + 1 + 4 * j) 27 3 ov j (iv L) wr) (fun _ _ i _ => (intOf i).toNat)
  case atStart => exact ⟨K, 0, [], 0, rfl, rfl, by omega, by omega, by omega, D2.out⟩
  case round =>
    obtain ⟨rr, j, L, at_, rfl, rfl, a0, a1, hrj, hd⟩ := hrel
    have DR := Lib.hid hd
    clear hd D2
    obtain ⟨A, c, fs, rfl, hdc, his, hns, _⟩ := own_chgs DR.out.own
    have IS := Lib.hid his
    have NS := Lib.hid hns
    clear his hns
    by_cases h0 : 0 < rr
    · have i0 : (0 : Int) < rr := by omega
      go_wp2_with fail
      refine (pick_any q _ 9 _ DR.out.rd (by omega) (by omega) (by omega)).mono ?_
      rintro e w4 ⟨v, v0, v1, rfl, s4, r4⟩
      have D4 := Lib.hid (DR.out.drawn s4.only r4)
      clear s4 r4 DR IS NS
      have hwa : IntKind.i64.wrap (at_ + v) = at_ + v := by rw [IntKind.wrap_i64]; omega
      obtain ⟨mn, hmn, mn0, mn1⟩ : ∃ mn : Int, (if at_ + v < 31 then at_ + v else 31) = mn ∧ 0 ≤ mn ∧ mn ≤ 31 := ⟨_, rfl, by split <;> omega, by split <;> omega⟩
      go_wp2_with fail
      refine (pick_any q _ 256 _ D4.out.rd (by omega) (by omega) (by omega)).mono ?_
      rintro e w5 ⟨x, x0, x1, rfl, s5, r5⟩
      have D5 := Lib.hid (D4.out.drawn s5.only r5)
      clear s5 r5 D4 hmn
      go_wp2_with fail
      refine (pick_any q _ 20 _ D5.out.rd (by omega) (by omega) (by omega)).mono ?_
      rintro e w6 ⟨y, y0, y1, rfl, s6, r6⟩
      have D6 := Lib.hid (D5.out.drawn s6.only r6)
      clear s6 r6 D5
      go_upto_region 8 with (fail)
      have XA : Hid (Box (w6.alloc (.cells #[.int .i64 mn, .int .i64 x, .int .i64 y] 27)) w6.heap.size 27 (iv [mn, x, y])) := Lib.hid (Box.new _ _ _)
      have DA := Lib.hid (D6.out.below (below1 w6 (.cells #[.int .i64 mn, .int .i64 x, .int .i64 y] 27)))
      have HB : Hid (∀ g, (Value.slice A j c).ownBlock = some g → g ≠ w6.heap.size) := Lib.hid fun g hg => by have := (own_block D6.out.own g hg).2.1; omega
      have hbs : w.heap.size ≤ w6.heap.size := D6.out.only.size
      generalize w6.alloc (.cells #[.int .i64 mn, .int .i64 x, .int .i64 y] 27) = wa at XA DA ⊢
      generalize w6.heap.size = bs at XA HB hbs ⊢
      clear D6 hwa
      by_cases hj : 0 < j
      · have hj' : (0 : Int) < j := by omega
        go_wp2_with fail
        refine (pick_any q _ 3 _ DA.out.rd (by omega) (by omega) (by omega)).mono ?_
        rintro e wb ⟨z, _, _, rfl, sb, rb⟩
        have DB := Lib.hid (DA.out.drawn sb.only rb)
        have XB := Lib.hid (XA.out.only sb.only (by simp; have := DA.out.hq; omega))
        clear sb rb DA XA
        by_cases hz : z = 0
        · subst hz
          obtain ⟨A5, c5, f5, e5, _, i5, n5, ob5⟩ := own_chgs DB.out.own
          obtain ⟨rfl, -, rfl⟩ : A = A5 ∧ j = j ∧ c = c5 := by injection e5 with a b c; exact ⟨a, rfl, c⟩
          have hpb : ∀ b ∈ f5, b ≠ bs := fun b hb => HB.out b (ob5 b hb)
          have hfb := n5.lt
          obtain ⟨p, o, rfl, hf5, hp5, hc5⟩ := i5.at_ (by omega)
          have hps : p ≠ bs := hpb p (by rw [hf5]; simp)
          obtain ⟨k, rfl⟩ : ∃ k, j = k + 1 := ⟨j - 1, by omega⟩
          have hcc := chg_cell i5 (show k < k + 1 by omega)
          have cx : wb.cell? ⟨p, o + k * 3 + 1, none⟩ = some (.int .i64 (cX L k)) := hcc.2.1
          have cy : (wb.setCell ⟨bs, 1, none⟩ (.int .i64 (cX L k))).cell? ⟨p, o + k * 3 + 2, none⟩ = some (.int .i64 (cY L k)) := by
            rw [World.cell?_setCell_other _ _ _ _ (by intro e; injection e with e1; exact hps e1.symm)]
            exact hcc.2.2
          have g1 := XB.out.frozen 1
          have g2 := XB.out.frozen 2
          have c1 : wb.cell? ⟨bs, 1, none⟩ = some (.int .i64 x) := XB.out.cell 1
          have c2 : (wb.setCell ⟨bs, 1, none⟩ (.int .i64 (cX L k))).cell? ⟨bs, 2, none⟩ = some (.int .i64 y) := (XB.out.set 1 (.int .i64 (cX L k))).cell 2
          have hwk : IntKind.i64.wrap (((k + 1 : Nat) : Int) - 1) = (k : Int) := by rw [IntKind.wrap_i64]; omega
          have hk1 : (k : Int) < ((k + 1 : Nat) : Int) := by omega
          have hk0 : 0 ≤ (k : Int) := by omega
          have XC := Lib.hid (bms_set3 (x := cX L k) (y := cY L k) XB.out)
          have DC := Lib.hid ((DB.out.far (i := 1) HB.out hbs (.int .i64 (cX L k))).far (i := 2) HB.out hbs (.int .i64 (cY L k)))
          generalize cX L k = x' at cx cy c2 XC DC
          generalize cY L k = y' at cy XC DC
          clear hcc hc5 e5 i5 n5 ob5 hfb hpb hf5 XB DB
          go_upto_region 11 with (fail)
          clear cx cy c1 c2 g1 g2
          generalize (wb.setCell ⟨bs, 1, none⟩ (.int .i64 x')).setCell ⟨bs, 2, none⟩ (.int .i64 y') = wc at XC DC ⊢
          go_wp2_with (first | (refine ch_load (by rfl) _ rfl _ rfl mn x' y' XC.out ?_) | (at_builtin; refine wpList_append_chgs rfl _ _ rfl w.heap.size (.slice (some ⟨p, o, none⟩) (k + 1) c) (k + 1) L rfl (DC.out.below (below1 _ _)).own _ 1 1 [mn, x', y'] [wc.heap.size] rfl (lone_chg wc mn x' y') (by omega) (by have := DC.out.only.size; simp; omega) ?_; intro v' w9 own9 gr9 _; have DF := Lib.hid ((DC.out.below (below1 _ _)).grow own9 gr9); clear own9 gr9))
          go_roundw
          case rel => exact ⟨rr - 1, k + 1 + 1, _, mn, by go_num, rfl, mn0, mn1, by omega, DF.out.mono (by omega)⟩
          case measure => simp [intOf]; omega
        · have hz' : decide (z = 0) = false := by simpa using hz
          go_upto_region 11 with (fail)
          go_wp2_with (first | (refine ch_load (by rfl) _ rfl _ rfl mn x y XB.out ?_) | (at_builtin; refine wpList_append_chgs rfl _ _ rfl w.heap.size (.slice A j c) j L rfl (DB.out.below (below1 _ _)).own _ 1 1 [mn, x, y] [wb.heap.size] rfl (lone_chg wb mn x y) (by omega) (by have := DB.out.only.size; simp; omega) ?_; intro v' w9 own9 gr9 _; have DF := Lib.hid ((DB.out.below (below1 _ _)).grow own9 gr9); clear own9 gr9))
          go_roundw
          case rel => exact ⟨rr - 1, j + 1, _, mn, by go_num, rfl, mn0, mn1, by omega, DF.out.mono (by omega)⟩
          case measure => simp [intOf]; omega
      · obtain rfl : j = 0 := by omega
        go_upto_region 11 with (fail)
        go_wp2_with (first | (refine ch_load (by rfl) _ rfl _ rfl mn x y XA.out ?_) | (at_builtin; refine wpList_append_chgs rfl _ _ rfl w.heap.size (.slice A 0 c) 0 L rfl (DA.out.below (below1 _ _)).own _ 1 1 [mn, x, y] [wa.heap.size] rfl (lone_chg wa mn x y) (by omega) (by have := DA.out.only.size; simp; omega) ?_; intro v' w9 own9 gr9 _; have DF := Lib.hid ((DA.out.below (below1 _ _)).grow own9 gr9); clear own9 gr9))
        go_roundw
        case rel => exact ⟨rr - 1, 0 + 1, _, mn, by go_num, rfl, mn0, mn1, by omega, DF.out.mono (by omega)⟩
        case measure => simp [intOf]; omega
    · obtain rfl : rr = 0 := by omega
      obtain rfl : j = K := by omega
      clear h0
      rw [show ((0 : Nat) : Int) = 0 from rfl]
      by_cases hj0 : 0 < j
      · have hj1 : 0 < j := hj0
        have hj' : (0 : Int) < j := by omega
        go_wp2_with fail
        refine (odd_any q _ bad _ DR.out.rd (by omega) (by omega) (by omega)).mono ?_
        rintro e w4 ⟨bb, rfl, s4, r4⟩
        have D4 := Lib.hid (DR.out.drawn s4.only r4)
        clear s4 r4 DR IS NS
        cases bb
        · obtain ⟨A5, c5, f5, e5, _, i5, n5, _⟩ := own_chgs D4.out.own
          obtain ⟨rfl, -, rfl⟩ : A = A5 ∧ j = j ∧ c = c5 := by injection e5 with a b c; exact ⟨a, rfl, c⟩
          have I5 := Lib.hid i5
          have N5 := Lib.hid n5
          clear i5 n5 e5
          go_wp2_with fail
          go_ret
          exact ⟨A, j, c, L, f5, rfl, by omega, hdc, I5.out, N5.out, D4.out.only, D4.out.rd.mono (by omega)⟩
        · go_wp2_with fail
          refine (pick_any q _ 3 _ D4.out.rd (by omega) (by omega) (by omega)).mono ?_
          rintro e wg ⟨sw, sw0, sw1, rfl, s5, r5⟩
          have DG := Lib.hid (D4.out.drawn s5.only r5)
          clear s5 r5 D4
          have zq4 : q < wg.heap.size := DG.out.rd.lt
          have hsw : sw = 0 ∨ sw = 1 ∨ sw = 2 := by omega
          rcases hsw with rfl | rfl | rfl
          · -- case 0
            clear sw0 sw1
            go_wp2_with fail
            refine (pick_any q _ 2 _ (DG.out.below (below1 _ _)).rd (by omega) (by omega) (by omega)).mono ?_
            rintro e w5 ⟨v, v0, v1, rfl, s5, r5⟩
            obtain ⟨u, hu⟩ : ∃ u : Int, (#[Value.int .i64 (-1), .int .i64 32] : Array Value)[v.toNat]? = some (.int .i64 u) := by
              have h : v = 0 ∨ v = 1 := by omega
              rcases h with rfl | rfl <;> exact ⟨_, rfl⟩
            have cu := lit_at2 s5 zq4 hu
            have D5 := Lib.hid ((DG.out.below (below1 _ _)).drawn s5.only r5)
            clear s5 r5 DG
            obtain ⟨A5, c5, f5, e5, _, i5, n5, _⟩ := own_chgs D5.out.own
            obtain ⟨rfl, -, rfl⟩ : A = A5 ∧ j = j ∧ c = c5 := by injection e5 with a b c; exact ⟨a, rfl, c⟩
            obtain ⟨p, o, rfl, hf5, hp5, hc5⟩ := i5.at_ (by omega)
            have I5 := Lib.hid i5
            have N5 := Lib.hid n5
            have cx : w5.cell? ⟨p, o, none⟩ = some (.int .i64 (L.getD 0 0)) := hc5 0 (by omega)
            have gx : w5.frozen? ⟨p, o, none⟩ = false := n5.free p (by rw [hf5]; simp) _
            have HPW : Hid (w.heap.size ≤ p) := Lib.hid (n5.lt p (by rw [hf5]; simp)).1
            have vn : v < ((2 : Nat) : Int) := by omega
            generalize L.getD 0 0 = ox at cx
            clear i5 n5 hc5 hf5 hp5 e5 hu
            go_wp2_with fail
            go_ret
            exact ⟨some ⟨p, o, none⟩, j, c, _, f5, rfl, by omega, hdc, I5.out.set (k := 0) (by omega) u, ⟨N5.out.once, fun x hx => ⟨(N5.out.lt x hx).1, by simpa using (N5.out.lt x hx).2⟩, fun x hx off => by rw [World.frozen?_setCell]; exact N5.out.free x hx off⟩, D5.out.only.setCell (.inr HPW.out) _, (D5.out.rd.mono (by omega)).far (by have := HPW.out; omega) _⟩
          · -- case 1
            clear sw0 sw1
            go_wp2_with fail
            refine (pick_any q _ 2 _ (DG.out.below (below1 _ _)).rd (by omega) (by omega) (by omega)).mono ?_
            rintro e w5 ⟨v, v0, v1, rfl, s5, r5⟩
            obtain ⟨u, hu⟩ : ∃ u : Int, (#[Value.int .i64 (-1), .int .i64 256] : Array Value)[v.toNat]? = some (.int .i64 u) := by
              have h : v = 0 ∨ v = 1 := by omega
              rcases h with rfl | rfl <;> exact ⟨_, rfl⟩
            have cu := lit_at2 s5 zq4 hu
            have D5 := Lib.hid ((DG.out.below (below1 _ _)).drawn s5.only r5)
            clear s5 r5 DG
            obtain ⟨A5, c5, f5, e5, _, i5, n5, _⟩ := own_chgs D5.out.own
            obtain ⟨rfl, -, rfl⟩ : A = A5 ∧ j = j ∧ c = c5 := by injection e5 with a b c; exact ⟨a, rfl, c⟩
            obtain ⟨p, o, rfl, hf5, hp5, hc5⟩ := i5.at_ (by omega)
            have I5 := Lib.hid i5
            have N5 := Lib.hid n5
            have cx : w5.cell? ⟨p, o + 1, none⟩ = some (.int .i64 (L.getD 1 0)) := hc5 1 (by omega)
            have gx : w5.frozen? ⟨p, o + 1, none⟩ = false := n5.free p (by rw [hf5]; simp) _
            have HPW : Hid (w.heap.size ≤ p) := Lib.hid (n5.lt p (by rw [hf5]; simp)).1
            have vn : v < ((2 : Nat) : Int) := by omega
            generalize L.getD 1 0 = ox at cx
            clear i5 n5 hc5 hf5 hp5 e5 hu
            go_wp2_with fail
            go_ret
            exact ⟨some ⟨p, o, none⟩, j, c, _, f5, rfl, by omega, hdc, I5.out.set (k := 1) (by omega) u, ⟨N5.out.once, fun x hx => ⟨(N5.out.lt x hx).1, by simpa using (N5.out.lt x hx).2⟩, fun x hx off => by rw [World.frozen?_setCell]; exact N5.out.free x hx off⟩, D5.out.only.setCell (.inr HPW.out) _, (D5.out.rd.mono (by omega)).far (by have := HPW.out; omega) _⟩
          · -- default
            clear sw0 sw1
            go_upto_region 15 with (at_builtin; refine wpList_append_chgs rfl _ _ rfl w.heap.size (.slice A j c) j L rfl (DG.out.below (below1 _ _)).own _ 1 1 [0, 0, 0] [wg.heap.size] rfl (lone_chg wg 0 0 0) (by omega) (by have := DG.out.only.size; simp; omega) ?_; intro v' w9 own9 gr9 _; obtain ⟨A9, c9, rfl⟩ := own_lenC own9; have DH := Lib.hid ((DG.out.below (below1 _ _)).grow own9 gr9); clear own9 gr9 DG)
            go_upto_region 20 with (at_builtin; refine wpList_append_chgs rfl _ _ rfl w.heap.size (.slice A9 (j + 1) c9) (j + 1) (L ++ [0, 0, 0]) rfl (DH.out.below (below1 _ _)).own _ 2 2 [5, 0, 0, 1, 0, 0] [w9.heap.size] rfl (two_chgs w9 5 0 0 1 0 0) (by omega) (by have := DH.out.only.size; simp; omega) ?_; intro v'' wh ownh grh _; have DK := Lib.hid ((DH.out.below (below1 _ _)).grow ownh grh); clear ownh grh DH)
            obtain ⟨A8, c8, f8, rfl, hc8, i8, n8, _⟩ := own_chgs DK.out.own
            have I8 := Lib.hid i8
            have N8 := Lib.hid n8
            clear i8 n8
            go_wp2_with fail
            go_ret
            exact ⟨A8, j + 1 + 2, c8, _, f8, rfl, by omega, hc8, I8.out, N8.out, DK.out.only, DK.out.rd.mono (by omega)⟩
      · obtain rfl : j = 0 := by omega
        go_wp2_with fail
        go_ret
        exact ⟨A, 0, c, L, fs, rfl, by omega, hdc, IS.out, NS.out, DR.out.only, DR.out.rd.mono (by omega)⟩
end Go.Proofs.Ytddllcgbdgpkbaa
