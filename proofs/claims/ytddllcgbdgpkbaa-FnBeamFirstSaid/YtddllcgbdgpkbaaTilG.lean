/- A drawn tile. -/
import Derived.Test.YtddllcgbdgpkbaaTilB
import Derived.Test.YtddllcgbdgpkbaaGC
import Derived.Test.YtddllcgbdgpkbaaRowIn
import Derived.Deep.DeepCutAuto
namespace Go.Proofs.Ytddllcgbdgpkbaa
open Go.ChangeShapes Go.WideShapes Go.ChangeAt Go.RowKit
set_option linter.unusedVariables false

/-- All pixels are in l..h. -/
def PxIn (l h : Int) (px : List Int) : Prop := px.length = 64 ∧ ∀ i, i < 64 → l ≤ px.getD i 0 ∧ px.getD i 0 ≤ h
theorem PxIn.z64 : PxIn 0 3 z64 := ⟨z64_len, fun i _ => by rw [z64_get]; omega⟩
theorem PxIn.mono {l h l' h' : Int} {px : List Int} (p : PxIn l h px) (hl : l' ≤ l) (hh : h ≤ h') : PxIn l' h' px := ⟨p.1, fun i hi => by have := p.2 i hi; omega⟩
theorem PxIn.set {l h : Int} {px : List Int} (p : PxIn l h px) (k : Nat) (v : Int) (v0 : l ≤ v) (v1 : v ≤ h) : PxIn l h (px.set k v) := by
  refine ⟨by rw [List.length_set]; exact p.1, fun i hi => ?_⟩
  have hp := p.2 i hi
  rw [List.getD_eq_getElem?_getD, List.getElem?_set]
  by_cases e : k = i
  · rw [if_pos e]
    by_cases hk : k < px.length
    · rw [if_pos hk]; exact ⟨v0, v1⟩
    · have := p.1; omega
  · rw [if_neg e, ← List.getD_eq_getElem?_getD]; exact hp
theorem iv_put (px : List Int) (i : Nat) (v : Int) : (iv px).set i (.int .i64 v) = iv (px.set i v) := by simp [List.map_set]
theorem two_4 (v : Int) (d0 : 0 ≤ v) (d1 : v < 2) : ∃ u : Int, (#[Value.int .i64 (-1), .int .i64 4] : Array Value)[v.toNat]? = some (.int .i64 u) ∧ -1 ≤ u ∧ u ≤ 4 := by
  have h : v = 0 ∨ v = 1 := by omega
  rcases h with rfl | rfl <;> exact ⟨_, rfl, by omega, by omega⟩
theorem odd_le (q m : Nat) (n : Int) (w : World) (h : Rd w q m) (hm : m ≤ 1000000) (hn : 0 ≤ n) (hn2 : n ≤ 1000000) : Calls Try.prog 58 #[.pointer (some ⟨q, 0, none⟩), .int .i64 n] w (Odded q m w) := by
  by_cases h0 : n = 0
  · subst h0
    refine (odd_zero q w).mono ?_
    rintro e w' ⟨rfl, rfl⟩
    exact ⟨false, rfl, Sole.refl _ _, h.mono (by omega)⟩
  · exact odd_any q m n w h (by omega) (by omega) (by omega)
/-- What drawing a tile leaves. -/
def TilDrawn (q m : Nat) (w : World) (e : Ending) (w' : World) : Prop := ∃ px, PxIn (-1) 4 px ∧ e = .returned (tilV px) ∧ Only [q] w w' ∧ Rd w' q (m + 140)
set_option maxRecDepth 100000 in
set_option maxHeartbeats 4000000 in
theorem tile_any (q m : Nat) (n : Int) (w : World) (h : Rd w q m) (hm : m ≤ 100000) (hn : 0 ≤ n) (hn2 : n ≤ 1000) : Calls Try.prog 62 #[.pointer (some ⟨q, 0, none⟩), .int .i64 n] w (TilDrawn q m w) := by
  have hq := h.lt
  have R0 := Lib.hid h
  clear h
  go_enter Try.func62, Try.ntmps62
  go_wp2_with (first | (refine st_alloc (by rfl) rfl ?_) | (refine st_build (by rfl) rfl ?_) | (refine st_store (by rfl) _ _ rfl _ rfl z64 rfl z64_len (iv z64) (Box.new_at _ _ _ _ (by simp)) (by simp [z64_len]) ?_))
  obtain ⟨w1, hw1⟩ : ∃ w1, w1 = ((w.alloc (.cells (iv z64).toArray 74)).alloc (.cells (iv z64).toArray 74)).setRow (w.heap.size + 1) (iv z64).toArray := ⟨_, rfl⟩
  have X1 : Hid (Box w1 w.heap.size 74 (iv z64)) := by rw [hw1]; exact ((Box.new w _ _).alloc _).rowFar (by omega)
  have Y1 : Hid (Box w1 (w.heap.size + 1) 74 (iv z64)) := by rw [hw1]; exact Box.row (cs := iv z64) (Box.new_at _ _ _ _ (by simp))
  have O1 : Hid (Only [q] w w1) := by rw [hw1]; exact (((Only.refl _ w).alloc _).alloc _).row (.inr (by omega)) _
  have R1 : Hid (Rd w1 q m) := by rw [hw1]; exact ((R0.out.alloc _).alloc _).stay (below_row (Below.refl _ _) (by omega) _)
  rw [← hw1]
  clear hw1 R0
  generalize hbr : w.heap.size = br at X1 Y1 ⊢
  generalize hbx : br + 1 = bx at Y1 ⊢
  have hne : br ≠ q ∧ bx ≠ q ∧ br ≠ bx ∧ q < bx ∧ w.heap.size ≤ bx ∧ w.heap.size ≤ br := by omega
  have HN := Lib.hid hne
  clear hne hbr hbx
  refine (pick_any q _ 4 _ R1.out (by omega) (by omega) (by omega)).mono ?_
  rintro e w2 ⟨v, v0, v1, rfl, s2, r2⟩
  have X2 := Lib.hid (X1.out.only s2.only (by simpa using HN.out.1))
  have Y2 := Lib.hid (Y1.out.only s2.only (by simpa using HN.out.2.1))
  have O2 := Lib.hid (O1.out.trans s2.only)
  have R2 := Lib.hid r2
  clear s2 r2 X1 Y1 O1 R1
  go_wp2_with fail
  refine (pick_any q _ 9 _ R2.out (by omega) (by omega) (by omega)).mono ?_
  rintro e w3 ⟨st, st0, st1, rfl, s3, r3⟩
  have X3 := Lib.hid (X2.out.only s3.only (by simpa using HN.out.1))
  have Y3 := Lib.hid (Y2.out.only s3.only (by simpa using HN.out.2.1))
  have O3 := Lib.hid (O2.out.trans s3.only)
  have R3 := Lib.hid r3
  clear s3 r3 X2 Y2 O2 R2
  go_wp2_with fail
  obtain ⟨sy, hsy⟩ : ∃ sy, 1 + st = sy := ⟨_, rfl⟩
  have sy0 : 1 ≤ sy := by omega
  have sy1 : sy ≤ 9 := by omega
  rw [hsy]
  clear hsy
  go_loopw [6, 8] (fun u i wr => ∃ (k : Nat) (v : Int) (px : List Int), k ≤ 64 ∧ u = .int .i64 v ∧ (0 ≤ v ∧ v < 4) ∧ i = .int .i64 k ∧ PxIn 0 3 px ∧ Box wr br 74 (iv z64) ∧ Box wr bx 74 (iv px) ∧ Only [q] w wr ∧ Rd wr q (m + 2 + 2 * k)) (fun _ i _ => 64 - (intOf i).toNat)
  case atStart => exact ⟨0, v, z64, by omega, rfl, ⟨v0, v1⟩, rfl, PxIn.z64, X3.out, Y3.out, O3.out, R3.out⟩
  case round =>
    obtain ⟨k, v', px, hk, rfl, ⟨v0', v1'⟩, rfl, hpx, hx, hy, ho, hr⟩ := hrel
    have XR := Lib.hid hx
    have YR := Lib.hid hy
    have OR := Lib.hid ho
    have RR := Lib.hid hr
    have HP := Lib.hid hpx
    clear hx hy ho hr hpx X3 Y3 O3 R3 v0 v1
    by_cases h64 : k < 64
    · have i64' : (k : Int) < 64 := by omega
      have k0 : 0 ≤ (k : Int) := by omega
      go_wp2_with fail
      refine (pick_any q _ sy _ RR.out (by omega) sy0 (by omega)).mono ?_
      rintro e w4 ⟨z, z0, z1, rfl, s4, r4⟩
      have X4 := Lib.hid (XR.out.only s4.only (by simpa using HN.out.1))
      have Y4 := Lib.hid (YR.out.only s4.only (by simpa using HN.out.2.1))
      have O4 := Lib.hid (OR.out.trans s4.only)
      have R4 := Lib.hid r4
      clear s4 r4 XR YR OR RR
      by_cases hz : z = 0
      · subst hz
        go_wp2_with fail
        refine (pick_any q _ 4 _ R4.out (by omega) (by omega) (by omega)).mono ?_
        rintro e w5 ⟨v5, v50, v51, rfl, s5, r5⟩
        have X5 := Lib.hid (X4.out.only s5.only (by simpa using HN.out.1))
        have Y5 := Lib.hid (Y4.out.only s5.only (by simpa using HN.out.2.1))
        have O5 := Lib.hid (O4.out.trans s5.only)
        have R5 := Lib.hid r5
        clear s5 r5 X4 Y4 O4 R4
        have y0 := til_cell Y5.out k (by rw [HP.out.1]; exact h64)
        have g0 := Y5.out.frozen k
        go_wp2_with fail
        go_roundw
        case rel => exact ⟨k + 1, v5, px.set k v5, by omega, rfl, ⟨v50, v51⟩, by go_num, HP.out.set k v5 v50 (by omega), X5.out.far HN.out.2.2.1 _, by rw [← iv_put]; exact Y5.out.set k (.int .i64 v5), O5.out.setCell (.inr HN.out.2.2.2.2.1) _, (R5.out.far HN.out.2.2.2.1 _).mono (by omega)⟩
        case measure => simp [intOf]; omega
      · have hz' : (z == 0) = false := by simpa using hz
        clear hz
        have y0 := til_cell Y4.out k (by rw [HP.out.1]; exact h64)
        have g0 := Y4.out.frozen k
        go_wp2_with fail
        go_roundw
        case rel => exact ⟨k + 1, v', px.set k v', by omega, rfl, ⟨v0', v1'⟩, by go_num, HP.out.set k v' v0' (by omega), X4.out.far HN.out.2.2.1 _, by rw [← iv_put]; exact Y4.out.set k (.int .i64 v'), O4.out.setCell (.inr HN.out.2.2.2.2.1) _, (R4.out.far HN.out.2.2.2.1 _).mono (by omega)⟩
        case measure => simp [intOf]; omega
    · obtain rfl : k = 64 := by omega
      clear h64
      go_wp2_with fail
      refine (odd_le q _ n _ RR.out (by omega) hn (by omega)).mono ?_
      rintro e w4 ⟨bb, rfl, s4, r4⟩
      have X4 := Lib.hid (XR.out.only s4.only (by simpa using HN.out.1))
      have Y4 := Lib.hid (YR.out.only s4.only (by simpa using HN.out.2.1))
      have O4 := Lib.hid (OR.out.trans s4.only)
      have R4 := Lib.hid r4
      clear s4 r4 XR YR OR RR
      cases bb
      · have hl := HP.out.1
        go_wp2_with (first | (refine st_load (by rfl) _ rfl _ rfl px hl Y4.out ?_) | (refine st_store (by rfl) _ _ rfl _ rfl px rfl hl (iv z64) X4.out (by simp [z64_len]) ?_))
        have RF : Hid (Box (w4.setRow br (iv px).toArray) br 74 (iv px)) := Box.row X4.out
        refine bodyPost_ret (v := tilV px) (til_ret rfl rfl RF.out hl) rfl ?_
        exact ⟨px, HP.out.mono (by omega) (by omega), rfl, O4.out.row (.inr HN.out.2.2.2.2.2) _, (R4.out.stay (below_row (Below.refl _ _) (by have := HN.out; omega) _)).mono (by omega)⟩
      · go_wp2_with fail
        refine (pick_any q _ 64 _ R4.out (by omega) (by omega) (by omega)).mono ?_
        rintro e w5 ⟨i, i0, i1, rfl, s5, r5⟩
        have X5 := Lib.hid (X4.out.only s5.only (by simpa using HN.out.1))
        have Y5 := Lib.hid (Y4.out.only s5.only (by simpa using HN.out.2.1))
        have O5 := Lib.hid (O4.out.trans s5.only)
        have R5 := Lib.hid r5
        have zq5 : q < w5.heap.size := R5.out.lt
        clear s5 r5 X4 Y4 O4 R4
        go_wp2_with fail
        refine (pick_any q _ 2 _ (R5.out.alloc _) (by omega) (by omega) (by omega)).mono ?_
        rintro e w6 ⟨z, z0, z1, rfl, s6, r6⟩
        obtain ⟨u, hu, u0, u1⟩ := two_4 z z0 z1
        have cu := lit_at2 s6 zq5 hu
        have X6 := Lib.hid ((X5.out.alloc _).only s6.only (by simpa using HN.out.1))
        have Y6 := Lib.hid ((Y5.out.alloc _).only s6.only (by simpa using HN.out.2.1))
        have O6 := Lib.hid ((O5.out.alloc _).trans s6.only)
        have R6 := Lib.hid r6
        clear s6 r6 X5 Y5 O5 R5
        have vn : z < ((2 : Nat) : Int) := by omega
        obtain ⟨j, rfl⟩ := Int.eq_ofNat_of_zero_le i0
        have y0 := til_cell Y6.out j (by rw [HP.out.1]; omega)
        have g0 := Y6.out.frozen j
        go_upto_region 12 with (fail)
        have X7 := Lib.hid (X6.out.far (b' := bx) (i := j) HN.out.2.2.1 (.int .i64 u))
        have Y7 : Hid (Box (w6.setCell ⟨bx, j, none⟩ (.int .i64 u)) bx 74 (iv (px.set j u))) := by rw [← iv_put]; exact Y6.out.set j (.int .i64 u)
        have O7 := Lib.hid (O6.out.setCell (q := bx) (j := j) (.inr HN.out.2.2.2.2.1) (.int .i64 u))
        have R7 := Lib.hid (R6.out.far (b := bx) (i := j) HN.out.2.2.2.1 (.int .i64 u))
        have HP7 := Lib.hid ((HP.out.mono (l' := -1) (h' := 4) (by omega) (by omega)).set j u u0 u1)
        generalize w6.setCell ⟨bx, j, none⟩ (.int .i64 u) = w7 at X7 Y7 O7 R7 ⊢
        clear y0 g0 cu X6 Y6 O6 R6
        generalize px.set j u = py at Y7 HP7
        have hl := HP7.out.1
        go_wp2_with (first | (refine st_load (by rfl) _ rfl _ rfl py hl Y7.out ?_) | (refine st_store (by rfl) _ _ rfl _ rfl py rfl hl (iv z64) X7.out (by simp [z64_len]) ?_))
        have RF : Hid (Box (w7.setRow br (iv py).toArray) br 74 (iv py)) := Box.row X7.out
        refine bodyPost_ret (v := tilV py) (til_ret rfl rfl RF.out hl) rfl ?_
        exact ⟨py, HP7.out, rfl, O7.out.row (.inr HN.out.2.2.2.2.2) _, (R7.out.stay (below_row (Below.refl _ _) (by have := HN.out; omega) _)).mono (by omega)⟩
end Go.Proofs.Ytddllcgbdgpkbaa
