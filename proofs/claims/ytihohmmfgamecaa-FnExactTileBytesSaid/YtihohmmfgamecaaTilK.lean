/- Drawn bytes of a tile. -/
import Derived.Test.YtihohmmfgamecaaRomD
import Derived.Test.YtihohmmfgamecaaRowIn
import Derived.Deep.DeepCutAuto
namespace Go.Proofs.Ytihohmmfgamecaa
open Go.ChangeShapes Go.WideShapes Go.ChangeAt Go.RowKit
set_option linter.unusedVariables false

theorem eight0 (v v5 v6 v7 : Int) (d0 : 0 ≤ v) (d1 : v < 8) (a0 : 0 ≤ v5) (a1 : v5 < 256) (b0 : 0 ≤ v6) (b1 : v6 < 256) (c0 : 0 ≤ v7) (c1 : v7 < 256) :
    ∃ u : Int, (#[Value.int .i64 0, .int .i64 1, .int .i64 127, .int .i64 128, .int .i64 255, .int .i64 v5, .int .i64 v6, .int .i64 v7] : Array Value)[v.toNat]? = some (.int .i64 u) ∧ 0 ≤ u ∧ u ≤ 255 := by
  have h : v = 0 ∨ v = 1 ∨ v = 2 ∨ v = 3 ∨ v = 4 ∨ v = 5 ∨ v = 6 ∨ v = 7 := by omega
  rcases h with rfl | rfl | rfl | rfl | rfl | rfl | rfl | rfl <;> exact ⟨_, rfl, by omega, by omega⟩
/-- A byte, none in n being another number. -/
theorem byte_zero (q m : Nat) (w : World) (h : Rd w q m) (hm : m ≤ 1000000) :
    Calls Try.prog 50 #[.pointer (some ⟨q, 0, none⟩), .int .i64 0] w (Drawn q m 5 0 255 w) := by
  have H := Lib.hid h
  clear h
  go_enter Try.func50, Try.ntmps50
  go_wp2_with fail
  refine (odd_zero q _).mono ?_
  rintro e w1 ⟨rfl, rfl⟩
  go_wp2_with fail
  refine (pick_any q m 256 _ H.out (by omega) (by omega) (by omega)).mono ?_
  rintro e w2 ⟨v5, a0, a1, rfl, hs2, hr2⟩
  have HS2 := Lib.hid hs2
  have HR2 := Lib.hid hr2
  clear hs2 hr2 H
  go_wp2_with fail
  refine (pick_any q (m + 1) 256 _ HR2.out (by omega) (by omega) (by omega)).mono ?_
  rintro e w3 ⟨v6, b0, b1, rfl, hs3, hr3⟩
  have HS3 := Lib.hid (HS2.out.trans hs3)
  have HR3 := Lib.hid hr3
  clear hs3 hr3 HS2 HR2
  go_wp2_with fail
  refine (pick_any q (m + 2) 256 _ HR3.out (by omega) (by omega) (by omega)).mono ?_
  rintro e w4 ⟨v7, c0, c1, rfl, hs4, hr4⟩
  have HS4 := Lib.hid (HS3.out.trans hs4)
  have HR4 := Lib.hid hr4
  clear hs4 hr4 HS3 HR3
  go_wp2_with fail
  refine (pick_any q (m + 3) 8 _ (HR4.out.keep ((Below.refl _ _).alloc (Nat.le_refl _) _)) (by omega) (by omega) (by omega)).mono ?_
  rintro e w5 ⟨v, d0, d1, rfl, hs5, hr5⟩
  have hq := HR4.out.lt
  obtain ⟨u, hu, u0, u1⟩ := lit_cell 0 255 hs5 hq v d0 (eight0 v v5 v6 v7 d0 d1 a0 a1 b0 b1 c0 c1)
  have HS5 := Lib.hid ((HS4.out.alloc _).trans hs5)
  have HR5 := Lib.hid (hr5.mono (show m + 3 + 1 ≤ m + 5 by omega))
  clear hs5 hr5 HS4 HR4
  go_wp2_with fail
  go_ret
  exact ⟨u, u0, u1, rfl, HS5.out, HR5.out⟩
theorem ints_off {w : World} {b o n k L : Nat} {xs : List Int} {fp : List Nat} (h : Ints w (some ⟨b, o, none⟩) n xs fp) (hL : 1 ≤ L) (hk : k + L ≤ n) :
    Ints w (some ⟨b, o + k, none⟩) L ((xs.drop k).take L) [b] := by
  have hl := h.1
  obtain ⟨b', o', he, _, hb, hc⟩ := h.at_ (by omega)
  injection he with he
  injection he with h1 h2 _
  subst h1; subst h2
  refine ⟨by simp; omega, .inr ⟨by omega, b, o + k, rfl, rfl, hb, fun i hi => ?_⟩⟩
  rw [Nat.add_assoc, hc (k + i) (by omega)]
  simp [List.getD_eq_getElem?_getD, hi]
/-- What drawing the bytes of a tile leaves. -/
def LstDrawn (w : World) (e : Ending) (w' : World) : Prop := ∃ (A : Option Addr) (n c : Nat) (xs : List Int) (fp : List Nat), e = .returned (.slice A n c) ∧ n ≤ c ∧ n ≤ 16 ∧ Ints w' A n xs fp ∧ Below w.heap.size w w'
set_option maxRecDepth 100000 in
set_option maxHeartbeats 4000000 in
theorem draw_readTile (a : Option Addr) (len cap : Nat) (zs : List Int) (w : World) (h : IsRow .u8 w a len cap zs) : Calls Try.prog 26 #[.slice a len cap] w (LstDrawn w) := by
  have H := Lib.hid h
  clear h
  go_enter Try.func26, Try.ntmps26
  go_wp2_with fail
  refine (open_any a len cap zs _ H.out).mono ?_
  rintro e w1 ⟨rfl, b1, r1⟩
  have B1 := Lib.hid b1
  have R1 := Lib.hid r1
  have zq : w.heap.size < w1.heap.size := r1.lt
  clear b1 r1
  go_wp2_with fail
  have N2 : Hid (Bank w.heap.size w1.heap.size w1 (w1.alloc (.cells #[] 3)) 0 (some ⟨w1.heap.size, 0, none⟩) 0 0 []) := ⟨own_empty w1 3 w1.heap.size (Nat.le_refl _), rfl, rfl, (Only.refl _ w1).alloc _, R1.out.alloc _, by simp, Nat.le_refl _⟩
  go_loopw [4, 5] (fun v t wx => ∃ (k : Nat) (A2 : Option Addr) (d2 : Nat) (xs : List Int), k ≤ 16 ∧ t = .int .i64 k ∧ v = .slice A2 k d2 ∧ k ≤ d2 ∧ Bank w.heap.size w1.heap.size w1 wx (5 * k) A2 k d2 xs) (fun _ t _ => 16 - (intOf t).toNat)
  case atStart => exact ⟨0, _, _, [], by omega, rfl, rfl, by omega, N2.out⟩
  case round =>
    obtain ⟨k, A2, d2, xs, hk, rfl, rfl, hd2, hbk⟩ := hrel
    have BK := Lib.hid hbk
    clear hbk N2
    by_cases h16 : k < 16
    · have i16 : (k : Int) < 16 := by omega
      go_wp2_with fail
      refine (byte_zero _ _ _ BK.out.rd (by omega)).mono ?_
      rintro e w3 ⟨u, u0, u1, rfl, s3, r3⟩
      have K3 := Lib.hid (BK.out.other zq s3.only r3)
      clear s3 r3
      have I4 : Hid (Ints (w3.alloc (.cells #[.int .i64 u] 3)) (some ⟨w3.heap.size, 0, none⟩) 1 [u] [w3.heap.size]) := one_cell w3 u
      have K4 := Lib.hid (K3.out.other zq ((Only.refl _ w3).alloc (.cells #[.int .i64 u] 3)) (K3.out.rd.alloc _))
      have HU := Lib.hid (show bytesB [u] = true by simp [bytesB, byteB]; omega)
      go_wp2_with (at_builtin; refine wpList_append_ints rfl _ _ rfl w1.heap.size _ k xs rfl K4.out.own _ _ _ [u] _ rfl I4.out (by omega) K4.out.base ?_; intro v' w5 own5 gr5 _; obtain ⟨A5, d5, rfl, K5⟩ := K4.out.next zq own5 gr5 rfl HU.out; have HK5 := Lib.hid K5; have hd5 : k + 1 ≤ d5 := by {obtain ⟨_, _, _, e, hle, _⟩ := own_ints own5; injection e with e1 e2 e3; omega}; clear own5 gr5 K5)
      go_roundw
      case rel => exact ⟨k + 1, A5, d5, xs ++ [u], by omega, by go_num, rfl, hd5, ⟨HK5.out.own, HK5.out.len, HK5.out.bytes, HK5.out.only, HK5.out.rd.mono (by omega), HK5.out.base, HK5.out.top⟩⟩
      case measure => simp [intOf]; omega
    · obtain rfl : k = 16 := by omega
      clear h16
      go_wp2_with fail
      refine (odd_any _ _ 6 _ BK.out.rd (by omega) (by omega) (by omega)).mono ?_
      rintro e w3 ⟨bb, rfl, t3, p3⟩
      have K3 := Lib.hid (BK.out.other zq t3.only p3)
      clear t3 p3
      cases bb
      · obtain ⟨A', c', fp, e', hc', _, hi', _, _⟩ := own_ints K3.out.own
        injection e' with e1 e2 e3
        subst e1; subst e3
        have I3 := Lib.hid hi'
        clear hi' e2
        go_wp2_with fail
        go_ret
        exact ⟨A2, 16, d2, xs, fp, rfl, hd2, by omega, I3.out, B1.out.trans (K3.out.only.below (B := w.heap.size) (fun b hb => by simp at hb; omega) B1.out.size)⟩
      · go_wp2_with fail
        refine (pick_any _ _ 2 _ K3.out.rd (by omega) (by omega) (by omega)).mono ?_
        rintro e w4 ⟨z, z0, z1, rfl, t4, p4⟩
        have K4 := Lib.hid (K3.out.other zq t4.only p4)
        clear t4 p4
        have hz : z = 0 ∨ z = 1 := by omega
        rcases hz with rfl | rfl
        · clear z0 z1
          go_wp2_with fail
          refine (pick_any _ _ 16 _ K4.out.rd (by omega) (by omega) (by omega)).mono ?_
          rintro e w5 ⟨ii, i0, i1, rfl, t5, p5⟩
          obtain ⟨i, rfl⟩ := Int.eq_ofNat_of_zero_le i0
          have K5 := Lib.hid (K4.out.other zq t5.only p5)
          clear t5 p5 i0
          go_wp2_with fail
          refine (byte_any _ _ 1 _ K5.out.rd (by omega) (by omega) (by omega)).mono ?_
          rintro e w6 ⟨v, v0, v1, rfl, t6, p6⟩
          have K6 := Lib.hid (K5.out.other zq t6.only p6)
          clear t6 p6
          obtain ⟨A', c', fp, e', hc', _, hi', hn', _⟩ := own_ints K6.out.own
          injection e' with e1 e2 e3
          subst e1; subst e3
          have hI : i < 16 := by omega
          obtain ⟨g, o, rfl, hfp, hg, hcell⟩ := hi'.at_ (by omega)
          have cI := hcell i hI
          have fI := hn'.free g (by rw [hfp]; simp) (o + i)
          have hgL := (hn'.lt g (by rw [hfp]; simp)).1
          have I6 := Lib.hid hi'
          clear hi' hn' e2 hcell hfp
          generalize xs.getD i 0 = old at cI
          go_wp2_with fail
          go_ret
          exact ⟨_, 16, d2, xs.set i v, fp, rfl, hd2, by omega, I6.out.set hI v, (B1.out.trans (K6.out.only.below (B := w.heap.size) (fun b hb => by simp at hb; omega) B1.out.size)).setCell (show w.heap.size ≤ g by omega) _⟩
        · clear z0 z1
          obtain ⟨A', c', fp, e', hc', _, hi', hn', _⟩ := own_ints K4.out.own
          injection e' with e1 e2 e3
          subst e1; subst e3
          obtain ⟨g, o, rfl, _⟩ := hi'.at_ (by omega)
          have I4 := Lib.hid (ints_off hi' (k := 1) (L := 15) (by omega) (by omega))
          clear hi' hn' e2
          have hd1 : ¬ d2 = 1 := by omega
          go_wp2_with fail
          go_ret
          exact ⟨_, 15, d2 - 1, _, _, by first | rfl | (congr 2; omega), by omega, by omega, I4.out, B1.out.trans (K4.out.only.below (B := w.heap.size) (fun b hb => by simp at hb; omega) B1.out.size)⟩
end Go.Proofs.Ytihohmmfgamecaa
