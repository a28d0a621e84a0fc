/- Lines that are drawn. -/
import Derived.Test.YtehiplkoofdkeaaDoorLine
import Derived.Test.YtehiplkoofdkeaaDoorDis
import Derived.Test.YtehiplkoofdkeaaDoorOwnB
import Derived.Maps.AppendAt
import Derived.RangeFuncBox
namespace Go.Proofs.YtehiplkoofdkeaaDoor
open Go.ChangeShapes Go.WideShapes Go.ChangeAt Go.RowKit

theorem Only.grown {S : List Nat} {a b c : World} {row : Option Nat} (h : Only S a b) (g : b.grownBy c row) (hr : ∀ k, row = some k → a.heap.size ≤ k) : Only S a c :=
  ⟨g.os.trans h.os, g.tape.trans h.tape, g.output.trans h.output, Nat.le_trans h.size g.size, fun k hk hn => (g.block k (Nat.lt_of_lt_of_le hk h.size) (fun e => by have := hr k e.symm; omega)).trans (h.block k hk hn)⟩
def smallB (xs : List ByteArray) : Prop := ∀ x ∈ xs, x.size ≤ 30
theorem smallB_snoc {xs : List ByteArray} {x : ByteArray} (h : smallB xs) (hx : x.size ≤ 30) : smallB (xs ++ [x]) := fun y hy => by
  rcases List.mem_append.1 hy with hy | hy
  · exact h y hy
  · simp at hy; subst hy; exact hx
def LinesDrawn (q : Nat) (w : World) (e : Ending) (w' : World) : Prop :=
  ∃ (g n c : Nat) (xs : List ByteArray) (fp : List Nat), e = .returned (.slice (some ⟨g, 0, none⟩) n c) ∧ n ≤ c ∧ n ≤ 61 ∧ Strs w' (some ⟨g, 0, none⟩) n xs fp ∧ smallB xs ∧ New w.heap.size w' fp ∧ Only [q] w w'
def addT : ByteArray := ⟨#[97, 100, 100, 32, 53, 48, 48]⟩
set_option maxRecDepth 100000 in
set_option maxHeartbeats 2000000 in
theorem lines_any (q m : Nat) (nn : Int) (w : World) (h : Rd w q m) (hm : m ≤ 10000) (hn : 1 ≤ nn) (hn2 : nn ≤ 1000) : Calls Tryd.prog 12 #[.pointer (some ⟨q, 0, none⟩), .int .i64 nn] w (LinesDrawn q w) := by
  have hq := h.lt
  have H := Lib.hid (h.alloc (.cells #[] 9))
  clear h
  obtain ⟨i0, hi, hz0, hz1, hz2⟩ := info_parts infoStr
  go_enter Tryd.func12, Tryd.ntmps12
  go_wp2_with fail
  refine (pick_any q m 9 _ H.out (by omega) (by omega) (by omega)).mono ?_
  rintro e w2 ⟨jj, j0, j1, rfl, s2, r2⟩
  obtain ⟨J, rfl⟩ := Int.eq_ofNat_of_zero_le j0
  have W2 := Lib.hid (own_only (own_empty w 9 w.heap.size (Nat.le_refl _)) s2.only (fun b hb e => by simp at hb; subst hb; have e' : some w.heap.size = some b := e; injection e'; omega))
  have O2 : Hid (Only [q] w w2) := ((Only.refl _ w).alloc _).trans s2.only
  have R2 := Lib.hid r2
  have z2 : w.heap.size ≤ w2.heap.size := by have := s2.size; simp at this; omega
  clear s2 r2 j0
  go_wp2_with fail
  go_loopw [5, 6] (fun v t wx => ∃ (jx : Nat) (xs : List ByteArray) (g2 d2 : Nat), jx ≤ 8 ∧ t = .int .i64 jx ∧ v = .slice (some ⟨g2, 0, none⟩) xs.length d2 ∧ xs.length + jx ≤ 8 ∧ smallB xs ∧ wx.ownsRow w.heap.size 9 1 v xs.length (sv xs) ∧ Only [q] w wx ∧ Rd wx q (m + 1 + 12 * (8 - jx))) (fun _ t _ => (intOf t).toNat)
  case atStart => exact ⟨J, [], _, _, by omega, rfl, rfl, by simp; omega, by simp [smallB], W2.out, O2.out, R2.out.mono (by omega)⟩
  case round =>
    obtain ⟨jx, xs, g2, d2, hjx, rfl, rfl, hn3, hsm, hown, hon, hrd⟩ := hrel
    have HS := Lib.hid hsm
    have HW := Lib.hid hown
    have HO := Lib.hid hon
    have HR := Lib.hid hrd
    have zx : w.heap.size ≤ wr.heap.size := hon.size
    clear hsm hown hon hrd W2 O2 R2
    by_cases hjp : 0 < jx
    · have t2 : (0 : Int) < (jx : Int) := by omega
      go_wp2_with fail
      refine (line_any q _ nn _ HR.out (by omega) hn hn2).mono ?_
      rintro e w3 ⟨l, rfl, hl, o3, r3⟩
      have W3 := Lib.hid (own_only HW.out o3 (fun b hb e => by simp at hb; subst hb; have := (own_lt HW.out _ e).1; omega))
      have O3 := Lib.hid (HO.out.trans o3)
      have R3 := Lib.hid r3
      have z3 : w.heap.size ≤ w3.heap.size := Nat.le_trans zx o3.size
      clear o3 r3
      obtain ⟨T, hT⟩ : ∃ T : ByteArray, T = ⟨l.toArray⟩ := ⟨_, rfl⟩
      have hTs : T.size ≤ 30 := by rw [hT]; exact hl
      rw [← hT]
      clear hT
      go_wp2_with (at_builtin; refine wpList_append_own _ rfl _ _ 23 rfl w.heap.size 9 i0 (.string ⟨#[]⟩) 1 16 Tryd.underlying23 hi hz0 hz1 hz2 rfl (by decide) _ _ _ rfl (W3.out.alloc _) ⟨w3.heap.size, 0, none⟩ 1 1 [.string T] rfl rfl (cell_one_new _ _ _) (by simp [Value.oneCell']) (by unfold maxLen; omega) (by omega) (by simp; omega) ?_; intro v' w5 own5 gr5 _)
      have e5 : sv xs ++ [Value.string T] = sv (xs ++ [T]) := by simp [sv]
      rw [e5] at own5
      obtain ⟨g5, d5, rfl⟩ := ownsRow_succ own5
      have W5 := Lib.hid own5
      have O5 := Lib.hid ((O3.out.alloc _).grown gr5 (fun g hg => (own_lt W3.out g hg).1))
      have R5 := Lib.hid ((R3.out.alloc (.cells #[.string T] 9)).stay ((Below.refl _ _).grown gr5 (by have := R3.out.lt; simp; omega) (fun g hg => by have := (own_lt W3.out g hg).1; omega)))
      clear own5 gr5 e5
      go_wp2
      go_roundw
      case rel => exact ⟨jx - 1, xs ++ [T], g5, d5, by omega, int_eq (by omega), by simp, by simp; omega, smallB_snoc HS.out hTs, by simpa using W5.out, O5.out, R5.out.mono (by omega)⟩
      case measure => simp [intOf]; omega
    · obtain rfl : jx = 0 := by omega
      go_wp2_with fail
      refine (odd_any q _ 16 _ HR.out (by omega) (by omega) (by omega)).mono ?_
      rintro e w3 ⟨bb, rfl, t3, p3⟩
      have W3 := Lib.hid (own_only HW.out t3.only (fun b hb e => by simp at hb; subst hb; have := (own_lt HW.out _ e).1; omega))
      have O3 := Lib.hid (HO.out.trans t3.only)
      have z3 : w.heap.size ≤ w3.heap.size := Nat.le_trans zx t3.only.size
      clear t3 p3
      cases bb
      · obtain ⟨A6, c6, f6, e6, hc6, _, i6, n6, _⟩ := own_strs W3.out
        injection e6 with e61 e62 e63
        subst e61 e63
        have I6 := Lib.hid i6
        have N6 := Lib.hid n6
        clear i6 n6
        go_wp2_with fail
        go_ret
        exact ⟨g2, xs.length, d2, xs, f6, rfl, hc6, by omega, I6.out, HS.out, N6.out, O3.out⟩
      · go_wp2_with fail
        go_loopw [5] (fun v wy => ∃ (ys : List ByteArray) (g2 d2 : Nat), v = .slice (some ⟨g2, 0, none⟩) ys.length d2 ∧ ys.length ≤ 61 ∧ smallB ys ∧ wy.ownsRow w.heap.size 9 1 v ys.length (sv ys) ∧ Only [q] w wy) (fun v _ => 61 - lenOf v)
        case atStart => exact ⟨xs, g2, d2, rfl, by omega, HS.out, W3.out, O3.out⟩
        case round =>
          obtain ⟨ys, g7, d7, rfl, h61, hsm, hown, hon⟩ := hrel
          have HS7 := Lib.hid hsm
          have HW7 := Lib.hid hown
          have HO7 := Lib.hid hon
          have z7 : w.heap.size ≤ wr.heap.size := hon.size
          clear hsm hown hon
          by_cases hle : ys.length ≤ 60
          · have hle' : (ys.length : Int) ≤ 60 := by omega
            have hTs : addT.size ≤ 30 := by decide
            obtain ⟨T, hT⟩ : ∃ T : ByteArray, T = addT := ⟨_, rfl⟩
            have hT' : (⟨#[97, 100, 100, 32, 53, 48, 48]⟩ : ByteArray) = T := hT.symm
            rw [← hT] at hTs
            go_wp2_with (at_builtin; refine wpList_append_own _ rfl _ _ 23 rfl w.heap.size 9 i0 (.string ⟨#[]⟩) 1 16 Tryd.underlying23 hi hz0 hz1 hz2 rfl (by decide) _ _ _ rfl (HW7.out.alloc _) ⟨wr.heap.size, 0, none⟩ 1 1 [.string ⟨#[97, 100, 100, 32, 53, 48, 48]⟩] rfl rfl (cell_one_new _ _ _) (by simp [Value.oneCell']) (by unfold maxLen; omega) (by omega) (by simp; omega) ?_; intro v' w5 own5 gr5 _)
            have e5 : sv ys ++ [Value.string ⟨#[97, 100, 100, 32, 53, 48, 48]⟩] = sv (ys ++ [T]) := by simp [sv, hT']
            rw [e5] at own5
            obtain ⟨g5, d5, rfl⟩ := ownsRow_succ own5
            have W5 := Lib.hid own5
            have O5 := Lib.hid ((HO7.out.alloc _).grown gr5 (fun g hg => (own_lt HW7.out g hg).1))
            clear own5 gr5 e5
            go_wp2
            go_roundw
            case rel => exact ⟨ys ++ [T], g5, d5, by simp, by simp; omega, smallB_snoc HS7.out hTs, by simpa using W5.out, O5.out⟩
            case measure => simp [lenOf]; omega
          · have hle' : (60 : Int) < (ys.length : Int) := by omega
            obtain ⟨A6, c6, f6, e6, hc6, _, i6, n6, _⟩ := own_strs HW7.out
            injection e6 with e61 e62 e63
            subst e61 e63
            have I6 := Lib.hid i6
            have N6 := Lib.hid n6
            clear i6 n6
            go_wp2_with fail
            go_ret
            exact ⟨g7, ys.length, d7, ys, f6, rfl, hc6, by omega, I6.out, HS7.out, N6.out, HO7.out⟩
def LnsGot (w : World) (e : Ending) (w' : World) : Prop := ∃ (g n c : Nat) (xs : List ByteArray) (fp : List Nat), e = .returned (.slice (some ⟨g, 0, none⟩) n c) ∧ n ≤ c ∧ n ≤ 61 ∧ Strs w' (some ⟨g, 0, none⟩) n xs fp ∧ smallB xs ∧ Below w.heap.size w w'
theorem draw_asm (a : Option Addr) (len cap : Nat) (zs : List Int) (w : World) (h : IsRow .u8 w a len cap zs) :
    Calls Tryd.prog 4 #[.slice a len cap] w (LnsGot w) := by
  have H := Lib.hid h
  clear h
  go_enter Tryd.func4, Tryd.ntmps4
  go_wp2_with fail
  refine (open_any a len cap zs _ H.out).mono ?_
  rintro e w1 ⟨rfl, b1, r1⟩
  have B1 := Lib.hid b1
  have R1 := Lib.hid r1
  clear b1 r1
  go_wp2_with fail
  refine (lines_any w.heap.size 0 14 _ R1.out (by omega) (by omega) (by omega)).mono ?_
  rintro e w2 ⟨A, n, c, xs, fp, rfl, hc, hn, i2, sm, n2, o2⟩
  have B2 := Lib.hid (B1.out.trans (o2.below (B := w.heap.size) (fun b hb => by simp at hb; omega) B1.out.size))
  have I2 := Lib.hid i2
  have SM := Lib.hid sm
  clear i2 n2 o2 sm
  go_wp2_with fail
  go_ret
  exact ⟨A, n, c, xs, fp, rfl, hc, hn, I2.out, SM.out, B2.out⟩
end Go.Proofs.YtehiplkoofdkeaaDoor
