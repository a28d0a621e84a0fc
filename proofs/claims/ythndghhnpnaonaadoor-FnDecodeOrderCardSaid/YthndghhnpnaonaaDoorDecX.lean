/- The walk of the exact law of DecodeOrder. -/
import Derived.Test.YthndghhnpnaonaaDoorDecI
namespace Go.Proofs.YthndghhnpnaonaaDoor
open Go.ChangeShapes Go.WideShapes Go.ChangeAt Go.RowKit

def dOp : Option (Int × Int) → Int | some (op, _) => op | none => 0
def dArg : Option (Int × Int) → Int | some (_, arg) => arg | none => 0
def dLen : Option (Int × Int) → Int | some (op, _) => lenN op | none => 0
def dOk : Option (Int × Int) → Bool | some _ => true | none => false
theorem decV_parts (d : Option (Int × Int)) : decV d = .tuple #[.agg #[.int .i64 (dOp d), .int .i64 (dArg d)], .int .i64 (dLen d), .bool (dOk d)] := by
  rcases d with _ | ⟨op, arg⟩ <;> rfl
theorem Decoded.parts {d : Option (Int × Int)} {w w' : World} {e : Ending} (h : Decoded d w e w') : e = .returned (.tuple #[.agg #[.int .i64 (dOp d), .int .i64 (dArg d)], .int .i64 (dLen d), .bool (dOk d)]) ∧ Below w.heap.size w w' := ⟨h.1.trans (by rw [decV_parts]), h.2⟩
theorem eqOrder_same (op arg : Int) (w : World) : Calls Tryd.prog 31 #[.agg #[.int .i64 op, .int .i64 arg], .agg #[.int .i64 op, .int .i64 arg]] w fun e w' => e = .returned (.bool true) ∧ Below w.heap.size w w' := by
  go_enter Tryd.func31, Tryd.ntmps31
  go_wp2
  go_ret
  exact ⟨rfl, below2 w _ _⟩
theorem walk_FnExactDecodeOrder (A : Option Addr) (n c : Nat) (xs : List Int) (fa : List Nat) (i : Int) (w : World) (hn : n ≤ 9223372036854775807) (ha : Ints w A n xs fa) (ho : Ops w) :
    Calls Tryd.prog 11 #[.slice A n c, .int .i64 i] w fun e w' => e = .returned (.bool true) ∧ Below w.heap.size w w' := by
  have HA := Lib.hid ha
  have HO := Lib.hid ho
  clear ha ho
  by_cases hs : n ≤ 1048576
  · go_enter Tryd.func11, Tryd.ntmps11
    go_wp2_with fail
    refine (to_ints _ _ _ _ _ _ HA.out (by omega)).mono ?_; rintro e w1 ⟨SA, sc, sfp, rfl, hsc, si, sn, b1⟩
    have B1 := Lib.hid b1
    have S1 := Lib.hid si
    clear b1 si sn
    go_wp2_with fail
    refine (spec_dec _ _ _ _ _ _ _ S1.out (by omega)).mono ?_; intro e w2 hd2
    obtain ⟨rfl, b2⟩ := hd2.parts
    have B2 := Lib.hid (below_then B1.out b2)
    clear b2 hd2
    generalize hOp : dOp (decN xs i) = op
    generalize hArg : dArg (decN xs i) = arg
    generalize hLen : dLen (decN xs i) = len
    generalize hOk : dOk (decN xs i) = ok
    have HQ : Hid (dOp (decN xs i) = op ∧ dArg (decN xs i) = arg ∧ dLen (decN xs i) = len ∧ dOk (decN xs i) = ok) := ⟨hOp, hArg, hLen, hOk⟩
    clear hOp hArg hLen hOk
    go_wp2_with fail
    have B2a : Hid (Below w.heap.size w (w2.alloc (.cells #[.int .i64 op, .int .i64 arg] 28))) := B2.out.alloc B2.out.size _
    refine (to_ints _ _ _ _ _ _ (HA.out.below B2a.out) (by omega)).mono ?_; rintro e w3 ⟨XA, xc, xfp, rfl, hxc, xi, xn, b3⟩
    have B3 := Lib.hid (below_then B2a.out b3)
    have W3 : Hid (Box w3 w2.heap.size 28 [.int .i64 op, .int .i64 arg]) := (Box.new w2 _ _).below b3
    have X3 := Lib.hid xi
    clear b3 xi xn
    go_wp2_with fail
    refine (impl_dec _ _ _ _ _ _ _ (HO.out.below B3.out) X3.out (by omega) hxc).mono ?_; intro e w4 hd4
    obtain ⟨rfl, b4⟩ := hd4.parts
    have B4 := Lib.hid (below_then B3.out b4)
    have W4 := Lib.hid (W3.out.below b4)
    have X4 := Lib.hid (X3.out.below b4)
    clear b4 hd4
    rw [HQ.out.1, HQ.out.2.1, HQ.out.2.2.1, HQ.out.2.2.2]
    have c0 : w4.cell? ⟨w2.heap.size, 0, none⟩ = some (.int .i64 op) := W4.out.cell 0
    have c1 : w4.cell? ⟨w2.heap.size, 1, none⟩ = some (.int .i64 arg) := W4.out.cell 1
    have z4 : w2.heap.size < w4.heap.size := W4.out.lt
    go_wp2_with fail
    refine (eqOrder_same _ _ _).mono ?_; rintro e w5 ⟨rfl, b5⟩
    have B5 : Hid (Below w.heap.size w w5) := below_then (B4.out.alloc B4.out.size _) b5
    have X5 := Lib.hid ((X4.out.below (below1 w4 (.cells #[.int .i64 op, .int .i64 arg] 28))).below b5)
    clear b5 c0 c1
    cases ok
    all_goals
      go_wp2_with fail
      refine (to_ints _ _ _ _ _ _ (HA.out.below B5.out) (by omega)).mono ?_; rintro e w6 ⟨YA, yc, yfp, rfl, hyc, yi, yn, b6⟩
      have B6 := Lib.hid (below_then B5.out b6)
      have X6 := Lib.hid (X5.out.below b6)
      have Y6 := Lib.hid yi
      clear b6 yi yn
      go_wp2_with fail
      refine (eq_ints _ _ _ _ _ _ _ _ _ X6.out Y6.out (by omega)).mono ?_; rintro e w7 ⟨rfl, m7, rfl⟩
      go_wp2_with fail
      go_ret
      exact ⟨rfl, below_drewN B6.out m7⟩
  · go_enter Tryd.func11, Tryd.ntmps11
    go_wp2_with fail
    go_ret
    exact ⟨rfl, Below.refl _ _⟩
end Go.Proofs.YthndghhnpnaonaaDoor
