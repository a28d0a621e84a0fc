/- The lines of a list of bytes, one after the other: the program's iterator. -/
import Derived.RangeFuncNested
import Derived.RangeFuncBound
import Derived.RangeFuncCalls
import Derived.RangeFuncLeaves
import Derived.RangeFuncBox
import Derived.RangeFuncWrites
import Derived.Shelf.Abstract
import Derived.WalkKit
import Derived.OwnWalkIn
import Derived.TacticsInMore
import Derived.LoopNIn
import Derived.LoopIn
import Derived.Maps.AppendAt
import Derived.Test.YtehiplkoofdkeaaDoorDis
import Derived.Test.YtehiplkoofdkeaaDoorDecI
import Derived.Test.YtehiplkoofdkeaaDoorFmt
namespace Go.Proofs.YtehiplkoofdkeaaDoor
open Go.ChangeShapes Go.WideShapes Go.ChangeAt Go.RowKit Go.Shelf
attribute [local go_sem] Oper.semAt_some

/-- What a round keeps: what lay below n, and the block that holds the list. -/
def LKp (n Bn : Nat) (W W' : World) : Prop := Below n W W' ∧ W'.heap[Bn]? = W.heap[Bn]?
theorem grown_of_below {w w' : World} (h : Below w.heap.size w w') : w.grownBy w' none := ⟨h.os, h.tape, h.output, h.size, fun k hk _ => h.block k hk⟩
def lencs (x : Nat × Int × Int) : Array Value := #[.int .i64 (x.1 : Int), .string (fmtT x)]
set_option maxRecDepth 100000 in
set_option maxHeartbeats 4000000 in
theorem lines_stops (n : Nat) (hn : 1 ≤ n) (Bn : Nat) (A : Option Addr) (N c : Nat) (xs : List Int) (fa : List Nat) (w₀ : World) (he : Env w₀) (ha : Ints w₀ A N xs fa) (hN : N ≤ 1000000000) (hNc : N ≤ c) (w : World) (hb : Below w₀.heap.size w₀ w) (hbx : Boxed w Bn 25 (.slice A N c)) :
    SeqStopsK Fence.wide n Tryd.prog 34 #[.pointer (some ⟨Bn, 0, none⟩)] lencs (LKp w₀.heap.size Bn) (fun ys => ys = seqL xs) (fun pre => pre <+: seqL xs) (seqL xs).length w := fun l J Jx W hW hJ hJx hY h0 => by
  have HE := Lib.hid he
  have HA := Lib.hid ha
  have hlen := ha.1
  have HB0 : Hid (Below w₀.heap.size w₀ W) := hb.trans (hW.mono hb.size)
  have HX0 : Hid (Boxed W Bn 25 (.slice A N c)) := (hW.block Bn hbx.lt).trans hbx
  have zW := hW.size
  have HJ := Lib.hid hJ
  have HY := Lib.hid hY
  have H0 := Lib.hid h0
  clear he ha hb hbx hJ hJx hY h0 hW
  refine callsIn_of_wp Tryd.func34 rfl trivial ?_ rfl
  simp only [Tryd.ntmps34, List.size_toArray, List.length_cons, List.length_nil, Nat.reduceAdd, Nat.reduceSub, Array.replicate_succ, Array.replicate_zero, List.push_toArray, List.append_toArray, List.nil_append, List.cons_append]
  gi_wp2
  gi_loopw [3] (fun p wr => ∃ (pre : List (Nat × Int × Int)) (f a : Nat), p = .int .i64 (a : Int) ∧ a ≤ N ∧ seqL xs = pre ++ disFrom xs f a ∧ xs.length < a + f ∧ J pre wr ∧ Below w₀.heap.size w₀ wr ∧ Boxed wr Bn 25 (.slice A N c)) (fun p _ => N + 1 - (intOf p).toNat)
  case atStart => exact ⟨[], xs.length + 1, 0, rfl, by omega, rfl, by omega, H0.out, HB0.out, HX0.out⟩
  case round =>
    obtain ⟨pre, f, a, rfl, haN, hseq, hf, hj, hbl, hbx⟩ := hrel
    have HS := Lib.hid hseq
    have HF := Lib.hid hf
    have HJs := Lib.hid hj
    have HB := Lib.hid hbl
    have HX := Lib.hid hbx
    have c0 : wr.cell? ⟨Bn, 0, none⟩ = some (.slice A N c) := hbx.cell
    clear hseq hf hj hbl hbx H0 HB0 HX0
    cases hd : decN xs (a : Int) with
    | none =>
      have hq : seqL xs = pre := by rw [HS.out, dis_none hd, List.append_nil]
      have HQ := Lib.hid hq
      have HD : Hid (∀ w' : World, Env w' → Ints w' A N xs fa → Calls Tryd.prog 35 #[.slice A N c, .int .i64 a] w' fun e w'' => e = .returned (.tuple #[.agg #[.int .i64 0, .int .i64 0], .int .i64 0, .bool false]) ∧ Below w'.heap.size w' w'') := fun w' e' i' => by
        have := impl_dec A N c xs fa (a : Int) w' e'.1 i' hN hNc
        rw [hd] at this
        exact this
      clear hq hd
      gi_wp2_with (refine ⟨trivial, ?_⟩; gi_at_call 35; refine (callsIn_wide.2 (HD.out _ (HE.out.below HB.out) (HA.out.below HB.out))).mono ?_; rintro e w3 ⟨rfl, b3⟩; have J3 := Lib.hid (HJ.out pre wr w3 none HJs.out (grown_of_below b3) (fun r e => by cases e)); clear b3)
      refine bodyPost_ret (results_none rfl _ _ _) rfl ?_
      exact ⟨⟨_, rfl⟩, .inl ⟨pre, HQ.out.symm, HJ.out pre w3 _ none J3.out (grown_of_below (below1 w3 _)) (fun r e => by cases e)⟩⟩
    | some y =>
      obtain ⟨op, arg⟩ := y
      obtain ⟨g, g1, g2, g0, g3, l1, l2, hv⟩ := dis_some hd HF.out
      have HS2 := Lib.hid (show seqL xs = (pre ++ [(a + (lenN op).toNat, op, arg)]) ++ disFrom xs g (a + (lenN op).toNat) by rw [HS.out, g2]; simp)
      have HD : Hid (∀ w' : World, Env w' → Ints w' A N xs fa → Calls Tryd.prog 35 #[.slice A N c, .int .i64 a] w' fun e w'' => e = .returned (.tuple #[.agg #[.int .i64 op, .int .i64 arg], .int .i64 (lenN op), .bool true]) ∧ Below w'.heap.size w' w'') := fun w' e' i' => by
        have := impl_dec A N c xs fa (a : Int) w' e'.1 i' hN hNc
        rw [hd] at this
        exact this
      clear hd HS g2
      generalize hL : lenN op = L at *
      obtain ⟨m, rfl⟩ := Int.eq_ofNat_of_zero_le (show 0 ≤ L by omega)
      simp only [Int.toNat_natCast] at g1 g3 HS2
      clear hL
      obtain ⟨T, hT⟩ : ∃ T : ByteArray, T = ⟨(fmtN op arg).toArray⟩ := ⟨_, rfl⟩
      have HT := Lib.hid hT
      clear hT
      have hLn : pre.length < (seqL xs).length := by
        have := congrArg List.length HS2.out
        rw [List.length_append, List.length_append] at this
        simp only [List.length_cons, List.length_nil] at this
        omega
      have HLn := Lib.hid hLn
      clear hLn
      gi_wp2_with (first
        | (refine ⟨trivial, ?_⟩; gi_at_call 35; refine (callsIn_wide.2 (HD.out _ (HE.out.below HB.out) (HA.out.below HB.out))).mono ?_; clear HD; rintro e w3 ⟨rfl, b3⟩; have J3 := Lib.hid (HJ.out pre wr w3 none HJs.out (grown_of_below b3) (fun r e => by cases e)); have B3 := Lib.hid (HB.out.trans (b3.mono HB.out.size)); have X3 : Hid (Boxed w3 Bn 25 (.slice A N c)) := (b3.block Bn HX.out.lt).trans HX.out; clear b3)
        | (refine ⟨trivial, ?_⟩; gi_at_call 26; refine (callsIn_wide.2 (impl_fmt _ _ _ (HE.out.below (B3.out.alloc B3.out.size _)))).mono ?_; rintro e w4 ⟨rfl, b4⟩; rw [← HT.out]; have J4 := Lib.hid (HJ.out pre _ w4 none (HJ.out pre w3 _ none J3.out (grown_of_below (below1 w3 (.cells #[.int .i64 op, .int .i64 arg] 30))) (fun r e => by cases e)) (grown_of_below b4) (fun r e => by cases e)); have B4 := Lib.hid ((B3.out.alloc B3.out.size (.cells #[.int .i64 op, .int .i64 arg] 30)).trans (b4.mono (by have := B3.out.size; simp; omega))); have X4 : Hid (Boxed w4 Bn 25 (.slice A N c)) := (b4.block Bn (by have := X3.out.lt; simp; omega)).trans (X3.out.alloc _); clear b4; obtain ⟨fn, tmps, assign, body, hy, hR⟩ := HY.out pre (a + m, op, arg) w4 J4.out HLn.out; simp only [lencs, fmtT, ← HT.out, Int.natCast_add] at hy))
      refine hR.mono ?_
      rintro e W5 (⟨rfl, hJ5, hk5⟩ | ⟨rfl, hJx5⟩)
      · have J5 := Lib.hid hJ5
        have B5 := Lib.hid (B4.out.trans hk5.1)
        have X5 : Hid (Boxed W5 Bn 25 (.slice A N c)) := hk5.2.trans X4.out
        clear hJ5 hk5 hR hy
        gi_wp2
        go_roundw
        case rel => exact ⟨pre ++ [(a + m, op, arg)], g, a + m, by go_num, by omega, HS2.out, by omega, J5.out, B5.out, X5.out⟩
        case measure => simp [intOf]; omega
      · have JX5 := Lib.hid hJx5
        clear hJx5 hR hy
        gi_wp2
        refine bodyPost_ret (results_none rfl _ _ _) rfl ?_
        exact ⟨⟨_, rfl⟩, .inr ⟨pre ++ [(a + m, op, arg)], ⟨_, HS2.out.symm⟩, JX5.out⟩⟩
theorem lines_of (A : Option Addr) (N c : Nat) (w : World) : Calls Tryd.prog 20 #[.slice A N c] w fun e w' => e = .returned (.func (.func 34) #[] #[.pointer (some ⟨w.heap.size, 0, none⟩)]) ∧ w' = w.alloc (.cells #[.slice A N c] 25) := by
  go_enter Tryd.func20, Tryd.ntmps20
  go_wp2
  go_ret
  exact ⟨rfl, rfl⟩
end Go.Proofs.YtehiplkoofdkeaaDoor
