/- The walks of the exact laws of chapter 3 that take numbers or instructions. -/
import Derived.Test.YthndghhnpnaonaaDoorOps
namespace Go.Proofs.YthndghhnpnaonaaDoor
open Go.ChangeShapes Go.WideShapes Go.ChangeAt Go.RowKit

theorem walk_FnExactOrderLength (op : Int) (w : World) (h : Ops w) : Calls Tryd.prog 8 #[.int .i64 op] w fun e w' => e = .returned (.bool true) ∧ Below w.heap.size w w' := by
  have H := Lib.hid h
  clear h
  go_enter Tryd.func8, Tryd.ntmps8
  go_wp2_with fail
  refine (spec_len _ _).mono ?_; rintro e w1 ⟨rfl, b1⟩
  have H1 := Lib.hid (H.out.below b1)
  have B1 := Lib.hid b1
  clear b1
  go_wp2_with fail
  refine (impl_len _ _ H1.out).mono ?_; rintro e w2 ⟨rfl, b2⟩
  have B2 := Lib.hid (below_then B1.out b2)
  clear b2
  generalize lenN op = L
  go_wp2_with fail
  go_ret
  exact ⟨rfl, B2.out⟩
theorem toOrder_any (op arg : Int) (w : World) : Calls Tryd.prog 26 #[.agg #[.int .i64 op, .int .i64 arg]] w fun e w' => e = .returned (.agg #[.int .i64 op, .int .i64 arg]) ∧ Below w.heap.size w w' := by
  go_enter Tryd.func26, Tryd.ntmps26
  go_wp2
  refine bodyPost_ret (v := .agg #[.int .i64 op, .int .i64 arg]) (by simp [results, Tryd.results26, go_sem]) rfl ⟨rfl, ?_⟩
  exact below3 w _ _ _
theorem walk_FnExactOrderValid (op arg : Int) (w : World) (h : Ops w) : Calls Tryd.prog 9 #[.agg #[.int .i64 op, .int .i64 arg]] w fun e w' => e = .returned (.bool true) ∧ Below w.heap.size w w' := by
  have H := Lib.hid h
  clear h
  go_enter Tryd.func9, Tryd.ntmps9
  go_wp2_with fail
  refine (toOrder_any _ _ _).mono ?_; rintro e w1 ⟨rfl, b1⟩
  have X1 : Hid (Box w1 w.heap.size 40 [.int .i64 op, .int .i64 arg]) := (Box.new w _ _).below b1
  have B1 : Hid (Below w.heap.size w w1) := (below1 w _).trans (b1.mono (by simp))
  clear b1
  go_wp2_with fail
  refine (spec_ordValid _ _ _).mono ?_; rintro e w2 ⟨rfl, b2⟩
  have X2 := Lib.hid (X1.out.below b2)
  have B2 := Lib.hid (below_then B1.out b2)
  clear b2
  have c0 : w2.cell? ⟨w.heap.size, 0, none⟩ = some (.int .i64 op) := X2.out.cell 0
  have c1 : w2.cell? ⟨w.heap.size, 1, none⟩ = some (.int .i64 arg) := X2.out.cell 1
  go_wp2_with fail
  refine (toOrder_any _ _ _).mono ?_; rintro e w3 ⟨rfl, b3⟩
  have B3 := Lib.hid (below_then B2.out b3)
  clear b3 c0 c1
  go_wp2_with fail
  refine (impl_ordValid _ _ _ (H.out.below B3.out)).mono ?_; rintro e w4 ⟨rfl, b4⟩
  have B4 := Lib.hid (below_then B3.out b4)
  clear b4
  generalize ordB op arg = V
  cases V
  · go_wp2_with fail
    go_ret
    exact ⟨rfl, B4.out⟩
  · go_wp2_with fail
    go_ret
    exact ⟨rfl, B4.out⟩
theorem ord_len (op arg : Int) : (ordN op arg).length ≤ 3 := (ordN_bytes op arg).1
theorem walk_FnExactOrderBytes (op arg : Int) (w : World) (h : Ops w) : Calls Tryd.prog 10 #[.agg #[.int .i64 op, .int .i64 arg]] w fun e w' => e = .returned (.bool true) ∧ Below w.heap.size w w' := by
  have H := Lib.hid h
  clear h
  have hn := ord_len op arg
  go_enter Tryd.func10, Tryd.ntmps10
  go_wp2_with fail
  refine (toOrder_any _ _ _).mono ?_; rintro e w1 ⟨rfl, b1⟩
  have X1 : Hid (Box w1 w.heap.size 40 [.int .i64 op, .int .i64 arg]) := (Box.new w _ _).below b1
  have B1 : Hid (Below w.heap.size w w1) := (below1 w _).trans (b1.mono (by simp))
  clear b1
  go_wp2_with fail
  refine (spec_ordBytes _ _ _).mono ?_; rintro e w2 ⟨SA, sc, sfp, rfl, hsc, si, sn, b2⟩
  have X2 := Lib.hid (X1.out.below b2)
  have B2 := Lib.hid (below_then B1.out b2)
  have S2 := Lib.hid si
  clear b2 si sn
  have c0 : w2.cell? ⟨w.heap.size, 0, none⟩ = some (.int .i64 op) := X2.out.cell 0
  have c1 : w2.cell? ⟨w.heap.size, 1, none⟩ = some (.int .i64 arg) := X2.out.cell 1
  go_wp2_with fail
  refine (toOrder_any _ _ _).mono ?_; rintro e w3 ⟨rfl, b3⟩
  have B3 := Lib.hid (below_then B2.out b3)
  have X3 := Lib.hid (X2.out.below b3)
  have S3 := Lib.hid (S2.out.below b3)
  clear b3 c0 c1
  go_wp2_with fail
  refine (impl_ordBytes _ _ _ (H.out.below B3.out)).mono ?_; rintro e w4 ⟨GA, gc, gfp, rfl, hgc, gi, gn, b4⟩
  have B4 := Lib.hid (below_then B3.out b4)
  have X4 := Lib.hid (X3.out.below b4)
  have S4 := Lib.hid (S3.out.below b4)
  have G4 := Lib.hid gi
  have N4 := Lib.hid gn
  have sl : Hid (∀ b ∈ sfp, b < w3.heap.size) := S3.out.lt
  clear b4 gi gn
  go_wp2_with fail
  refine (eq_ints _ _ _ _ _ _ _ _ _ G4.out S4.out (by omega)).mono ?_; rintro e w5 ⟨rfl, m5, rfl⟩
  go_wp2_with fail
  refine (mark_ints _ _ _ 1 _ _ _ (show Ints (w4.drewN m5) _ _ _ _ from G4.out) (fun b hb o => N4.out.free b hb o) (by omega) (by omega) (by omega)).mono ?_; rintro e w6 ⟨rfl, o6, g6, f6⟩
  have O6 : Hid (Only gfp w4 w6) := ⟨o6.os, o6.tape, o6.output, o6.size, o6.block⟩
  have G6 := Lib.hid g6
  clear o6 g6 f6
  generalize hK : (ordN op arg).length = K at hn G6 S4
  have HK := Lib.hid hK
  clear hK G4 S3 S2 X2 X1 B1 B2
  have X6 := Lib.hid (X4.out.only O6.out (fun hb => by have := (N4.out.lt _ hb).1; have := X3.out.lt; omega))
  have B6 : Hid (Below w.heap.size w w6) := B4.out.trans (O6.out.below (fun b hb => by have := (N4.out.lt b hb).1; have := B3.out.size; omega) B4.out.size)
  have S6 := Lib.hid (S4.out.keep (.of_only O6.out (fun b hb hg => by have := (N4.out.lt b hg).1; have := sl.out b hb; omega)))
  go_wp2_with fail
  refine (held_ints _ _ _ 1 _ _ G6.out (by omega) (by omega) (by omega)).mono ?_; rintro e w' ⟨rfl, rfl⟩
  have c0 : w6.cell? ⟨w.heap.size, 0, none⟩ = some (.int .i64 op) := X6.out.cell 0
  have c1 : w6.cell? ⟨w.heap.size, 1, none⟩ = some (.int .i64 arg) := X6.out.cell 1
  go_wp2_with fail
  refine (toOrder_any _ _ _).mono ?_; rintro e w7 ⟨rfl, b7⟩
  have B7 := Lib.hid (below_then B6.out b7)
  have S7 := Lib.hid (S6.out.below b7)
  have G7 := Lib.hid (G6.out.below b7)
  clear b7 c0 c1
  go_wp2_with fail
  refine (impl_ordBytes _ _ _ (H.out.below B7.out)).mono ?_; rintro e w8 ⟨HA, hc, hfp, rfl, hhc, hi, hnw, b8⟩
  have B8 := Lib.hid (below_then B7.out b8)
  have S8 := Lib.hid (S7.out.below b8)
  have G8 := Lib.hid (G7.out.below b8)
  rw [HK.out] at hi hhc ⊢
  have H8 := Lib.hid hi
  clear b8 hi hnw
  go_wp2_with fail
  refine (eq_ints _ _ _ _ _ _ _ _ _ H8.out S8.out (by omega)).mono ?_; rintro e w9 ⟨rfl, m9, rfl⟩
  have G9 : Hid (Ints (w8.drewN m9) GA K (upFrom 1 K) gfp) := G8.out
  go_wp2_with fail
  refine (held_ints _ _ _ 1 _ _ G9.out (by omega) (by omega) (by omega)).mono ?_; rintro e w' ⟨rfl, rfl⟩
  go_wp2_with fail
  go_ret
  exact ⟨rfl, below_drewN B8.out m9⟩
end Go.Proofs.YthndghhnpnaonaaDoor
