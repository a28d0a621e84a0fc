/- A drawn color. -/
import Derived.Test.YtbboebmfdahgpaaTypedG
import Derived.Test.YtbboebmfdahgpaaDrawC
import Derived.Test.YtbboebmfdahgpaaRowIn
import Derived.Deep.DeepCutAuto
namespace Go.Proofs.Ytbboebmfdahgpaa
open Go.ChangeShapes Go.WideShapes Go.ChangeAt Go.RowKit
set_option linter.unusedVariables false

theorem two_32 (v : Int) (d0 : 0 ≤ v) (d1 : v < 2) : ∃ u : Int, (#[Value.int .i64 (-1), .int .i64 32] : Array Value)[v.toNat]? = some (.int .i64 u) ∧ -1 ≤ u ∧ u ≤ 32 := by
  have h : v = 0 ∨ v = 1 := by omega
  rcases h with rfl | rfl <;> exact ⟨_, rfl, by omega, by omega⟩
theorem seven_3 (v : Int) (d0 : 0 ≤ v) (d1 : v < 7) : ∃ u : Int, (#[Value.int .i64 0, .int .i64 0, .int .i64 0, .int .i64 0, .int .i64 1, .int .i64 2, .int .i64 3] : Array Value)[v.toNat]? = some (.int .i64 u) ∧ 0 ≤ u ∧ u < 4 := by
  have h : v = 0 ∨ v = 1 ∨ v = 2 ∨ v = 3 ∨ v = 4 ∨ v = 5 ∨ v = 6 := by omega
  rcases h with rfl | rfl | rfl | rfl | rfl | rfl | rfl <;> exact ⟨_, rfl, by omega, by omega⟩
theorem four_unp (n v : Int) (n0 : 0 ≤ n) (n1 : n ≤ 32767) (d0 : 0 ≤ v) (d1 : v < 4) : ∃ u : Int, (#[Value.int .i64 n, .int .i64 32767, .int .i64 32768, .int .i64 (-1)] : Array Value)[v.toNat]? = some (.int .i64 u) ∧ -1 ≤ u ∧ u ≤ 32768 := by
  have h : v = 0 ∨ v = 1 ∨ v = 2 ∨ v = 3 := by omega
  rcases h with rfl | rfl | rfl | rfl <;> exact ⟨_, rfl, by omega, by omega⟩
/-- What drawing a color leaves. -/
def ColDrawn (q m : Nat) (w : World) (e : Ending) (w' : World) : Prop := ∃ r g b : Int, e = .returned (.agg #[.int .i64 r, .int .i64 g, .int .i64 b]) ∧ (0 ≤ r ∧ r ≤ 31) ∧ (-1 ≤ g ∧ g ≤ 32) ∧ (0 ≤ b ∧ b ≤ 31) ∧ Only [q] w w' ∧ Rd w' q (m + 10)
theorem col_end {w wx : World} {q m c : Nat} {r g b : Int} (ho : Only [q] w wx) (hr : Rd wx q c) (hc : c ≤ m + 10) (hq : q < w.heap.size) (hb : (0 ≤ r ∧ r ≤ 31) ∧ (-1 ≤ g ∧ g ≤ 32) ∧ (0 ≤ b ∧ b ≤ 31)) :
    ColDrawn q m w (.returned (.agg #[.int .i64 r, .int .i64 g, .int .i64 b])) (((wx.setCell ⟨w.heap.size, 0, none⟩ (.int .i64 r)).setCell ⟨w.heap.size, 1, none⟩ (.int .i64 g)).setCell ⟨w.heap.size, 2, none⟩ (.int .i64 b)) :=
  ⟨r, g, b, rfl, hb.1, hb.2.1, hb.2.2, ((ho.setCell (.inr (Nat.le_refl _)) _).setCell (.inr (Nat.le_refl _)) _).setCell (.inr (Nat.le_refl _)) _, (((hr.far hq _).far hq _).far hq _).mono hc⟩
set_option maxRecDepth 100000 in
set_option maxHeartbeats 4000000 in
theorem color_draw (q m : Nat) (n : Int) (w : World) (h : Rd w q m) (hm : m ≤ 100000) (hn : 1 ≤ n) (hn2 : n ≤ 1000) : Calls Try.prog 32 #[.pointer (some ⟨q, 0, none⟩), .int .i64 n] w (ColDrawn q m w) := by
  have hq := h.lt
  obtain ⟨w1, hw1⟩ : ∃ w1, w1 = w.alloc (.cells #[.int .i64 0, .int .i64 0, .int .i64 0] 24) := ⟨_, rfl⟩
  have R1 : Hid (Rd w1 q m) := by rw [hw1]; exact h.alloc _
  have X1 : Hid (Box w1 w.heap.size 24 [.int .i64 0, .int .i64 0, .int .i64 0]) := by rw [hw1]; exact Box.new w _ _
  have O1 : Hid (Only [q] w w1) := by rw [hw1]; exact (Only.refl _ w).alloc _
  have z1 : w.heap.size < w1.heap.size := X1.out.lt
  clear h
  go_enter Try.func32, Try.ntmps32
  go_wp2_with fail
  rw [← hw1]
  clear hw1
  refine (pick_any q _ 32 _ R1.out (by omega) (by omega) (by omega)).mono ?_
  rintro e w2 ⟨r, r0, r1, rfl, s2, r2⟩
  have X2 := Lib.hid (X1.out.only s2.only (by simp; omega))
  have O2 := Lib.hid (O1.out.trans s2.only)
  have R2 := Lib.hid r2
  clear s2 r2 X1 O1 R1
  go_wp2_with fail
  refine (pick_any q _ 32 _ R2.out (by omega) (by omega) (by omega)).mono ?_
  rintro e w3 ⟨g, g0, g1, rfl, s3, r3⟩
  have X3 := Lib.hid (X2.out.only s3.only (by simp; omega))
  have O3 := Lib.hid (O2.out.trans s3.only)
  have R3 := Lib.hid r3
  clear s3 r3 X2 O2 R2
  go_wp2_with fail
  refine (pick_any q _ 32 _ R3.out (by omega) (by omega) (by omega)).mono ?_
  rintro e w4 ⟨b, b0, b1, rfl, s4, r4⟩
  have X4 := Lib.hid (X3.out.only s4.only (by simp; omega))
  have O4 := Lib.hid (O3.out.trans s4.only)
  have R4 := Lib.hid r4
  clear s4 r4 X3 O3 R3
  have BX5 : Hid (Box (w4.alloc (.cells #[.int .i64 r, .int .i64 g, .int .i64 b] 24)) w4.heap.size 24 [.int .i64 r, .int .i64 g, .int .i64 b]) := Box.new w4 _ _
  have X5 := Lib.hid (X4.out.alloc (.cells #[.int .i64 r, .int .i64 g, .int .i64 b] 24))
  have O5 := Lib.hid (O4.out.alloc (.cells #[.int .i64 r, .int .i64 g, .int .i64 b] 24))
  have R5 := Lib.hid (R4.out.alloc (.cells #[.int .i64 r, .int .i64 g, .int .i64 b] 24))
  go_upto_region 2 with (fail)
  have zb' : w.heap.size < w4.heap.size := X4.out.lt
  have zq' : q < w4.heap.size := R4.out.lt
  generalize w4.alloc (.cells #[.int .i64 r, .int .i64 g, .int .i64 b] 24) = w5 at BX5 X5 O5 R5 ⊢
  generalize w4.heap.size = bk at BX5 zb' zq' ⊢
  have zb : bk < w5.heap.size := BX5.out.lt
  have hbq : bk ∉ [q] := by simp; omega
  clear X4 O4 R4
  go_wp2_with fail
  refine (odd_any q _ n _ R5.out (by omega) hn (by omega)).mono ?_
  rintro e w6 ⟨bb, rfl, s6, r6⟩
  have BX6 := Lib.hid (BX5.out.only s6.only hbq)
  have X6 := Lib.hid (X5.out.only s6.only (by simp; omega))
  have O6 := Lib.hid (O5.out.trans s6.only)
  have R6 := Lib.hid r6
  clear s6 r6 BX5 X5 O5 R5
  cases bb
  · have c0 : w6.cell? ⟨bk, 0, none⟩ = some (.int .i64 r) := BX6.out.cell 0
    have c1 : w6.cell? ⟨bk, 1, none⟩ = some (.int .i64 g) := BX6.out.cell 1
    have c2 : w6.cell? ⟨bk, 2, none⟩ = some (.int .i64 b) := BX6.out.cell 2
    have e0 : w6.cell? ⟨w.heap.size, 0, none⟩ = some (.int .i64 0) := X6.out.cell 0
    have g0' := X6.out.frozen 0
    have e1 : w6.cell? ⟨w.heap.size, 1, none⟩ = some (.int .i64 0) := X6.out.cell 1
    have g1' := X6.out.frozen 1
    have e2 : w6.cell? ⟨w.heap.size, 2, none⟩ = some (.int .i64 0) := X6.out.cell 2
    have g2' := X6.out.frozen 2
    go_wp2_with fail
    refine bodyPost_ret (v := .agg #[.int .i64 r, .int .i64 g, .int .i64 b]) (by simp [results, Try.results32, go_sem, e0, e1, e2]) rfl ?_
    exact col_end O6.out R6.out (by omega) hq (by omega)
  · go_wp2_with fail
    refine (pick_any q _ 2 _ (R6.out.alloc _) (by omega) (by omega) (by omega)).mono ?_
    rintro e w8 ⟨v, v0, v1, rfl, s8, r8⟩
    have zb7 : bk < w6.heap.size := BX6.out.lt
    have zq7 : q < w6.heap.size := R6.out.lt
    obtain ⟨u, hu, u0, u1⟩ := two_32 v v0 v1
    have cu := lit_at2 s8 zq7 hu
    have BX8 := Lib.hid ((BX6.out.alloc _).only s8.only hbq)
    have X8 := Lib.hid ((X6.out.alloc _).only s8.only (by simp; omega))
    have O8 := Lib.hid ((O6.out.alloc _).trans s8.only)
    have R8 := Lib.hid r8
    clear s8 r8 BX6 X6 O6 R6
    have vn : v < ((2 : Nat) : Int) := by omega
    have k0 := BX8.out.cell 1
    have k1 := BX8.out.frozen 1
    go_upto_region 4 with (fail)
    have BX9 : Hid (Box (w8.setCell ⟨bk, 1, none⟩ (.int .i64 u)) bk 24 [.int .i64 r, .int .i64 u, .int .i64 b]) := BX8.out.set 1 _
    have X9 := Lib.hid (X8.out.far (b' := bk) (i := 1) (by omega) (.int .i64 u))
    have O9 := Lib.hid (O8.out.setCell (q := bk) (j := 1) (.inr (by omega)) (.int .i64 u))
    have R9 := Lib.hid (R8.out.far (b := bk) (i := 1) (by omega) (.int .i64 u))
    generalize w8.setCell ⟨bk, 1, none⟩ (.int .i64 u) = w9 at BX9 X9 O9 R9 ⊢
    clear k0 k1 BX8 X8 O8 R8 cu
    have c0 : w9.cell? ⟨bk, 0, none⟩ = some (.int .i64 r) := BX9.out.cell 0
    have c1 : w9.cell? ⟨bk, 1, none⟩ = some (.int .i64 u) := BX9.out.cell 1
    have c2 : w9.cell? ⟨bk, 2, none⟩ = some (.int .i64 b) := BX9.out.cell 2
    have e0 : w9.cell? ⟨w.heap.size, 0, none⟩ = some (.int .i64 0) := X9.out.cell 0
    have g0' := X9.out.frozen 0
    have e1 : w9.cell? ⟨w.heap.size, 1, none⟩ = some (.int .i64 0) := X9.out.cell 1
    have g1' := X9.out.frozen 1
    have e2 : w9.cell? ⟨w.heap.size, 2, none⟩ = some (.int .i64 0) := X9.out.cell 2
    have g2' := X9.out.frozen 2
    go_wp2_with fail
    refine bodyPost_ret (v := .agg #[.int .i64 r, .int .i64 u, .int .i64 b]) (by simp [results, Try.results32, go_sem, e0, e1, e2]) rfl ?_
    exact col_end O9.out R9.out (by omega) hq (by omega)
/-- Colors that a law got. -/
def ColGot (w : World) (e : Ending) (w' : World) : Prop := ∃ r g b : Int, e = .returned (.agg #[.int .i64 r, .int .i64 g, .int .i64 b]) ∧ (0 ≤ r ∧ r ≤ 31) ∧ (-1 ≤ g ∧ g ≤ 32) ∧ (0 ≤ b ∧ b ≤ 31) ∧ Below w.heap.size w w'
def ColInt (w : World) (e : Ending) (w' : World) : Prop := ∃ r g b n : Int, e = .returned (.tuple #[.agg #[.int .i64 r, .int .i64 g, .int .i64 b], .int .i64 n]) ∧ (0 ≤ r ∧ r ≤ 31) ∧ (-1 ≤ g ∧ g ≤ 32) ∧ (0 ≤ b ∧ b ≤ 31) ∧ (-1 ≤ n ∧ n ≤ 17) ∧ Below w.heap.size w w'
def ColTwo (w : World) (e : Ending) (w' : World) : Prop := ∃ r g b r' g' b' : Int, e = .returned (.tuple #[.agg #[.int .i64 r, .int .i64 g, .int .i64 b], .agg #[.int .i64 r', .int .i64 g', .int .i64 b']]) ∧ (0 ≤ r ∧ r ≤ 31) ∧ (-1 ≤ g ∧ g ≤ 32) ∧ (0 ≤ b ∧ b ≤ 31) ∧ (0 ≤ r' ∧ r' ≤ 31) ∧ (-1 ≤ g' ∧ g' ≤ 32) ∧ (0 ≤ b' ∧ b' ≤ 31) ∧ Below w.heap.size w w'
def IntGot (w : World) (e : Ending) (w' : World) : Prop := ∃ n : Int, e = .returned (.int .i64 n) ∧ (-1 ≤ n ∧ n ≤ 32768) ∧ Below w.heap.size w w'
set_option maxRecDepth 100000 in
set_option maxHeartbeats 4000000 in
theorem drawColorValid (a : Option Addr) (len cap : Nat) (zs : List Int) (w : World) (h : IsRow .u8 w a len cap zs) : Calls Try.prog 14 #[.slice a len cap] w (ColGot w) := by
  have H := Lib.hid (isRow_stays h (below1 w (.cells #[.int .i64 0, .int .i64 0, .int .i64 0] 24)))
  clear h
  go_enter Try.func14, Try.ntmps14
  go_wp2_with fail
  refine (open_any a len cap zs _ H.out).mono ?_
  rintro e w1 ⟨rfl, b1, r1⟩
  have X1 : Hid (Box w1 w.heap.size 24 [.int .i64 0, .int .i64 0, .int .i64 0]) := (Box.new w _ _).below b1
  have B1 : Hid (Below w.heap.size w w1) := (below1 w (.cells #[.int .i64 0, .int .i64 0, .int .i64 0] 24)).trans (b1.mono (by simp))
  have R1 := Lib.hid r1
  have zq : w.heap.size < (w.alloc (.cells #[.int .i64 0, .int .i64 0, .int .i64 0] 24)).heap.size := by simp
  generalize (w.alloc (.cells #[.int .i64 0, .int .i64 0, .int .i64 0] 24)).heap.size = q at R1 zq
  have zq1 : q < w1.heap.size := R1.out.lt
  clear b1 r1
  go_wp2_with fail
  refine (color_draw q 0 2 _ R1.out (by omega) (by omega) (by omega)).mono ?_
  rintro e w2 ⟨r, g, b, rfl, hr, hg, hb, o2, r2⟩
  have X2 := Lib.hid (X1.out.only o2 (by simp; omega))
  have B2 := Lib.hid (B1.out.trans (o2.below (B := w.heap.size) (fun b hb => by simp at hb; omega) B1.out.size))
  have R2 := Lib.hid r2
  have ZW : Hid (w1.heap.size ≤ w2.heap.size) := o2.size
  clear o2 r2
  have e0 : w2.cell? ⟨w.heap.size, 0, none⟩ = some (.int .i64 0) := X2.out.cell 0
  have g0' := X2.out.frozen 0
  have e1 : w2.cell? ⟨w.heap.size, 1, none⟩ = some (.int .i64 0) := X2.out.cell 1
  have g1' := X2.out.frozen 1
  have e2 : w2.cell? ⟨w.heap.size, 2, none⟩ = some (.int .i64 0) := X2.out.cell 2
  have g2' := X2.out.frozen 2
  go_wp2_with fail
  refine bodyPost_ret (v := .agg #[.int .i64 r, .int .i64 g, .int .i64 b]) (by simp [results, Try.results14, go_sem, e0, e1, e2]) rfl ?_
  exact ⟨r, g, b, rfl, hr, hg, hb, ((B2.out.setCell (Nat.le_refl _) _).setCell (Nat.le_refl _) _).setCell (Nat.le_refl _) _⟩
set_option maxRecDepth 100000 in
set_option maxHeartbeats 4000000 in
theorem drawPackColor (a : Option Addr) (len cap : Nat) (zs : List Int) (w : World) (h : IsRow .u8 w a len cap zs) : Calls Try.prog 18 #[.slice a len cap] w (ColGot w) := by
  have H := Lib.hid (isRow_stays h (below1 w (.cells #[.int .i64 0, .int .i64 0, .int .i64 0] 24)))
  clear h
  go_enter Try.func18, Try.ntmps18
  go_wp2_with fail
  refine (open_any a len cap zs _ H.out).mono ?_
  rintro e w1 ⟨rfl, b1, r1⟩
  have X1 : Hid (Box w1 w.heap.size 24 [.int .i64 0, .int .i64 0, .int .i64 0]) := (Box.new w _ _).below b1
  have B1 : Hid (Below w.heap.size w w1) := (below1 w (.cells #[.int .i64 0, .int .i64 0, .int .i64 0] 24)).trans (b1.mono (by simp))
  have R1 := Lib.hid r1
  have zq : w.heap.size < (w.alloc (.cells #[.int .i64 0, .int .i64 0, .int .i64 0] 24)).heap.size := by simp
  generalize (w.alloc (.cells #[.int .i64 0, .int .i64 0, .int .i64 0] 24)).heap.size = q at R1 zq
  have zq1 : q < w1.heap.size := R1.out.lt
  clear b1 r1
  go_wp2_with fail
  refine (color_draw q 0 6 _ R1.out (by omega) (by omega) (by omega)).mono ?_
  rintro e w2 ⟨r, g, b, rfl, hr, hg, hb, o2, r2⟩
  have X2 := Lib.hid (X1.out.only o2 (by simp; omega))
  have B2 := Lib.hid (B1.out.trans (o2.below (B := w.heap.size) (fun b hb => by simp at hb; omega) B1.out.size))
  have R2 := Lib.hid r2
  have ZW : Hid (w1.heap.size ≤ w2.heap.size) := o2.size
  clear o2 r2
  have e0 : w2.cell? ⟨w.heap.size, 0, none⟩ = some (.int .i64 0) := X2.out.cell 0
  have g0' := X2.out.frozen 0
  have e1 : w2.cell? ⟨w.heap.size, 1, none⟩ = some (.int .i64 0) := X2.out.cell 1
  have g1' := X2.out.frozen 1
  have e2 : w2.cell? ⟨w.heap.size, 2, none⟩ = some (.int .i64 0) := X2.out.cell 2
  have g2' := X2.out.frozen 2
  go_wp2_with fail
  refine bodyPost_ret (v := .agg #[.int .i64 r, .int .i64 g, .int .i64 b]) (by simp [results, Try.results18, go_sem, e0, e1, e2]) rfl ?_
  exact ⟨r, g, b, rfl, hr, hg, hb, ((B2.out.setCell (Nat.le_refl _) _).setCell (Nat.le_refl _) _).setCell (Nat.le_refl _) _⟩
set_option maxRecDepth 100000 in
set_option maxHeartbeats 4000000 in
theorem drawMixColors (a : Option Addr) (len cap : Nat) (zs : List Int) (w : World) (h : IsRow .u8 w a len cap zs) : Calls Try.prog 24 #[.slice a len cap] w (ColTwo w) := by
  have H := Lib.hid (isRow_stays h (below2 w (.cells #[.int .i64 0, .int .i64 0, .int .i64 0] 24) (.cells #[.int .i64 0, .int .i64 0, .int .i64 0] 24)))
  clear h
  go_enter Try.func24, Try.ntmps24
  go_wp2_with fail
  refine (open_any a len cap zs _ H.out).mono ?_
  rintro e w1 ⟨rfl, b1, r1⟩
  have X1 : Hid (Box w1 w.heap.size 24 [.int .i64 0, .int .i64 0, .int .i64 0]) := ((Box.new w _ _).alloc _).below b1
  have Z1 : Hid (Box w1 (w.heap.size + 1) 24 [.int .i64 0, .int .i64 0, .int .i64 0]) := (Box.new_at _ _ _ _ (by simp)).below b1
  have B1 : Hid (Below w.heap.size w w1) := (below2 w (.cells #[.int .i64 0, .int .i64 0, .int .i64 0] 24) (.cells #[.int .i64 0, .int .i64 0, .int .i64 0] 24)).trans (b1.mono (by simp; omega))
  have R1 := Lib.hid r1
  have zq : w.heap.size + 1 < ((w.alloc (.cells #[.int .i64 0, .int .i64 0, .int .i64 0] 24)).alloc (.cells #[.int .i64 0, .int .i64 0, .int .i64 0] 24)).heap.size := by simp
  generalize ((w.alloc (.cells #[.int .i64 0, .int .i64 0, .int .i64 0] 24)).alloc (.cells #[.int .i64 0, .int .i64 0, .int .i64 0] 24)).heap.size = q at R1 zq
  have zq1 : q < w1.heap.size := R1.out.lt
  clear b1 r1
  go_wp2_with fail
  refine (color_draw q 0 12 _ R1.out (by omega) (by omega) (by omega)).mono ?_
  rintro e w2 ⟨r, g, b, rfl, hr, hg, hb, o2, r2⟩
  have X2 := Lib.hid (X1.out.only o2 (by simp; omega))
  have Z2 := Lib.hid (Z1.out.only o2 (by simp; omega))
  have B2 := Lib.hid (B1.out.trans (o2.below (B := w.heap.size) (fun b hb => by simp at hb; omega) B1.out.size))
  have R2 := Lib.hid r2
  have ZW : Hid (w1.heap.size ≤ w2.heap.size) := o2.size
  clear o2 r2
  have X3 := Lib.hid (X2.out.alloc (.cells #[.int .i64 r, .int .i64 g, .int .i64 b] 24))
  have Z3 := Lib.hid (Z2.out.alloc (.cells #[.int .i64 r, .int .i64 g, .int .i64 b] 24))
  have Y3 : Hid (Box (w2.alloc (.cells #[.int .i64 r, .int .i64 g, .int .i64 b] 24)) w2.heap.size 24 [.int .i64 r, .int .i64 g, .int .i64 b]) := Box.new w2 _ _
  have B3 := Lib.hid (B2.out.alloc B2.out.size (.cells #[.int .i64 r, .int .i64 g, .int .i64 b] 24))
  have R3 := Lib.hid (R2.out.alloc (.cells #[.int .i64 r, .int .i64 g, .int .i64 b] 24))
  go_upto_region 3 with (fail)
  have za : w.heap.size < w2.heap.size := X2.out.lt
  have zb : q < w2.heap.size := R2.out.lt
  generalize w2.alloc (.cells #[.int .i64 r, .int .i64 g, .int .i64 b] 24) = w3 at X3 Z3 Y3 B3 R3 ⊢
  generalize w2.heap.size = bk at Y3 za zb
  have z3 : bk < w3.heap.size := Y3.out.lt
  have RD : Hid (Rd w3.drew q (0 + 10)) := R3.out.stay (Below.refl _ _).drew
  have XD : Hid (Box w3.drew w.heap.size 24 [.int .i64 0, .int .i64 0, .int .i64 0]) := X3.out
  have ZD : Hid (Box w3.drew (w.heap.size + 1) 24 [.int .i64 0, .int .i64 0, .int .i64 0]) := Z3.out
  have YD : Hid (Box w3.drew bk 24 [.int .i64 r, .int .i64 g, .int .i64 b]) := Y3.out
  have BD : Hid (Below w.heap.size w w3.drew) := B3.out.drew
  clear X2 B2 R2 ZW X3 Y3 B3 R3 Z2 Z3
  have d0 := YD.out.cell 0
  have d1 := YD.out.cell 1
  have d2 := YD.out.cell 2
  simp only [List.getElem?_cons_zero, List.getElem?_cons_succ] at d0 d1 d2
  go_region_with (first | (go_at_call 32; ((with_reducible refine (color_draw q (0 + 10) 12 _ RD.out (by omega) (by omega) (by omega)).mono ?_)); rintro e w4 ⟨r', g', b', rfl, hr', hg', hb', o4, r4⟩; have O4 := Lib.hid o4; have X4 := Lib.hid (XD.out.only O4.out (by simp; omega)); have Y4 := Lib.hid (YD.out.only O4.out (by simp; omega)); have B4 := Lib.hid (BD.out.trans (O4.out.below (B := w.heap.size) (fun b hb => by simp at hb; omega) BD.out.size)); have z4 : w3.heap.size ≤ w4.heap.size := O4.out.size; clear o4 r4; have Z4 := Lib.hid (ZD.out.only O4.out (by simp; omega)); have c0 : w4.cell? ⟨bk, 0, none⟩ = some (.int .i64 r) := Y4.out.cell 0; have c1 : w4.cell? ⟨bk, 1, none⟩ = some (.int .i64 g) := Y4.out.cell 1; have c2 : w4.cell? ⟨bk, 2, none⟩ = some (.int .i64 b) := Y4.out.cell 2; have e0 : w4.cell? ⟨w.heap.size, 0, none⟩ = some (.int .i64 0) := X4.out.cell 0; have g0' := X4.out.frozen 0; have e1 : w4.cell? ⟨w.heap.size, 1, none⟩ = some (.int .i64 0) := X4.out.cell 1; have g1' := X4.out.frozen 1; have e2 : w4.cell? ⟨w.heap.size, 2, none⟩ = some (.int .i64 0) := X4.out.cell 2; have g2' := X4.out.frozen 2; have i0 : w4.cell? ⟨w.heap.size + 1, 0, none⟩ = some (.int .i64 0) := Z4.out.cell 0; have j0' := Z4.out.frozen 0; have i1 : w4.cell? ⟨w.heap.size + 1, 1, none⟩ = some (.int .i64 0) := Z4.out.cell 1; have j1' := Z4.out.frozen 1; have i2 : w4.cell? ⟨w.heap.size + 1, 2, none⟩ = some (.int .i64 0) := Z4.out.cell 2; have j2' := Z4.out.frozen 2))
  all_goals
    go_wp2
    refine bodyPost_ret (v := .tuple #[.agg #[.int .i64 r, .int .i64 g, .int .i64 b], .agg #[.int .i64 r', .int .i64 g', .int .i64 b']]) (by simp [results, Try.results24, go_sem, e0, e1, e2, i0, i1, i2]) rfl ?_
    refine ⟨r, g, b, r', g', b', rfl, hr, hg, hb, hr', hg', hb', ?_⟩
    repeat (first | with_reducible exact B4.out | with_reducible refine Below.setCell ?_ (by simp) _)
set_option maxRecDepth 100000 in
set_option maxHeartbeats 4000000 in
theorem drawFadeColor (a : Option Addr) (len cap : Nat) (zs : List Int) (w : World) (h : IsRow .u8 w a len cap zs) : Calls Try.prog 27 #[.slice a len cap] w (ColInt w) := by
  have H := Lib.hid (isRow_stays h (below1 w (.cells #[.int .i64 0, .int .i64 0, .int .i64 0] 24)))
  clear h
  go_enter Try.func27, Try.ntmps27
  go_wp2_with fail
  refine (open_any a len cap zs _ H.out).mono ?_
  rintro e w1 ⟨rfl, b1, r1⟩
  have X1 : Hid (Box w1 w.heap.size 24 [.int .i64 0, .int .i64 0, .int .i64 0]) := (Box.new w _ _).below b1
  have B1 : Hid (Below w.heap.size w w1) := (below1 w (.cells #[.int .i64 0, .int .i64 0, .int .i64 0] 24)).trans (b1.mono (by simp))
  have R1 := Lib.hid r1
  have zq : w.heap.size < (w.alloc (.cells #[.int .i64 0, .int .i64 0, .int .i64 0] 24)).heap.size := by simp
  generalize (w.alloc (.cells #[.int .i64 0, .int .i64 0, .int .i64 0] 24)).heap.size = q at R1 zq
  have zq1 : q < w1.heap.size := R1.out.lt
  clear b1 r1
  go_wp2_with fail
  refine (color_draw q 0 12 _ R1.out (by omega) (by omega) (by omega)).mono ?_
  rintro e w2 ⟨r, g, b, rfl, hr, hg, hb, o2, r2⟩
  have X2 := Lib.hid (X1.out.only o2 (by simp; omega))
  have B2 := Lib.hid (B1.out.trans (o2.below (B := w.heap.size) (fun b hb => by simp at hb; omega) B1.out.size))
  have R2 := Lib.hid r2
  have ZW : Hid (w1.heap.size ≤ w2.heap.size) := o2.size
  clear o2 r2
  have X3 := Lib.hid (X2.out.alloc (.cells #[.int .i64 r, .int .i64 g, .int .i64 b] 24))
  have Y3 : Hid (Box (w2.alloc (.cells #[.int .i64 r, .int .i64 g, .int .i64 b] 24)) w2.heap.size 24 [.int .i64 r, .int .i64 g, .int .i64 b]) := Box.new w2 _ _
  have B3 := Lib.hid (B2.out.alloc B2.out.size (.cells #[.int .i64 r, .int .i64 g, .int .i64 b] 24))
  have R3 := Lib.hid (R2.out.alloc (.cells #[.int .i64 r, .int .i64 g, .int .i64 b] 24))
  go_upto_region 3 with (fail)
  have za : w.heap.size < w2.heap.size := X2.out.lt
  have zb : q < w2.heap.size := R2.out.lt
  generalize w2.alloc (.cells #[.int .i64 r, .int .i64 g, .int .i64 b] 24) = w3 at X3 Y3 B3 R3 ⊢
  generalize w2.heap.size = bk at Y3 za zb
  have z3 : bk < w3.heap.size := Y3.out.lt
  have RD : Hid (Rd w3.drew q (0 + 10)) := R3.out.stay (Below.refl _ _).drew
  have XD : Hid (Box w3.drew w.heap.size 24 [.int .i64 0, .int .i64 0, .int .i64 0]) := X3.out
  have YD : Hid (Box w3.drew bk 24 [.int .i64 r, .int .i64 g, .int .i64 b]) := Y3.out
  have BD : Hid (Below w.heap.size w w3.drew) := B3.out.drew
  clear X2 B2 R2 ZW X3 Y3 B3 R3
  have d0 := YD.out.cell 0
  have d1 := YD.out.cell 1
  have d2 := YD.out.cell 2
  simp only [List.getElem?_cons_zero, List.getElem?_cons_succ] at d0 d1 d2
  go_region_with (first | (go_at_call 38; ((with_reducible refine (pick_any q (0 + 10) 19 _ RD.out (by omega) (by omega) (by omega)).mono ?_)); rintro e w4 ⟨n, n0, n1, rfl, s4, r4⟩; have O4 := Lib.hid s4.only; have X4 := Lib.hid (XD.out.only O4.out (by simp; omega)); have Y4 := Lib.hid (YD.out.only O4.out (by simp; omega)); have B4 := Lib.hid (BD.out.trans (O4.out.below (B := w.heap.size) (fun b hb => by simp at hb; omega) BD.out.size)); have z4 : w3.heap.size ≤ w4.heap.size := O4.out.size; clear s4 r4; have c0 : w4.cell? ⟨bk, 0, none⟩ = some (.int .i64 r) := Y4.out.cell 0; have c1 : w4.cell? ⟨bk, 1, none⟩ = some (.int .i64 g) := Y4.out.cell 1; have c2 : w4.cell? ⟨bk, 2, none⟩ = some (.int .i64 b) := Y4.out.cell 2; have e0 : w4.cell? ⟨w.heap.size, 0, none⟩ = some (.int .i64 0) := X4.out.cell 0; have g0' := X4.out.frozen 0; have e1 : w4.cell? ⟨w.heap.size, 1, none⟩ = some (.int .i64 0) := X4.out.cell 1; have g1' := X4.out.frozen 1; have e2 : w4.cell? ⟨w.heap.size, 2, none⟩ = some (.int .i64 0) := X4.out.cell 2; have g2' := X4.out.frozen 2))
  all_goals
    go_wp2
    have hw : IntKind.i64.wrap (n - 1) = n - 1 := by rw [IntKind.wrap_i64]; omega
    refine bodyPost_ret (v := .tuple #[.agg #[.int .i64 r, .int .i64 g, .int .i64 b], .int .i64 (n - 1)]) (by simp [results, Try.results27, go_sem, e0, e1, e2, hw]) rfl ?_
    refine ⟨r, g, b, n - 1, rfl, hr, hg, hb, by omega, ?_⟩
    repeat (first | with_reducible exact B4.out | with_reducible refine Below.setCell ?_ (by simp) _)
set_option maxRecDepth 100000 in
set_option maxHeartbeats 4000000 in
theorem drawUnpackColor (a : Option Addr) (len cap : Nat) (zs : List Int) (w : World) (h : IsRow .u8 w a len cap zs) : Calls Try.prog 22 #[.slice a len cap] w (IntGot w) := by
  have H := Lib.hid h
  clear h
  go_enter Try.func22, Try.ntmps22
  go_wp2_with fail
  refine (open_any a len cap zs _ H.out).mono ?_
  rintro e w1 ⟨rfl, b1, r1⟩
  have B1 := Lib.hid b1
  have R1 := Lib.hid r1
  obtain ⟨q, hq⟩ : ∃ q, w.heap.size = q := ⟨_, rfl⟩
  rw [hq] at R1 ⊢
  clear b1 r1
  go_wp2_with fail
  refine (pick_any q _ 256 _ R1.out (by omega) (by omega) (by omega)).mono ?_
  rintro e w2 ⟨x, x0, x1, rfl, s2, r2⟩
  have B2 := Lib.hid (B1.out.trans (s2.below (Nat.le_of_eq hq) B1.out.size))
  have R2 := Lib.hid r2
  clear s2 r2 B1 R1
  go_wp2_with fail
  refine (pick_any q _ 128 _ R2.out (by omega) (by omega) (by omega)).mono ?_
  rintro e w3 ⟨y, y0, y1, rfl, s3, r3⟩
  have B3 := Lib.hid (B2.out.trans (s3.below (Nat.le_of_eq hq) B2.out.size))
  have R3 := Lib.hid r3
  have zq3 : q < w3.heap.size := R3.out.lt
  clear s3 r3 B2 R2
  go_wp2_with fail
  refine (pick_any q _ 7 _ ((R3.out.alloc _).alloc _) (by omega) (by omega) (by omega)).mono ?_
  rintro e w4 ⟨v, v0, v1, rfl, s4, r4⟩
  obtain ⟨u, hu, u0, u1⟩ := seven_3 v v0 v1
  obtain ⟨t, ht, t0, t1⟩ := four_unp (x * 128 + y) u (by omega) (by omega) u0 u1
  have L7 := Lib.hid ((Box.new_at _ _ _ (w3.heap.size + 1) (by simp)).only s4.only (by simp; omega))
  have L4 := Lib.hid (((Box.new w3 _ _).alloc _).only s4.only (by simp; omega))
  have B4 := Lib.hid (((B3.out.alloc B3.out.size _).alloc (B3.out.alloc B3.out.size _).size _).trans (s4.below (Nat.le_of_eq hq) ((B3.out.alloc B3.out.size _).alloc (B3.out.alloc B3.out.size _).size _).size))
  have c7 := (L7.out.cell v.toNat).trans (List.getElem?_toArray.symm.trans hu)
  have c4 := (L4.out.cell u.toNat).trans (List.getElem?_toArray.symm.trans ht)
  have vn : v < ((7 : Nat) : Int) := by omega
  have un : u < ((4 : Nat) : Int) := by omega
  clear s4 r4 B3 R3
  go_wp2_with fail
  go_ret
  exact ⟨t, rfl, ⟨t0, t1⟩, B4.out⟩
end Go.Proofs.Ytbboebmfdahgpaa
