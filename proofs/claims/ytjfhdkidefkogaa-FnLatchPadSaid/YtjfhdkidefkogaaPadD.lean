/- A drawn controller. -/
import Derived.Test.YtjfhdkidefkogaaTypedG
import Derived.Test.YtjfhdkidefkogaaDrawC
import Derived.Test.YtjfhdkidefkogaaRowIn
import Derived.Deep.DeepCutAuto
namespace Go.Proofs.Ytjfhdkidefkogaa
open Go.ChangeShapes Go.WideShapes Go.ChangeAt Go.RowKit
set_option linter.unusedVariables false

theorem two_9 (v : Int) (d0 : 0 ≤ v) (d1 : v < 2) : ∃ u : Int, (#[Value.int .i64 (-1), .int .i64 9] : Array Value)[v.toNat]? = some (.int .i64 u) ∧ -1 ≤ u ∧ u ≤ 9 := by
  have h : v = 0 ∨ v = 1 := by omega
  rcases h with rfl | rfl <;> exact ⟨_, rfl, by omega, by omega⟩
/-- What drawing a controller leaves. -/
def PadDrawn (q m : Nat) (w : World) (e : Ending) (w' : World) : Prop := ∃ p t r : Int, e = .returned (.agg #[.int .i64 p, .int .i64 t, .int .i64 r]) ∧ (-1 ≤ p ∧ p ≤ 256) ∧ (-1 ≤ t ∧ t ≤ 256) ∧ (-1 ≤ r ∧ r ≤ 9) ∧ Only [q] w w' ∧ Rd w' q (m + 40)
theorem pad_end {w wx : World} {q m c : Nat} {p t r : Int} (ho : Only [q] w wx) (hr : Rd wx q c) (hc : c ≤ m + 40) (hq : q < w.heap.size) (l0 : -1 ≤ p ∧ p ≤ 256) (r0 : -1 ≤ t ∧ t ≤ 256) (f0 : -1 ≤ r ∧ r ≤ 9) :
    PadDrawn q m w (.returned (.agg #[.int .i64 p, .int .i64 t, .int .i64 r])) (((wx.setCell ⟨w.heap.size, 0, none⟩ (.int .i64 p)).setCell ⟨w.heap.size, 1, none⟩ (.int .i64 t)).setCell ⟨w.heap.size, 2, none⟩ (.int .i64 r)) :=
  ⟨p, t, r, rfl, l0, r0, f0, ((ho.setCell (.inr (Nat.le_refl _)) _).setCell (.inr (Nat.le_refl _)) _).setCell (.inr (Nat.le_refl _)) _, (((hr.far hq _).far hq _).far hq _).mono hc⟩
set_option maxRecDepth 100000 in
set_option maxHeartbeats 4000000 in
theorem pad_any (q m : Nat) (n : Int) (w : World) (h : Rd w q m) (hm : m ≤ 100000) (hn : 1 ≤ n) (hn2 : n ≤ 1000) : Calls Try.prog 34 #[.pointer (some ⟨q, 0, none⟩), .int .i64 n] w (PadDrawn q m w) := by
  have hq := h.lt
  obtain ⟨w1, hw1⟩ : ∃ w1, w1 = w.alloc (.cells #[.int .i64 0, .int .i64 0, .int .i64 0] 24) := ⟨_, rfl⟩
  have R1 : Hid (Rd w1 q m) := by rw [hw1]; exact h.alloc _
  have X1 : Hid (Box w1 w.heap.size 24 [.int .i64 0, .int .i64 0, .int .i64 0]) := by rw [hw1]; exact Box.new w _ _
  have O1 : Hid (Only [q] w w1) := by rw [hw1]; exact (Only.refl _ w).alloc _
  have z1 : w.heap.size < w1.heap.size := X1.out.lt
  clear h
  go_enter Try.func34, Try.ntmps34
  go_wp2_with fail
  rw [← hw1]
  clear hw1
  refine (pick_any q _ 256 _ R1.out (by omega) (by omega) (by omega)).mono ?_
  rintro e w2 ⟨p, p0, p1, rfl, s2, r2⟩
  have X2 := Lib.hid (X1.out.only s2.only (by simp; omega))
  have O2 := Lib.hid (O1.out.trans s2.only)
  have R2 := Lib.hid r2
  clear s2 r2 X1 O1 R1
  go_wp2_with fail
  refine (pick_any q _ 256 _ R2.out (by omega) (by omega) (by omega)).mono ?_
  rintro e w3 ⟨t, t0, t1, rfl, s3, r3⟩
  have X3 := Lib.hid (X2.out.only s3.only (by simp; omega))
  have O3 := Lib.hid (O2.out.trans s3.only)
  have R3 := Lib.hid r3
  clear s3 r3 X2 O2 R2
  go_wp2_with fail
  refine (pick_any q _ 9 _ R3.out (by omega) (by omega) (by omega)).mono ?_
  rintro e w4 ⟨r, r0, r1, rfl, s4, r4⟩
  have X4 := Lib.hid (X3.out.only s4.only (by simp; omega))
  have O4 := Lib.hid (O3.out.trans s4.only)
  have R4 := Lib.hid r4
  clear s4 r4 X3 O3 R3
  have BX5 : Hid (Box (w4.alloc (.cells #[.int .i64 p, .int .i64 t, .int .i64 r] 24)) w4.heap.size 24 [.int .i64 p, .int .i64 t, .int .i64 r]) := Box.new w4 _ _
  have X5 := Lib.hid (X4.out.alloc (.cells #[.int .i64 p, .int .i64 t, .int .i64 r] 24))
  have O5 := Lib.hid (O4.out.alloc (.cells #[.int .i64 p, .int .i64 t, .int .i64 r] 24))
  have R5 := Lib.hid (R4.out.alloc (.cells #[.int .i64 p, .int .i64 t, .int .i64 r] 24))
  go_upto_region 2 with (fail)
  have zb' : w.heap.size < w4.heap.size := X4.out.lt
  have zq' : q < w4.heap.size := R4.out.lt
  generalize w4.alloc (.cells #[.int .i64 p, .int .i64 t, .int .i64 r] 24) = w5 at BX5 X5 O5 R5 ⊢
  generalize w4.heap.size = b at BX5 zb' zq' ⊢
  have zb : b < w5.heap.size := BX5.out.lt
  have hbq : b ∉ [q] := by simp; omega
  clear X4 O4 R4
  go_wp2_with fail
  refine (odd_any q _ n _ R5.out (by omega) hn (by omega)).mono ?_
  rintro e w6 ⟨bb, rfl, s6, r6⟩
  have BX6 := Lib.hid (BX5.out.only s6.only hbq)
  have X6 := Lib.hid (X5.out.only s6.only (by simp; omega))
  have O6 := Lib.hid (O5.out.trans s6.only)
  have R6 := Lib.hid r6
  clear s6 r6 BX5 X5 O5 R5
  cases bb
  · have c0 : w6.cell? ⟨b, 0, none⟩ = some (.int .i64 p) := BX6.out.cell 0
    have c1 : w6.cell? ⟨b, 1, none⟩ = some (.int .i64 t) := BX6.out.cell 1
    have c2 : w6.cell? ⟨b, 2, none⟩ = some (.int .i64 r) := BX6.out.cell 2
    have e0 : w6.cell? ⟨w.heap.size, 0, none⟩ = some (.int .i64 0) := X6.out.cell 0
    have g0 := X6.out.frozen 0
    have e1 : w6.cell? ⟨w.heap.size, 1, none⟩ = some (.int .i64 0) := X6.out.cell 1
    have g1 := X6.out.frozen 1
    have e2 : w6.cell? ⟨w.heap.size, 2, none⟩ = some (.int .i64 0) := X6.out.cell 2
    have g2 := X6.out.frozen 2
    go_wp2_with fail
    refine bodyPost_ret (v := .agg #[.int .i64 p, .int .i64 t, .int .i64 r]) (by simp [results, Try.results34, go_sem, e0, e1, e2]) rfl ?_
    exact pad_end O6.out R6.out (by omega) hq (by omega) (by omega) (by omega)
  · go_wp2_with fail
    refine (pick_any q _ 3 _ R6.out (by omega) (by omega) (by omega)).mono ?_
    rintro e w7 ⟨sw, sw0, sw1, rfl, s7, r7⟩
    have BX7 := Lib.hid (BX6.out.only s7.only hbq)
    have X7 := Lib.hid (X6.out.only s7.only (by simp; omega))
    have O7 := Lib.hid (O6.out.trans s7.only)
    have R7 := Lib.hid r7
    have zb7 : b < w7.heap.size := BX7.out.lt
    have zq7 : q < w7.heap.size := R7.out.lt
    clear s7 r7 BX6 X6 O6 R6
    have hsw : sw = 0 ∨ sw = 1 ∨ sw = 2 := by omega
    rcases hsw with rfl | rfl | rfl
    · clear sw0 sw1
      go_wp2_with fail
      refine (byte_any q _ 1 _ R7.out (by omega) (by omega) (by omega)).mono ?_
      rintro e w8 ⟨u, u0, u1, rfl, s8, r8⟩
      have BX8 := Lib.hid (BX7.out.only s8.only hbq)
      have X8 := Lib.hid (X7.out.only s8.only (by simp; omega))
      have O8 := Lib.hid (O7.out.trans s8.only)
      have R8 := Lib.hid r8
      clear s8 r8 BX7 X7 O7 R7
      have k0 := BX8.out.cell 0
      have k1 := BX8.out.frozen 0
      go_upto_region 9 with (fail)
      have BX9 : Hid (Box (w8.setCell ⟨b, 0, none⟩ (.int .i64 u)) b 24 [.int .i64 u, .int .i64 t, .int .i64 r]) := BX8.out.set 0 _
      have X9 := Lib.hid (X8.out.far (b' := b) (i := 0) (by omega) (.int .i64 u))
      have O9 := Lib.hid (O8.out.setCell (q := b) (j := 0) (.inr (by omega)) (.int .i64 u))
      have R9 := Lib.hid (R8.out.far (b := b) (i := 0) (by omega) (.int .i64 u))
      generalize w8.setCell ⟨b, 0, none⟩ (.int .i64 u) = w9 at BX9 X9 O9 R9 ⊢
      clear k0 k1 BX8 X8 O8 R8
      have c0 : w9.cell? ⟨b, 0, none⟩ = some (.int .i64 u) := BX9.out.cell 0
      have c1 : w9.cell? ⟨b, 1, none⟩ = some (.int .i64 t) := BX9.out.cell 1
      have c2 : w9.cell? ⟨b, 2, none⟩ = some (.int .i64 r) := BX9.out.cell 2
      have e0 : w9.cell? ⟨w.heap.size, 0, none⟩ = some (.int .i64 0) := X9.out.cell 0
      have g0 := X9.out.frozen 0
      have e1 : w9.cell? ⟨w.heap.size, 1, none⟩ = some (.int .i64 0) := X9.out.cell 1
      have g1 := X9.out.frozen 1
      have e2 : w9.cell? ⟨w.heap.size, 2, none⟩ = some (.int .i64 0) := X9.out.cell 2
      have g2 := X9.out.frozen 2
      go_wp2_with fail
      refine bodyPost_ret (v := .agg #[.int .i64 u, .int .i64 t, .int .i64 r]) (by simp [results, Try.results34, go_sem, e0, e1, e2]) rfl ?_
      exact pad_end O9.out R9.out (by omega) hq (by omega) (by omega) (by omega)
    · clear sw0 sw1
      go_wp2_with fail
      refine (byte_any q _ 1 _ R7.out (by omega) (by omega) (by omega)).mono ?_
      rintro e w8 ⟨u, u0, u1, rfl, s8, r8⟩
      have BX8 := Lib.hid (BX7.out.only s8.only hbq)
      have X8 := Lib.hid (X7.out.only s8.only (by simp; omega))
      have O8 := Lib.hid (O7.out.trans s8.only)
      have R8 := Lib.hid r8
      clear s8 r8 BX7 X7 O7 R7
      have k0 := BX8.out.cell 1
      have k1 := BX8.out.frozen 1
      go_upto_region 9 with (fail)
      have BX9 : Hid (Box (w8.setCell ⟨b, 1, none⟩ (.int .i64 u)) b 24 [.int .i64 p, .int .i64 u, .int .i64 r]) := BX8.out.set 1 _
      have X9 := Lib.hid (X8.out.far (b' := b) (i := 1) (by omega) (.int .i64 u))
      have O9 := Lib.hid (O8.out.setCell (q := b) (j := 1) (.inr (by omega)) (.int .i64 u))
      have R9 := Lib.hid (R8.out.far (b := b) (i := 1) (by omega) (.int .i64 u))
      generalize w8.setCell ⟨b, 1, none⟩ (.int .i64 u) = w9 at BX9 X9 O9 R9 ⊢
      clear k0 k1 BX8 X8 O8 R8
      have c0 : w9.cell? ⟨b, 0, none⟩ = some (.int .i64 p) := BX9.out.cell 0
      have c1 : w9.cell? ⟨b, 1, none⟩ = some (.int .i64 u) := BX9.out.cell 1
      have c2 : w9.cell? ⟨b, 2, none⟩ = some (.int .i64 r) := BX9.out.cell 2
      have e0 : w9.cell? ⟨w.heap.size, 0, none⟩ = some (.int .i64 0) := X9.out.cell 0
      have g0 := X9.out.frozen 0
      have e1 : w9.cell? ⟨w.heap.size, 1, none⟩ = some (.int .i64 0) := X9.out.cell 1
      have g1 := X9.out.frozen 1
      have e2 : w9.cell? ⟨w.heap.size, 2, none⟩ = some (.int .i64 0) := X9.out.cell 2
      have g2 := X9.out.frozen 2
      go_wp2_with fail
      refine bodyPost_ret (v := .agg #[.int .i64 p, .int .i64 u, .int .i64 r]) (by simp [results, Try.results34, go_sem, e0, e1, e2]) rfl ?_
      exact pad_end O9.out R9.out (by omega) hq (by omega) (by omega) (by omega)
    · clear sw0 sw1
      go_wp2_with fail
      refine (pick_any q _ 2 _ (R7.out.alloc _) (by omega) (by omega) (by omega)).mono ?_
      rintro e w8 ⟨v, v0, v1, rfl, s8, r8⟩
      obtain ⟨u, hu, u0, u1⟩ := two_9 v v0 v1
      have cu := lit_at2 s8 zq7 hu
      have BX8 := Lib.hid ((BX7.out.alloc _).only s8.only hbq)
      have X8 := Lib.hid ((X7.out.alloc _).only s8.only (by simp; omega))
      have O8 := Lib.hid ((O7.out.alloc _).trans s8.only)
      have R8 := Lib.hid r8
      clear s8 r8 BX7 X7 O7 R7
      have vn : v < ((2 : Nat) : Int) := by omega
      have k0 := BX8.out.cell 2
      have k1 := BX8.out.frozen 2
      go_upto_region 9 with (fail)
      have BX9 : Hid (Box (w8.setCell ⟨b, 2, none⟩ (.int .i64 u)) b 24 [.int .i64 p, .int .i64 t, .int .i64 u]) := BX8.out.set 2 _
      have X9 := Lib.hid (X8.out.far (b' := b) (i := 2) (by omega) (.int .i64 u))
      have O9 := Lib.hid (O8.out.setCell (q := b) (j := 2) (.inr (by omega)) (.int .i64 u))
      have R9 := Lib.hid (R8.out.far (b := b) (i := 2) (by omega) (.int .i64 u))
      generalize w8.setCell ⟨b, 2, none⟩ (.int .i64 u) = w9 at BX9 X9 O9 R9 ⊢
      clear k0 k1 BX8 X8 O8 R8 cu
      have c0 : w9.cell? ⟨b, 0, none⟩ = some (.int .i64 p) := BX9.out.cell 0
      have c1 : w9.cell? ⟨b, 1, none⟩ = some (.int .i64 t) := BX9.out.cell 1
      have c2 : w9.cell? ⟨b, 2, none⟩ = some (.int .i64 u) := BX9.out.cell 2
      have e0 : w9.cell? ⟨w.heap.size, 0, none⟩ = some (.int .i64 0) := X9.out.cell 0
      have g0 := X9.out.frozen 0
      have e1 : w9.cell? ⟨w.heap.size, 1, none⟩ = some (.int .i64 0) := X9.out.cell 1
      have g1 := X9.out.frozen 1
      have e2 : w9.cell? ⟨w.heap.size, 2, none⟩ = some (.int .i64 0) := X9.out.cell 2
      have g2 := X9.out.frozen 2
      go_wp2_with fail
      refine bodyPost_ret (v := .agg #[.int .i64 p, .int .i64 t, .int .i64 u]) (by simp [results, Try.results34, go_sem, e0, e1, e2]) rfl ?_
      exact pad_end O9.out R9.out (by omega) hq (by omega) (by omega) (by omega)
/-- A controller that a law got; and with a byte. -/
def PadGot (w : World) (e : Ending) (w' : World) : Prop := ∃ p t r : Int, e = .returned (.agg #[.int .i64 p, .int .i64 t, .int .i64 r]) ∧ (-1 ≤ p ∧ p ≤ 256) ∧ (-1 ≤ t ∧ t ≤ 256) ∧ (-1 ≤ r ∧ r ≤ 9) ∧ Below w.heap.size w w'
def PadByte (w : World) (e : Ending) (w' : World) : Prop := ∃ p t r n : Int, e = .returned (.tuple #[.agg #[.int .i64 p, .int .i64 t, .int .i64 r], .int .i64 n]) ∧ (-1 ≤ p ∧ p ≤ 256) ∧ (-1 ≤ t ∧ t ≤ 256) ∧ (-1 ≤ r ∧ r ≤ 9) ∧ (-1 ≤ n ∧ n ≤ 256) ∧ Below w.heap.size w w'
theorem drawPadValid (a : Option Addr) (len cap : Nat) (zs : List Int) (w : World) (h : IsRow .u8 w a len cap zs) : Calls Try.prog 14 #[.slice a len cap] w (PadGot w) := by
  have H := Lib.hid (isRow_stays h (below1 w (.cells #[.int .i64 0, .int .i64 0, .int .i64 0] 24)))
  clear h
  go_enter Try.func14, Try.ntmps14
  go_wp2_with fail
  refine (open_any a len cap zs _ H.out).mono ?_
  rintro e w1 ⟨rfl, b1, r1⟩
  have X1 : Hid (Box w1 w.heap.size 24 [.int .i64 0, .int .i64 0, .int .i64 0]) := (Box.new w _ _).below b1
  have B1 : Hid (Below w.heap.size w w1) := (below1 w _).trans (b1.mono (by simp))
  have R1 := Lib.hid r1
  have zq : w.heap.size < (w.alloc (.cells #[.int .i64 0, .int .i64 0, .int .i64 0] 24)).heap.size := by simp
  generalize (w.alloc (.cells #[.int .i64 0, .int .i64 0, .int .i64 0] 24)).heap.size = q at R1 zq
  have zq1 : q < w1.heap.size := R1.out.lt
  clear b1 r1
  go_wp2_with fail
  refine (pad_any q 0 2 _ R1.out (by omega) (by omega) (by omega)).mono ?_
  rintro e w2 ⟨p, t, r, rfl, hp, ht, hr, o2, r2⟩
  have X2 := Lib.hid (X1.out.only o2 (by simp; omega))
  have B2 := Lib.hid (B1.out.trans (o2.below (B := w.heap.size) (fun b hb => by simp at hb; omega) B1.out.size))
  have R2 := Lib.hid r2
  have ZW : Hid (w1.heap.size ≤ w2.heap.size) := o2.size
  clear o2 r2
  have e0 : w2.cell? ⟨w.heap.size, 0, none⟩ = some (.int .i64 0) := X2.out.cell 0
  have g0 := X2.out.frozen 0
  have e1 : w2.cell? ⟨w.heap.size, 1, none⟩ = some (.int .i64 0) := X2.out.cell 1
  have g1 := X2.out.frozen 1
  have e2 : w2.cell? ⟨w.heap.size, 2, none⟩ = some (.int .i64 0) := X2.out.cell 2
  have g2 := X2.out.frozen 2
  go_wp2_with fail
  refine bodyPost_ret (v := .agg #[.int .i64 p, .int .i64 t, .int .i64 r]) (by simp [results, Try.results14, go_sem, e0, e1, e2]) rfl ?_
  exact ⟨p, t, r, rfl, hp, ht, hr, ((B2.out.setCell (Nat.le_refl _) _).setCell (Nat.le_refl _) _).setCell (Nat.le_refl _) _⟩
theorem drawLatchPad (a : Option Addr) (len cap : Nat) (zs : List Int) (w : World) (h : IsRow .u8 w a len cap zs) : Calls Try.prog 22 #[.slice a len cap] w (PadGot w) := by
  have H := Lib.hid (isRow_stays h (below1 w (.cells #[.int .i64 0, .int .i64 0, .int .i64 0] 24)))
  clear h
  go_enter Try.func22, Try.ntmps22
  go_wp2_with fail
  refine (open_any a len cap zs _ H.out).mono ?_
  rintro e w1 ⟨rfl, b1, r1⟩
  have X1 : Hid (Box w1 w.heap.size 24 [.int .i64 0, .int .i64 0, .int .i64 0]) := (Box.new w _ _).below b1
  have B1 : Hid (Below w.heap.size w w1) := (below1 w _).trans (b1.mono (by simp))
  have R1 := Lib.hid r1
  have zq : w.heap.size < (w.alloc (.cells #[.int .i64 0, .int .i64 0, .int .i64 0] 24)).heap.size := by simp
  generalize (w.alloc (.cells #[.int .i64 0, .int .i64 0, .int .i64 0] 24)).heap.size = q at R1 zq
  have zq1 : q < w1.heap.size := R1.out.lt
  clear b1 r1
  go_wp2_with fail
  refine (pad_any q 0 9 _ R1.out (by omega) (by omega) (by omega)).mono ?_
  rintro e w2 ⟨p, t, r, rfl, hp, ht, hr, o2, r2⟩
  have X2 := Lib.hid (X1.out.only o2 (by simp; omega))
  have B2 := Lib.hid (B1.out.trans (o2.below (B := w.heap.size) (fun b hb => by simp at hb; omega) B1.out.size))
  have R2 := Lib.hid r2
  have ZW : Hid (w1.heap.size ≤ w2.heap.size) := o2.size
  clear o2 r2
  have e0 : w2.cell? ⟨w.heap.size, 0, none⟩ = some (.int .i64 0) := X2.out.cell 0
  have g0 := X2.out.frozen 0
  have e1 : w2.cell? ⟨w.heap.size, 1, none⟩ = some (.int .i64 0) := X2.out.cell 1
  have g1 := X2.out.frozen 1
  have e2 : w2.cell? ⟨w.heap.size, 2, none⟩ = some (.int .i64 0) := X2.out.cell 2
  have g2 := X2.out.frozen 2
  go_wp2_with fail
  refine bodyPost_ret (v := .agg #[.int .i64 p, .int .i64 t, .int .i64 r]) (by simp [results, Try.results22, go_sem, e0, e1, e2]) rfl ?_
  exact ⟨p, t, r, rfl, hp, ht, hr, ((B2.out.setCell (Nat.le_refl _) _).setCell (Nat.le_refl _) _).setCell (Nat.le_refl _) _⟩
theorem drawReadPad (a : Option Addr) (len cap : Nat) (zs : List Int) (w : World) (h : IsRow .u8 w a len cap zs) : Calls Try.prog 26 #[.slice a len cap] w (PadGot w) := by
  have H := Lib.hid (isRow_stays h (below1 w (.cells #[.int .i64 0, .int .i64 0, .int .i64 0] 24)))
  clear h
  go_enter Try.func26, Try.ntmps26
  go_wp2_with fail
  refine (open_any a len cap zs _ H.out).mono ?_
  rintro e w1 ⟨rfl, b1, r1⟩
  have X1 : Hid (Box w1 w.heap.size 24 [.int .i64 0, .int .i64 0, .int .i64 0]) := (Box.new w _ _).below b1
  have B1 : Hid (Below w.heap.size w w1) := (below1 w _).trans (b1.mono (by simp))
  have R1 := Lib.hid r1
  have zq : w.heap.size < (w.alloc (.cells #[.int .i64 0, .int .i64 0, .int .i64 0] 24)).heap.size := by simp
  generalize (w.alloc (.cells #[.int .i64 0, .int .i64 0, .int .i64 0] 24)).heap.size = q at R1 zq
  have zq1 : q < w1.heap.size := R1.out.lt
  clear b1 r1
  go_wp2_with fail
  refine (pad_any q 0 9 _ R1.out (by omega) (by omega) (by omega)).mono ?_
  rintro e w2 ⟨p, t, r, rfl, hp, ht, hr, o2, r2⟩
  have X2 := Lib.hid (X1.out.only o2 (by simp; omega))
  have B2 := Lib.hid (B1.out.trans (o2.below (B := w.heap.size) (fun b hb => by simp at hb; omega) B1.out.size))
  have R2 := Lib.hid r2
  have ZW : Hid (w1.heap.size ≤ w2.heap.size) := o2.size
  clear o2 r2
  have e0 : w2.cell? ⟨w.heap.size, 0, none⟩ = some (.int .i64 0) := X2.out.cell 0
  have g0 := X2.out.frozen 0
  have e1 : w2.cell? ⟨w.heap.size, 1, none⟩ = some (.int .i64 0) := X2.out.cell 1
  have g1 := X2.out.frozen 1
  have e2 : w2.cell? ⟨w.heap.size, 2, none⟩ = some (.int .i64 0) := X2.out.cell 2
  have g2 := X2.out.frozen 2
  go_wp2_with fail
  refine bodyPost_ret (v := .agg #[.int .i64 p, .int .i64 t, .int .i64 r]) (by simp [results, Try.results26, go_sem, e0, e1, e2]) rfl ?_
  exact ⟨p, t, r, rfl, hp, ht, hr, ((B2.out.setCell (Nat.le_refl _) _).setCell (Nat.le_refl _) _).setCell (Nat.le_refl _) _⟩
theorem drawPressPad (a : Option Addr) (len cap : Nat) (zs : List Int) (w : World) (h : IsRow .u8 w a len cap zs) : Calls Try.prog 18 #[.slice a len cap] w (PadByte w) := by
  have H := Lib.hid (isRow_stays h (below1 w (.cells #[.int .i64 0, .int .i64 0, .int .i64 0] 24)))
  clear h
  go_enter Try.func18, Try.ntmps18
  go_wp2_with fail
  refine (open_any a len cap zs _ H.out).mono ?_
  rintro e w1 ⟨rfl, b1, r1⟩
  have X1 : Hid (Box w1 w.heap.size 24 [.int .i64 0, .int .i64 0, .int .i64 0]) := (Box.new w _ _).below b1
  have B1 : Hid (Below w.heap.size w w1) := (below1 w _).trans (b1.mono (by simp))
  have R1 := Lib.hid r1
  have zq : w.heap.size < (w.alloc (.cells #[.int .i64 0, .int .i64 0, .int .i64 0] 24)).heap.size := by simp
  generalize (w.alloc (.cells #[.int .i64 0, .int .i64 0, .int .i64 0] 24)).heap.size = q at R1 zq
  have zq1 : q < w1.heap.size := R1.out.lt
  clear b1 r1
  go_wp2_with fail
  refine (pad_any q 0 12 _ R1.out (by omega) (by omega) (by omega)).mono ?_
  rintro e w2 ⟨p, t, r, rfl, hp, ht, hr, o2, r2⟩
  have X2 := Lib.hid (X1.out.only o2 (by simp; omega))
  have B2 := Lib.hid (B1.out.trans (o2.below (B := w.heap.size) (fun b hb => by simp at hb; omega) B1.out.size))
  have R2 := Lib.hid r2
  have ZW : Hid (w1.heap.size ≤ w2.heap.size) := o2.size
  clear o2 r2
  have X3 := Lib.hid (X2.out.alloc (.cells #[.int .i64 p, .int .i64 t, .int .i64 r] 24))
  have Y3 : Hid (Box (w2.alloc (.cells #[.int .i64 p, .int .i64 t, .int .i64 r] 24)) w2.heap.size 24 [.int .i64 p, .int .i64 t, .int .i64 r]) := Box.new w2 _ _
  have B3 := Lib.hid (B2.out.alloc B2.out.size (.cells #[.int .i64 p, .int .i64 t, .int .i64 r] 24))
  have R3 := Lib.hid (R2.out.alloc (.cells #[.int .i64 p, .int .i64 t, .int .i64 r] 24))
  go_upto_region 3 with (fail)
  have za : w.heap.size < w2.heap.size := X2.out.lt
  have zb : q < w2.heap.size := R2.out.lt
  generalize w2.alloc (.cells #[.int .i64 p, .int .i64 t, .int .i64 r] 24) = w3 at X3 Y3 B3 R3 ⊢
  generalize w2.heap.size = b at Y3 za zb
  have z3 : b < w3.heap.size := Y3.out.lt
  have RD : Hid (Rd w3.drew q (0 + 40)) := R3.out.stay (Below.refl _ _).drew
  have XD : Hid (Box w3.drew w.heap.size 24 [.int .i64 0, .int .i64 0, .int .i64 0]) := X3.out
  have YD : Hid (Box w3.drew b 24 [.int .i64 p, .int .i64 t, .int .i64 r]) := Y3.out
  have BD : Hid (Below w.heap.size w w3.drew) := B3.out.drew
  clear X2 B2 R2 ZW X3 Y3 B3 R3
  have d0 := YD.out.cell 0
  have d1 := YD.out.cell 1
  have d2 := YD.out.cell 2
  simp only [List.getElem?_cons_zero, List.getElem?_cons_succ] at d0 d1 d2
  go_region_with (first | (go_at_call 40; ((with_reducible refine (byte_any q (0 + 40) 12 _ RD.out (by omega) (by omega) (by omega)).mono ?_)); rintro e w4 ⟨u, u0, u1, rfl, s4, r4⟩; have X4 := Lib.hid (XD.out.only s4.only (by simp; omega)); have Y4 := Lib.hid (YD.out.only s4.only (by simp; omega)); have B4 := Lib.hid (BD.out.trans (s4.only.below (B := w.heap.size) (fun b hb => by simp at hb; omega) BD.out.size)); clear s4 r4; have c0 : w4.cell? ⟨b, 0, none⟩ = some (.int .i64 p) := Y4.out.cell 0; have c1 : w4.cell? ⟨b, 1, none⟩ = some (.int .i64 t) := Y4.out.cell 1; have c2 : w4.cell? ⟨b, 2, none⟩ = some (.int .i64 r) := Y4.out.cell 2; have e0 : w4.cell? ⟨w.heap.size, 0, none⟩ = some (.int .i64 0) := X4.out.cell 0; have g0 := X4.out.frozen 0; have e1 : w4.cell? ⟨w.heap.size, 1, none⟩ = some (.int .i64 0) := X4.out.cell 1; have g1 := X4.out.frozen 1; have e2 : w4.cell? ⟨w.heap.size, 2, none⟩ = some (.int .i64 0) := X4.out.cell 2; have g2 := X4.out.frozen 2))
  all_goals
    go_wp2
    refine bodyPost_ret (v := .tuple #[.agg #[.int .i64 p, .int .i64 t, .int .i64 r], .int .i64 u]) (by simp [results, Try.results18, go_sem, e0, e1, e2]) rfl ?_
    exact ⟨p, t, r, u, rfl, hp, ht, hr, ⟨u0, u1⟩, ((B4.out.setCell (Nat.le_refl _) _).setCell (Nat.le_refl _) _).setCell (Nat.le_refl _) _⟩
end Go.Proofs.Ytjfhdkidefkogaa
