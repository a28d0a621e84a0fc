/- A drawn instruction, also one that is bent. -/
import Derived.Test.YtehiplkoofdkeaaDoorOrderE
namespace Go.Proofs.YtehiplkoofdkeaaDoor
open Go.ChangeShapes Go.WideShapes Go.ChangeAt Go.RowKit

/-- What drawing an instruction leaves. -/
def OrdFull (q m : Nat) (w : World) (e : Ending) (w' : World) : Prop := ∃ op arg : Int, e = .returned (.agg #[.int .i64 op, .int .i64 arg]) ∧ Only [q] w w' ∧ Rd w' q (m + 16)
theorem pair_lit (v x0 x1 : Int) (d0 : 0 ≤ v) (d1 : v < 2) : ∃ u : Int, (#[Value.int .i64 x0, .int .i64 x1] : Array Value)[v.toNat]? = some (.int .i64 u) := by
  have h : v = 0 ∨ v = 1 := by omega
  rcases h with rfl | rfl <;> exact ⟨_, rfl⟩
theorem triple_lit (v x0 x1 x2 : Int) (d0 : 0 ≤ v) (d1 : v < 3) : ∃ u : Int, (#[Value.int .i64 x0, .int .i64 x1, .int .i64 x2] : Array Value)[v.toNat]? = some (.int .i64 u) := by
  have h : v = 0 ∨ v = 1 ∨ v = 2 := by omega
  rcases h with rfl | rfl | rfl <;> exact ⟨_, rfl⟩
set_option maxHeartbeats 4000000 in
theorem order_full (q m : Nat) (n : Int) (w : World) (h : Rd w q m) (hm : m ≤ 1000000) (hn : 1 ≤ n) (hn2 : n ≤ 1000) : Calls Tryd.prog 36 #[.pointer (some ⟨q, 0, none⟩), .int .i64 n] w (OrdFull q m w) := by
  have hq := h.lt
  have H := Lib.hid (h.alloc (.cells #[.int .i64 0, .int .i64 0] 30))
  clear h
  go_enter Tryd.func36, Tryd.ntmps36
  go_wp2_with fail
  refine (pick_any q m 16 _ H.out (by omega) (by omega) (by omega)).mono ?_
  rintro e w1 ⟨op, p0, p1, rfl, s1, r1⟩
  have X1 : Hid (Box w1 w.heap.size 30 [.int .i64 0, .int .i64 0]) := (Box.new w _ _).only s1.only (by simp; omega)
  have O1 : Hid (Only [q] w w1) := ((Only.refl _ w).alloc _).trans s1.only
  have R1 := Lib.hid r1
  have z1 : w.heap.size < w1.heap.size := X1.out.lt
  clear s1 r1
  go_wp2_with fail
  refine (spec_len _ _).mono ?_; rintro e w2 ⟨rfl, b2⟩
  have X2 := Lib.hid ((X1.out.alloc _).below b2)
  have Y2 : Hid (Box w2 w1.heap.size 30 [.int .i64 op, .int .i64 0]) := (Box.new w1 _ _).below b2
  have O2 : Hid (Only [q] w w2) := (O1.out.alloc _).trans (.of_below b2)
  have R2 := Lib.hid ((R1.out.alloc (.cells #[.int .i64 op, .int .i64 0] 30)).keep b2)
  clear b2
  obtain ⟨l0, l1⟩ := lenN_bd op
  generalize lenN op = L at l0 l1
  have hc : L = 2 ∨ L = 3 ∨ (L = 0 ∨ L = 1) := by omega
  have fin : ∀ (w3 : World) (op' arg : Int) (k : Nat), Only [q] w w3 → Rd w3 q (m + k) → k ≤ 16 →
      OrdFull q m w (.returned (.agg #[.int .i64 op', .int .i64 arg])) ((w3.setCell ⟨w.heap.size, 0, none⟩ (.int .i64 op')).setCell ⟨w.heap.size, 1, none⟩ (.int .i64 arg)) := fun w3 op' arg k o3 r3 hk =>
    ⟨op', arg, rfl, (o3.setCell (.inr (Nat.le_refl _)) _).setCell (.inr (Nat.le_refl _)) _, ((r3.far hq _).far hq _).mono (by omega)⟩
  have FIN := Lib.hid fin
  clear fin
  rcases hc with rfl | rfl | hc
  · clear l0 l1
    go_wp2_with fail
    refine (pick_any q (m + 1) 256 _ R2.out (by omega) (by omega) (by omega)).mono ?_
    rintro e w3 ⟨x, x0, x1, rfl, s3, r3⟩
    have X3 := Lib.hid (X2.out.only s3.only (by simp; omega))
    have Y3 := Lib.hid (Y2.out.only s3.only (by simp; omega))
    have O3 := Lib.hid (O2.out.trans s3.only)
    have R3 := Lib.hid r3
    clear s3 r3
    have b0 : w3.cell? ⟨w1.heap.size, 1, none⟩ = some (.int .i64 0) := Y3.out.cell 1
    have b1 := Y3.out.frozen 1
    go_wp2_with fail
    have X4 := Lib.hid (X3.out.far (b' := w1.heap.size) (i := 1) (by omega) (.int .i64 x))
    have Y4 : Hid (Box (w3.setCell ⟨w1.heap.size, 1, none⟩ (.int .i64 x)) w1.heap.size 30 [.int .i64 op, .int .i64 x]) := Y3.out.set 1 _
    have O4 := Lib.hid (O3.out.setCell (q := w1.heap.size) (j := 1) (.inr (by omega)) (.int .i64 x))
    have R4 := Lib.hid (R3.out.far (b := w1.heap.size) (i := 1) (by omega) (.int .i64 x))
    clear b0 b1
    generalize w3.setCell ⟨w1.heap.size, 1, none⟩ (.int .i64 x) = w4 at X4 Y4 O4 R4
    refine (odd_any q (m + 2) n _ R4.out (by omega) hn (by omega)).mono ?_
    rintro e v1 ⟨bb, rfl, t1, p1⟩
    have XA := Lib.hid (X4.out.only t1.only (by simp; omega))
    have YA := Lib.hid (Y4.out.only t1.only (by simp; omega))
    have OA := Lib.hid (O4.out.trans t1.only)
    have RA := Lib.hid p1
    clear t1 p1
    cases bb
    · have a0 : v1.cell? ⟨w1.heap.size, 0, none⟩ = some (.int .i64 op) := YA.out.cell 0
      have a1 : v1.cell? ⟨w1.heap.size, 1, none⟩ = some (.int .i64 x) := YA.out.cell 1
      have e0 : v1.cell? ⟨w.heap.size, 0, none⟩ = some (.int .i64 0) := XA.out.cell 0
      have e1 : v1.cell? ⟨w.heap.size, 1, none⟩ = some (.int .i64 0) := XA.out.cell 1
      have e2 := XA.out.frozen 0
      have e3 := XA.out.frozen 1
      go_wp2_with fail
      refine bodyPost_ret (v := .agg #[.int .i64 op, .int .i64 x]) (by simp [results, Tryd.results36, go_sem, e0, e1]) rfl ?_
      exact FIN.out v1 op x (2 + 1) OA.out RA.out (by omega)
    · go_wp2_with fail
      refine (pick_any q (m + 2 + 1) 2 _ RA.out (by omega) (by omega) (by omega)).mono ?_
      rintro e v2 ⟨sw, sw0, sw1, rfl, t2, p2⟩
      have XB := Lib.hid (XA.out.only t2.only (by simp; omega))
      have YB := Lib.hid (YA.out.only t2.only (by simp; omega))
      have OB := Lib.hid (OA.out.trans t2.only)
      have RB := Lib.hid p2
      have zv : q < v2.heap.size := RB.out.lt
      have zo : w1.heap.size < v2.heap.size := YB.out.lt
      clear t2 p2
      by_cases hs0 : sw = 0
      · subst hs0
        go_wp2_with fail
        refine (pick_any q (m + 2 + 1 + 1) 2 _ (RB.out.alloc _) (by omega) (by omega) (by omega)).mono ?_
        rintro e v3 ⟨z, z0, z1', rfl, t3, p3⟩
        obtain ⟨u, hu⟩ := pair_lit z (-1) 16 z0 z1'
        have cu : v3.cell? ⟨v2.heap.size, z.toNat, none⟩ = some (.int .i64 u) := by
          rw [World.cell?_of_block (a := ⟨v2.heap.size, z.toNat, none⟩) (w := v2.alloc (.cells #[.int .i64 (-1), .int .i64 16] 3)) (t3.block v2.heap.size (by simp) (by omega)), World.cell?_alloc_new]; exact hu
        have XC := Lib.hid ((XB.out.alloc (.cells #[.int .i64 (-1), .int .i64 16] 3)).only t3.only (by simp; omega))
        have YC := Lib.hid ((YB.out.alloc (.cells #[.int .i64 (-1), .int .i64 16] 3)).only t3.only (by simp; omega))
        have OC := Lib.hid ((OB.out.alloc (.cells #[.int .i64 (-1), .int .i64 16] 3)).trans t3.only)
        have RC := Lib.hid p3
        clear t3 p3 hu
        have b0 : v3.cell? ⟨w1.heap.size, 0, none⟩ = some (.int .i64 op) := YC.out.cell 0
        have b1 : v3.cell? ⟨w1.heap.size, 1, none⟩ = some (.int .i64 x) := YC.out.cell 1
        have b2 := YC.out.frozen 0
        have e0 : v3.cell? ⟨w.heap.size, 0, none⟩ = some (.int .i64 0) := XC.out.cell 0
        have e1 : v3.cell? ⟨w.heap.size, 1, none⟩ = some (.int .i64 0) := XC.out.cell 1
        have e2 := XC.out.frozen 0
        have e3 := XC.out.frozen 1
        have nb : w.heap.size ≠ w1.heap.size := by omega
        go_wp2_with fail
        refine bodyPost_ret (v := .agg #[.int .i64 u, .int .i64 x]) (by simp [results, Tryd.results36, go_sem, e0, e1]) rfl ?_
        exact FIN.out _ u x (2 + 1 + 1 + 1) (OC.out.setCell (q := w1.heap.size) (j := 0) (.inr (by omega)) (.int .i64 u)) (RC.out.far (b := w1.heap.size) (i := 0) (by omega) (.int .i64 u)) (by omega)
      · obtain rfl : sw = 1 := by omega
        clear hs0 sw0 sw1
        go_wp2_with fail
        refine (pick_any q (m + 2 + 1 + 1) 3 _ (RB.out.alloc _) (by omega) (by omega) (by omega)).mono ?_
        rintro e v3 ⟨z, z0, z1', rfl, t3, p3⟩
        obtain ⟨u, hu⟩ := triple_lit z (-1) 1024 1 z0 z1'
        have cu : v3.cell? ⟨v2.heap.size, z.toNat, none⟩ = some (.int .i64 u) := by
          rw [World.cell?_of_block (a := ⟨v2.heap.size, z.toNat, none⟩) (w := v2.alloc (.cells #[.int .i64 (-1), .int .i64 1024, .int .i64 1] 3)) (t3.block v2.heap.size (by simp) (by omega)), World.cell?_alloc_new]; exact hu
        have XC := Lib.hid ((XB.out.alloc (.cells #[.int .i64 (-1), .int .i64 1024, .int .i64 1] 3)).only t3.only (by simp; omega))
        have YC := Lib.hid ((YB.out.alloc (.cells #[.int .i64 (-1), .int .i64 1024, .int .i64 1] 3)).only t3.only (by simp; omega))
        have OC := Lib.hid ((OB.out.alloc (.cells #[.int .i64 (-1), .int .i64 1024, .int .i64 1] 3)).trans t3.only)
        have RC := Lib.hid p3
        clear t3 p3 hu
        have b0 : v3.cell? ⟨w1.heap.size, 0, none⟩ = some (.int .i64 op) := YC.out.cell 0
        have b1 : v3.cell? ⟨w1.heap.size, 1, none⟩ = some (.int .i64 x) := YC.out.cell 1
        have b2 := YC.out.frozen 1
        have e0 : v3.cell? ⟨w.heap.size, 0, none⟩ = some (.int .i64 0) := XC.out.cell 0
        have e1 : v3.cell? ⟨w.heap.size, 1, none⟩ = some (.int .i64 0) := XC.out.cell 1
        have e2 := XC.out.frozen 0
        have e3 := XC.out.frozen 1
        have nb : w.heap.size ≠ w1.heap.size := by omega
        go_wp2_with fail
        refine bodyPost_ret (v := .agg #[.int .i64 op, .int .i64 u]) (by simp [results, Tryd.results36, go_sem, e0, e1]) rfl ?_
        exact FIN.out _ op u (2 + 1 + 1 + 1) (OC.out.setCell (q := w1.heap.size) (j := 1) (.inr (by omega)) (.int .i64 u)) (RC.out.far (b := w1.heap.size) (i := 1) (by omega) (.int .i64 u)) (by omega)
  · clear l0 l1
    go_wp2_with fail
    refine (pick_any q (m + 1) 16 _ R2.out (by omega) (by omega) (by omega)).mono ?_
    rintro e w3 ⟨ya, ya0, ya1, rfl, s3, r3⟩
    have X3 := Lib.hid (X2.out.only s3.only (by simp; omega))
    have Y3 := Lib.hid (Y2.out.only s3.only (by simp; omega))
    have O3 := Lib.hid (O2.out.trans s3.only)
    have R3 := Lib.hid r3
    clear s3 r3
    go_wp2_with fail
    refine (pick_any q (m + 2) 16 _ R3.out (by omega) (by omega) (by omega)).mono ?_
    rintro e w4 ⟨yb, yb0, yb1, rfl, s3, r3⟩
    have X4 := Lib.hid (X3.out.only s3.only (by simp; omega))
    have Y4 := Lib.hid (Y3.out.only s3.only (by simp; omega))
    have O4 := Lib.hid (O3.out.trans s3.only)
    have R4 := Lib.hid r3
    clear s3 r3
    go_wp2_with fail
    refine (pick_any q (m + 3) 40 _ R4.out (by omega) (by omega) (by omega)).mono ?_
    rintro e w5 ⟨yc, yc0, yc1, rfl, s3, r3⟩
    have X5 := Lib.hid (X4.out.only s3.only (by simp; omega))
    have Y5 := Lib.hid (Y4.out.only s3.only (by simp; omega))
    have O5 := Lib.hid (O4.out.trans s3.only)
    have R5 := Lib.hid r3
    clear s3 r3
    go_wp2_with fail
    refine (pick_any q (m + 4) 8 _ R5.out (by omega) (by omega) (by omega)).mono ?_
    rintro e w6 ⟨yd, yd0, yd1, rfl, s3, r3⟩
    have X6 := Lib.hid (X5.out.only s3.only (by simp; omega))
    have Y6 := Lib.hid (Y5.out.only s3.only (by simp; omega))
    have O6 := Lib.hid (O5.out.trans s3.only)
    have R6 := Lib.hid r3
    clear s3 r3
    go_wp2_with fail
    refine (pick_any q (m + 5) 256 _ R6.out (by omega) (by omega) (by omega)).mono ?_
    rintro e w7 ⟨yf, yf0, yf1, rfl, s3, r3⟩
    have X7 := Lib.hid (X6.out.only s3.only (by simp; omega))
    have Y7 := Lib.hid (Y6.out.only s3.only (by simp; omega))
    have O7 := Lib.hid (O6.out.trans s3.only)
    have R7 := Lib.hid r3
    clear s3 r3
    have zq : q < w7.heap.size := R7.out.lt
    go_wp2_with fail
    refine (pick_any q (m + 6) 5 _ (R7.out.alloc _) (by omega) (by omega) (by omega)).mono ?_
    rintro e w8 ⟨z, z0, z1', rfl, s3, r3⟩
    obtain ⟨u0, hu⟩ := five z ya (240 + yb) (512 + yc) (768 + yd) (yf * 4) z0 z1'
    have cu : w8.cell? ⟨w7.heap.size, z.toNat, none⟩ = some (.int .i64 u0) := by
      rw [World.cell?_of_block (a := ⟨w7.heap.size, z.toNat, none⟩) (w := w7.alloc (.cells #[.int .i64 ya, .int .i64 (240 + yb), .int .i64 (512 + yc), .int .i64 (768 + yd), .int .i64 (yf * 4)] 3)) (s3.block w7.heap.size (by simp) (by omega)), World.cell?_alloc_new]; exact hu
    have X8 := Lib.hid ((X7.out.alloc (.cells #[.int .i64 ya, .int .i64 (240 + yb), .int .i64 (512 + yc), .int .i64 (768 + yd), .int .i64 (yf * 4)] 3)).only s3.only (by simp; omega))
    have Y8 := Lib.hid ((Y7.out.alloc (.cells #[.int .i64 ya, .int .i64 (240 + yb), .int .i64 (512 + yc), .int .i64 (768 + yd), .int .i64 (yf * 4)] 3)).only s3.only (by simp; omega))
    have O8 := Lib.hid ((O7.out.alloc (.cells #[.int .i64 ya, .int .i64 (240 + yb), .int .i64 (512 + yc), .int .i64 (768 + yd), .int .i64 (yf * 4)] 3)).trans s3.only)
    have R8 := Lib.hid r3
    clear s3 r3 hu
    have b0 : w8.cell? ⟨w1.heap.size, 1, none⟩ = some (.int .i64 0) := Y8.out.cell 1
    have b1 := Y8.out.frozen 1
    go_wp2_with fail
    have X9 := Lib.hid (X8.out.far (b' := w1.heap.size) (i := 1) (by omega) (.int .i64 u0))
    have Y9 : Hid (Box (w8.setCell ⟨w1.heap.size, 1, none⟩ (.int .i64 u0)) w1.heap.size 30 [.int .i64 op, .int .i64 u0]) := Y8.out.set 1 _
    have O9 := Lib.hid (O8.out.setCell (q := w1.heap.size) (j := 1) (.inr (by omega)) (.int .i64 u0))
    have R9 := Lib.hid (R8.out.far (b := w1.heap.size) (i := 1) (by omega) (.int .i64 u0))
    clear b0 b1 cu
    generalize w8.setCell ⟨w1.heap.size, 1, none⟩ (.int .i64 u0) = w9 at X9 Y9 O9 R9
    refine (odd_any q (m + 7) n _ R9.out (by omega) hn (by omega)).mono ?_
    rintro e v1 ⟨bb, rfl, t1, p1⟩
    have XA := Lib.hid (X9.out.only t1.only (by simp; omega))
    have YA := Lib.hid (Y9.out.only t1.only (by simp; omega))
    have OA := Lib.hid (O9.out.trans t1.only)
    have RA := Lib.hid p1
    clear t1 p1
    cases bb
    · have a0 : v1.cell? ⟨w1.heap.size, 0, none⟩ = some (.int .i64 op) := YA.out.cell 0
      have a1 : v1.cell? ⟨w1.heap.size, 1, none⟩ = some (.int .i64 u0) := YA.out.cell 1
      have e0 : v1.cell? ⟨w.heap.size, 0, none⟩ = some (.int .i64 0) := XA.out.cell 0
      have e1 : v1.cell? ⟨w.heap.size, 1, none⟩ = some (.int .i64 0) := XA.out.cell 1
      have e2 := XA.out.frozen 0
      have e3 := XA.out.frozen 1
      go_wp2_with fail
      refine bodyPost_ret (v := .agg #[.int .i64 op, .int .i64 u0]) (by simp [results, Tryd.results36, go_sem, e0, e1]) rfl ?_
      exact FIN.out v1 op u0 (7 + 1) OA.out RA.out (by omega)
    · go_wp2_with fail
      refine (pick_any q (m + 7 + 1) 2 _ RA.out (by omega) (by omega) (by omega)).mono ?_
      rintro e v2 ⟨sw, sw0, sw1, rfl, t2, p2⟩
      have XB := Lib.hid (XA.out.only t2.only (by simp; omega))
      have YB := Lib.hid (YA.out.only t2.only (by simp; omega))
      have OB := Lib.hid (OA.out.trans t2.only)
      have RB := Lib.hid p2
      have zv : q < v2.heap.size := RB.out.lt
      have zo : w1.heap.size < v2.heap.size := YB.out.lt
      clear t2 p2
      by_cases hs0 : sw = 0
      · subst hs0
        go_wp2_with fail
        refine (pick_any q (m + 7 + 1 + 1) 2 _ (RB.out.alloc _) (by omega) (by omega) (by omega)).mono ?_
        rintro e v3 ⟨z, z0, z1', rfl, t3, p3⟩
        obtain ⟨u, hu⟩ := pair_lit z (-1) 16 z0 z1'
        have cu : v3.cell? ⟨v2.heap.size, z.toNat, none⟩ = some (.int .i64 u) := by
          rw [World.cell?_of_block (a := ⟨v2.heap.size, z.toNat, none⟩) (w := v2.alloc (.cells #[.int .i64 (-1), .int .i64 16] 3)) (t3.block v2.heap.size (by simp) (by omega)), World.cell?_alloc_new]; exact hu
        have XC := Lib.hid ((XB.out.alloc (.cells #[.int .i64 (-1), .int .i64 16] 3)).only t3.only (by simp; omega))
        have YC := Lib.hid ((YB.out.alloc (.cells #[.int .i64 (-1), .int .i64 16] 3)).only t3.only (by simp; omega))
        have OC := Lib.hid ((OB.out.alloc (.cells #[.int .i64 (-1), .int .i64 16] 3)).trans t3.only)
        have RC := Lib.hid p3
        clear t3 p3 hu
        have b0 : v3.cell? ⟨w1.heap.size, 0, none⟩ = some (.int .i64 op) := YC.out.cell 0
        have b1 : v3.cell? ⟨w1.heap.size, 1, none⟩ = some (.int .i64 u0) := YC.out.cell 1
        have b2 := YC.out.frozen 0
        have e0 : v3.cell? ⟨w.heap.size, 0, none⟩ = some (.int .i64 0) := XC.out.cell 0
        have e1 : v3.cell? ⟨w.heap.size, 1, none⟩ = some (.int .i64 0) := XC.out.cell 1
        have e2 := XC.out.frozen 0
        have e3 := XC.out.frozen 1
        have nb : w.heap.size ≠ w1.heap.size := by omega
        go_wp2_with fail
        refine bodyPost_ret (v := .agg #[.int .i64 u, .int .i64 u0]) (by simp [results, Tryd.results36, go_sem, e0, e1]) rfl ?_
        exact FIN.out _ u u0 (7 + 1 + 1 + 1) (OC.out.setCell (q := w1.heap.size) (j := 0) (.inr (by omega)) (.int .i64 u)) (RC.out.far (b := w1.heap.size) (i := 0) (by omega) (.int .i64 u)) (by omega)
      · obtain rfl : sw = 1 := by omega
        clear hs0 sw0 sw1
        go_wp2_with fail
        refine (pick_any q (m + 7 + 1 + 1) 3 _ (RB.out.alloc _) (by omega) (by omega) (by omega)).mono ?_
        rintro e v3 ⟨z, z0, z1', rfl, t3, p3⟩
        obtain ⟨u, hu⟩ := triple_lit z (-1) 1024 1 z0 z1'
        have cu : v3.cell? ⟨v2.heap.size, z.toNat, none⟩ = some (.int .i64 u) := by
          rw [World.cell?_of_block (a := ⟨v2.heap.size, z.toNat, none⟩) (w := v2.alloc (.cells #[.int .i64 (-1), .int .i64 1024, .int .i64 1] 3)) (t3.block v2.heap.size (by simp) (by omega)), World.cell?_alloc_new]; exact hu
        have XC := Lib.hid ((XB.out.alloc (.cells #[.int .i64 (-1), .int .i64 1024, .int .i64 1] 3)).only t3.only (by simp; omega))
        have YC := Lib.hid ((YB.out.alloc (.cells #[.int .i64 (-1), .int .i64 1024, .int .i64 1] 3)).only t3.only (by simp; omega))
        have OC := Lib.hid ((OB.out.alloc (.cells #[.int .i64 (-1), .int .i64 1024, .int .i64 1] 3)).trans t3.only)
        have RC := Lib.hid p3
        clear t3 p3 hu
        have b0 : v3.cell? ⟨w1.heap.size, 0, none⟩ = some (.int .i64 op) := YC.out.cell 0
        have b1 : v3.cell? ⟨w1.heap.size, 1, none⟩ = some (.int .i64 u0) := YC.out.cell 1
        have b2 := YC.out.frozen 1
        have e0 : v3.cell? ⟨w.heap.size, 0, none⟩ = some (.int .i64 0) := XC.out.cell 0
        have e1 : v3.cell? ⟨w.heap.size, 1, none⟩ = some (.int .i64 0) := XC.out.cell 1
        have e2 := XC.out.frozen 0
        have e3 := XC.out.frozen 1
        have nb : w.heap.size ≠ w1.heap.size := by omega
        go_wp2_with fail
        refine bodyPost_ret (v := .agg #[.int .i64 op, .int .i64 u]) (by simp [results, Tryd.results36, go_sem, e0, e1]) rfl ?_
        exact FIN.out _ op u (7 + 1 + 1 + 1) (OC.out.setCell (q := w1.heap.size) (j := 1) (.inr (by omega)) (.int .i64 u)) (RC.out.far (b := w1.heap.size) (i := 1) (by omega) (.int .i64 u)) (by omega)
  · have h2 : (L == 2) = false := by simp; omega
    have h3 : (L == 3) = false := by simp; omega
    clear hc
    go_wp2_with fail
    refine (odd_any q (m + 1) n _ R2.out (by omega) hn (by omega)).mono ?_
    rintro e v1 ⟨bb, rfl, t1, p1⟩
    have XA := Lib.hid (X2.out.only t1.only (by simp; omega))
    have YA := Lib.hid (Y2.out.only t1.only (by simp; omega))
    have OA := Lib.hid (O2.out.trans t1.only)
    have RA := Lib.hid p1
    clear t1 p1
    cases bb
    · have a0 : v1.cell? ⟨w1.heap.size, 0, none⟩ = some (.int .i64 op) := YA.out.cell 0
      have a1 : v1.cell? ⟨w1.heap.size, 1, none⟩ = some (.int .i64 0) := YA.out.cell 1
      have e0 : v1.cell? ⟨w.heap.size, 0, none⟩ = some (.int .i64 0) := XA.out.cell 0
      have e1 : v1.cell? ⟨w.heap.size, 1, none⟩ = some (.int .i64 0) := XA.out.cell 1
      have e2 := XA.out.frozen 0
      have e3 := XA.out.frozen 1
      go_wp2_with fail
      refine bodyPost_ret (v := .agg #[.int .i64 op, .int .i64 0]) (by simp [results, Tryd.results36, go_sem, e0, e1]) rfl ?_
      exact FIN.out v1 op 0 (1 + 1) OA.out RA.out (by omega)
    · go_wp2_with fail
      refine (pick_any q (m + 1 + 1) 2 _ RA.out (by omega) (by omega) (by omega)).mono ?_
      rintro e v2 ⟨sw, sw0, sw1, rfl, t2, p2⟩
      have XB := Lib.hid (XA.out.only t2.only (by simp; omega))
      have YB := Lib.hid (YA.out.only t2.only (by simp; omega))
      have OB := Lib.hid (OA.out.trans t2.only)
      have RB := Lib.hid p2
      have zv : q < v2.heap.size := RB.out.lt
      have zo : w1.heap.size < v2.heap.size := YB.out.lt
      clear t2 p2
      by_cases hs0 : sw = 0
      · subst hs0
        go_wp2_with fail
        refine (pick_any q (m + 1 + 1 + 1) 2 _ (RB.out.alloc _) (by omega) (by omega) (by omega)).mono ?_
        rintro e v3 ⟨z, z0, z1', rfl, t3, p3⟩
        obtain ⟨u, hu⟩ := pair_lit z (-1) 16 z0 z1'
        have cu : v3.cell? ⟨v2.heap.size, z.toNat, none⟩ = some (.int .i64 u) := by
          rw [World.cell?_of_block (a := ⟨v2.heap.size, z.toNat, none⟩) (w := v2.alloc (.cells #[.int .i64 (-1), .int .i64 16] 3)) (t3.block v2.heap.size (by simp) (by omega)), World.cell?_alloc_new]; exact hu
        have XC := Lib.hid ((XB.out.alloc (.cells #[.int .i64 (-1), .int .i64 16] 3)).only t3.only (by simp; omega))
        have YC := Lib.hid ((YB.out.alloc (.cells #[.int .i64 (-1), .int .i64 16] 3)).only t3.only (by simp; omega))
        have OC := Lib.hid ((OB.out.alloc (.cells #[.int .i64 (-1), .int .i64 16] 3)).trans t3.only)
        have RC := Lib.hid p3
        clear t3 p3 hu
        have b0 : v3.cell? ⟨w1.heap.size, 0, none⟩ = some (.int .i64 op) := YC.out.cell 0
        have b1 : v3.cell? ⟨w1.heap.size, 1, none⟩ = some (.int .i64 0) := YC.out.cell 1
        have b2 := YC.out.frozen 0
        have e0 : v3.cell? ⟨w.heap.size, 0, none⟩ = some (.int .i64 0) := XC.out.cell 0
        have e1 : v3.cell? ⟨w.heap.size, 1, none⟩ = some (.int .i64 0) := XC.out.cell 1
        have e2 := XC.out.frozen 0
        have e3 := XC.out.frozen 1
        have nb : w.heap.size ≠ w1.heap.size := by omega
        go_wp2_with fail
        refine bodyPost_ret (v := .agg #[.int .i64 u, .int .i64 0]) (by simp [results, Tryd.results36, go_sem, e0, e1]) rfl ?_
        exact FIN.out _ u 0 (1 + 1 + 1 + 1) (OC.out.setCell (q := w1.heap.size) (j := 0) (.inr (by omega)) (.int .i64 u)) (RC.out.far (b := w1.heap.size) (i := 0) (by omega) (.int .i64 u)) (by omega)
      · obtain rfl : sw = 1 := by omega
        clear hs0 sw0 sw1
        go_wp2_with fail
        refine (pick_any q (m + 1 + 1 + 1) 3 _ (RB.out.alloc _) (by omega) (by omega) (by omega)).mono ?_
        rintro e v3 ⟨z, z0, z1', rfl, t3, p3⟩
        obtain ⟨u, hu⟩ := triple_lit z (-1) 1024 1 z0 z1'
        have cu : v3.cell? ⟨v2.heap.size, z.toNat, none⟩ = some (.int .i64 u) := by
          rw [World.cell?_of_block (a := ⟨v2.heap.size, z.toNat, none⟩) (w := v2.alloc (.cells #[.int .i64 (-1), .int .i64 1024, .int .i64 1] 3)) (t3.block v2.heap.size (by simp) (by omega)), World.cell?_alloc_new]; exact hu
        have XC := Lib.hid ((XB.out.alloc (.cells #[.int .i64 (-1), .int .i64 1024, .int .i64 1] 3)).only t3.only (by simp; omega))
        have YC := Lib.hid ((YB.out.alloc (.cells #[.int .i64 (-1), .int .i64 1024, .int .i64 1] 3)).only t3.only (by simp; omega))
        have OC := Lib.hid ((OB.out.alloc (.cells #[.int .i64 (-1), .int .i64 1024, .int .i64 1] 3)).trans t3.only)
        have RC := Lib.hid p3
        clear t3 p3 hu
        have b0 : v3.cell? ⟨w1.heap.size, 0, none⟩ = some (.int .i64 op) := YC.out.cell 0
        have b1 : v3.cell? ⟨w1.heap.size, 1, none⟩ = some (.int .i64 0) := YC.out.cell 1
        have b2 := YC.out.frozen 1
        have e0 : v3.cell? ⟨w.heap.size, 0, none⟩ = some (.int .i64 0) := XC.out.cell 0
        have e1 : v3.cell? ⟨w.heap.size, 1, none⟩ = some (.int .i64 0) := XC.out.cell 1
        have e2 := XC.out.frozen 0
        have e3 := XC.out.frozen 1
        have nb : w.heap.size ≠ w1.heap.size := by omega
        go_wp2_with fail
        refine bodyPost_ret (v := .agg #[.int .i64 op, .int .i64 u]) (by simp [results, Tryd.results36, go_sem, e0, e1]) rfl ?_
        exact FIN.out _ op u (1 + 1 + 1 + 1) (OC.out.setCell (q := w1.heap.size) (j := 1) (.inr (by omega)) (.int .i64 u)) (RC.out.far (b := w1.heap.size) (i := 1) (by omega) (.int .i64 u)) (by omega)
end Go.Proofs.YtehiplkoofdkeaaDoor
