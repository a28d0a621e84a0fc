/- A drawn instruction. -/
import Derived.Test.YtnfphdpoimjcmaaOrderD
namespace Go.Proofs.Ytnfphdpoimjcmaa
open Go.ChangeShapes Go.WideShapes Go.ChangeAt Go.RowKit

theorem Sole.only {q : Nat} {w w' : World} (h : Sole q w w') : Only [q] w w' := ⟨h.os, h.tape, h.output, h.size, fun k hk hn => h.block k hk (by simpa using hn)⟩
theorem Only.sole {q : Nat} {w w' : World} (h : Only [q] w w') : Sole q w w' := ⟨h.os, h.tape, h.output, h.size, fun k hk hn => h.block k hk (by simpa using hn)⟩
theorem Rd.stay {w w' : World} {q m : Nat} (h : Rd w q m) (k : Below (q + 1) w w') : Rd w' q m := by
  obtain ⟨p, a, len, cap, h1, h2, h3, h4, h5, h6, h7, h8⟩ := h
  refine ⟨p, a, len, cap, Nat.lt_of_lt_of_le h1 k.size, h2, (k.cell (by simp)).trans h3, (k.cell (by simp)).trans h4, (k.frozen (by simp)).trans h5, h6, h7, ?_⟩
  rcases h8 with h8 | ⟨b, off, rfl, hb, hc⟩
  · exact .inl h8
  · exact .inr ⟨b, off, rfl, hb, fun i hi => by obtain ⟨z, z0, z1, hz⟩ := hc i hi; exact ⟨z, z0, z1, (k.cell (by show b < _; omega)).trans hz⟩⟩
theorem Rd.far {w : World} {q m : Nat} (h : Rd w q m) {b i : Nat} (hb : q < b) (v : Value) : Rd (w.setCell ⟨b, i, none⟩ v) q m := h.stay ((Below.refl _ _).setCell (show q + 1 ≤ b by omega) v)
theorem Rd.alloc {w : World} {q m : Nat} (h : Rd w q m) (o : Obj) : Rd (w.alloc o) q m := h.keep (below1 w o)
theorem odd_zero (q : Nat) (w : World) : Calls Try.prog 20 #[.pointer (some ⟨q, 0, none⟩), .int .i64 0] w fun e w' => e = .returned (.bool false) ∧ w = w' := by
  go_enter Try.func20, Try.ntmps20
  go_wp2_with fail
  go_ret
  exact ⟨rfl, rfl⟩
/-- What drawing an instruction leaves. -/
def OrdDrawn (q m : Nat) (w : World) (e : Ending) (w' : World) : Prop := ∃ op arg : Int, e = .returned (.agg #[.int .i64 op, .int .i64 arg]) ∧ Only [q] w w' ∧ Rd w' q (m + 8)
theorem five (v x0 x1 x2 x3 x4 : Int) (d0 : 0 ≤ v) (d1 : v < 5) : ∃ u : Int, (#[Value.int .i64 x0, .int .i64 x1, .int .i64 x2, .int .i64 x3, .int .i64 x4] : Array Value)[v.toNat]? = some (.int .i64 u) := by
  have h : v = 0 ∨ v = 1 ∨ v = 2 ∨ v = 3 ∨ v = 4 := by omega
  rcases h with rfl | rfl | rfl | rfl | rfl <;> exact ⟨_, rfl⟩
theorem order_any (q m : Nat) (w : World) (h : Rd w q m) (hm : m ≤ 1000000) : Calls Try.prog 29 #[.pointer (some ⟨q, 0, none⟩), .int .i64 0] w (OrdDrawn q m w) := by
  have hq := h.lt
  have H := Lib.hid (h.alloc (.cells #[.int .i64 0, .int .i64 0] 54))
  clear h
  go_enter Try.func29, Try.ntmps29
  go_wp2_with fail
  refine (pick_any q m 16 _ H.out (by omega) (by omega) (by omega)).mono ?_
  rintro e w1 ⟨op, p0, p1, rfl, s1, r1⟩
  have X1 : Hid (Box w1 w.heap.size 54 [.int .i64 0, .int .i64 0]) := (Box.new w _ _).only s1.only (by simp; omega)
  have O1 : Hid (Only [q] w w1) := ((Only.refl _ w).alloc _).trans s1.only
  have R1 := Lib.hid r1
  have z1 : w.heap.size < w1.heap.size := X1.out.lt
  clear s1 r1
  go_wp2_with fail
  refine (spec_len _ _).mono ?_; rintro e w2 ⟨rfl, b2⟩
  have X2 := Lib.hid ((X1.out.alloc _).below b2)
  have Y2 : Hid (Box w2 w1.heap.size 54 [.int .i64 op, .int .i64 0]) := (Box.new w1 _ _).below b2
  have O2 : Hid (Only [q] w w2) := (O1.out.alloc _).trans (.of_below b2)
  have R2 := Lib.hid ((R1.out.alloc (.cells #[.int .i64 op, .int .i64 0] 54)).keep b2)
  clear b2
  obtain ⟨l0, l1⟩ := lenN_bd op
  generalize lenN op = L at l0 l1
  have hc : L = 2 ∨ L = 3 ∨ (L = 0 ∨ L = 1) := by omega
  have fin : ∀ (w3 : World) (arg : Int) (k : Nat), Only [q] w w3 → Rd w3 q (m + k) → k ≤ 8 → Box w3 w.heap.size 54 [.int .i64 0, .int .i64 0] → Box w3 w1.heap.size 54 [.int .i64 op, .int .i64 arg] →
      OrdDrawn q m w (.returned (.agg #[.int .i64 op, .int .i64 arg])) ((w3.setCell ⟨w.heap.size, 0, none⟩ (.int .i64 op)).setCell ⟨w.heap.size, 1, none⟩ (.int .i64 arg)) := fun w3 arg k o3 r3 hk _ _ =>
    ⟨op, arg, rfl, (o3.setCell (.inr (Nat.le_refl _)) _).setCell (.inr (Nat.le_refl _)) _, ((r3.far hq _).far hq _).mono (by omega)⟩
  have FIN := Lib.hid fin
  clear fin
  rcases hc with rfl | rfl | hc
  · clear l0 l1
    go_wp2_with fail
    refine (pick_any q (m + 1) 256 _ R2.out (by omega) (by omega) (by omega)).mono ?_
    rintro e w3 ⟨x, x0, x1, rfl, s3, r3⟩
    have X3 := Lib.hid (X2.out.only s3.only (by simp; omega))
    have Y3 := Lib.hid (Y2.out.only s3.only (by simp; omega))
    have O3 := Lib.hid (O2.out.trans s3.only)
    have R3 := Lib.hid r3
    clear s3 r3
    have b0 : w3.cell? ⟨w1.heap.size, 1, none⟩ = some (.int .i64 0) := Y3.out.cell 1
    have b1 := Y3.out.frozen 1
    go_wp2_with fail
    refine (odd_zero q _).mono ?_; rintro e w' ⟨rfl, rfl⟩
    have X4 := Lib.hid (X3.out.far (b' := w1.heap.size) (i := 1) (by omega) (.int .i64 x))
    have Y4 : Hid (Box (w3.setCell ⟨w1.heap.size, 1, none⟩ (.int .i64 x)) w1.heap.size 54 [.int .i64 op, .int .i64 x]) := Y3.out.set 1 _
    have O4 := Lib.hid (O3.out.setCell (q := w1.heap.size) (j := 1) (.inr (by omega)) (.int .i64 x))
    have R4 := Lib.hid (R3.out.far (b := w1.heap.size) (i := 1) (by omega) (.int .i64 x))
    clear b0 b1
    generalize w3.setCell ⟨w1.heap.size, 1, none⟩ (.int .i64 x) = w4 at X4 Y4 O4 R4
    have a0 : w4.cell? ⟨w1.heap.size, 0, none⟩ = some (.int .i64 op) := Y4.out.cell 0
    have a1 : w4.cell? ⟨w1.heap.size, 1, none⟩ = some (.int .i64 x) := Y4.out.cell 1
    have e0 : w4.cell? ⟨w.heap.size, 0, none⟩ = some (.int .i64 0) := X4.out.cell 0
    have e1 : w4.cell? ⟨w.heap.size, 1, none⟩ = some (.int .i64 0) := X4.out.cell 1
    have e2 := X4.out.frozen 0
    have e3 := X4.out.frozen 1
    go_wp2_with fail
    refine bodyPost_ret (v := .agg #[.int .i64 op, .int .i64 x]) (by simp [results, Try.results29, go_sem, e0, e1]) rfl ?_
    exact FIN.out w4 x 2 O4.out R4.out (by omega) X4.out Y4.out
  · clear l0 l1
    go_wp2_with fail
    refine (pick_any q (m + 1) 16 _ R2.out (by omega) (by omega) (by omega)).mono ?_
    rintro e w3 ⟨ya, ya0, ya1, rfl, s3, r3⟩
    have X3 := Lib.hid (X2.out.only s3.only (by simp; omega))
    have Y3 := Lib.hid (Y2.out.only s3.only (by simp; omega))
    have O3 := Lib.hid (O2.out.trans s3.only)
    have R3 := Lib.hid r3
    clear s3 r3
    go_wp2_with fail
    refine (pick_any q (m + 2) 16 _ R3.out (by omega) (by omega) (by omega)).mono ?_
    rintro e w4 ⟨yb, yb0, yb1, rfl, s3, r3⟩
    have X4 := Lib.hid (X3.out.only s3.only (by simp; omega))
    have Y4 := Lib.hid (Y3.out.only s3.only (by simp; omega))
    have O4 := Lib.hid (O3.out.trans s3.only)
    have R4 := Lib.hid r3
    clear s3 r3
    go_wp2_with fail
    refine (pick_any q (m + 3) 40 _ R4.out (by omega) (by omega) (by omega)).mono ?_
    rintro e w5 ⟨yc, yc0, yc1, rfl, s3, r3⟩
    have X5 := Lib.hid (X4.out.only s3.only (by simp; omega))
    have Y5 := Lib.hid (Y4.out.only s3.only (by simp; omega))
    have O5 := Lib.hid (O4.out.trans s3.only)
    have R5 := Lib.hid r3
    clear s3 r3
    go_wp2_with fail
    refine (pick_any q (m + 4) 8 _ R5.out (by omega) (by omega) (by omega)).mono ?_
    rintro e w6 ⟨yd, yd0, yd1, rfl, s3, r3⟩
    have X6 := Lib.hid (X5.out.only s3.only (by simp; omega))
    have Y6 := Lib.hid (Y5.out.only s3.only (by simp; omega))
    have O6 := Lib.hid (O5.out.trans s3.only)
    have R6 := Lib.hid r3
    clear s3 r3
    go_wp2_with fail
    refine (pick_any q (m + 5) 256 _ R6.out (by omega) (by omega) (by omega)).mono ?_
    rintro e w7 ⟨yf, yf0, yf1, rfl, s3, r3⟩
    have X7 := Lib.hid (X6.out.only s3.only (by simp; omega))
    have Y7 := Lib.hid (Y6.out.only s3.only (by simp; omega))
    have O7 := Lib.hid (O6.out.trans s3.only)
    have R7 := Lib.hid r3
    clear s3 r3
    have zq : q < w7.heap.size := R7.out.lt
    go_wp2_with fail
    refine (pick_any q (m + 6) 5 _ (R7.out.alloc _) (by omega) (by omega) (by omega)).mono ?_
    rintro e w8 ⟨z, z0, z1', rfl, s3, r3⟩
    obtain ⟨u, hu⟩ := five z ya (240 + yb) (512 + yc) (768 + yd) (yf * 4) z0 z1'
    have cu : w8.cell? ⟨w7.heap.size, z.toNat, none⟩ = some (.int .i64 u) := by
      rw [World.cell?_of_block (a := ⟨w7.heap.size, z.toNat, none⟩) (w := w7.alloc (.cells #[.int .i64 ya, .int .i64 (240 + yb), .int .i64 (512 + yc), .int .i64 (768 + yd), .int .i64 (yf * 4)] 3)) (s3.block w7.heap.size (by simp) (by omega)), World.cell?_alloc_new]; exact hu
    have X8 := Lib.hid ((X7.out.alloc (.cells #[.int .i64 ya, .int .i64 (240 + yb), .int .i64 (512 + yc), .int .i64 (768 + yd), .int .i64 (yf * 4)] 3)).only s3.only (by simp; omega))
    have Y8 := Lib.hid ((Y7.out.alloc (.cells #[.int .i64 ya, .int .i64 (240 + yb), .int .i64 (512 + yc), .int .i64 (768 + yd), .int .i64 (yf * 4)] 3)).only s3.only (by simp; omega))
    have O8 := Lib.hid ((O7.out.alloc (.cells #[.int .i64 ya, .int .i64 (240 + yb), .int .i64 (512 + yc), .int .i64 (768 + yd), .int .i64 (yf * 4)] 3)).trans s3.only)
    have R8 := Lib.hid r3
    clear s3 r3 hu
    have b0 : w8.cell? ⟨w1.heap.size, 1, none⟩ = some (.int .i64 0) := Y8.out.cell 1
    have b1 := Y8.out.frozen 1
    go_wp2_with fail
    refine (odd_zero q _).mono ?_; rintro e w' ⟨rfl, rfl⟩
    have X9 := Lib.hid (X8.out.far (b' := w1.heap.size) (i := 1) (by omega) (.int .i64 u))
    have Y9 : Hid (Box (w8.setCell ⟨w1.heap.size, 1, none⟩ (.int .i64 u)) w1.heap.size 54 [.int .i64 op, .int .i64 u]) := Y8.out.set 1 _
    have O9 := Lib.hid (O8.out.setCell (q := w1.heap.size) (j := 1) (.inr (by omega)) (.int .i64 u))
    have R9 := Lib.hid (R8.out.far (b := w1.heap.size) (i := 1) (by omega) (.int .i64 u))
    clear b0 b1 cu
    generalize w8.setCell ⟨w1.heap.size, 1, none⟩ (.int .i64 u) = w9 at X9 Y9 O9 R9
    have a0 : w9.cell? ⟨w1.heap.size, 0, none⟩ = some (.int .i64 op) := Y9.out.cell 0
    have a1 : w9.cell? ⟨w1.heap.size, 1, none⟩ = some (.int .i64 u) := Y9.out.cell 1
    have e0 : w9.cell? ⟨w.heap.size, 0, none⟩ = some (.int .i64 0) := X9.out.cell 0
    have e1 : w9.cell? ⟨w.heap.size, 1, none⟩ = some (.int .i64 0) := X9.out.cell 1
    have e2 := X9.out.frozen 0
    have e3 := X9.out.frozen 1
    go_wp2_with fail
    refine bodyPost_ret (v := .agg #[.int .i64 op, .int .i64 u]) (by simp [results, Try.results29, go_sem, e0, e1]) rfl ?_
    exact FIN.out w9 u 7 O9.out R9.out (by omega) X9.out Y9.out
  · have h2 : (L == 2) = false := by simp; omega
    have h3 : (L == 3) = false := by simp; omega
    clear hc
    go_wp2_with fail
    refine (odd_zero q _).mono ?_; rintro e w' ⟨rfl, rfl⟩
    have a0 : w2.cell? ⟨w1.heap.size, 0, none⟩ = some (.int .i64 op) := Y2.out.cell 0
    have a1 : w2.cell? ⟨w1.heap.size, 1, none⟩ = some (.int .i64 0) := Y2.out.cell 1
    have e0 : w2.cell? ⟨w.heap.size, 0, none⟩ = some (.int .i64 0) := X2.out.cell 0
    have e1 : w2.cell? ⟨w.heap.size, 1, none⟩ = some (.int .i64 0) := X2.out.cell 1
    have e2 := X2.out.frozen 0
    have e3 := X2.out.frozen 1
    go_wp2_with fail
    refine bodyPost_ret (v := .agg #[.int .i64 op, .int .i64 0]) (by simp [results, Try.results29, go_sem, e0, e1]) rfl ?_
    exact FIN.out w2 0 1 O2.out R2.out (by omega) X2.out Y2.out
end Go.Proofs.Ytnfphdpoimjcmaa
