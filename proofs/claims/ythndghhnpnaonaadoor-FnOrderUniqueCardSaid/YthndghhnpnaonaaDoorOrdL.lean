/- The drawn laws of chapter 3 on lengths, valid instructions. -/
import Derived.Test.YthndghhnpnaonaaDoorOrderF
import Derived.Test.YthndghhnpnaonaaDoorDecI
namespace Go.Proofs.YthndghhnpnaonaaDoor
open Go.ChangeShapes Go.WideShapes Go.ChangeAt Go.RowKit

theorem isRow_stays {k : IntKind} {w w' : World} {a : Option Addr} {len cap : Nat} {zs : List Int} (h : IsRow k w a len cap zs) (b : Below w.heap.size w w') : IsRow k w' a len cap zs := by
  rcases h with h | ⟨x, rfl, hl, hm, hz, hc, hw⟩
  · exact .inl h
  · exact .inr ⟨x, rfl, hl, hm, hz, fun i hi => (b.cell (World.block_lt_of_cell? _ _ (hc i hi))).trans (hc i hi), hw⟩
theorem isRow_len {k : IntKind} {w : World} {a : Option Addr} {len cap : Nat} {zs : List Int} (h : IsRow k w a len cap zs) : len ≤ 9223372036854775807 := by
  rcases h with ⟨_, h, _⟩ | ⟨x, _, hl, hm, _⟩
  · omega
  · unfold maxLen at hm; omega
/-- What drawing a number leaves. -/
def NumGot (lo hi : Int) (w : World) (e : Ending) (w' : World) : Prop := ∃ v : Int, lo ≤ v ∧ v ≤ hi ∧ e = .returned (.int .i64 v) ∧ Below w.heap.size w w'
/-- What drawing an instruction leaves. -/
def OrdGot (w : World) (e : Ending) (w' : World) : Prop := ∃ op arg : Int, e = .returned (.agg #[.int .i64 op, .int .i64 arg]) ∧ Below w.heap.size w w'
theorem draw_ordLen (a : Option Addr) (len cap : Nat) (zs : List Int) (w : World) (h : IsRow .u8 w a len cap zs) :
    Calls Tryd.prog 12 #[.slice a len cap] w (NumGot (-1) 16 w) := by
  have H := Lib.hid h
  clear h
  go_enter Tryd.func12, Tryd.ntmps12
  go_wp2_with fail
  refine (open_any a len cap zs _ H.out).mono ?_
  rintro e w1 ⟨rfl, b1, r1⟩
  have B1 := Lib.hid b1
  have R1 := Lib.hid r1
  clear b1 r1
  go_wp2_with fail
  refine (pick_any _ 0 18 _ R1.out (by omega) (by omega) (by omega)).mono ?_
  rintro e w2 ⟨v, v0, v1, rfl, s2, r2⟩
  have B2 := Lib.hid (B1.out.trans (s2.below (Nat.le_refl _) B1.out.size))
  clear s2 r2
  go_wp2_with fail
  go_ret
  exact ⟨v - 1, by omega, by omega, rfl, B2.out⟩
theorem draw_ordValid (a : Option Addr) (len cap : Nat) (zs : List Int) (w : World) (h : IsRow .u8 w a len cap zs) :
    Calls Tryd.prog 16 #[.slice a len cap] w (OrdGot w) := by
  have H := Lib.hid (isRow_stays h (below1 w (.cells #[.int .i64 0, .int .i64 0] 28)))
  clear h
  go_enter Tryd.func16, Tryd.ntmps16
  go_wp2_with fail
  refine (open_any a len cap zs _ H.out).mono ?_
  rintro e w1 ⟨rfl, b1, r1⟩
  have X1 : Hid (Box w1 w.heap.size 28 [.int .i64 0, .int .i64 0]) := (Box.new w _ _).below b1
  have B1 : Hid (Below w.heap.size w w1) := (below1 w _).trans (b1.mono (by simp))
  have R1 := Lib.hid r1
  have zq : w.heap.size < (w.alloc (.cells #[.int .i64 0, .int .i64 0] 28)).heap.size := by simp
  generalize (w.alloc (.cells #[.int .i64 0, .int .i64 0] 28)).heap.size = q at R1 zq
  clear b1 r1
  go_wp2_with fail
  refine (order_full q 0 2 _ R1.out (by omega) (by omega) (by omega)).mono ?_
  rintro e w2 ⟨op, arg, rfl, o2, r2⟩
  have X2 := Lib.hid (X1.out.only o2 (by simp; omega))
  have B2 := Lib.hid (B1.out.trans (o2.below (B := w.heap.size) (fun b hb => by simp at hb; omega) B1.out.size))
  clear o2 r2
  have e0 : w2.cell? ⟨w.heap.size, 0, none⟩ = some (.int .i64 0) := X2.out.cell 0
  have e1 : w2.cell? ⟨w.heap.size, 1, none⟩ = some (.int .i64 0) := X2.out.cell 1
  have e2 := X2.out.frozen 0
  have e3 := X2.out.frozen 1
  go_wp2_with fail
  refine bodyPost_ret (v := .agg #[.int .i64 op, .int .i64 arg]) (by simp [results, Tryd.results16, go_sem, e0, e1]) rfl ?_
  exact ⟨op, arg, rfl, (B2.out.setCell (show w.heap.size ≤ w.heap.size from Nat.le_refl _) _).setCell (show w.heap.size ≤ w.heap.size from Nat.le_refl _) _⟩
theorem draw_ordBytes (a : Option Addr) (len cap : Nat) (zs : List Int) (w : World) (h : IsRow .u8 w a len cap zs) :
    Calls Tryd.prog 19 #[.slice a len cap] w (OrdGot w) := by
  have H := Lib.hid (isRow_stays h (below1 w (.cells #[.int .i64 0, .int .i64 0] 28)))
  clear h
  go_enter Tryd.func19, Tryd.ntmps19
  go_wp2_with fail
  refine (open_any a len cap zs _ H.out).mono ?_
  rintro e w1 ⟨rfl, b1, r1⟩
  have X1 : Hid (Box w1 w.heap.size 28 [.int .i64 0, .int .i64 0]) := (Box.new w _ _).below b1
  have B1 : Hid (Below w.heap.size w w1) := (below1 w _).trans (b1.mono (by simp))
  have R1 := Lib.hid r1
  have zq : w.heap.size < (w.alloc (.cells #[.int .i64 0, .int .i64 0] 28)).heap.size := by simp
  generalize (w.alloc (.cells #[.int .i64 0, .int .i64 0] 28)).heap.size = q at R1 zq
  clear b1 r1
  go_wp2_with fail
  refine (order_full q 0 6 _ R1.out (by omega) (by omega) (by omega)).mono ?_
  rintro e w2 ⟨op, arg, rfl, o2, r2⟩
  have X2 := Lib.hid (X1.out.only o2 (by simp; omega))
  have B2 := Lib.hid (B1.out.trans (o2.below (B := w.heap.size) (fun b hb => by simp at hb; omega) B1.out.size))
  clear o2 r2
  have e0 : w2.cell? ⟨w.heap.size, 0, none⟩ = some (.int .i64 0) := X2.out.cell 0
  have e1 : w2.cell? ⟨w.heap.size, 1, none⟩ = some (.int .i64 0) := X2.out.cell 1
  have e2 := X2.out.frozen 0
  have e3 := X2.out.frozen 1
  go_wp2_with fail
  refine bodyPost_ret (v := .agg #[.int .i64 op, .int .i64 arg]) (by simp [results, Tryd.results19, go_sem, e0, e1]) rfl ?_
  exact ⟨op, arg, rfl, (B2.out.setCell (show w.heap.size ≤ w.heap.size from Nat.le_refl _) _).setCell (show w.heap.size ≤ w.heap.size from Nat.le_refl _) _⟩
theorem walk_FnOrderLength (a0 : Option Addr) (len0 cap0 : Nat) (z0 : List Int) (w : World) (w0 : IsRow .u8 w a0 len0 cap0 z0) (ho : Ops w) :
    Calls Tryd.prog 3 #[.slice a0 len0 cap0] w fun e w' => e = .returned (.bool true) ∧ Below w.heap.size w w' := by
  have H := Lib.hid w0
  have HO := Lib.hid ho
  have hl := isRow_len w0
  clear w0 ho
  by_cases hs : len0 ≤ 1048576
  · go_enter Tryd.func3, Tryd.ntmps3
    go_wp2_with fail
    refine (draw_ordLen _ _ _ _ _ H.out).mono ?_; rintro e w1 ⟨op, v0, v1, rfl, b1⟩
    have B1 := Lib.hid b1
    clear b1
    go_wp2_with fail
    refine (impl_len _ _ (HO.out.below B1.out)).mono ?_; rintro e w2 ⟨rfl, b2⟩
    have B2 := Lib.hid (below_then B1.out b2)
    clear b2
    have hk : (betB op 0 15 = true ∧ 1 ≤ lenN op) ∨ (betB op 0 15 = false ∧ lenN op = 0) := by
      by_cases hb : betB op 0 15 = true
      · exact .inl ⟨hb, lenN_known hb⟩
      · exact .inr ⟨by simpa using hb, lenN_no (by simpa using hb)⟩
    have l1 := (lenN_bd op).2
    generalize hL : lenN op = L at hk l1
    have HL := Lib.hid hL
    clear hL
    go_wp2_with fail
    refine (spec_len _ _).mono ?_; rintro e w3 ⟨rfl, b3⟩
    rw [HL.out]
    have B3 := Lib.hid (below_then B2.out b3)
    clear b3
    rcases hk with ⟨hb, h1⟩ | ⟨hb, h1⟩
    · obtain ⟨o0, o1⟩ := betB_yes hb
      have l0 : 0 ≤ L := by omega
      clear hb
      go_wp2_with fail
      refine (alive_any _).mono ?_; rintro e w' ⟨rfl, rfl⟩
      go_wp2_with fail
      go_ret
      exact ⟨rfl, B3.out⟩
    · subst h1
      have ho := betB_no hb
      clear hb
      rcases ho with ho | ho
      · have hd : decide (0 ≤ op) = false := by simp; omega
        go_wp2_with fail
        refine (alive_any _).mono ?_; rintro e w' ⟨rfl, rfl⟩
        go_wp2_with fail
        go_ret
        exact ⟨rfl, B3.out⟩
      · have h0 : 0 ≤ op := by omega
        have hd : decide (op ≤ 15) = false := by simp; omega
        go_wp2_with fail
        refine (alive_any _).mono ?_; rintro e w' ⟨rfl, rfl⟩
        go_wp2_with fail
        go_ret
        exact ⟨rfl, B3.out⟩
  · go_enter Tryd.func3, Tryd.ntmps3
    go_wp2_with fail
    go_ret
    exact ⟨rfl, Below.refl _ _⟩
theorem ord_top (op : Int) : ordB op 1024 = false := by
  rw [ordB_top]
  have : topN op ≤ 1023 := by unfold topN; split <;> (try split) <;> omega
  simp; omega
theorem ord_sixteen (arg : Int) : ordB 16 arg = false := by rw [ordB_top]; simp [betB]
theorem walk_FnOrderValid (a0 : Option Addr) (len0 cap0 : Nat) (z0 : List Int) (w : World) (w0 : IsRow .u8 w a0 len0 cap0 z0) (ho : Ops w) :
    Calls Tryd.prog 4 #[.slice a0 len0 cap0] w fun e w' => e = .returned (.bool true) ∧ Below w.heap.size w w' := by
  have H := Lib.hid w0
  have HO := Lib.hid ho
  have hl := isRow_len w0
  clear w0 ho
  by_cases hs : len0 ≤ 1048576
  · go_enter Tryd.func4, Tryd.ntmps4
    go_wp2_with fail
    refine (draw_ordValid _ _ _ _ _ H.out).mono ?_; rintro e w1 ⟨op, arg, rfl, b1⟩
    have B1 := Lib.hid b1
    clear b1
    go_wp2_with fail
    refine (impl_ordValid _ _ _ (HO.out.below (B1.out.alloc B1.out.size _))).mono ?_; rintro e w2 ⟨rfl, b2⟩
    have X2 : Hid (Box w2 w1.heap.size 28 [.int .i64 op, .int .i64 arg]) := (Box.new w1 _ _).below b2
    have B2 : Hid (Below w.heap.size w w2) := below_then (B1.out.alloc B1.out.size _) b2
    have c0 : w2.cell? ⟨w1.heap.size, 0, none⟩ = some (.int .i64 op) := X2.out.cell 0
    have c1 : w2.cell? ⟨w1.heap.size, 1, none⟩ = some (.int .i64 arg) := X2.out.cell 1
    clear b2
    generalize hV : ordB op arg = V
    have HV := Lib.hid hV
    clear hV
    go_wp2_with fail
    refine (spec_ordValid _ _ _).mono ?_; rintro e w3 ⟨rfl, b3⟩
    rw [HV.out]
    have X3 := Lib.hid (X2.out.below b3)
    have B3 := Lib.hid (below_then B2.out b3)
    clear b3 c0 c1
    have c0 : w3.cell? ⟨w1.heap.size, 0, none⟩ = some (.int .i64 op) := X3.out.cell 0
    have c1 : w3.cell? ⟨w1.heap.size, 1, none⟩ = some (.int .i64 arg) := X3.out.cell 1
    have z3 : w1.heap.size < w3.heap.size := X3.out.lt
    cases V
    all_goals
      go_wp2_with fail
      have B3a : Hid (Below w.heap.size w ((w3.alloc (.cells #[.int .i64 op, .int .i64 1024] 28)).alloc (.cells #[.int .i64 16, .int .i64 arg] 28))) := (B3.out.alloc B3.out.size _).alloc (by have := B3.out.size; simp; omega) _
      have Y3 : Hid (Box ((w3.alloc (.cells #[.int .i64 op, .int .i64 1024] 28)).alloc (.cells #[.int .i64 16, .int .i64 arg] 28)) (w3.heap.size + 1) 28 [.int .i64 16, .int .i64 arg]) := Box.new_at _ _ _ _ (by simp)
      refine (impl_ordValid _ _ _ (HO.out.below B3a.out)).mono ?_; rintro e w4 ⟨rfl, b4⟩
      rw [ord_top]
      have Y4 := Lib.hid (Y3.out.below b4)
      have B4 := Lib.hid (below_then B3a.out b4)
      clear b4 c0 c1
      have c0 : w4.cell? ⟨w3.heap.size + 1, 0, none⟩ = some (.int .i64 16) := Y4.out.cell 0
      have c1 : w4.cell? ⟨w3.heap.size + 1, 1, none⟩ = some (.int .i64 arg) := Y4.out.cell 1
      go_wp2_with fail
      refine (impl_ordValid _ _ _ (HO.out.below B4.out)).mono ?_; rintro e w5 ⟨rfl, b5⟩
      rw [ord_sixteen]
      have B5 := Lib.hid (below_then B4.out b5)
      clear b5 c0 c1
      go_wp2_with fail
      refine (alive_any _).mono ?_; rintro e w' ⟨rfl, rfl⟩
      go_wp2_with fail
      go_ret
      exact ⟨rfl, B5.out⟩
  · go_enter Tryd.func4, Tryd.ntmps4
    go_wp2_with fail
    go_ret
    exact ⟨rfl, Below.refl _ _⟩
end Go.Proofs.YthndghhnpnaonaaDoor
