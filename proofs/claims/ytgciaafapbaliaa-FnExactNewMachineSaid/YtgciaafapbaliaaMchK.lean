/- The laws' own functions on machines: new memory of their own; numbers written in order, and looked through again. -/
import Derived.Test.YtgciaafapbaliaaMchE
import Derived.Deep.DeepCutAuto
namespace Go.Proofs.Ytgciaafapbaliaa
open Go.ChangeShapes Go.WideShapes Go.ChangeAt Go.RowKit

/-- A memory made first, then the return addresses; then blocks below L, before both, written. -/
theorem mach_made {w w1 w2 w3 : World} {X : Mach} {A : Option Addr} {n c : Nat} {R : Option Addr} {k d : Nat} {fa fr fb S : List Nat} {B : Option Addr} {m g : Nat} {L : Nat} (i : Ints w1 A n X.mem.ram fa) (r : Grid w1 R k X.mem.rom fr) (n1 : New L w1 (fa ++ fr)) (o12 : Only S w1 w2) (hi : Ints w2 B m X.back fb) (hn : New w1.heap.size w2 fb) (o23 : Only S w2 w3)
    (hS : ∀ b ∈ S, b < L) (hL : w.heap.size ≤ L) (hL1 : L ≤ w1.heap.size) (b : Below w.heap.size w w3) (hc : n ≤ c) (hd : k ≤ d) (hg : m ≤ g) : MachNew X w (.returned (.agg #[.slice A n c, .slice R k d, .int .i64 X.mem.bank, .int .i64 X.a, .int .i64 X.at_, .bool X.carry, .slice B m g, .bool X.stop, .int .i64 X.cyc])) w3 := by
  have d1 : ∀ b ∈ fa ++ fr, b ∉ S := fun x hx hs => by have := hS x hs; have := (n1.lt x hx).1; omega
  have d2 : ∀ b ∈ fb, b ∉ S := fun x hx hs => by have := hS x hs; have := (hn.lt x hx).1; omega
  have s1 : Same (fa ++ fr) w1 w3 := .of_only (o12.trans o23) d1
  have s2 : Same fb w2 w3 := .of_only o23 d2
  have hw : w.heap.size ≤ w1.heap.size := Nat.le_trans hL hL1
  refine ⟨A, n, c, R, k, d, B, m, g, fa, fr, fb, rfl, ⟨hc, hd, hg⟩, ⟨i.keep (s1.sub fun x hx => List.mem_append_left _ hx), r.keep (s1.sub fun x hx => List.mem_append_right _ hx), hi.keep s2⟩, ((n1.mono hL).keep s1).append ((hn.mono hw).keep s2) (fun x hx hy => ?_), b⟩
  have := (n1.lt x hx).2; have := (hn.lt x hy).1; omega
theorem to_mach (A : Option Addr) (c : Nat) (R : Option Addr) (d : Nat) (B : Option Addr) (g : Nat) (n k m : Nat) (X : Mach) (fa fr fb : List Nat) (w : World) (h : MHas w A n R k B m X fa fr fb) (f : Fits X 1000000000) :
    Calls Try.prog 18 #[.agg #[.slice A n c, .slice R k d, .int .i64 X.mem.bank, .int .i64 X.a, .int .i64 X.at_, .bool X.carry, .slice B m g, .bool X.stop, .int .i64 X.cyc]] w (MachNew X w) := by
  have hn := f.n h
  have hk := f.k h
  have hm := f.m h
  have H := Lib.hid h
  have HS := Lib.hid f.row
  clear h f
  go_enter Try.func18, Try.ntmps18
  go_upto_region 2 with (fail)
  obtain ⟨W, hW⟩ : ∃ W, W = ((w.alloc (.cells #[.slice A n c, .slice R k d, .int .i64 X.mem.bank, .int .i64 X.a, .int .i64 X.at_, .bool X.carry, .slice B m g, .bool X.stop, .int .i64 X.cyc] 40)).alloc (.cells #[.slice none 0 0, .slice none 0 0, .int .i64 0, .int .i64 0, .int .i64 0, .bool false, .slice none 0 0, .bool false, .int .i64 0] 28)).alloc (.cells #[.slice none 0 0, .slice none 0 0, .int .i64 0, .int .i64 0, .int .i64 0, .bool false, .slice none 0 0, .bool false, .int .i64 0] 28) := ⟨_, rfl⟩
  rw [← hW]
  have X0 : Hid (Box W w.heap.size 40 [.slice A n c, .slice R k d, .int .i64 X.mem.bank, .int .i64 X.a, .int .i64 X.at_, .bool X.carry, .slice B m g, .bool X.stop, .int .i64 X.cyc]) := by rw [hW]; exact Lib.hid (((Box.new w _ _).alloc _).alloc _)
  have X1 : Hid (Box W (w.heap.size + 1) 28 [.slice none 0 0, .slice none 0 0, .int .i64 0, .int .i64 0, .int .i64 0, .bool false, .slice none 0 0, .bool false, .int .i64 0]) := by rw [hW]; exact Lib.hid ((Box.new_at (w.alloc _) _ _ _ (by simp)).alloc _)
  have X2 : Hid (Box W (w.heap.size + 1 + 1) 28 [.slice none 0 0, .slice none 0 0, .int .i64 0, .int .i64 0, .int .i64 0, .bool false, .slice none 0 0, .bool false, .int .i64 0]) := by rw [hW]; exact Lib.hid (Box.new_at ((w.alloc _).alloc _) _ _ _ (by simp))
  have B0 : Hid (Below w.heap.size w W) := by rw [hW]; exact Lib.hid (below3 w _ _ _)
  have sW : W.heap.size = w.heap.size + 1 + 1 + 1 := by rw [hW]; simp
  clear hW
  have a0 : W.cell? ⟨w.heap.size, 0, none⟩ = some (.slice A n c) := X0.out.cell 0
  have a1 : W.cell? ⟨w.heap.size, 1, none⟩ = some (.slice R k d) := X0.out.cell 1
  have a2 : W.cell? ⟨w.heap.size, 2, none⟩ = some (.int .i64 X.mem.bank) := X0.out.cell 2
  have a3 : W.cell? ⟨w.heap.size, 3, none⟩ = some (.int .i64 X.a) := X0.out.cell 3
  have a4 : W.cell? ⟨w.heap.size, 4, none⟩ = some (.int .i64 X.at_) := X0.out.cell 4
  have a5 : W.cell? ⟨w.heap.size, 5, none⟩ = some (.bool X.carry) := X0.out.cell 5
  have a6 : W.cell? ⟨w.heap.size, 6, none⟩ = some (.slice B m g) := X0.out.cell 6
  have a7 : W.cell? ⟨w.heap.size, 7, none⟩ = some (.bool X.stop) := X0.out.cell 7
  have a8 : W.cell? ⟨w.heap.size, 8, none⟩ = some (.int .i64 X.cyc) := X0.out.cell 8
  go_wp2_with fail
  refine (to_mem A n c R k d X.mem fa fr _ (H.out.ram.below B0.out) (H.out.rom.below B0.out) hn hk HS.out).mono ?_
  rintro e w1 ⟨A1, n1, c1, R1, k1, d1, fa1, fr1, rfl, hc, hd, i1, g1', nw, b1⟩
  obtain rfl : n = n1 := by have := i1.1; have := H.out.ram.1; omega
  obtain rfl : k = k1 := by have := g1'.len; have := H.out.rom.len; omega
  have B1 : Hid (Below w.heap.size w w1) := B0.out.trans (b1.mono B0.out.size)
  have hL : w.heap.size + 1 + 1 + 1 ≤ w1.heap.size := by have := b1.size; omega
  have Y0 := Lib.hid (X0.out.below b1)
  have Y1 := Lib.hid (X1.out.below b1)
  have Y2 := Lib.hid (X2.out.below b1)
  have I1 := Lib.hid i1
  have G1 := Lib.hid g1'
  have N1 := Lib.hid (show New (w.heap.size + 1 + 1 + 1) w1 (fa1 ++ fr1) by rw [sW] at nw; exact nw)
  clear i1 g1' nw b1 X0 X1 X2 B0 a0 a1 a2 a3 a4 a5 a6 a7 a8
  have e2 : w1.cell? ⟨w.heap.size, 2, none⟩ = some (.int .i64 X.mem.bank) := Y0.out.cell 2
  have e3 : w1.cell? ⟨w.heap.size, 3, none⟩ = some (.int .i64 X.a) := Y0.out.cell 3
  have e4 : w1.cell? ⟨w.heap.size, 4, none⟩ = some (.int .i64 X.at_) := Y0.out.cell 4
  have e5 : w1.cell? ⟨w.heap.size, 5, none⟩ = some (.bool X.carry) := Y0.out.cell 5
  have e6 : w1.cell? ⟨w.heap.size, 6, none⟩ = some (.slice B m g) := Y0.out.cell 6
  have e7 : w1.cell? ⟨w.heap.size, 7, none⟩ = some (.bool X.stop) := Y0.out.cell 7
  have e8 : w1.cell? ⟨w.heap.size, 8, none⟩ = some (.int .i64 X.cyc) := Y0.out.cell 8
  have a0 : w1.cell? ⟨w.heap.size + 1 + 1, 0, none⟩ = some (.slice none 0 0) := Y2.out.cell 0
  have a1 : w1.cell? ⟨w.heap.size + 1 + 1, 1, none⟩ = some (.slice none 0 0) := Y2.out.cell 1
  have a2 : w1.cell? ⟨w.heap.size + 1 + 1, 2, none⟩ = some (.int .i64 0) := Y2.out.cell 2
  have a3 : w1.cell? ⟨w.heap.size + 1 + 1, 3, none⟩ = some (.int .i64 0) := Y2.out.cell 3
  have a4 : w1.cell? ⟨w.heap.size + 1 + 1, 4, none⟩ = some (.int .i64 0) := Y2.out.cell 4
  have a5 : w1.cell? ⟨w.heap.size + 1 + 1, 5, none⟩ = some (.bool false) := Y2.out.cell 5
  have a6 : w1.cell? ⟨w.heap.size + 1 + 1, 6, none⟩ = some (.slice none 0 0) := Y2.out.cell 6
  have a7 : w1.cell? ⟨w.heap.size + 1 + 1, 7, none⟩ = some (.bool false) := Y2.out.cell 7
  have a8 : w1.cell? ⟨w.heap.size + 1 + 1, 8, none⟩ = some (.int .i64 0) := Y2.out.cell 8
  have f0 := Y2.out.frozen 0
  have f1 := Y2.out.frozen 1
  have f2 := Y2.out.frozen 2
  have f3 := Y2.out.frozen 3
  have f4 := Y2.out.frozen 4
  have f5 := Y2.out.frozen 5
  have f6 := Y2.out.frozen 6
  have f7 := Y2.out.frozen 7
  have f8 := Y2.out.frozen 8
  go_upto_region 6 with (fail)
  obtain ⟨V, hV⟩ : ∃ V, V = (((((w1.setCell ⟨w.heap.size + 1 + 1, 0, none⟩ (.slice A1 n c1)).setCell ⟨w.heap.size + 1 + 1, 1, none⟩ (.slice R1 k d1)).setCell ⟨w.heap.size + 1 + 1, 2, none⟩ (.int .i64 X.mem.bank)).setCell ⟨w.heap.size + 1 + 1, 3, none⟩ (.int .i64 X.a)).setCell ⟨w.heap.size + 1 + 1, 4, none⟩ (.int .i64 X.at_)).setCell ⟨w.heap.size + 1 + 1, 5, none⟩ (.bool X.carry) := ⟨_, rfl⟩
  rw [← hV]
  have B2 : Hid (Below w.heap.size w V) := by rw [hV]; exact Lib.hid ((((((B1.out.setCell (show w.heap.size ≤ w.heap.size + 1 + 1 by omega) _).setCell (show w.heap.size ≤ w.heap.size + 1 + 1 by omega) _).setCell (show w.heap.size ≤ w.heap.size + 1 + 1 by omega) _).setCell (show w.heap.size ≤ w.heap.size + 1 + 1 by omega) _).setCell (show w.heap.size ≤ w.heap.size + 1 + 1 by omega) _).setCell (show w.heap.size ≤ w.heap.size + 1 + 1 by omega) _)
  have O2 : Hid (Only [w.heap.size + 1, w.heap.size + 1 + 1] w1 V) := by rw [hV]; exact Lib.hid (((((((Only.refl _ w1).setCell (.inl (by simp)) _).setCell (.inl (by simp)) _).setCell (.inl (by simp)) _).setCell (.inl (by simp)) _).setCell (.inl (by simp)) _).setCell (.inl (by simp)) _)
  have T0 : Hid (Box V w.heap.size 40 [.slice A n c, .slice R k d, .int .i64 X.mem.bank, .int .i64 X.a, .int .i64 X.at_, .bool X.carry, .slice B m g, .bool X.stop, .int .i64 X.cyc]) := by rw [hV]; exact Lib.hid ((((((Y0.out.far (by omega) _).far (by omega) _).far (by omega) _).far (by omega) _).far (by omega) _).far (by omega) _)
  have T1 : Hid (Box V (w.heap.size + 1) 28 [.slice none 0 0, .slice none 0 0, .int .i64 0, .int .i64 0, .int .i64 0, .bool false, .slice none 0 0, .bool false, .int .i64 0]) := by rw [hV]; exact Lib.hid ((((((Y1.out.far (by omega) _).far (by omega) _).far (by omega) _).far (by omega) _).far (by omega) _).far (by omega) _)
  have T2 : Hid (Box V (w.heap.size + 1 + 1) 28 [.slice A1 n c1, .slice R1 k d1, .int .i64 X.mem.bank, .int .i64 X.a, .int .i64 X.at_, .bool X.carry, .slice none 0 0, .bool false, .int .i64 0]) := by rw [hV]; exact Lib.hid ((((((Y2.out.set 0 _).set 1 _).set 2 _).set 3 _).set 4 _).set 5 _)
  have sV : Hid (V.heap.size = w1.heap.size) := by rw [hV]; exact Lib.hid (by simp)
  clear hV Y0 Y1 Y2 a0 a1 a2 a3 a4 a5 a6 a7 a8 f0 f1 f2 f3 f4 f5 f6 f7 f8 e2 e3 e4 e5 e6 e7 e8
  have b6 : V.cell? ⟨w.heap.size, 6, none⟩ = some (.slice B m g) := T0.out.cell 6
  go_wp2_with fail
  refine (to_ints _ _ _ _ _ _ (H.out.back.below B2.out) hm).mono ?_
  rintro e w2 ⟨B1', g1, fb1, rfl, hg, ib, nb, b2⟩
  have U0 := Lib.hid (T0.out.below b2)
  have U1 := Lib.hid (T1.out.below b2)
  have U2 := Lib.hid (T2.out.below b2)
  have IB := Lib.hid ib
  have NB : Hid (New w1.heap.size w2 fb1) := by rw [← sV.out]; exact Lib.hid nb
  have o12 : Hid (Only [w.heap.size + 1, w.heap.size + 1 + 1] w1 w2) := O2.out.trans (.of_below b2)
  have B3 : Hid (Below w.heap.size w w2) := B2.out.trans (b2.mono B2.out.size)
  clear ib nb b2 b6
  have e7 : w2.cell? ⟨w.heap.size, 7, none⟩ = some (.bool X.stop) := U0.out.cell 7
  have e8 : w2.cell? ⟨w.heap.size, 8, none⟩ = some (.int .i64 X.cyc) := U0.out.cell 8
  have a0 : w2.cell? ⟨w.heap.size + 1 + 1, 0, none⟩ = some (.slice A1 n c1) := U2.out.cell 0
  have a1 : w2.cell? ⟨w.heap.size + 1 + 1, 1, none⟩ = some (.slice R1 k d1) := U2.out.cell 1
  have a2 : w2.cell? ⟨w.heap.size + 1 + 1, 2, none⟩ = some (.int .i64 X.mem.bank) := U2.out.cell 2
  have a3 : w2.cell? ⟨w.heap.size + 1 + 1, 3, none⟩ = some (.int .i64 X.a) := U2.out.cell 3
  have a4 : w2.cell? ⟨w.heap.size + 1 + 1, 4, none⟩ = some (.int .i64 X.at_) := U2.out.cell 4
  have a5 : w2.cell? ⟨w.heap.size + 1 + 1, 5, none⟩ = some (.bool X.carry) := U2.out.cell 5
  have a6 : w2.cell? ⟨w.heap.size + 1 + 1, 6, none⟩ = some (.slice none 0 0) := U2.out.cell 6
  have a7 : w2.cell? ⟨w.heap.size + 1 + 1, 7, none⟩ = some (.bool false) := U2.out.cell 7
  have a8 : w2.cell? ⟨w.heap.size + 1 + 1, 8, none⟩ = some (.int .i64 0) := U2.out.cell 8
  have f6 := U2.out.frozen 6
  have f7 := U2.out.frozen 7
  have f8 := U2.out.frozen 8
  have h0 : w2.cell? ⟨w.heap.size + 1, 0, none⟩ = some (.slice none 0 0) := U1.out.cell 0
  have h1 : w2.cell? ⟨w.heap.size + 1, 1, none⟩ = some (.slice none 0 0) := U1.out.cell 1
  have h2 : w2.cell? ⟨w.heap.size + 1, 2, none⟩ = some (.int .i64 0) := U1.out.cell 2
  have h3 : w2.cell? ⟨w.heap.size + 1, 3, none⟩ = some (.int .i64 0) := U1.out.cell 3
  have h4 : w2.cell? ⟨w.heap.size + 1, 4, none⟩ = some (.int .i64 0) := U1.out.cell 4
  have h5 : w2.cell? ⟨w.heap.size + 1, 5, none⟩ = some (.bool false) := U1.out.cell 5
  have h6 : w2.cell? ⟨w.heap.size + 1, 6, none⟩ = some (.slice none 0 0) := U1.out.cell 6
  have h7 : w2.cell? ⟨w.heap.size + 1, 7, none⟩ = some (.bool false) := U1.out.cell 7
  have h8 : w2.cell? ⟨w.heap.size + 1, 8, none⟩ = some (.int .i64 0) := U1.out.cell 8
  have z0 := U1.out.frozen 0
  have z1 := U1.out.frozen 1
  have z2 := U1.out.frozen 2
  have z3 := U1.out.frozen 3
  have z4 := U1.out.frozen 4
  have z5 := U1.out.frozen 5
  have z6 := U1.out.frozen 6
  have z7 := U1.out.frozen 7
  have z8 := U1.out.frozen 8
  go_wp2_with fail
  refine bodyPost_ret (v := .agg #[.slice A1 n c1, .slice R1 k d1, .int .i64 X.mem.bank, .int .i64 X.a, .int .i64 X.at_, .bool X.carry, .slice B1' m g1, .bool X.stop, .int .i64 X.cyc]) (by simp [results, Try.results18, go_sem, h0, h1, h2, h3, h4, h5, h6, h7, h8]) rfl ?_
  refine mach_made (S := [w.heap.size + 1, w.heap.size + 1 + 1]) (L := w.heap.size + 1 + 1 + 1) I1.out G1.out N1.out o12.out IB.out NB.out ?_ (by intro b hb; simp at hb; omega) (by omega) hL ?_ hc hd hg
  · exact (((((((((((((Only.refl _ w2).setCell (.inl (by simp)) _).setCell (.inl (by simp)) _).setCell (.inl (by simp)) _).setCell (.inl (by simp)) _).setCell (.inl (by simp)) _).setCell (.inl (by simp)) _).setCell (.inl (by simp)) _).setCell (.inl (by simp)) _).setCell (.inl (by simp)) _).setCell (.inl (by simp)) _).setCell (.inl (by simp)) _).setCell (.inl (by simp)) _)
  · exact ((((((((((((B3.out.setCell (show w.heap.size ≤ w.heap.size + 1 + 1 by omega) _).setCell (show w.heap.size ≤ w.heap.size + 1 + 1 by omega) _).setCell (show w.heap.size ≤ w.heap.size + 1 + 1 by omega) _).setCell (show w.heap.size ≤ w.heap.size + 1 by omega) _).setCell (show w.heap.size ≤ w.heap.size + 1 by omega) _).setCell (show w.heap.size ≤ w.heap.size + 1 by omega) _).setCell (show w.heap.size ≤ w.heap.size + 1 by omega) _).setCell (show w.heap.size ≤ w.heap.size + 1 by omega) _).setCell (show w.heap.size ≤ w.heap.size + 1 by omega) _).setCell (show w.heap.size ≤ w.heap.size + 1 by omega) _).setCell (show w.heap.size ≤ w.heap.size + 1 by omega) _).setCell (show w.heap.size ≤ w.heap.size + 1 by omega) _)
/-- What writing numbers in order into a machine leaves. -/
def MarkedX (A : Option Addr) (n : Nat) (R : Option Addr) (k : Nat) (B : Option Addr) (m : Nat) (q : Int) (X : Mach) (fa fr fb : List Nat) (w : World) (e : Ending) (w' : World) : Prop :=
  ∃ rs' : List (List Int), e = .returned (.int .i64 (q + n + sumLen X.mem.rom + m)) ∧ Only (fa ++ fr ++ fb) w w' ∧ Ints w' A n (upFrom q n) fa ∧ Grid w' R k rs' fr ∧ Marked (q + n) rs' ∧ rs'.map List.length = X.mem.rom.map List.length ∧ Ints w' B m (upFrom (q + n + sumLen X.mem.rom) m) fb
theorem mark_mach (A : Option Addr) (c : Nat) (R : Option Addr) (d : Nat) (B : Option Addr) (g : Nat) (n k m : Nat) (q : Int) (X : Mach) (fa fr fb : List Nat) (L : Nat) (w : World) (h : MHas w A n R k B m X fa fr fb) (hw : New L w (fa ++ fr ++ fb)) (f : Fits X 1000000000) (hs : sumLen X.mem.rom ≤ 1000000000) (q0 : 0 ≤ q) (q1 : q ≤ 1000000000) :
    Calls Try.prog 24 #[.agg #[.slice A n c, .slice R k d, .int .i64 X.mem.bank, .int .i64 X.a, .int .i64 X.at_, .bool X.carry, .slice B m g, .bool X.stop, .int .i64 X.cyc], .int .i64 q] w (MarkedX A n R k B m q X fa fr fb w) := by
  have hn := f.n h
  have hk := f.k h
  have hm := f.m h
  have H := Lib.hid h
  have HW := Lib.hid hw
  have ND := List.nodup_append.1 hw.once
  have HD := Lib.hid ND
  have HN : Hid (New L w (fa ++ fr)) := ⟨ND.1, fun b hb => hw.lt b (List.mem_append_left _ hb), fun b hb => hw.free b (List.mem_append_left _ hb)⟩
  clear h hw f ND
  go_enter Try.func24, Try.ntmps24
  go_wp2_with fail
  refine (mark_mem A n c R k d X.mem.bank q X.mem fa fr L _ (H.out.ram.below (below1 w _)) (H.out.rom.below (below1 w _)) (HN.out.keep (.of_below (below1 w _))) hn hk hs q0 q1).mono ?_
  rintro e w1 ⟨rs', rfl, o1, i1, g1, m1, l1⟩
  have dis : ∀ x ∈ fb, x ∉ fa ++ fr := fun x hx hy => HD.out.2.2 x hy x hx rfl
  have X1 : Hid (Box w1 w.heap.size 28 [.slice A n c, .slice R k d, .int .i64 X.mem.bank, .int .i64 X.a, .int .i64 X.at_, .bool X.carry, .slice B m g, .bool X.stop, .int .i64 X.cyc]) := (Box.new w _ _).only o1 (fun hx => by have := (HN.out.lt _ hx).2; omega)
  have O1 : Hid (Only (fa ++ fr) w w1) := ((Only.refl _ w).alloc _).trans o1
  have I1 := Lib.hid i1
  have G1 := Lib.hid g1
  have M1 := Lib.hid m1
  have L1 := Lib.hid l1
  have K1 := Lib.hid (H.out.back.keep (.of_only O1.out dis))
  have F1 : Hid (∀ x ∈ fb, ∀ o, w1.frozen? ⟨x, o, none⟩ = false) := fun x hx o => (World.frozen?_of_block (a := ⟨x, o, none⟩) (O1.out.block x (H.out.back.lt x hx) (dis x hx))).trans (HW.out.free x (List.mem_append_right _ hx) o)
  have DS := Lib.hid dis
  clear o1 i1 g1 m1 l1 dis
  have a6 : w1.cell? ⟨w.heap.size, 6, none⟩ = some (.slice B m g) := X1.out.cell 6
  go_wp2_with fail
  refine (mark_ints _ _ _ _ _ _ _ K1.out F1.out hm (by omega) (by omega)).mono ?_
  rintro e w2 ⟨rfl, o2, i2, f2⟩
  have O2 := Lib.hid o2
  have I2 := Lib.hid i2
  clear o2 i2 f2
  go_wp2_with fail
  go_ret
  have s2 : Same (fa ++ fr) w1 w2 := .of_only O2.out fun x hx hy => DS.out x hy hx
  exact ⟨rs', rfl, (O1.out.mono (fun x hx => List.mem_append_left _ hx)).trans (O2.out.mono (fun x hx => List.mem_append_right _ hx)), I1.out.keep (s2.sub fun x hx => List.mem_append_left _ hx), G1.out.keep (s2.sub fun x hx => List.mem_append_right _ hx), M1.out, L1.out, I2.out⟩
theorem held_mach (A : Option Addr) (c : Nat) (R : Option Addr) (d : Nat) (B : Option Addr) (g : Nat) (n k m : Nat) (q : Int) (X : Mach) (rs : List (List Int)) (fa fr fb : List Nat) (w : World) (hi : Ints w A n (upFrom q n) fa) (hg : Grid w R k rs fr) (hm : Marked (q + n) rs) (hb : Ints w B m (upFrom (q + n + sumLen rs) m) fb) (hn : n ≤ 1000000000) (hk : k ≤ 1000000000) (hl : m ≤ 1000000000) (hs : sumLen rs ≤ 1000000000) (q0 : 0 ≤ q) (q1 : q ≤ 1000000000) :
    Calls Try.prog 25 #[.agg #[.slice A n c, .slice R k d, .int .i64 X.mem.bank, .int .i64 X.a, .int .i64 X.at_, .bool X.carry, .slice B m g, .bool X.stop, .int .i64 X.cyc], .int .i64 q] w fun e w' => e = .returned (.int .i64 (q + n + sumLen rs + m)) ∧ Below w.heap.size w w' := by
  have HI := Lib.hid hi
  have HG := Lib.hid hg
  have HM := Lib.hid hm
  have HB := Lib.hid hb
  clear hi hg hm hb
  go_enter Try.func25, Try.ntmps25
  go_wp2_with fail
  refine (held_mem A n c R k d X.mem.bank q rs fa fr _ (HI.out.below (below1 w _)) (HG.out.below (below1 w _)) HM.out hn hk hs q0 q1).mono ?_
  rintro e w1 ⟨rfl, b1⟩
  have X1 : Hid (Box w1 w.heap.size 28 [.slice A n c, .slice R k d, .int .i64 X.mem.bank, .int .i64 X.a, .int .i64 X.at_, .bool X.carry, .slice B m g, .bool X.stop, .int .i64 X.cyc]) := (Box.new w _ _).below b1
  have B1 : Hid (Below w.heap.size w w1) := (below1 w _).trans (b1.mono (by simp))
  clear b1
  have a6 : w1.cell? ⟨w.heap.size, 6, none⟩ = some (.slice B m g) := X1.out.cell 6
  go_wp2_with fail
  refine (held_ints _ _ _ _ _ _ (HB.out.below B1.out) hl (by omega) (by omega)).mono ?_; rintro e w' ⟨rfl, rfl⟩
  go_wp2_with fail
  go_ret
  exact ⟨rfl, B1.out⟩
end Go.Proofs.Ytgciaafapbaliaa
