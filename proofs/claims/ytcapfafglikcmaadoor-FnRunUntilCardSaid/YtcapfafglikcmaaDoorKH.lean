import Derived.Test.YtcapfafglikcmaaDoorKG
import Derived.Test.YtcapfafglikcmaaDoorKE
import Derived.Test.YtcapfafglikcmaaDoorMemU

section
/- Machines copied: the program's function and the model's. -/
namespace Go.Proofs.YtcapfafglikcmaaDoor
open Go.ChangeShapes Go.WideShapes Go.ChangeAt Go.RowKit

theorem own_mono {w : World} {base base' : Nat} {e : TypeId} {v : Value} {n : Nat} {xs : List Value} (h : w.ownsRow base e 1 v n xs) (hb : base' ≤ base) : w.ownsRow base' e 1 v n xs := by
  obtain ⟨hl, h | ⟨g, cap, cur, e, hg, hr⟩⟩ := h
  · exact ⟨hl, .inl h⟩
  · exact ⟨hl, .inr ⟨g, cap, cur, e, Nat.le_trans hb hg, hr⟩⟩
/-- A row of the call's own. -/
def Rowed (xs : List Int) (n : Nat) (w : World) (e : Ending) (w' : World) : Prop := ∃ v, e = .returned v ∧ w'.ownsRow w.heap.size 3 1 v n (iv xs) ∧ Below w.heap.size w w'
theorem clone_row (A : Option Addr) (n c : Nat) (xs : List Int) (fa : List Nat) (w : World) (ha : Ints w A n xs fa) (hn : n ≤ 1000000000) :
    Calls Tryd.prog 55 #[.slice A n c] w (Rowed xs n w) := by
  have HA := Lib.hid ha
  rcases A with _ | ad
  · have hx : xs = [] ∧ n = 0 := by
      obtain ⟨hl, ⟨h, _⟩ | ⟨_, b, o, h, _⟩⟩ := ha
      · exact ⟨List.eq_nil_of_length_eq_zero (by omega), h⟩
      · cases h
    obtain ⟨rfl, rfl⟩ := hx
    clear ha
    have hq := fun W => Lib.run_eql_slice_nil (P := Tryd.prog) W 23 3 none 0 c 0 0 Tryd.underlying23
    go_enter Tryd.func55, Tryd.ntmps55
    go_wp2
    go_ret
    exact ⟨_, rfl, World.ownsRow_nil _ _ _ _, Below.refl _ _⟩
  · clear ha
    have hq := fun W => Lib.run_eql_slice_nil (P := Tryd.prog) W 23 3 (some ad) n c 0 0 Tryd.underlying23
    go_enter Tryd.func55, Tryd.ntmps55
    go_wp2_with (at_builtin; refine wpList_append_ints rfl _ _ rfl w.heap.size _ 0 [] rfl (own_empty w _ _ (Nat.le_refl _)) _ _ _ xs fa rfl (HA.out.below (below1 w _)) (by omega) (by simp) ?_; intro v' w1 hown hgrow hat)
    have HO : Hid (w1.ownsRow w.heap.size 3 1 v' n (iv xs)) := by
      simp only [Nat.zero_add, List.nil_append] at hown
      exact hown
    have HB := Lib.hid (below_grown (below1 w _) hgrow (by simp) (fun k hk => by have h : some w.heap.size = some k := hk; injection h; omega))
    clear hown hgrow hat hq
    go_wp2
    go_ret
    exact ⟨v', rfl, HO.out, HB.out⟩
/-- A machine in new memory of its own, the return addresses a row of its own. -/
def MachOwn (X : Mach) (w : World) (e : Ending) (w' : World) : Prop :=
  ∃ (A : Option Addr) (n c : Nat) (R : Option Addr) (k d : Nat) (B : Option Addr) (m g : Nat) (fa fr fb : List Nat), e = .returned (.agg #[.slice A n c, .slice R k d, .int .i64 X.mem.bank, .int .i64 X.a, .int .i64 X.at_, .bool X.carry, .slice B m g, .bool X.stop, .int .i64 X.cyc]) ∧ (n ≤ c ∧ k ≤ d ∧ m ≤ g) ∧ MHas w' A n R k B m X fa fr fb ∧ New w.heap.size w' (fa ++ fr ++ fb) ∧ Below w.heap.size w w' ∧ w'.ownsRow w.heap.size 3 1 (.slice B m g) m (iv X.back) ∧ ∀ b, (Value.slice B m g).ownBlock = some b → b ∉ fa ++ fr
theorem MachOwn.new {X : Mach} {w w' : World} {e : Ending} (h : MachOwn X w e w') : MachNew X w e w' := by
  obtain ⟨A, n, c, R, k, d, B, m, g, fa, fr, fb, he, hc, hh, hn, hb, _⟩ := h
  exact ⟨A, n, c, R, k, d, B, m, g, fa, fr, fb, he, hc, hh, hn, hb⟩
/-- A memory made first, then a row; then blocks from L on, before both, written. -/
theorem mach_own {w w1 w2 w3 : World} {X : Mach} {A : Option Addr} {n c : Nat} {R : Option Addr} {k d : Nat} {fa fr S : List Nat} {v : Value} {m : Nat} {L : Nat} (i : Ints w1 A n X.mem.ram fa) (r : Grid w1 R k X.mem.rom fr) (n1 : New L w1 (fa ++ fr)) (o12 : Only S w1 w2) (ho : w2.ownsRow w1.heap.size 3 1 v m (iv X.back)) (o23 : Only S w2 w3)
    (hS : ∀ b ∈ S, b < L) (hL : w.heap.size ≤ L) (hL1 : L ≤ w1.heap.size) (b : Below w.heap.size w w3) (hc : n ≤ c) (hd : k ≤ d) : ∃ B g, v = .slice B m g ∧ MachOwn X w (.returned (.agg #[.slice A n c, .slice R k d, .int .i64 X.mem.bank, .int .i64 X.a, .int .i64 X.at_, .bool X.carry, .slice B m g, .bool X.stop, .int .i64 X.cyc])) w3 := by
  obtain ⟨B, g, fb, rfl, hg, _, hi, hn, hown⟩ := own_ints ho
  have d1 : ∀ b ∈ fa ++ fr, b ∉ S := fun x hx hs => by have := hS x hs; have := (n1.lt x hx).1; omega
  have d2 : ∀ b ∈ fb, b ∉ S := fun x hx hs => by have := hS x hs; have := (hn.lt x hx).1; omega
  have s1 : Same (fa ++ fr) w1 w3 := .of_only (o12.trans o23) d1
  have s2 : Same fb w2 w3 := .of_only o23 d2
  have hw : w.heap.size ≤ w1.heap.size := Nat.le_trans hL hL1
  refine ⟨B, g, rfl, A, n, c, R, k, d, B, m, g, fa, fr, fb, rfl, ⟨hc, hd, hg⟩, ⟨i.keep (s1.sub fun x hx => List.mem_append_left _ hx), r.keep (s1.sub fun x hx => List.mem_append_right _ hx), hi.keep s2⟩, ((n1.mono hL).keep s1).append ((hn.mono hw).keep s2) (fun x hx hy => ?_), b, own_mono (own_only ho o23 fun x hx e => ?_) hw, fun x hx hy => ?_⟩
  · have := (n1.lt x hx).2; have := (hn.lt x hy).1; omega
  · have := (own_lt ho x e).1; have := hS x hx; omega
  · have := (own_lt ho x hx).1; have := (n1.lt x hy).2; omega
theorem mach_owned {w w1 w2 w3 : World} {X : Mach} {A : Option Addr} {n c : Nat} {R : Option Addr} {k d : Nat} {fa fr S : List Nat} {B : Option Addr} {m g : Nat} {L : Nat} (i : Ints w1 A n X.mem.ram fa) (r : Grid w1 R k X.mem.rom fr) (n1 : New L w1 (fa ++ fr)) (o12 : Only S w1 w2) (ho : w2.ownsRow w1.heap.size 3 1 (.slice B m g) m (iv X.back)) (o23 : Only S w2 w3)
    (hS : ∀ b ∈ S, b < L) (hL : w.heap.size ≤ L) (hL1 : L ≤ w1.heap.size) (b : Below w.heap.size w w3) (hc : n ≤ c) (hd : k ≤ d) : MachOwn X w (.returned (.agg #[.slice A n c, .slice R k d, .int .i64 X.mem.bank, .int .i64 X.a, .int .i64 X.at_, .bool X.carry, .slice B m g, .bool X.stop, .int .i64 X.cyc])) w3 := by
  obtain ⟨B', g', ev, hr⟩ := mach_own i r n1 o12 ho o23 hS hL hL1 b hc hd
  injection ev with e1 e2 e3
  subst e1; subst e3
  exact hr
theorem clone_mach (A : Option Addr) (c : Nat) (R : Option Addr) (d : Nat) (B : Option Addr) (g : Nat) (n k m : Nat) (X : Mach) (fa fr fb : List Nat) (w : World) (h : MHas w A n R k B m X fa fr fb) (f : Fits X 1000000000) :
    Calls Tryd.prog 40 #[.agg #[.slice A n c, .slice R k d, .int .i64 X.mem.bank, .int .i64 X.a, .int .i64 X.at_, .bool X.carry, .slice B m g, .bool X.stop, .int .i64 X.cyc]] w (MachOwn X w) := by
  have hn := f.n h
  have hk := f.k h
  have hm := f.m h
  have H := Lib.hid h
  have HS := Lib.hid f.row
  have X0 : Hid (Box ((w.alloc (.cells #[.slice A n c, .slice R k d, .int .i64 X.mem.bank, .int .i64 X.a, .int .i64 X.at_, .bool X.carry, .slice B m g, .bool X.stop, .int .i64 X.cyc] 28)).alloc (.cells #[.slice none 0 0, .slice none 0 0, .int .i64 0, .int .i64 0, .int .i64 0, .bool false, .slice none 0 0, .bool false, .int .i64 0] 28)) w.heap.size 28 [.slice A n c, .slice R k d, .int .i64 X.mem.bank, .int .i64 X.a, .int .i64 X.at_, .bool X.carry, .slice B m g, .bool X.stop, .int .i64 X.cyc]) := (Box.new w _ _).alloc _
  have X1 : Hid (Box ((w.alloc (.cells #[.slice A n c, .slice R k d, .int .i64 X.mem.bank, .int .i64 X.a, .int .i64 X.at_, .bool X.carry, .slice B m g, .bool X.stop, .int .i64 X.cyc] 28)).alloc (.cells #[.slice none 0 0, .slice none 0 0, .int .i64 0, .int .i64 0, .int .i64 0, .bool false, .slice none 0 0, .bool false, .int .i64 0] 28)) (w.heap.size + 1) 28 [.slice none 0 0, .slice none 0 0, .int .i64 0, .int .i64 0, .int .i64 0, .bool false, .slice none 0 0, .bool false, .int .i64 0]) := Box.new_at (w.alloc _) _ _ _ (by simp)
  clear h f
  go_enter Tryd.func40, Tryd.ntmps40
  go_wp2_with fail
  refine (clone_mem A n c R k d X.mem fa fr _ (H.out.ram.below (below2 w _ _)) (H.out.rom.below (below2 w _ _)) hn hk HS.out).mono ?_
  rintro e w1 ⟨A1, n1, c1, R1, k1, d1, fa1, fr1, rfl, hc, hd, i1, g1', nw, b1⟩
  obtain rfl : n = n1 := by have := i1.1; have := H.out.ram.1; omega
  obtain rfl : k = k1 := by have := g1'.len; have := H.out.rom.len; omega
  have B1 : Hid (Below w.heap.size w w1) := (below2 w _ _).trans (b1.mono (by simp; omega))
  have hL : w.heap.size + 1 + 1 ≤ w1.heap.size := by have := b1.size; simpa using this
  have Y0 := Lib.hid (X0.out.below b1)
  have Y1 := Lib.hid (X1.out.below b1)
  have I1 := Lib.hid i1
  have G1 := Lib.hid g1'
  have N1 := Lib.hid (show New (w.heap.size + 1 + 1) w1 (fa1 ++ fr1) by simpa using nw)
  clear i1 g1' nw b1 X0 X1
  have a0 : w1.cell? ⟨w.heap.size, 0, none⟩ = some (.slice A n c) := Y0.out.cell 0
  have a1 : w1.cell? ⟨w.heap.size, 1, none⟩ = some (.slice R k d) := Y0.out.cell 1
  have a2 : w1.cell? ⟨w.heap.size, 2, none⟩ = some (.int .i64 X.mem.bank) := Y0.out.cell 2
  have a3 : w1.cell? ⟨w.heap.size, 3, none⟩ = some (.int .i64 X.a) := Y0.out.cell 3
  have a4 : w1.cell? ⟨w.heap.size, 4, none⟩ = some (.int .i64 X.at_) := Y0.out.cell 4
  have a5 : w1.cell? ⟨w.heap.size, 5, none⟩ = some (.bool X.carry) := Y0.out.cell 5
  have a6 : w1.cell? ⟨w.heap.size, 6, none⟩ = some (.slice B m g) := Y0.out.cell 6
  have a7 : w1.cell? ⟨w.heap.size, 7, none⟩ = some (.bool X.stop) := Y0.out.cell 7
  have a8 : w1.cell? ⟨w.heap.size, 8, none⟩ = some (.int .i64 X.cyc) := Y0.out.cell 8
  have f0 := Y0.out.frozen 0
  have f1 := Y0.out.frozen 1
  have f2 := Y0.out.frozen 2
  have f3 := Y0.out.frozen 3
  have f4 := Y0.out.frozen 4
  have f5 := Y0.out.frozen 5
  have f6 := Y0.out.frozen 6
  have f7 := Y0.out.frozen 7
  have f8 := Y0.out.frozen 8
  go_wp2_with fail
  refine (clone_row B m g X.back fb _ (H.out.back.below ?_) hm).mono ?_
  · exact ((B1.out.setCell (by simp) _).setCell (by simp) _).setCell (by simp) _
  rintro e w2 ⟨v, rfl, ho, b2⟩
  have o12 : Hid (Only [w.heap.size, w.heap.size + 1] w1 w2) := ((((Only.refl _ w1).setCell (.inl (by simp)) _).setCell (.inl (by simp)) _).setCell (.inl (by simp)) _).trans (.of_below b2)
  have B2 : Hid (Below w.heap.size w w2) := (((B1.out.setCell (by simp) _).setCell (by simp) _).setCell (by simp) _).trans (b2.mono (by have := B1.out.size; simpa using this))
  have Z0 : Hid (Box w2 w.heap.size 28 [.slice A1 n c1, .slice R1 k d1, .int .i64 X.mem.bank, .int .i64 X.a, .int .i64 X.at_, .bool X.carry, .slice B m g, .bool X.stop, .int .i64 X.cyc]) := (((Y0.out.set 0 _).set 1 _).set 2 _).below b2
  have Z1 : Hid (Box w2 (w.heap.size + 1) 28 [.slice none 0 0, .slice none 0 0, .int .i64 0, .int .i64 0, .int .i64 0, .bool false, .slice none 0 0, .bool false, .int .i64 0]) := (((Y1.out.far (by omega) _).far (by omega) _).far (by omega) _).below b2
  have OW := Lib.hid (show w2.ownsRow w1.heap.size 3 1 v m (iv X.back) by simpa using ho)
  obtain ⟨B1', g1, _, rfl, _⟩ := own_ints OW.out
  clear ho b2 a0 a1 a2 a3 a4 a5 a6 a7 a8 f0 f1 f2 f3 f4 f5 f6 f7 f8
  have a0 : w2.cell? ⟨w.heap.size, 0, none⟩ = some (.slice A1 n c1) := Z0.out.cell 0
  have a1 : w2.cell? ⟨w.heap.size, 1, none⟩ = some (.slice R1 k d1) := Z0.out.cell 1
  have a2 : w2.cell? ⟨w.heap.size, 2, none⟩ = some (.int .i64 X.mem.bank) := Z0.out.cell 2
  have a3 : w2.cell? ⟨w.heap.size, 3, none⟩ = some (.int .i64 X.a) := Z0.out.cell 3
  have a4 : w2.cell? ⟨w.heap.size, 4, none⟩ = some (.int .i64 X.at_) := Z0.out.cell 4
  have a5 : w2.cell? ⟨w.heap.size, 5, none⟩ = some (.bool X.carry) := Z0.out.cell 5
  have a6 : w2.cell? ⟨w.heap.size, 6, none⟩ = some (.slice B m g) := Z0.out.cell 6
  have a7 : w2.cell? ⟨w.heap.size, 7, none⟩ = some (.bool X.stop) := Z0.out.cell 7
  have a8 : w2.cell? ⟨w.heap.size, 8, none⟩ = some (.int .i64 X.cyc) := Z0.out.cell 8
  have f6 := Z0.out.frozen 6
  have e0 : w2.cell? ⟨w.heap.size + 1, 0, none⟩ = some (.slice none 0 0) := Z1.out.cell 0
  have e1 : w2.cell? ⟨w.heap.size + 1, 1, none⟩ = some (.slice none 0 0) := Z1.out.cell 1
  have e2 : w2.cell? ⟨w.heap.size + 1, 2, none⟩ = some (.int .i64 0) := Z1.out.cell 2
  have e3 : w2.cell? ⟨w.heap.size + 1, 3, none⟩ = some (.int .i64 0) := Z1.out.cell 3
  have e4 : w2.cell? ⟨w.heap.size + 1, 4, none⟩ = some (.int .i64 0) := Z1.out.cell 4
  have e5 : w2.cell? ⟨w.heap.size + 1, 5, none⟩ = some (.bool false) := Z1.out.cell 5
  have e6 : w2.cell? ⟨w.heap.size + 1, 6, none⟩ = some (.slice none 0 0) := Z1.out.cell 6
  have e7 : w2.cell? ⟨w.heap.size + 1, 7, none⟩ = some (.bool false) := Z1.out.cell 7
  have e8 : w2.cell? ⟨w.heap.size + 1, 8, none⟩ = some (.int .i64 0) := Z1.out.cell 8
  have z0 := Z1.out.frozen 0
  have z1 := Z1.out.frozen 1
  have z2 := Z1.out.frozen 2
  have z3 := Z1.out.frozen 3
  have z4 := Z1.out.frozen 4
  have z5 := Z1.out.frozen 5
  have z6 := Z1.out.frozen 6
  have z7 := Z1.out.frozen 7
  have z8 := Z1.out.frozen 8
  go_wp2_with fail
  refine bodyPost_ret (v := .agg #[.slice A1 n c1, .slice R1 k d1, .int .i64 X.mem.bank, .int .i64 X.a, .int .i64 X.at_, .bool X.carry, .slice B1' m g1, .bool X.stop, .int .i64 X.cyc]) (by simp [results, Tryd.results40, go_sem, e0, e1, e2, e3, e4, e5, e6, e7, e8]) rfl ?_
  refine mach_owned (S := [w.heap.size, w.heap.size + 1]) (L := w.heap.size + 1 + 1) I1.out G1.out N1.out o12.out OW.out ?_ (by intro b hb; simp at hb; omega) (by omega) hL ?_ hc hd
  · exact (((((((((((Only.refl _ w2).setCell (.inl (by simp)) _).setCell (.inl (by simp)) _).setCell (.inl (by simp)) _).setCell (.inl (by simp)) _).setCell (.inl (by simp)) _).setCell (.inl (by simp)) _).setCell (.inl (by simp)) _).setCell (.inl (by simp)) _).setCell (.inl (by simp)) _).setCell (.inl (by simp)) _)
  · exact ((((((((((B2.out.setCell (by simp) _).setCell (by simp) _).setCell (by simp) _).setCell (by simp) _).setCell (by simp) _).setCell (by simp) _).setCell (by simp) _).setCell (by simp) _).setCell (by simp) _).setCell (by simp) _)
theorem copy_mach (A : Option Addr) (c : Nat) (R : Option Addr) (d : Nat) (B : Option Addr) (g : Nat) (n k m : Nat) (X : Mach) (fa fr fb : List Nat) (w : World) (h : MHas w A n R k B m X fa fr fb) (f : Fits X 1000000000) :
    Calls Tryd.prog 28 #[.agg #[.slice A n c, .slice R k d, .int .i64 X.mem.bank, .int .i64 X.a, .int .i64 X.at_, .bool X.carry, .slice B m g, .bool X.stop, .int .i64 X.cyc]] w (MachOwn X w) := by
  have hn := f.n h
  have hk := f.k h
  have hm := f.m h
  have H := Lib.hid h
  have HS := Lib.hid f.row
  clear h f
  go_enter Tryd.func28, Tryd.ntmps28
  go_upto_region 2 with (fail)
  obtain ⟨W, hW⟩ : ∃ W, W = ((w.alloc (.cells #[.slice A n c, .slice R k d, .int .i64 X.mem.bank, .int .i64 X.a, .int .i64 X.at_, .bool X.carry, .slice B m g, .bool X.stop, .int .i64 X.cyc] 28)).alloc (.cells #[.slice none 0 0, .slice none 0 0, .int .i64 0, .int .i64 0, .int .i64 0, .bool false, .slice none 0 0, .bool false, .int .i64 0] 28)).alloc (.cells #[.slice A n c, .slice R k d, .int .i64 X.mem.bank, .int .i64 X.a, .int .i64 X.at_, .bool X.carry, .slice B m g, .bool X.stop, .int .i64 X.cyc] 28) := ⟨_, rfl⟩
  rw [← hW]
  have X0 : Hid (Box W w.heap.size 28 [.slice A n c, .slice R k d, .int .i64 X.mem.bank, .int .i64 X.a, .int .i64 X.at_, .bool X.carry, .slice B m g, .bool X.stop, .int .i64 X.cyc]) := by rw [hW]; exact Lib.hid (((Box.new w _ _).alloc _).alloc _)
  have X1 : Hid (Box W (w.heap.size + 1) 28 [.slice none 0 0, .slice none 0 0, .int .i64 0, .int .i64 0, .int .i64 0, .bool false, .slice none 0 0, .bool false, .int .i64 0]) := by rw [hW]; exact Lib.hid ((Box.new_at (w.alloc _) _ _ _ (by simp)).alloc _)
  have X2 : Hid (Box W (w.heap.size + 1 + 1) 28 [.slice A n c, .slice R k d, .int .i64 X.mem.bank, .int .i64 X.a, .int .i64 X.at_, .bool X.carry, .slice B m g, .bool X.stop, .int .i64 X.cyc]) := by rw [hW]; exact Lib.hid (Box.new_at ((w.alloc _).alloc _) _ _ _ (by simp))
  have B0 : Hid (Below w.heap.size w W) := by rw [hW]; exact Lib.hid (below3 w _ _ _)
  have sW : W.heap.size = w.heap.size + 1 + 1 + 1 := by rw [hW]; simp
  clear hW
  have a0 : W.cell? ⟨w.heap.size, 0, none⟩ = some (.slice A n c) := X0.out.cell 0
  have a1 : W.cell? ⟨w.heap.size, 1, none⟩ = some (.slice R k d) := X0.out.cell 1
  have a2 : W.cell? ⟨w.heap.size, 2, none⟩ = some (.int .i64 X.mem.bank) := X0.out.cell 2
  have a3 : W.cell? ⟨w.heap.size, 3, none⟩ = some (.int .i64 X.a) := X0.out.cell 3
  have a4 : W.cell? ⟨w.heap.size, 4, none⟩ = some (.int .i64 X.at_) := X0.out.cell 4
  have a5 : W.cell? ⟨w.heap.size, 5, none⟩ = some (.bool X.carry) := X0.out.cell 5
  have a6 : W.cell? ⟨w.heap.size, 6, none⟩ = some (.slice B m g) := X0.out.cell 6
  have a7 : W.cell? ⟨w.heap.size, 7, none⟩ = some (.bool X.stop) := X0.out.cell 7
  have a8 : W.cell? ⟨w.heap.size, 8, none⟩ = some (.int .i64 X.cyc) := X0.out.cell 8
  go_wp2_with fail
  refine (l2Copy_any A n c R k d X.mem fa fr _ (H.out.ram.below B0.out) (H.out.rom.below B0.out) hn hk HS.out).mono ?_
  rintro e w1 ⟨A1, n1, c1, R1, k1, d1, fa1, fr1, rfl, hc, hd, i1, g1', nw, b1⟩
  obtain rfl : n = n1 := by have := i1.1; have := H.out.ram.1; omega
  obtain rfl : k = k1 := by have := g1'.len; have := H.out.rom.len; omega
  have B1 : Hid (Below w.heap.size w w1) := B0.out.trans (b1.mono B0.out.size)
  have hL : w.heap.size + 1 + 1 + 1 ≤ w1.heap.size := by have := b1.size; omega
  have Y0 := Lib.hid (X0.out.below b1)
  have Y1 := Lib.hid (X1.out.below b1)
  have Y2 := Lib.hid (X2.out.below b1)
  have I1 := Lib.hid i1
  have G1 := Lib.hid g1'
  have N1 := Lib.hid (show New (w.heap.size + 1 + 1 + 1) w1 (fa1 ++ fr1) by rw [sW] at nw; exact nw)
  clear i1 g1' nw b1 X0 X1 X2 B0 a0 a1 a2 a3 a4 a5 a6 a7 a8
  have a0 : w1.cell? ⟨w.heap.size + 1 + 1, 0, none⟩ = some (.slice A n c) := Y2.out.cell 0
  have a1 : w1.cell? ⟨w.heap.size + 1 + 1, 1, none⟩ = some (.slice R k d) := Y2.out.cell 1
  have a2 : w1.cell? ⟨w.heap.size + 1 + 1, 2, none⟩ = some (.int .i64 X.mem.bank) := Y2.out.cell 2
  have a3 : w1.cell? ⟨w.heap.size + 1 + 1, 3, none⟩ = some (.int .i64 X.a) := Y2.out.cell 3
  have a4 : w1.cell? ⟨w.heap.size + 1 + 1, 4, none⟩ = some (.int .i64 X.at_) := Y2.out.cell 4
  have a5 : w1.cell? ⟨w.heap.size + 1 + 1, 5, none⟩ = some (.bool X.carry) := Y2.out.cell 5
  have a6 : w1.cell? ⟨w.heap.size + 1 + 1, 6, none⟩ = some (.slice B m g) := Y2.out.cell 6
  have a7 : w1.cell? ⟨w.heap.size + 1 + 1, 7, none⟩ = some (.bool X.stop) := Y2.out.cell 7
  have a8 : w1.cell? ⟨w.heap.size + 1 + 1, 8, none⟩ = some (.int .i64 X.cyc) := Y2.out.cell 8
  have f0 := Y2.out.frozen 0
  have f1 := Y2.out.frozen 1
  have f2 := Y2.out.frozen 2
  have f3 := Y2.out.frozen 3
  have f4 := Y2.out.frozen 4
  have f5 := Y2.out.frozen 5
  have f6 := Y2.out.frozen 6
  have f7 := Y2.out.frozen 7
  have f8 := Y2.out.frozen 8
  go_upto_region 3 with (fail)
  obtain ⟨V, hV⟩ : ∃ V, V = ((w1.setCell ⟨w.heap.size + 1 + 1, 0, none⟩ (.slice A1 n c1)).setCell ⟨w.heap.size + 1 + 1, 1, none⟩ (.slice R1 k d1)).setCell ⟨w.heap.size + 1 + 1, 2, none⟩ (.int .i64 X.mem.bank) := ⟨_, rfl⟩
  rw [← hV]
  have B2 : Hid (Below w.heap.size w V) := by rw [hV]; exact Lib.hid (((B1.out.setCell (show w.heap.size ≤ w.heap.size + 1 + 1 by omega) _).setCell (show w.heap.size ≤ w.heap.size + 1 + 1 by omega) _).setCell (show w.heap.size ≤ w.heap.size + 1 + 1 by omega) _)
  have O2 : Hid (Only [w.heap.size, w.heap.size + 1, w.heap.size + 1 + 1] w1 V) := by rw [hV]; exact Lib.hid ((((Only.refl _ w1).setCell (.inl (by simp)) _).setCell (.inl (by simp)) _).setCell (.inl (by simp)) _)
  have T0 : Hid (Box V w.heap.size 28 [.slice A n c, .slice R k d, .int .i64 X.mem.bank, .int .i64 X.a, .int .i64 X.at_, .bool X.carry, .slice B m g, .bool X.stop, .int .i64 X.cyc]) := by rw [hV]; exact Lib.hid (((Y0.out.far (by omega) _).far (by omega) _).far (by omega) _)
  have T1 : Hid (Box V (w.heap.size + 1) 28 [.slice none 0 0, .slice none 0 0, .int .i64 0, .int .i64 0, .int .i64 0, .bool false, .slice none 0 0, .bool false, .int .i64 0]) := by rw [hV]; exact Lib.hid (((Y1.out.far (by omega) _).far (by omega) _).far (by omega) _)
  have T2 : Hid (Box V (w.heap.size + 1 + 1) 28 [.slice A1 n c1, .slice R1 k d1, .int .i64 X.mem.bank, .int .i64 X.a, .int .i64 X.at_, .bool X.carry, .slice B m g, .bool X.stop, .int .i64 X.cyc]) := by rw [hV]; exact Lib.hid (((Y2.out.set 0 _).set 1 _).set 2 _)
  have sV : Hid (V.heap.size = w1.heap.size) := by rw [hV]; exact Lib.hid (by simp)
  clear hV Y0 Y1 Y2 a0 a1 a2 a3 a4 a5 a6 a7 a8 f0 f1 f2 f3 f4 f5 f6 f7 f8
  have b6 : V.cell? ⟨w.heap.size, 6, none⟩ = some (.slice B m g) := T0.out.cell 6
  have b7 : (V.alloc (.cells #[] 3)).cell? ⟨w.heap.size, 6, none⟩ = some (.slice B m g) := (T0.out.alloc _).cell 6
  have BV : Hid (Below w.heap.size w (V.alloc (.cells #[] 3))) := B2.out.alloc (by have := sV.out; omega) _
  go_wp2_with (at_builtin; refine wpList_append_ints rfl _ _ rfl V.heap.size _ 0 [] rfl (own_empty V _ _ (Nat.le_refl _)) _ _ _ X.back fb rfl (H.out.back.below BV.out) (by omega) (by simp) ?_; intro v' w2 hown hgrow hat; have b2 := Lib.hid (below_grown (below1 V _) hgrow (by simp) (fun k hk => by have h : some V.heap.size = some k := hk; injection h; omega)); have ho : w2.ownsRow V.heap.size 3 1 v' m (iv X.back) := by { simp only [Nat.zero_add, List.nil_append] at hown; exact hown }; obtain ⟨B1', g1, _, rfl, _⟩ := own_ints ho; have OW := Lib.hid ho; clear hown hgrow hat ho; have U1 := Lib.hid (T1.out.below b2.out); have U2 := Lib.hid (T2.out.below b2.out); have a0 : w2.cell? ⟨w.heap.size + 1 + 1, 0, none⟩ = some (.slice A1 n c1) := U2.out.cell 0; have a1 : w2.cell? ⟨w.heap.size + 1 + 1, 1, none⟩ = some (.slice R1 k d1) := U2.out.cell 1; have a2 : w2.cell? ⟨w.heap.size + 1 + 1, 2, none⟩ = some (.int .i64 X.mem.bank) := U2.out.cell 2; have a3 : w2.cell? ⟨w.heap.size + 1 + 1, 3, none⟩ = some (.int .i64 X.a) := U2.out.cell 3; have a4 : w2.cell? ⟨w.heap.size + 1 + 1, 4, none⟩ = some (.int .i64 X.at_) := U2.out.cell 4; have a5 : w2.cell? ⟨w.heap.size + 1 + 1, 5, none⟩ = some (.bool X.carry) := U2.out.cell 5; have a6 : w2.cell? ⟨w.heap.size + 1 + 1, 6, none⟩ = some (.slice B m g) := U2.out.cell 6; have a7 : w2.cell? ⟨w.heap.size + 1 + 1, 7, none⟩ = some (.bool X.stop) := U2.out.cell 7; have a8 : w2.cell? ⟨w.heap.size + 1 + 1, 8, none⟩ = some (.int .i64 X.cyc) := U2.out.cell 8; have f6 := U2.out.frozen 6; have e0 : w2.cell? ⟨w.heap.size + 1, 0, none⟩ = some (.slice none 0 0) := U1.out.cell 0; have e1 : w2.cell? ⟨w.heap.size + 1, 1, none⟩ = some (.slice none 0 0) := U1.out.cell 1; have e2 : w2.cell? ⟨w.heap.size + 1, 2, none⟩ = some (.int .i64 0) := U1.out.cell 2; have e3 : w2.cell? ⟨w.heap.size + 1, 3, none⟩ = some (.int .i64 0) := U1.out.cell 3; have e4 : w2.cell? ⟨w.heap.size + 1, 4, none⟩ = some (.int .i64 0) := U1.out.cell 4; have e5 : w2.cell? ⟨w.heap.size + 1, 5, none⟩ = some (.bool false) := U1.out.cell 5; have e6 : w2.cell? ⟨w.heap.size + 1, 6, none⟩ = some (.slice none 0 0) := U1.out.cell 6; have e7 : w2.cell? ⟨w.heap.size + 1, 7, none⟩ = some (.bool false) := U1.out.cell 7; have e8 : w2.cell? ⟨w.heap.size + 1, 8, none⟩ = some (.int .i64 0) := U1.out.cell 8; have z0 := U1.out.frozen 0; have z1 := U1.out.frozen 1; have z2 := U1.out.frozen 2; have z3 := U1.out.frozen 3; have z4 := U1.out.frozen 4; have z5 := U1.out.frozen 5; have z6 := U1.out.frozen 6; have z7 := U1.out.frozen 7; have z8 := U1.out.frozen 8)
  have o12 : Hid (Only [w.heap.size, w.heap.size + 1, w.heap.size + 1 + 1] w1 w2) := O2.out.trans (.of_below b2.out)
  have B3 : Hid (Below w.heap.size w w2) := B2.out.trans (b2.out.mono B2.out.size)
  rw [sV.out] at OW
  refine bodyPost_ret (v := .agg #[.slice A1 n c1, .slice R1 k d1, .int .i64 X.mem.bank, .int .i64 X.a, .int .i64 X.at_, .bool X.carry, .slice B1' m g1, .bool X.stop, .int .i64 X.cyc]) (by simp [results, Tryd.results28, go_sem, e0, e1, e2, e3, e4, e5, e6, e7, e8]) rfl ?_
  refine mach_owned (S := [w.heap.size, w.heap.size + 1, w.heap.size + 1 + 1]) (L := w.heap.size + 1 + 1 + 1) I1.out G1.out N1.out o12.out OW.out ?_ (by intro b hb; simp at hb; omega) (by omega) hL ?_ hc hd
  · exact (((((((((((Only.refl _ w2).setCell (.inl (by simp)) _).setCell (.inl (by simp)) _).setCell (.inl (by simp)) _).setCell (.inl (by simp)) _).setCell (.inl (by simp)) _).setCell (.inl (by simp)) _).setCell (.inl (by simp)) _).setCell (.inl (by simp)) _).setCell (.inl (by simp)) _).setCell (.inl (by simp)) _)
  · exact ((((((((((B3.out.setCell (show w.heap.size ≤ w.heap.size + 1 + 1 by omega) _).setCell (show w.heap.size ≤ w.heap.size + 1 by omega) _).setCell (show w.heap.size ≤ w.heap.size + 1 by omega) _).setCell (show w.heap.size ≤ w.heap.size + 1 by omega) _).setCell (show w.heap.size ≤ w.heap.size + 1 by omega) _).setCell (show w.heap.size ≤ w.heap.size + 1 by omega) _).setCell (show w.heap.size ≤ w.heap.size + 1 by omega) _).setCell (show w.heap.size ≤ w.heap.size + 1 by omega) _).setCell (show w.heap.size ≤ w.heap.size + 1 by omega) _).setCell (show w.heap.size ≤ w.heap.size + 1 by omega) _)
end Go.Proofs.YtcapfafglikcmaaDoor
end

section
/- Several steps as plain data; a machine laid into a variable, and handed on. -/
namespace Go.Proofs.YtcapfafglikcmaaDoor
open Go.ChangeShapes Go.WideShapes Go.ChangeAt Go.RowKit

def stepsB (s : Int) : Bool := decide (0 ≤ s) && decide (s ≤ 500)
def runX (X : Mach) (s : Int) : Mach := if stepsB s = true ∧ machB X = true then runN X s.toNat else machZ
def untilX (X : Mach) (ad : Int) : Mach := if addrB ad = true ∧ machB X = true then (untilN ad 500 0 X).2 else machZ
def untilS (X : Mach) (ad : Int) : Int := if addrB ad = true ∧ machB X = true then (untilN ad 500 0 X).1 else 0
theorem run_good {X : Mach} (g : machB X = true) (k : Nat) (hk : k ≤ 500) : GoodX (runN X k) 1000001500 := good_more (good_run (goodX_of g) k) (by omega)
theorem runX_fits (X : Mach) (s : Int) : Fits (runX X s) 256 := by
  unfold runX
  split
  · rename_i h
    have hs : 0 ≤ s ∧ s ≤ 500 := by simpa [stepsB] using h.1
    exact fits_good (run_good h.2 s.toNat (by omega))
  · exact fits_Z _
theorem machZ_new {w w' : World} (b : Below w.heap.size w w') : MachNew machZ w (.returned (.agg #[.slice none 0 0, .slice none 0 0, .int .i64 0, .int .i64 0, .int .i64 0, .bool false, .slice none 0 0, .bool false, .int .i64 0])) w' :=
  ⟨none, 0, 0, none, 0, 0, none, 0, 0, [], [], [], rfl, ⟨Nat.le_refl _, Nat.le_refl _, Nat.le_refl _⟩, ⟨.nil _ _, .nil _ _, .nil _ _⟩, by simpa using New.nil _ _, b⟩
/-- A machine that a call has made, laid into a new variable. -/
theorem machIn_new {w : World} {A : Option Addr} {c : Nat} {R : Option Addr} {d : Nat} {B : Option Addr} {g n k m : Nat} {X : Mach} {fa fr fb : List Nat} {L : Nat} (hc : n ≤ c ∧ k ≤ d ∧ m ≤ g) (hh : MHas w A n R k B m X fa fr fb) (hn : New L w (fa ++ fr ++ fb)) (ho : w.ownsRow L 3 1 (.slice B m g) m (iv X.back)) (hs : ∀ b, (Value.slice B m g).ownBlock = some b → b ∉ fa ++ fr) (hL : L ≤ w.heap.size) :
    MachIn (w.alloc (.cells #[.slice A n c, .slice R k d, .int .i64 X.mem.bank, .int .i64 X.a, .int .i64 X.at_, .bool X.carry, .slice B m g, .bool X.stop, .int .i64 X.cyc] 28)) w.heap.size A c R d B g n k m X fa fr fb L :=
  ⟨Box.new w _ _, hh.below (below1 w _), hn.keep (.of_below (below1 w _)), own_keep ho (below1 w _), fun b hb => ⟨by have := (own_lt ho b hb).2; omega, hs b hb⟩, fun hx => by have := (hn.lt _ hx).2; omega, hL, hc⟩
/-- A machine handed on through the result's own block. -/
theorem mach_handed {w w2 w3 : World} {A : Option Addr} {c : Nat} {R : Option Addr} {d : Nat} {B : Option Addr} {g n k m : Nat} {X : Mach} {fa fr fb S : List Nat} {L : Nat} (hc : n ≤ c ∧ k ≤ d ∧ m ≤ g) (hh : MHas w2 A n R k B m X fa fr fb) (hn : New L w2 (fa ++ fr ++ fb)) (o : Only S w2 w3) (hS : ∀ b ∈ S, b < L) (hL : w.heap.size ≤ L) (b : Below w.heap.size w w3) : MachNew X w (.returned (.agg #[.slice A n c, .slice R k d, .int .i64 X.mem.bank, .int .i64 X.a, .int .i64 X.at_, .bool X.carry, .slice B m g, .bool X.stop, .int .i64 X.cyc])) w3 := by
  have d1 : ∀ b ∈ fa ++ fr ++ fb, b ∉ S := fun x hx hs => by have := hS x hs; have := (hn.lt x hx).1; omega
  have s1 : Same (fa ++ fr ++ fb) w2 w3 := .of_only o d1
  exact ⟨A, n, c, R, k, d, B, m, g, fa, fr, fb, rfl, hc, hh.keep s1, (hn.mono hL).keep s1, b⟩
end Go.Proofs.YtcapfafglikcmaaDoor
end
