/- The laws' own functions on machines: counted, copied, compared, written and looked through again. -/
import Derived.Test.YtgciaafapbaliaaGreatDoorMemE
import Derived.Test.YtgciaafapbaliaaGreatDoorMchMath
namespace Go.Proofs.YtgciaafapbaliaaGreatDoor
open Go.ChangeShapes Go.WideShapes Go.ChangeAt Go.RowKit

/-- What lies behind the slices of a machine. -/
structure MHas (w : World) (A : Option Addr) (n : Nat) (R : Option Addr) (k : Nat) (B : Option Addr) (m : Nat) (X : Mach) (fa fr fb : List Nat) : Prop where
  ram : Ints w A n X.mem.ram fa
  rom : Grid w R k X.mem.rom fr
  back : Ints w B m X.back fb
theorem MHas.below {w w' : World} {A : Option Addr} {n : Nat} {R : Option Addr} {k : Nat} {B : Option Addr} {m : Nat} {X : Mach} {fa fr fb : List Nat} (h : MHas w A n R k B m X fa fr fb) (b : Below w.heap.size w w') : MHas w' A n R k B m X fa fr fb :=
  ⟨h.ram.below b, h.rom.below b, h.back.below b⟩
theorem MHas.keep {w w' : World} {A : Option Addr} {n : Nat} {R : Option Addr} {k : Nat} {B : Option Addr} {m : Nat} {X : Mach} {fa fr fb : List Nat} (h : MHas w A n R k B m X fa fr fb) (b : Same (fa ++ fr ++ fb) w w') : MHas w' A n R k B m X fa fr fb :=
  ⟨h.ram.keep (b.sub fun x hx => by simp [hx]), h.rom.keep (b.sub fun x hx => by simp [hx]), h.back.keep (b.sub fun x hx => by simp [hx])⟩
/-- No list of the machine is too long. -/
structure Fits (X : Mach) (N : Nat) : Prop where
  ram : X.mem.ram.length ≤ N
  rom : X.mem.rom.length ≤ N
  row : ∀ i, (X.mem.rom.getD i []).length ≤ N
  back : X.back.length ≤ N
theorem Fits.n {w : World} {A : Option Addr} {n : Nat} {R : Option Addr} {k : Nat} {B : Option Addr} {m : Nat} {X : Mach} {fa fr fb : List Nat} {N : Nat} (f : Fits X N) (h : MHas w A n R k B m X fa fr fb) : n ≤ N := by have := h.ram.1; have := f.ram; omega
theorem Fits.k {w : World} {A : Option Addr} {n : Nat} {R : Option Addr} {k : Nat} {B : Option Addr} {m : Nat} {X : Mach} {fa fr fb : List Nat} {N : Nat} (f : Fits X N) (h : MHas w A n R k B m X fa fr fb) : k ≤ N := by have := h.rom.len; have := f.rom; omega
theorem Fits.m {w : World} {A : Option Addr} {n : Nat} {R : Option Addr} {k : Nat} {B : Option Addr} {m : Nat} {X : Mach} {fa fr fb : List Nat} {N : Nat} (f : Fits X N) (h : MHas w A n R k B m X fa fr fb) : m ≤ N := by have := h.back.1; have := f.back; omega
theorem fits_mono {X : Mach} {N N' : Nat} (f : Fits X N) (h : N ≤ N') : Fits X N' := ⟨Nat.le_trans f.ram h, Nat.le_trans f.rom h, fun i => Nat.le_trans (f.row i) h, Nat.le_trans f.back h⟩
theorem fits_good {X : Mach} {C : Int} (g : GoodX X C) : Fits X 256 := by
  have s := small_of g.mem
  exact ⟨s.ram, s.rom, s.row, by have := g.len; omega⟩
theorem fits_Z (N : Nat) : Fits machZ N := ⟨by simp [machZ, memZ], by simp [machZ, memZ], fun i => by simp [machZ, memZ], by simp [machZ]⟩
/-- A machine in new memory of its own. -/
def MachNew (X : Mach) (w : World) (e : Ending) (w' : World) : Prop :=
  ∃ (A : Option Addr) (n c : Nat) (R : Option Addr) (k d : Nat) (B : Option Addr) (m g : Nat) (fa fr fb : List Nat), e = .returned (.agg #[.slice A n c, .slice R k d, .int .i64 X.mem.bank, .int .i64 X.a, .int .i64 X.at_, .bool X.carry, .slice B m g, .bool X.stop, .int .i64 X.cyc]) ∧ (n ≤ c ∧ k ≤ d ∧ m ≤ g) ∧ MHas w' A n R k B m X fa fr fb ∧ New w.heap.size w' (fa ++ fr ++ fb) ∧ Below w.heap.size w w'
theorem sz_mach (A : Option Addr) (c : Nat) (R : Option Addr) (d : Nat) (B : Option Addr) (g : Nat) (n k m : Nat) (X : Mach) (fa fr fb : List Nat) (left : Int) (w : World) (h : MHas w A n R k B m X fa fr fb) (f : Fits X 9223372036854775807) (h0 : 0 ≤ left) (h1 : left ≤ 1000000000) :
    Calls Tryz.prog 6 #[.agg #[.slice A n c, .slice R k d, .int .i64 X.mem.bank, .int .i64 X.a, .int .i64 X.at_, .bool X.carry, .slice B m g, .bool X.stop, .int .i64 X.cyc], .int .i64 left] w fun e w' => ∃ v : Int, e = .returned (.int .i64 v) ∧ Below w.heap.size w w' ∧ (v < 0 ∨ (0 ≤ v ∧ v = left - n - k - sumLen X.mem.rom - m)) := by
  have hn := f.n h
  have hk := f.k h
  have hm := f.m h
  have HG := Lib.hid (h.rom.below (below1 w (.cells #[.slice A n c, .slice R k d, .int .i64 X.mem.bank, .int .i64 X.a, .int .i64 X.at_, .bool X.carry, .slice B m g, .bool X.stop, .int .i64 X.cyc] 27)))
  have HS := Lib.hid f.row
  clear h f
  go_enter Tryz.func6, Tryz.ntmps6
  go_wp2_with fail
  refine (sz_mem A n c R k d X.mem fr left _ HG.out hn hk HS.out h0 h1).mono ?_
  rintro e w1 ⟨sv, rfl, b1, hv⟩
  have X1 : Hid (Box w1 w.heap.size 27 [.slice A n c, .slice R k d, .int .i64 X.mem.bank, .int .i64 X.a, .int .i64 X.at_, .bool X.carry, .slice B m g, .bool X.stop, .int .i64 X.cyc]) := (Box.new w _ _).below b1
  have B1 : Hid (Below w.heap.size w w1) := (below1 w _).trans (b1.mono (by simp))
  have HV := Lib.hid hv
  clear b1 hv
  by_cases v0 : sv < 0
  · go_wp2_with fail
    go_ret
    exact ⟨-1, rfl, B1.out, .inl (by omega)⟩
  · have sz : sv = left - n - k - sumLen X.mem.rom := by
      rcases HV.out with h | h
      · omega
      · exact h.2
    have SZ := Lib.hid sz
    have c6 : w1.cell? ⟨w.heap.size, 6, none⟩ = some (.slice B m g) := X1.out.cell 6
    have s1 : sv ≤ 1000000000 := by omega
    clear sz
    by_cases hc : (m : Int) ≤ sv
    · go_wp2_with fail
      refine (sz_ints_yes _ _ _ _ _ hc s1).mono ?_; rintro e w' ⟨rfl, rfl⟩
      go_wp2_with fail
      go_ret
      exact ⟨_, rfl, B1.out, .inr ⟨by omega, by have := SZ.out; omega⟩⟩
    · go_wp2_with fail
      refine (sz_ints_no _ _ _ _ _ (by omega) (by omega) hm).mono ?_; rintro e w' ⟨rfl, rfl⟩
      go_wp2_with fail
      go_ret
      exact ⟨-1, rfl, B1.out, .inl (by omega)⟩
theorem eq_mach (A : Option Addr) (c : Nat) (R : Option Addr) (d : Nat) (B : Option Addr) (g : Nat) (A' : Option Addr) (c' : Nat) (R' : Option Addr) (d' : Nat) (B' : Option Addr) (g' : Nat) (n k m : Nat) (X : Mach) (fa fr fb fa' fr' fb' : List Nat) (w : World) (h : MHas w A n R k B m X fa fr fb) (h' : MHas w A' n R' k B' m X fa' fr' fb') (f : Fits X 1000000000) :
    Calls Tryz.prog 10 #[.agg #[.slice A n c, .slice R k d, .int .i64 X.mem.bank, .int .i64 X.a, .int .i64 X.at_, .bool X.carry, .slice B m g, .bool X.stop, .int .i64 X.cyc], .agg #[.slice A' n c', .slice R' k d', .int .i64 X.mem.bank, .int .i64 X.a, .int .i64 X.at_, .bool X.carry, .slice B' m g', .bool X.stop, .int .i64 X.cyc]] w fun e w' => e = .returned (.bool true) ∧ Below w.heap.size w w' := by
  have hn := f.n h
  have hk := f.k h
  have hm := f.m h
  have H := Lib.hid h
  have H' := Lib.hid h'
  have HS := Lib.hid f.row
  clear h h' f
  go_enter Tryz.func10, Tryz.ntmps10
  go_wp2_with fail
  refine (eq_mem A A' n c c' R R' k d d' X.mem fa fr fa' fr' _ (H.out.ram.below (below2 w _ _)) (H'.out.ram.below (below2 w _ _)) (H.out.rom.below (below2 w _ _)) (H'.out.rom.below (below2 w _ _)) hn hk HS.out).mono ?_
  rintro e w1 ⟨rfl, b1⟩
  have X1 : Hid (Box w1 w.heap.size 31 [.slice A n c, .slice R k d, .int .i64 X.mem.bank, .int .i64 X.a, .int .i64 X.at_, .bool X.carry, .slice B m g, .bool X.stop, .int .i64 X.cyc]) := ((Box.new w _ _).alloc _).below b1
  have X2 : Hid (Box w1 (w.heap.size + 1) 31 [.slice A' n c', .slice R' k d', .int .i64 X.mem.bank, .int .i64 X.a, .int .i64 X.at_, .bool X.carry, .slice B' m g', .bool X.stop, .int .i64 X.cyc]) := (Box.new_at (w.alloc _) _ _ _ (by simp)).below b1
  have B1 : Hid (Below w.heap.size w w1) := (below2 w _ _).trans (b1.mono (by simp; omega))
  clear b1
  have c0 : w1.cell? ⟨w.heap.size, 0, none⟩ = some (.slice A n c) := X1.out.cell 0
  have c1 : w1.cell? ⟨w.heap.size, 1, none⟩ = some (.slice R k d) := X1.out.cell 1
  have c2 : w1.cell? ⟨w.heap.size, 2, none⟩ = some (.int .i64 X.mem.bank) := X1.out.cell 2
  have c3 : w1.cell? ⟨w.heap.size, 3, none⟩ = some (.int .i64 X.a) := X1.out.cell 3
  have c4 : w1.cell? ⟨w.heap.size, 4, none⟩ = some (.int .i64 X.at_) := X1.out.cell 4
  have c5 : w1.cell? ⟨w.heap.size, 5, none⟩ = some (.bool X.carry) := X1.out.cell 5
  have c6 : w1.cell? ⟨w.heap.size, 6, none⟩ = some (.slice B m g) := X1.out.cell 6
  have c7 : w1.cell? ⟨w.heap.size, 7, none⟩ = some (.bool X.stop) := X1.out.cell 7
  have c8 : w1.cell? ⟨w.heap.size, 8, none⟩ = some (.int .i64 X.cyc) := X1.out.cell 8
  have e0 : w1.cell? ⟨w.heap.size + 1, 0, none⟩ = some (.slice A' n c') := X2.out.cell 0
  have e1 : w1.cell? ⟨w.heap.size + 1, 1, none⟩ = some (.slice R' k d') := X2.out.cell 1
  have e2 : w1.cell? ⟨w.heap.size + 1, 2, none⟩ = some (.int .i64 X.mem.bank) := X2.out.cell 2
  have e3 : w1.cell? ⟨w.heap.size + 1, 3, none⟩ = some (.int .i64 X.a) := X2.out.cell 3
  have e4 : w1.cell? ⟨w.heap.size + 1, 4, none⟩ = some (.int .i64 X.at_) := X2.out.cell 4
  have e5 : w1.cell? ⟨w.heap.size + 1, 5, none⟩ = some (.bool X.carry) := X2.out.cell 5
  have e6 : w1.cell? ⟨w.heap.size + 1, 6, none⟩ = some (.slice B' m g') := X2.out.cell 6
  have e7 : w1.cell? ⟨w.heap.size + 1, 7, none⟩ = some (.bool X.stop) := X2.out.cell 7
  have e8 : w1.cell? ⟨w.heap.size + 1, 8, none⟩ = some (.int .i64 X.cyc) := X2.out.cell 8
  go_wp2_with fail
  refine (eq_ints _ _ _ _ _ _ _ _ _ (H.out.back.below B1.out) (H'.out.back.below B1.out) hm).mono ?_; rintro e w' ⟨rfl, q, rfl⟩
  go_wp2_with fail
  go_ret
  exact ⟨rfl, below_drewN B1.out _⟩
end Go.Proofs.YtgciaafapbaliaaGreatDoor
