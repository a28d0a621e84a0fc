import Derived.Test.YtcapfafglikcmaaDoorKA
import Derived.Test.YtcapfafglikcmaaDoorKD
import Derived.Test.YtcapfafglikcmaaDoorMemS

section
/- The laws' own functions on machines: counted, copied, compared, written and looked through again. -/
namespace Go.Proofs.YtcapfafglikcmaaDoor
open Go.ChangeShapes Go.WideShapes Go.ChangeAt Go.RowKit

/-- What lies behind the slices of a machine. -/
structure MHas (w : World) (A : Option Addr) (n : Nat) (R : Option Addr) (k : Nat) (B : Option Addr) (m : Nat) (X : Mach) (fa fr fb : List Nat) : Prop where
  ram : Ints w A n X.mem.ram fa
  rom : Grid w R k X.mem.rom fr
  back : Ints w B m X.back fb
theorem MHas.below {w w' : World} {A : Option Addr} {n : Nat} {R : Option Addr} {k : Nat} {B : Option Addr} {m : Nat} {X : Mach} {fa fr fb : List Nat} (h : MHas w A n R k B m X fa fr fb) (b : Below w.heap.size w w') : MHas w' A n R k B m X fa fr fb :=
  ⟨h.ram.below b, h.rom.below b, h.back.below b⟩
theorem MHas.keep {w w' : World} {A : Option Addr} {n : Nat} {R : Option Addr} {k : Nat} {B : Option Addr} {m : Nat} {X : Mach} {fa fr fb : List Nat} (h : MHas w A n R k B m X fa fr fb) (b : Same (fa ++ fr ++ fb) w w') : MHas w' A n R k B m X fa fr fb :=
  ⟨h.ram.keep (b.sub fun x hx => by simp [hx]), h.rom.keep (b.sub fun x hx => by simp [hx]), h.back.keep (b.sub fun x hx => by simp [hx])⟩
/-- No list of the machine is too long. -/
structure Fits (X : Mach) (N : Nat) : Prop where
  ram : X.mem.ram.length ≤ N
  rom : X.mem.rom.length ≤ N
  row : ∀ i, (X.mem.rom.getD i []).length ≤ N
  back : X.back.length ≤ N
theorem Fits.n {w : World} {A : Option Addr} {n : Nat} {R : Option Addr} {k : Nat} {B : Option Addr} {m : Nat} {X : Mach} {fa fr fb : List Nat} {N : Nat} (f : Fits X N) (h : MHas w A n R k B m X fa fr fb) : n ≤ N := by have := h.ram.1; have := f.ram; omega
theorem Fits.k {w : World} {A : Option Addr} {n : Nat} {R : Option Addr} {k : Nat} {B : Option Addr} {m : Nat} {X : Mach} {fa fr fb : List Nat} {N : Nat} (f : Fits X N) (h : MHas w A n R k B m X fa fr fb) : k ≤ N := by have := h.rom.len; have := f.rom; omega
theorem Fits.m {w : World} {A : Option Addr} {n : Nat} {R : Option Addr} {k : Nat} {B : Option Addr} {m : Nat} {X : Mach} {fa fr fb : List Nat} {N : Nat} (f : Fits X N) (h : MHas w A n R k B m X fa fr fb) : m ≤ N := by have := h.back.1; have := f.back; omega
theorem fits_mono {X : Mach} {N N' : Nat} (f : Fits X N) (h : N ≤ N') : Fits X N' := ⟨Nat.le_trans f.ram h, Nat.le_trans f.rom h, fun i => Nat.le_trans (f.row i) h, Nat.le_trans f.back h⟩
theorem fits_good {X : Mach} {C : Int} (g : GoodX X C) : Fits X 256 := by
  have s := small_of g.mem
  exact ⟨s.ram, s.rom, s.row, by have := g.len; omega⟩
theorem fits_Z (N : Nat) : Fits machZ N := ⟨by simp [machZ, memZ], by simp [machZ, memZ], fun i => by simp [machZ, memZ], by simp [machZ]⟩
/-- A machine in new memory of its own. -/
def MachNew (X : Mach) (w : World) (e : Ending) (w' : World) : Prop :=
  ∃ (A : Option Addr) (n c : Nat) (R : Option Addr) (k d : Nat) (B : Option Addr) (m g : Nat) (fa fr fb : List Nat), e = .returned (.agg #[.slice A n c, .slice R k d, .int .i64 X.mem.bank, .int .i64 X.a, .int .i64 X.at_, .bool X.carry, .slice B m g, .bool X.stop, .int .i64 X.cyc]) ∧ (n ≤ c ∧ k ≤ d ∧ m ≤ g) ∧ MHas w' A n R k B m X fa fr fb ∧ New w.heap.size w' (fa ++ fr ++ fb) ∧ Below w.heap.size w w'
theorem same_mach (A : Option Addr) (c : Nat) (R : Option Addr) (d : Nat) (B : Option Addr) (g : Nat) (A' : Option Addr) (c' : Nat) (R' : Option Addr) (d' : Nat) (B' : Option Addr) (g' : Nat) (n k m : Nat) (X : Mach) (fa fr fb fa' fr' fb' : List Nat) (w : World) (h : MHas w A n R k B m X fa fr fb) (h' : MHas w A' n R' k B' m X fa' fr' fb') (f : Fits X 1000000000) :
    Calls Tryd.prog 9 #[.agg #[.slice A n c, .slice R k d, .int .i64 X.mem.bank, .int .i64 X.a, .int .i64 X.at_, .bool X.carry, .slice B m g, .bool X.stop, .int .i64 X.cyc], .agg #[.slice A' n c', .slice R' k d', .int .i64 X.mem.bank, .int .i64 X.a, .int .i64 X.at_, .bool X.carry, .slice B' m g', .bool X.stop, .int .i64 X.cyc]] w fun e w' => e = .returned (.bool true) ∧ Below w.heap.size w w' := by
  have hn := f.n h
  have hk := f.k h
  have hm := f.m h
  have H := Lib.hid h
  have H' := Lib.hid h'
  have HS := Lib.hid f.row
  clear h h' f
  go_enter Tryd.func9, Tryd.ntmps9
  go_wp2_with fail
  refine (same_mem A A' n c c' R R' k d d' X.mem fa fr fa' fr' _ (H.out.ram.below (below2 w _ _)) (H'.out.ram.below (below2 w _ _)) (H.out.rom.below (below2 w _ _)) (H'.out.rom.below (below2 w _ _)) hn hk HS.out).mono ?_
  rintro e w1 ⟨rfl, b1⟩
  have X1 : Hid (Box w1 w.heap.size 28 [.slice A n c, .slice R k d, .int .i64 X.mem.bank, .int .i64 X.a, .int .i64 X.at_, .bool X.carry, .slice B m g, .bool X.stop, .int .i64 X.cyc]) := ((Box.new w _ _).alloc _).below b1
  have X2 : Hid (Box w1 (w.heap.size + 1) 28 [.slice A' n c', .slice R' k d', .int .i64 X.mem.bank, .int .i64 X.a, .int .i64 X.at_, .bool X.carry, .slice B' m g', .bool X.stop, .int .i64 X.cyc]) := (Box.new_at (w.alloc _) _ _ _ (by simp)).below b1
  have B1 : Hid (Below w.heap.size w w1) := (below2 w _ _).trans (b1.mono (by simp; omega))
  clear b1
  have c0 : w1.cell? ⟨w.heap.size, 0, none⟩ = some (.slice A n c) := X1.out.cell 0
  have c1 : w1.cell? ⟨w.heap.size, 1, none⟩ = some (.slice R k d) := X1.out.cell 1
  have c2 : w1.cell? ⟨w.heap.size, 2, none⟩ = some (.int .i64 X.mem.bank) := X1.out.cell 2
  have c3 : w1.cell? ⟨w.heap.size, 3, none⟩ = some (.int .i64 X.a) := X1.out.cell 3
  have c4 : w1.cell? ⟨w.heap.size, 4, none⟩ = some (.int .i64 X.at_) := X1.out.cell 4
  have c5 : w1.cell? ⟨w.heap.size, 5, none⟩ = some (.bool X.carry) := X1.out.cell 5
  have c6 : w1.cell? ⟨w.heap.size, 6, none⟩ = some (.slice B m g) := X1.out.cell 6
  have c7 : w1.cell? ⟨w.heap.size, 7, none⟩ = some (.bool X.stop) := X1.out.cell 7
  have c8 : w1.cell? ⟨w.heap.size, 8, none⟩ = some (.int .i64 X.cyc) := X1.out.cell 8
  have e0 : w1.cell? ⟨w.heap.size + 1, 0, none⟩ = some (.slice A' n c') := X2.out.cell 0
  have e1 : w1.cell? ⟨w.heap.size + 1, 1, none⟩ = some (.slice R' k d') := X2.out.cell 1
  have e2 : w1.cell? ⟨w.heap.size + 1, 2, none⟩ = some (.int .i64 X.mem.bank) := X2.out.cell 2
  have e3 : w1.cell? ⟨w.heap.size + 1, 3, none⟩ = some (.int .i64 X.a) := X2.out.cell 3
  have e4 : w1.cell? ⟨w.heap.size + 1, 4, none⟩ = some (.int .i64 X.at_) := X2.out.cell 4
  have e5 : w1.cell? ⟨w.heap.size + 1, 5, none⟩ = some (.bool X.carry) := X2.out.cell 5
  have e6 : w1.cell? ⟨w.heap.size + 1, 6, none⟩ = some (.slice B' m g') := X2.out.cell 6
  have e7 : w1.cell? ⟨w.heap.size + 1, 7, none⟩ = some (.bool X.stop) := X2.out.cell 7
  have e8 : w1.cell? ⟨w.heap.size + 1, 8, none⟩ = some (.int .i64 X.cyc) := X2.out.cell 8
  go_wp2_with fail
  refine (same_ints _ _ _ _ _ _ _ _ _ (H.out.back.below B1.out) (H'.out.back.below B1.out) hm).mono ?_; rintro e w' ⟨rfl, q, rfl⟩
  go_wp2_with fail
  go_ret
  exact ⟨rfl, below_drewN B1.out _⟩
end Go.Proofs.YtcapfafglikcmaaDoor
end

section
/- A byte written in place, in a memory that lies in a larger struct: the program's functions and the model's. -/
namespace Go.Proofs.YtcapfafglikcmaaDoor
open Go.ChangeShapes Go.WideShapes Go.ChangeAt Go.RowKit

/-- The memory M lies at the head of block q, in memory of the call's own. -/
structure CelIn (w : World) (q : Nat) (t : TypeId) (cs : List Value) (A : Option Addr) (n c : Nat) (R : Option Addr) (k d : Nat) (M : Mem) (fa fr : List Nat) (L : Nat) : Prop where
  box : Box w q t (.slice A n c :: .slice R k d :: .int .i64 M.bank :: cs)
  ram : Ints w A n M.ram fa
  rom : Grid w R k M.rom fr
  new : New L w (fa ++ fr)
  off : q ∉ fa ++ fr
/-- What writing leaves. -/
def CelPut (q : Nat) (t : TypeId) (cs : List Value) (A : Option Addr) (n c : Nat) (R : Option Addr) (k d : Nat) (M : Mem) (fa fr : List Nat) (L : Nat) (w : World) (e : Ending) (w' : World) : Prop :=
  e = .returned (.tuple #[]) ∧ CelIn w' q t cs A n c R k d M fa fr L ∧ Only (q :: (fa ++ fr)) w w'
theorem New.cellSet {L : Nat} {w : World} {fp : List Nat} (h : New L w fp) (a : Addr) (v : Value) : New L (w.setCell a v) fp :=
  ⟨h.once, fun b hb => by simpa using h.lt b hb, fun b hb o => by rw [World.frozen?_setCell]; exact h.free b hb o⟩
theorem CelIn.below {w w' : World} {q : Nat} {t : TypeId} {cs : List Value} {A : Option Addr} {n c : Nat} {R : Option Addr} {k d : Nat} {M : Mem} {fa fr : List Nat} {L : Nat} (h : CelIn w q t cs A n c R k d M fa fr L) (b : Below w.heap.size w w') : CelIn w' q t cs A n c R k d M fa fr L :=
  ⟨h.box.below b, h.ram.below b, h.rom.below b, h.new.keep (.of_below b), h.off⟩
theorem CelIn.setRam {w : World} {q : Nat} {t : TypeId} {cs : List Value} {b o n c : Nat} {R : Option Addr} {k d : Nat} {M : Mem} {fa fr : List Nat} {L : Nat} (h : CelIn w q t cs (some ⟨b, o, none⟩) n c R k d M fa fr L) (hb : b ∈ fa) {p : Nat} (hp : p < n) (v : Int) :
    CelIn (w.setCell ⟨b, o + p, none⟩ (.int .i64 v)) q t cs (some ⟨b, o, none⟩) n c R k d { M with ram := M.ram.set p v } fa fr L ∧ Only (q :: (fa ++ fr)) w (w.setCell ⟨b, o + p, none⟩ (.int .i64 v)) := by
  have o1 : Only fa w (w.setCell ⟨b, o + p, none⟩ (.int .i64 v)) := (Only.refl _ w).setCell (.inl hb) _
  have nd := List.nodup_append.1 h.new.once
  have hq : q ≠ b := fun e => h.off (List.mem_append_left _ (e ▸ hb))
  exact ⟨⟨h.box.far hq _, h.ram.set hp v, h.rom.keep (.of_only o1 fun x hx hy => nd.2.2 x hy x hx rfl), h.new.cellSet _ _, h.off⟩, o1.mono fun x hx => List.mem_cons_of_mem _ (List.mem_append_left _ hx)⟩
theorem CelIn.setBank {w : World} {q : Nat} {t : TypeId} {cs : List Value} {A : Option Addr} {n c : Nat} {R : Option Addr} {k d : Nat} {M : Mem} {fa fr : List Nat} {L : Nat} (h : CelIn w q t cs A n c R k d M fa fr L) (v : Int) :
    CelIn (w.setCell ⟨q, 2, none⟩ (.int .i64 v)) q t cs A n c R k d { M with bank := v } fa fr L ∧ Only (q :: (fa ++ fr)) w (w.setCell ⟨q, 2, none⟩ (.int .i64 v)) := by
  have o1 : Only [q] w (w.setCell ⟨q, 2, none⟩ (.int .i64 v)) := (Only.refl _ w).setCell (.inl (by simp)) _
  have dd : ∀ y ∈ fa ++ fr, y ∉ [q] := fun y hy hs => by simp at hs; subst hs; exact h.off hy
  exact ⟨⟨h.box.set 2 _, h.ram.keep (.of_only o1 fun x hx => dd x (List.mem_append_left _ hx)), h.rom.keep (.of_only o1 fun x hx => dd x (List.mem_append_right _ hx)), h.new.cellSet _ _, h.off⟩, o1.mono fun x hx => by simp at hx; simp [hx]⟩
theorem cel_writeRam (q : Nat) (t : TypeId) (cs : List Value) (A : Option Addr) (n c : Nat) (R : Option Addr) (k d : Nat) (M : Mem) (fa fr : List Nat) (L p : Nat) (v : Int) (w : World) (h : CelIn w q t cs A n c R k d M fa fr L) (hp : p < n) (hn : n ≤ 1000000000) :
    Calls Tryd.prog 73 #[.pointer (some ⟨q, 0, none⟩), .int .i64 p, .int .i64 v] w (CelPut q t cs A n c R k d { M with ram := M.ram.set p v } fa fr L w) := by
  have H := Lib.hid h
  obtain ⟨b, o, rfl, hfa, hb, hc⟩ := h.ram.at_ (by omega)
  have HF := Lib.hid (show b ∈ fa by rw [hfa]; simp)
  have c1 := hc p hp
  have c2 := h.new.free b (List.mem_append_left _ HF.out) (o + p)
  have c3 : w.cell? ⟨q, 0, none⟩ = some (.slice (some ⟨b, o, none⟩) n c) := h.box.cell 0
  clear hc h hfa
  generalize M.ram.getD p 0 = x at c1
  go_enter Tryd.func73, Tryd.ntmps73
  go_wp2
  go_end0
  exact ⟨rfl, H.out.setRam HF.out hp v⟩
theorem cel_writeNothing (q : Nat) (t : TypeId) (cs : List Value) (A : Option Addr) (n c : Nat) (R : Option Addr) (k d : Nat) (M : Mem) (fa fr : List Nat) (L : Nat) (p v : Int) (w : World) (h : CelIn w q t cs A n c R k d M fa fr L) :
    Calls Tryd.prog 75 #[.pointer (some ⟨q, 0, none⟩), .int .i64 p, .int .i64 v] w (CelPut q t cs A n c R k d M fa fr L w) := by
  have H := Lib.hid h
  clear h
  go_enter Tryd.func75, Tryd.ntmps75
  go_wp2
  go_end0
  exact ⟨rfl, H.out, Only.refl _ _⟩
theorem cel_switchBank (q : Nat) (t : TypeId) (cs : List Value) (A : Option Addr) (n c : Nat) (R : Option Addr) (k d : Nat) (M : Mem) (fa fr : List Nat) (L : Nat) (p v : Int) (w : World) (h : CelIn w q t cs A n c R k d M fa fr L) (hk : 1 ≤ k) (hk2 : k ≤ 1000000000) (v0 : 0 ≤ v) (v1 : v ≤ 255) :
    Calls Tryd.prog 77 #[.pointer (some ⟨q, 0, none⟩), .int .i64 p, .int .i64 v] w (CelPut q t cs A n c R k d { M with bank := v % k } fa fr L w) := by
  have H := Lib.hid h
  have c1 : w.cell? ⟨q, 1, none⟩ = some (.slice R k d) := h.box.cell 1
  have c2 : w.cell? ⟨q, 2, none⟩ = some (.int .i64 M.bank) := h.box.cell 2
  have c3 := h.box.frozen 2
  have hz : ¬ k = 0 := by omega
  have hz2 : ((k : Int) == 0) = false := by simp; omega
  clear h
  go_enter Tryd.func77, Tryd.ntmps77
  go_wp2
  go_end0
  exact ⟨rfl, H.out.setBank _⟩
theorem cel_writeAt (q : Nat) (t : TypeId) (cs : List Value) (A : Option Addr) (n c : Nat) (R : Option Addr) (k d : Nat) (M : Mem) (fa fr : List Nat) (L p : Nat) (v : Int) (w : World) (h : CelIn w q t cs A n c R k d M fa fr L) (gd : Good M) (hp : p < 1024) (v0 : 0 ≤ v) (v1 : v ≤ 255) :
    Calls Tryd.prog 102 #[.pointer (some ⟨q, 0, none⟩), .int .i64 p, .int .i64 v] w (CelPut q t cs A n c R k d (writeN M p v) fa fr L w) := by
  have H := Lib.hid h
  have hn : n = 256 := by have := h.ram.1; have := gd.ram; omega
  have HK := Lib.hid (show k = M.rom.length from h.rom.len.symm)
  have k1 : 1 ≤ k := by have := gd.one; have := HK.out; omega
  have k4 : k ≤ 4 := by have := gd.four; have := HK.out; omega
  subst hn
  have p0 : (0 : Int) ≤ p := by omega
  have p1 : (p : Int) < 1024 := by omega
  have hf1 := field_writeRam
  have hf2 := field_writeNothing
  have hf3 := field_switchBank
  clear h gd
  go_enter Tryd.func102, Tryd.ntmps102
  go_wp2_with fail
  by_cases a2 : p < 512
  · have HE := Lib.hid (show writeN M p v = { M with ram := M.ram.set (p % 256) v } by unfold writeN; rw [if_pos a2])
    refine (show Calls _ _ _ w (Found _ _ w) from (by
      by_cases a1 : p < 256
      · exact region_0 _ _ (by omega) (by omega)
      · exact region_1 _ _ (by omega) (by omega))).mono ?_
    rintro e w1 ⟨rfl, b1⟩
    have H1 := Lib.hid (H.out.below b1)
    have B1 := Lib.hid b1
    clear b1
    go_wp2_with fail
    rw [show ((p : Int) % 256) = ((p % 256 : Nat) : Int) by omega]
    refine (cel_writeRam q t cs A 256 c R k d M fa fr L (p % 256) v _ H1.out (by omega) (by omega)).mono ?_
    rintro e w2 ⟨rfl, m2, o2⟩
    have M2 := Lib.hid m2
    have O2 := Lib.hid o2
    clear m2 o2 hf1 hf2 hf3
    go_wp2_with fail
    go_end0
    exact ⟨rfl, by rw [HE.out]; exact M2.out, (Only.of_below B1.out).trans O2.out⟩
  · by_cases a3 : p < 768
    · have HE := Lib.hid (show writeN M p v = M by unfold writeN; rw [if_neg a2, if_pos a3])
      refine (region_2 _ _ (by omega) (by omega)).mono ?_
      rintro e w1 ⟨rfl, b1⟩
      have H1 := Lib.hid (H.out.below b1)
      have B1 := Lib.hid b1
      clear b1
      go_wp2_with fail
      refine (cel_writeNothing q t cs A 256 c R k d M fa fr L _ v _ H1.out).mono ?_
      rintro e w2 ⟨rfl, m2, o2⟩
      have M2 := Lib.hid m2
      have O2 := Lib.hid o2
      clear m2 o2 hf1 hf2 hf3
      go_wp2_with fail
      go_end0
      exact ⟨rfl, by rw [HE.out]; exact M2.out, (Only.of_below B1.out).trans O2.out⟩
    · have HE := Lib.hid (show writeN M p v = { M with bank := v % k } by unfold writeN; rw [if_neg a2, if_neg a3, HK.out])
      refine (region_3 _ _ (by omega) (by omega)).mono ?_
      rintro e w1 ⟨rfl, b1⟩
      have H1 := Lib.hid (H.out.below b1)
      have B1 := Lib.hid b1
      clear b1
      go_wp2_with fail
      refine (cel_switchBank q t cs A 256 c R k d M fa fr L _ v _ H1.out k1 (by omega) v0 v1).mono ?_
      rintro e w2 ⟨rfl, m2, o2⟩
      have M2 := Lib.hid m2
      have O2 := Lib.hid o2
      clear m2 o2 hf1 hf2 hf3
      go_wp2_with fail
      go_end0
      exact ⟨rfl, by rw [HE.out]; exact M2.out, (Only.of_below B1.out).trans O2.out⟩
set_option maxRecDepth 100000 in
theorem cel_l2Write (q : Nat) (t : TypeId) (cs : List Value) (A : Option Addr) (n c : Nat) (R : Option Addr) (k d : Nat) (M : Mem) (fa fr : List Nat) (L p : Nat) (v : Int) (w : World) (h : CelIn w q t cs A n c R k d M fa fr L) (gd : Good M) (hp : p < 1024) (v0 : 0 ≤ v) (v1 : v ≤ 255) :
    Calls Tryd.prog 65 #[.pointer (some ⟨q, 0, none⟩), .int .i64 p, .int .i64 v] w (CelPut q t cs A n c R k d (writeN M p v) fa fr L w) := by
  have H := Lib.hid h
  have hn : n = 256 := by have := h.ram.1; have := gd.ram; omega
  have HK := Lib.hid (show k = M.rom.length from h.rom.len.symm)
  have k1 : 1 ≤ k := by have := gd.one; have := HK.out; omega
  have k4 : k ≤ 4 := by have := gd.four; have := HK.out; omega
  subst hn
  by_cases a2 : p < 512
  · have HE := Lib.hid (show writeN M p v = { M with ram := M.ram.set (p % 256) v } by unfold writeN; rw [if_pos a2])
    obtain ⟨b, o, rfl, hfa, hb, hc⟩ := h.ram.at_ (by omega)
    have HF := Lib.hid (show b ∈ fa by rw [hfa]; simp)
    have c1 := hc (p % 256) (by omega)
    have c2 := h.new.free b (List.mem_append_left _ HF.out) (o + p % 256)
    have c3 : w.cell? ⟨q, 0, none⟩ = some (.slice (some ⟨b, o, none⟩) 256 c) := h.box.cell 0
    have t1 : ((p : Int) % 256).toNat = p % 256 := by omega
    clear hc h hfa gd
    generalize M.ram.getD (p % 256) 0 = x at c1
    go_enter Tryd.func65, Tryd.ntmps65
    go_wp2
    go_end0
    exact ⟨rfl, by rw [HE.out]; exact H.out.setRam HF.out (by omega) v⟩
  · by_cases a3 : p < 768
    · have HE := Lib.hid (show writeN M p v = M by unfold writeN; rw [if_neg a2, if_pos a3])
      have a4 : ¬ 768 ≤ p := by omega
      clear h gd
      go_enter Tryd.func65, Tryd.ntmps65
      go_wp2
      go_end0
      exact ⟨rfl, by rw [HE.out]; exact H.out, Only.refl _ _⟩
    · have HE := Lib.hid (show writeN M p v = { M with bank := v % k } by unfold writeN; rw [if_neg a2, if_neg a3, HK.out])
      have c1 : w.cell? ⟨q, 1, none⟩ = some (.slice R k d) := h.box.cell 1
      have c2 : w.cell? ⟨q, 2, none⟩ = some (.int .i64 M.bank) := h.box.cell 2
      have c3 := h.box.frozen 2
      have hz : ¬ k = 0 := by omega
      have hz2 : ((k : Int) == 0) = false := by simp; omega
      have a4 : 768 ≤ p := by omega
      clear h gd
      go_enter Tryd.func65, Tryd.ntmps65
      go_wp2
      go_end0
      exact ⟨rfl, by rw [HE.out]; exact H.out.setBank _⟩
end Go.Proofs.YtcapfafglikcmaaDoor
end

section
/- A slice of slices that grows by one row after the other. -/
namespace Go.Proofs.YtcapfafglikcmaaDoor
open Go.ChangeShapes Go.WideShapes Go.ChangeAt Go.RowKit

/-- The rows that have been appended so far: the value v owns their slices; each row is new memory from block L on. -/
structure Grow (w : World) (L : Nat) (rs : List (List Int)) (j : Nat) (v : Value) (D : List Row) : Prop where
  len : D.length = j
  xs : D.map Row.xs = rs.take j
  own : w.ownsRow L 23 1 v j (D.map Row.val)
  ok : ∀ r ∈ D, RowOk w r
  new : New L w (D.flatMap Row.fp)
  off : ∀ b ∈ D.flatMap Row.fp, v.ownBlock ≠ some b
theorem own_lt {w : World} {base : Nat} {e : TypeId} {v : Value} {n : Nat} {xs : List Value} (h : w.ownsRow base e 1 v n xs) : ∀ g, v.ownBlock = some g → base ≤ g ∧ g < w.heap.size := by
  intro g hg
  rcases h.2 with ⟨rfl, _⟩ | ⟨g', cap, cur, rfl, hb, hh, _⟩
  · simp [Value.ownBlock] at hg
  · have e : some g' = some g := hg
    injection e with e
    subst e
    refine ⟨hb, ?_⟩
    by_cases hl : g' < w.heap.size
    · exact hl
    · rw [Array.getElem?_eq_none (by omega)] at hh; cases hh
theorem own_keep {w w' : World} {base : Nat} {e : TypeId} {v : Value} {n : Nat} {xs : List Value} (h : w.ownsRow base e 1 v n xs) (k : Below w.heap.size w w') : w'.ownsRow base e 1 v n xs := by
  rcases h with ⟨hl, h | ⟨g, cap, cur, rfl, hb, hh, hr⟩⟩
  · exact ⟨hl, .inl h⟩
  · have hg : g < w.heap.size := by
      by_cases hl : g < w.heap.size
      · exact hl
      · rw [Array.getElem?_eq_none (by omega)] at hh; cases hh
    exact ⟨hl, .inr ⟨g, cap, cur, rfl, hb, (k.block g hg).trans hh, hr⟩⟩
theorem own_only {S : List Nat} {w w' : World} {base : Nat} {e : TypeId} {v : Value} {n : Nat} {xs : List Value} (h : w.ownsRow base e 1 v n xs) (k : Only S w w') (hS : ∀ b ∈ S, v.ownBlock ≠ some b) : w'.ownsRow base e 1 v n xs := by
  rcases h with ⟨hl, h | ⟨g, cap, cur, rfl, hb, hh, hr⟩⟩
  · exact ⟨hl, .inl h⟩
  · have hg : g < w.heap.size := by
      by_cases hl : g < w.heap.size
      · exact hl
      · rw [Array.getElem?_eq_none (by omega)] at hh; cases hh
    exact ⟨hl, .inr ⟨g, cap, cur, rfl, hb, (k.block g hg (fun hs => hS g hs rfl)).trans hh, hr⟩⟩
theorem Grow.none_ (w : World) (L : Nat) (rs : List (List Int)) : Grow w L rs 0 (.slice none 0 0) [] :=
  ⟨rfl, by simp, ⟨by simp, .inl ⟨rfl, rfl⟩⟩, by simp, by simpa using New.nil _ _, by simp⟩
theorem Grow.below {w w' : World} {L : Nat} {rs : List (List Int)} {j : Nat} {v : Value} {D : List Row} (h : Grow w L rs j v D) (k : Below w.heap.size w w') : Grow w' L rs j v D :=
  ⟨h.len, h.xs, own_keep h.own k, fun r hr => ⟨(h.ok r hr).1, (h.ok r hr).2.below k⟩, h.new.keep (.of_below k), h.off⟩
theorem Grow.only {S : List Nat} {w w' : World} {L : Nat} {rs : List (List Int)} {j : Nat} {v : Value} {D : List Row} (h : Grow w L rs j v D) (k : Only S w w') (hS : ∀ b ∈ S, b < L) : Grow w' L rs j v D := by
  have d : ∀ x ∈ D.flatMap Row.fp, x ∉ S := fun x hx hs => by have := hS x hs; have := (h.new.lt x hx).1; omega
  exact ⟨h.len, h.xs, own_only h.own k (fun b hb e => by have := hS b hb; have := (own_lt h.own b e).1; omega), fun r hr => ⟨(h.ok r hr).1, (h.ok r hr).2.keep (.of_only k fun x hx => d x (List.mem_flatMap.2 ⟨r, hr, hx⟩))⟩, h.new.keep (.of_only k d), h.off⟩
theorem grown_only {w w' : World} {row : Option Nat} (h : w.grownBy w' row) {S : List Nat} (hS : ∀ b, row = some b → b ∈ S) : Only S w w' :=
  ⟨h.os, h.tape, h.output, h.size, fun k hk hn => h.block k hk (fun e => hn (hS k e.symm))⟩
/-- One row more: w1 is the world in which the row lies, W the one ahead of the append, w2 the one behind it. -/
theorem Grow.next {w w1 W w2 : World} {L : Nat} {rs : List (List Int)} {j : Nat} {v : Value} {D : List Row} (h : Grow w L rs j v D) (hL : L ≤ w.heap.size) (hj : j < rs.length) (b1 : Below w.heap.size w w1) {A : Option Addr} {m c : Nat} {fp : List Nat} (hm : m ≤ c) (hi : Ints w1 A m (rs.getD j []) fp) (hw : New w.heap.size w1 fp)
    (bW : Below w1.heap.size w1 W) {g cap : Nat} (own2 : w2.ownsRow L 23 1 (.slice (some ⟨g, 0, none⟩) (j + 1) cap) (j + 1) (D.map Row.val ++ [.slice A m c])) (gr : W.grownBy w2 v.ownBlock) (hat : v.ownBlock = some g ∨ g = W.heap.size) :
    Grow w2 L rs (j + 1) (.slice (some ⟨g, 0, none⟩) (j + 1) cap) (D ++ [⟨A, m, c, rs.getD j [], fp⟩]) := by
  have hW := (h.below b1).below bW
  have gl := own_lt h.own
  have wW : w.heap.size ≤ W.heap.size := Nat.le_trans b1.size bW.size
  obtain ⟨S, hS1, hS2⟩ : ∃ S : List Nat, (∀ b, v.ownBlock = some b → b ∈ S) ∧ ∀ b ∈ S, v.ownBlock = some b := by
    rcases hv : v.ownBlock with _ | b
    · exact ⟨[], by simp, by simp⟩
    · exact ⟨[b], by simp, by simp⟩
  have o2 : Only S W w2 := grown_only gr hS1
  have d1 : ∀ x ∈ D.flatMap Row.fp, x ∉ S := fun x hx hs => h.off x hx (hS2 x hs)
  have d2 : ∀ x ∈ fp, x ∉ S := fun x hx hs => by have := (gl x (hS2 x hs)).2; have := (hw.lt x hx).1; omega
  refine ⟨by simp [h.len], ?_, ?_, fun r hr => ?_, ?_, fun b hb e => ?_⟩
  · rw [List.map_append, h.xs, List.take_succ_eq_append_getElem hj]
    simp [List.getD, List.getElem?_eq_getElem hj]
  · rw [List.map_append]; exact own2
  · rcases List.mem_append.1 hr with hr | hr
    · exact ⟨(hW.ok r hr).1, (hW.ok r hr).2.keep (.of_only o2 fun x hx => d1 x (List.mem_flatMap.2 ⟨r, hr, hx⟩))⟩
    · simp at hr; subst hr
      exact ⟨hm, (hi.below bW).keep (.of_only o2 d2)⟩
  · rw [List.flatMap_append]
    simp only [List.flatMap_cons, List.flatMap_nil, List.append_nil]
    exact (hW.new.keep (.of_only o2 d1)).append (((hw.mono hL).keep (.of_below bW)).keep (.of_only o2 d2)) (fun x hx hy => by
      have := (h.new.lt x hx).2
      have := (hw.lt x hy).1
      omega)
  · have e1 : some g = some b := e
    injection e1 with e1
    subst e1
    rw [List.flatMap_append] at hb
    simp only [List.flatMap_cons, List.flatMap_nil, List.append_nil] at hb
    rcases List.mem_append.1 hb with hb | hb
    · rcases hat with hat | hat
      · exact h.off g hb hat
      · have := (h.new.lt g hb).2; omega
    · rcases hat with hat | hat
      · have := (gl g hat).2; have := (hw.lt g hb).1; omega
      · have := (hw.lt g hb).2; have := bW.size; omega
/-- All rows. -/
theorem Grow.grid {w : World} {L : Nat} {rs : List (List Int)} {n : Nat} {v : Value} {D : List Row} (h : Grow w L rs n v D) (hl : rs.length = n) : ∃ R d fr, v = .slice R n d ∧ n ≤ d ∧ Grid w R n rs fr ∧ New L w fr := by
  have hx : D.map Row.xs = rs := by rw [h.xs, List.take_of_length_le (by omega)]
  rcases h.own.2 with ⟨rfl, h0⟩ | ⟨g, cap, cur, rfl, hb, hh, hnc, _, hsz, hcur⟩
  · subst h0
    have hD : D = [] := List.eq_nil_of_length_eq_zero h.len
    subst hD
    obtain rfl : rs = [] := List.eq_nil_of_length_eq_zero hl
    exact ⟨none, 0, [], rfl, Nat.le_refl _, .nil _ _, .nil _ _⟩
  · by_cases h0 : n = 0
    · subst h0
      obtain rfl : rs = [] := List.eq_nil_of_length_eq_zero hl
      exact ⟨_, cap, [], rfl, hnc, .nil _ _, .nil _ _⟩
    · have hlt := (own_lt h.own g rfl).2
      refine ⟨_, cap, g :: D.flatMap Row.fp, rfl, hnc, ⟨D, hx, h.len, h.ok, .inr ⟨by omega, g, 0, rfl, rfl, hlt, fun i r hi => ?_⟩⟩, ?_⟩
      · have hi' : i < n := by have := (List.getElem?_eq_some_iff.1 hi).1; have := h.len; omega
        rw [cell_of_row w g (0 + i) cur _ (0, 0) hh, Nat.zero_add]
        have e : (cur.toList.take (n * 1))[i]? = (D.map Row.val)[i]? := by rw [hcur]
        rw [List.getElem?_take, if_pos (by omega), List.getElem?_map, hi] at e
        simpa using e
      · exact (New.one hb hlt (fun o => by simp [World.frozen?, hh])).append h.new (fun b hb' hx' => by simp at hb'; subst hb'; exact h.off _ hx' rfl)
end Go.Proofs.YtcapfafglikcmaaDoor
end

section
/- A machine that lies in memory of the call's own, to be changed in place: what storing into it leaves. -/
namespace Go.Proofs.YtcapfafglikcmaaDoor
open Go.ChangeShapes Go.WideShapes Go.ChangeAt Go.RowKit

structure MachIn (w : World) (q : Nat) (A : Option Addr) (c : Nat) (R : Option Addr) (d : Nat) (B : Option Addr) (g : Nat) (n k m : Nat) (X : Mach) (fa fr fb : List Nat) (L : Nat) : Prop where
  box : Box w q 28 [.slice A n c, .slice R k d, .int .i64 X.mem.bank, .int .i64 X.a, .int .i64 X.at_, .bool X.carry, .slice B m g, .bool X.stop, .int .i64 X.cyc]
  has : MHas w A n R k B m X fa fr fb
  new : New L w (fa ++ fr ++ fb)
  own : w.ownsRow L 3 1 (.slice B m g) m (iv X.back)
  sole : ∀ b, (Value.slice B m g).ownBlock = some b → b ≠ q ∧ b ∉ fa ++ fr
  off : q ∉ fa ++ fr ++ fb
  lo : L ≤ q
  cap : n ≤ c ∧ k ≤ d ∧ m ≤ g
/-- Some machine that is X lies in block q. -/
def MachHere (w : World) (q : Nat) (X : Mach) (L : Nat) : Prop :=
  ∃ (A : Option Addr) (c : Nat) (R : Option Addr) (d : Nat) (B : Option Addr) (g n k m : Nat) (fa fr fb : List Nat), MachIn w q A c R d B g n k m X fa fr fb L
/-- What a change in place leaves. -/
def Did (q : Nat) (X : Mach) (L : Nat) (w : World) (e : Ending) (w' : World) : Prop := e = .returned (.tuple #[]) ∧ MachHere w' q X L ∧ Below L w w'
theorem MachIn.here {w : World} {q : Nat} {A : Option Addr} {c : Nat} {R : Option Addr} {d : Nat} {B : Option Addr} {g n k m : Nat} {X : Mach} {fa fr fb : List Nat} {L : Nat} (h : MachIn w q A c R d B g n k m X fa fr fb L) : MachHere w q X L :=
  ⟨_, _, _, _, _, _, _, _, _, _, _, _, h⟩
theorem MachIn.lt {w : World} {q : Nat} {A : Option Addr} {c : Nat} {R : Option Addr} {d : Nat} {B : Option Addr} {g n k m : Nat} {X : Mach} {fa fr fb : List Nat} {L : Nat} (h : MachIn w q A c R d B g n k m X fa fr fb L) : L ≤ w.heap.size := by
  have := h.lo; have := h.box.lt; omega
theorem MachIn.below {w w' : World} {q : Nat} {A : Option Addr} {c : Nat} {R : Option Addr} {d : Nat} {B : Option Addr} {g n k m : Nat} {X : Mach} {fa fr fb : List Nat} {L : Nat} (h : MachIn w q A c R d B g n k m X fa fr fb L) (b : Below w.heap.size w w') : MachIn w' q A c R d B g n k m X fa fr fb L :=
  ⟨h.box.below b, h.has.below b, h.new.keep (.of_below b), own_keep h.own b, h.sole, h.off, h.lo, h.cap⟩
theorem MachHere.below {w w' : World} {q : Nat} {X : Mach} {L : Nat} (h : MachHere w q X L) (b : Below w.heap.size w w') : MachHere w' q X L := by
  obtain ⟨_, _, _, _, _, _, _, _, _, _, _, _, h⟩ := h
  exact (h.below b).here
/-- A cell of the struct itself, stored: no slice. -/
theorem MachIn.store {w : World} {q : Nat} {A : Option Addr} {c : Nat} {R : Option Addr} {d : Nat} {B : Option Addr} {g n k m : Nat} {X : Mach} {fa fr fb : List Nat} {L : Nat} (h : MachIn w q A c R d B g n k m X fa fr fb L) (i : Nat) (v : Value) (Y : Mach)
    (hc : ([.slice A n c, .slice R k d, .int .i64 X.mem.bank, .int .i64 X.a, .int .i64 X.at_, .bool X.carry, .slice B m g, .bool X.stop, .int .i64 X.cyc] : List Value).set i v = [.slice A n c, .slice R k d, .int .i64 Y.mem.bank, .int .i64 Y.a, .int .i64 Y.at_, .bool Y.carry, .slice B m g, .bool Y.stop, .int .i64 Y.cyc]) (h1 : Y.mem.ram = X.mem.ram) (h2 : Y.mem.rom = X.mem.rom) (h3 : Y.back = X.back) : MachIn (w.setCell ⟨q, i, none⟩ v) q A c R d B g n k m Y fa fr fb L := by
  have o1 : Only [q] w (w.setCell ⟨q, i, none⟩ v) := (Only.refl _ w).setCell (.inl (by simp)) _
  have dd : ∀ y ∈ fa ++ fr ++ fb, y ∉ [q] := fun y hy hs => by simp at hs; subst hs; exact h.off hy
  have hk := h.has.keep (.of_only o1 dd)
  refine ⟨by have := h.box.set i v; rw [hc] at this; exact this, ⟨by rw [h1]; exact hk.ram, by rw [h2]; exact hk.rom, by rw [h3]; exact hk.back⟩, h.new.cellSet _ _, ?_, h.sole, h.off, h.lo, h.cap⟩
  rw [h3]
  exact own_only h.own o1 fun b hb e => by simp at hb; exact (h.sole b e).1 hb
theorem MachIn.stored {w : World} {q : Nat} {A : Option Addr} {c : Nat} {R : Option Addr} {d : Nat} {B : Option Addr} {g n k m : Nat} {X : Mach} {fa fr fb : List Nat} {L : Nat} (h : MachIn w q A c R d B g n k m X fa fr fb L) (i : Nat) (v : Value) : Below L w (w.setCell ⟨q, i, none⟩ v) :=
  (Below.refl L w).setCell h.lo v
/-- The memory at its head, by itself. -/
theorem MachIn.cel {w : World} {q : Nat} {A : Option Addr} {c : Nat} {R : Option Addr} {d : Nat} {B : Option Addr} {g n k m : Nat} {X : Mach} {fa fr fb : List Nat} {L : Nat} (h : MachIn w q A c R d B g n k m X fa fr fb L) :
    CelIn w q 28 [.int .i64 X.a, .int .i64 X.at_, .bool X.carry, .slice B m g, .bool X.stop, .int .i64 X.cyc] A n c R k d X.mem fa fr L :=
  ⟨h.box, h.has.ram, h.has.rom, ⟨(List.nodup_append.1 h.new.once).1, fun b hb => h.new.lt b (List.mem_append_left _ hb), fun b hb => h.new.free b (List.mem_append_left _ hb)⟩, fun hq => h.off (List.mem_append_left _ hq)⟩
/-- The memory at its head, changed. -/
theorem MachIn.put {w w' : World} {q : Nat} {A : Option Addr} {c : Nat} {R : Option Addr} {d : Nat} {B : Option Addr} {g n k m : Nat} {X : Mach} {fa fr fb : List Nat} {L : Nat} (h : MachIn w q A c R d B g n k m X fa fr fb L) {M : Mem}
    (hm : CelIn w' q 28 [.int .i64 X.a, .int .i64 X.at_, .bool X.carry, .slice B m g, .bool X.stop, .int .i64 X.cyc] A n c R k d M fa fr L) (o : Only (q :: (fa ++ fr)) w w') :
    MachIn w' q A c R d B g n k m { X with mem := M } fa fr fb L ∧ Below L w w' := by
  have nd := List.nodup_append.1 h.new.once
  have db : ∀ x ∈ fb, x ∉ q :: (fa ++ fr) := fun x hx hy => by
    rcases List.mem_cons.1 hy with rfl | hy
    · exact h.off (List.mem_append_right _ hx)
    · exact nd.2.2 x hy x hx rfl
  have sb : Same fb w w' := .of_only o db
  refine ⟨⟨hm.box, ⟨hm.ram, hm.rom, h.has.back.keep sb⟩, hm.new.append ⟨nd.2.1, fun b hb => ⟨(h.new.lt b (List.mem_append_right _ hb)).1, Nat.lt_of_lt_of_le (h.new.lt b (List.mem_append_right _ hb)).2 o.size⟩, fun b hb i => (World.frozen?_of_block (a := ⟨b, i, none⟩) (sb.2 b hb (h.new.lt b (List.mem_append_right _ hb)).2)).trans (h.new.free b (List.mem_append_right _ hb) i)⟩ (fun x hx hy => nd.2.2 x hx x hy rfl), ?_, h.sole, h.off, h.lo, h.cap⟩, ?_⟩
  · refine own_only h.own o fun b hb e => ?_
    have := h.sole b e
    rcases List.mem_cons.1 hb with rfl | hb
    · exact this.1 rfl
    · exact this.2 hb
  · refine o.below (fun b hb => ?_) h.lt
    rcases List.mem_cons.1 hb with rfl | hb
    · exact h.lo
    · exact (hm.new.lt b hb).1
/-- The return addresses replaced: another row of the call's own. -/
theorem MachIn.rest {w w' : World} {q : Nat} {A : Option Addr} {c : Nat} {R : Option Addr} {d : Nat} {B : Option Addr} {g n k m : Nat} {X : Mach} {fa fr fb : List Nat} {L : Nat} (h : MachIn w q A c R d B g n k m X fa fr fb L) {B' : Option Addr} {g' m' : Nat} {xs : List Int} {S : List Nat}
    (ho : w'.ownsRow L 3 1 (.slice B' m' g') m' (iv xs)) (o : Only S w w') (hS : ∀ b ∈ S, (Value.slice B m g).ownBlock = some b) (hat : ∀ b, (Value.slice B' m' g').ownBlock = some b → (Value.slice B m g).ownBlock = some b ∨ w.heap.size ≤ b) :
    MachHere (w'.setCell ⟨q, 6, none⟩ (.slice B' m' g')) q { X with back := xs } L ∧ Below L w (w'.setCell ⟨q, 6, none⟩ (.slice B' m' g')) := by
  obtain ⟨B2, g2, fp, ev, hc, _, hi, hn, hown⟩ := own_ints ho
  injection ev with e1 e2 e3
  subst e1; subst e3
  have o2 : Only [q] w' (w'.setCell ⟨q, 6, none⟩ (.slice B' m' g')) := (Only.refl _ w').setCell (.inl (by simp)) _
  have hq := h.box.lt
  have s1 : ∀ x ∈ fa ++ fr, x ∉ S := fun x hx hs => (h.sole x (hS x hs)).2 hx
  have qS : q ∉ S := fun hs => (h.sole q (hS q hs)).1 rfl
  have s2 : ∀ x ∈ fa ++ fr, x ∉ [q] := fun x hx hs => by simp at hs; subst hs; exact h.off (List.mem_append_left _ hx)
  have pq : ∀ x ∈ fp, x ≠ q := fun x hx e => by
    rcases hat x (hown x hx) with hb | hb
    · exact (h.sole x hb).1 e
    · omega
  have s3 : ∀ x ∈ fp, x ∉ [q] := fun x hx hs => by simp at hs; exact pq x hx hs
  have k1 : Same (fa ++ fr) w (w'.setCell ⟨q, 6, none⟩ (.slice B' m' g')) := by
    refine .of_only ((o.mono (T := S ++ [q]) fun x hx => List.mem_append_left _ hx).trans (o2.mono fun x hx => List.mem_append_right _ hx)) fun x hx hs => ?_
    rcases List.mem_append.1 hs with hs | hs
    · exact s1 x hx hs
    · exact s2 x hx hs
  have dis : ∀ x ∈ fa ++ fr, x ∉ fp := fun x hx hy => by
    rcases hat x (hown x hy) with hb | hb
    · exact (h.sole x hb).2 hx
    · have := (h.new.lt x (List.mem_append_left _ hx)).2; omega
  have nw : New L w (fa ++ fr) := ⟨(List.nodup_append.1 h.new.once).1, fun b hb => h.new.lt b (List.mem_append_left _ hb), fun b hb => h.new.free b (List.mem_append_left _ hb)⟩
  refine ⟨⟨A, c, R, d, B', g', n, k, m', fa, fr, fp, (h.box.only o qS).set 6 _, ⟨h.has.ram.keep (k1.sub fun x hx => List.mem_append_left _ hx), h.has.rom.keep (k1.sub fun x hx => List.mem_append_right _ hx), hi.keep (.of_only o2 s3)⟩, (nw.keep k1).append (hn.keep (.of_only o2 s3)) dis, own_only ho o2 (fun b hb e => ?_), fun b hb => ?_, fun hx => ?_, h.lo, h.cap.1, h.cap.2.1, hc⟩, ?_⟩
  · simp at hb
    subst hb
    rcases hat _ e with hb | hb
    · exact (h.sole _ hb).1 rfl
    · omega
  · rcases hat b hb with hb' | hb'
    · exact h.sole b hb'
    · exact ⟨by omega, fun hx => by have := (h.new.lt b (List.mem_append_left _ hx)).2; omega⟩
  · rcases List.mem_append.1 hx with hx | hx
    · exact h.off (List.mem_append_left _ hx)
    · exact pq _ hx rfl
  · exact (o.below (fun b hb => (own_lt h.own b (hS b hb)).1) h.lt).setCell h.lo _
theorem ints_one {w : World} {b : Nat} {t : TypeId} {x : Int} (h : Box w b t [.int .i64 x]) : Ints w (some ⟨b, 0, none⟩) 1 [x] [b] :=
  ⟨rfl, .inr ⟨by omega, b, 0, rfl, rfl, h.lt, fun i hi => by obtain rfl : i = 0 := (by omega); exact h.cell 0⟩⟩
/-- The first of the own row's cells, as a shorter row. -/
theorem own_take {w : World} {L m g : Nat} {B : Option Addr} {xs : List Int} (h : w.ownsRow L 3 1 (.slice B m g) m (iv xs)) (k : Nat) (hk : k ≤ m) : w.ownsRow L 3 1 (.slice B k g) k (iv (xs.take k)) := by
  obtain ⟨hl, ⟨e, e2⟩ | ⟨b, cap, cur, e, hb, hc, h1, h2, h3, h4⟩⟩ := h
  · injection e with e3 e4 e5
    subst e3; subst e4; subst e5
    obtain rfl : k = 0 := by omega
    exact ⟨by simp [iv], .inl ⟨rfl, rfl⟩⟩
  · injection e with e3 e4 e5
    subst e3; subst e5
    refine ⟨by simp [iv] at hl ⊢; omega, .inr ⟨b, g, cur, rfl, hb, hc, by omega, h2, h3, ?_⟩⟩
    simp only [Nat.mul_one] at h4 ⊢
    have e6 : iv (xs.take k) = (iv xs).take k := by simp [iv]
    rw [e6, ← h4, List.take_take, Nat.min_eq_left hk]
end Go.Proofs.YtcapfafglikcmaaDoor
end
