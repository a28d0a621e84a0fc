/- Contracts of the program's functions on memory (chapter 2): a byte at an address. -/
import Derived.Test.YtcapfafglikcmaaDoorMemR
namespace Go.Proofs.YtcapfafglikcmaaDoor
open Go.ChangeShapes Go.WideShapes Go.ChangeAt Go.RowKit

/-- What reading leaves. -/
def Got (x : Int) (w : World) (e : Ending) (w' : World) : Prop := e = .returned (.int .i64 x) ∧ Below w.heap.size w w'
theorem field_readRam (w : World) : (Instr.field 72 (.agg #[.func (.func 72) #[] #[], .func (.func 73) #[] #[]]) 0).run Tryd.prog w = .ok (.func (.func 72) #[] #[]) w := by kernel_rfl
theorem field_writeRam (w : World) : (Instr.field 72 (.agg #[.func (.func 72) #[] #[], .func (.func 73) #[] #[]]) 1).run Tryd.prog w = .ok (.func (.func 73) #[] #[]) w := by kernel_rfl
theorem field_readFirstBank (w : World) : (Instr.field 72 (.agg #[.func (.func 74) #[] #[], .func (.func 75) #[] #[]]) 0).run Tryd.prog w = .ok (.func (.func 74) #[] #[]) w := by kernel_rfl
theorem field_writeNothing (w : World) : (Instr.field 72 (.agg #[.func (.func 74) #[] #[], .func (.func 75) #[] #[]]) 1).run Tryd.prog w = .ok (.func (.func 75) #[] #[]) w := by kernel_rfl
theorem field_readSwitchedBank (w : World) : (Instr.field 72 (.agg #[.func (.func 76) #[] #[], .func (.func 77) #[] #[]]) 0).run Tryd.prog w = .ok (.func (.func 76) #[] #[]) w := by kernel_rfl
theorem field_switchBank (w : World) : (Instr.field 72 (.agg #[.func (.func 76) #[] #[], .func (.func 77) #[] #[]]) 1).run Tryd.prog w = .ok (.func (.func 77) #[] #[]) w := by kernel_rfl
theorem readAt_0 (A : Option Addr) (n c : Nat) (R : Option Addr) (k d : Nat) (M : Mem) (fa fr : List Nat) (p : Nat) (w : World) (hi : Ints w A n M.ram fa) (hg : Grid w R k M.rom fr) (gd : Good M) (h0 : 0 ≤ p) (h1 : p < 256) :
    Calls Tryd.prog 38 #[.agg #[.slice A n c, .slice R k d, .int .i64 M.bank], .int .i64 p] w (Got (readN M p) w) := by
  have HI := Lib.hid hi
  have HG := Lib.hid hg
  have HD := Lib.hid gd
  have hn : n = 256 := by have := hi.1; have := gd.ram; omega
  have HK := Lib.hid (show k = M.rom.length from hg.len.symm)
  have k1 : 1 ≤ k := by have := gd.one; have := HK.out; omega
  have k4 : k ≤ 4 := by have := gd.four; have := HK.out; omega
  have m0 := gd.bank0
  have m1 : M.bank < k := by have := gd.bank1; have := HK.out; omega
  subst hn
  have HE := Lib.hid (show readN M p = M.ram.getD (p % 256) 0 by unfold readN; rw [if_pos (by omega)])
  have p0 : (0 : Int) ≤ p := by omega
  have p1 : (p : Int) < 1024 := by omega
  have hfd := field_readRam
  clear hi hg gd
  go_enter Tryd.func38, Tryd.ntmps38
  go_wp2_with fail
  have X0 : Hid (Box (w.alloc (.cells #[.slice A 256 c, .slice R k d, .int .i64 M.bank] 26)).drew w.heap.size 26 [.slice A 256 c, .slice R k d, .int .i64 M.bank]) := Box.new w _ _
  have B0 : Hid (Below w.heap.size w (w.alloc (.cells #[.slice A 256 c, .slice R k d, .int .i64 M.bank] 26)).drew) := (below1 w _).drew
  go_region_held3 (fun w' => w'.cell? ⟨w.heap.size, 0, none⟩ = some (.slice A 256 c) ∧ w'.cell? ⟨w.heap.size, 1, none⟩ = some (.slice R k d) ∧ w'.cell? ⟨w.heap.size, 2, none⟩ = some (.int .i64 M.bank))
    (first
      | go_keep
      | exact ⟨(X0.out.below b1).cell 0, (X0.out.below b1).cell 1, (X0.out.below b1).cell 2⟩
      | exact ⟨((X0.out.below b1).below b2).cell 0, ((X0.out.below b1).below b2).cell 1, ((X0.out.below b1).below b2).cell 2⟩)
    (first
      | (go_at_call 53; refine (region_0 _ _ (by omega) (by omega)).mono ?_; rintro e w1 ⟨rfl, b1⟩)
      | (go_at_call 72; rw [show ((p : Int).tmod 256) = ((p % 256 : Nat) : Int) by rw [Int.tmod_eq_emod_of_nonneg p0]; omega]; refine (readRam_any A 256 c R k d M fa (p % 256) _ (HI.out.below (B0.out.trans (b1.mono B0.out.size))) (by omega) (by omega)).mono ?_; rintro e w2 ⟨rfl, b2⟩))
  have B1 : Hid (Below w.heap.size w w1) := B0.out.trans (b1.mono B0.out.size)
  have B2 : Hid (Below w.heap.size w w2) := B1.out.trans (b2.mono B1.out.size)
  clear b1 b2 hfd
  go_wp2
  go_ret
  exact ⟨ret_int HE.out.symm, B2.out⟩
theorem readAt_1 (A : Option Addr) (n c : Nat) (R : Option Addr) (k d : Nat) (M : Mem) (fa fr : List Nat) (p : Nat) (w : World) (hi : Ints w A n M.ram fa) (hg : Grid w R k M.rom fr) (gd : Good M) (h0 : 256 ≤ p) (h1 : p < 512) :
    Calls Tryd.prog 38 #[.agg #[.slice A n c, .slice R k d, .int .i64 M.bank], .int .i64 p] w (Got (readN M p) w) := by
  have HI := Lib.hid hi
  have HG := Lib.hid hg
  have HD := Lib.hid gd
  have hn : n = 256 := by have := hi.1; have := gd.ram; omega
  have HK := Lib.hid (show k = M.rom.length from hg.len.symm)
  have k1 : 1 ≤ k := by have := gd.one; have := HK.out; omega
  have k4 : k ≤ 4 := by have := gd.four; have := HK.out; omega
  have m0 := gd.bank0
  have m1 : M.bank < k := by have := gd.bank1; have := HK.out; omega
  subst hn
  have HE := Lib.hid (show readN M p = M.ram.getD (p % 256) 0 by unfold readN; rw [if_pos (by omega)])
  have p0 : (0 : Int) ≤ p := by omega
  have p1 : (p : Int) < 1024 := by omega
  have hfd := field_readRam
  clear hi hg gd
  go_enter Tryd.func38, Tryd.ntmps38
  go_wp2_with fail
  have X0 : Hid (Box (w.alloc (.cells #[.slice A 256 c, .slice R k d, .int .i64 M.bank] 26)).drew w.heap.size 26 [.slice A 256 c, .slice R k d, .int .i64 M.bank]) := Box.new w _ _
  have B0 : Hid (Below w.heap.size w (w.alloc (.cells #[.slice A 256 c, .slice R k d, .int .i64 M.bank] 26)).drew) := (below1 w _).drew
  go_region_held3 (fun w' => w'.cell? ⟨w.heap.size, 0, none⟩ = some (.slice A 256 c) ∧ w'.cell? ⟨w.heap.size, 1, none⟩ = some (.slice R k d) ∧ w'.cell? ⟨w.heap.size, 2, none⟩ = some (.int .i64 M.bank))
    (first
      | go_keep
      | exact ⟨(X0.out.below b1).cell 0, (X0.out.below b1).cell 1, (X0.out.below b1).cell 2⟩
      | exact ⟨((X0.out.below b1).below b2).cell 0, ((X0.out.below b1).below b2).cell 1, ((X0.out.below b1).below b2).cell 2⟩)
    (first
      | (go_at_call 53; refine (region_1 _ _ (by omega) (by omega)).mono ?_; rintro e w1 ⟨rfl, b1⟩)
      | (go_at_call 72; rw [show ((p : Int).tmod 256) = ((p % 256 : Nat) : Int) by rw [Int.tmod_eq_emod_of_nonneg p0]; omega]; refine (readRam_any A 256 c R k d M fa (p % 256) _ (HI.out.below (B0.out.trans (b1.mono B0.out.size))) (by omega) (by omega)).mono ?_; rintro e w2 ⟨rfl, b2⟩))
  have B1 : Hid (Below w.heap.size w w1) := B0.out.trans (b1.mono B0.out.size)
  have B2 : Hid (Below w.heap.size w w2) := B1.out.trans (b2.mono B1.out.size)
  clear b1 b2 hfd
  go_wp2
  go_ret
  exact ⟨ret_int HE.out.symm, B2.out⟩
theorem readAt_2 (A : Option Addr) (n c : Nat) (R : Option Addr) (k d : Nat) (M : Mem) (fa fr : List Nat) (p : Nat) (w : World) (hi : Ints w A n M.ram fa) (hg : Grid w R k M.rom fr) (gd : Good M) (h0 : 512 ≤ p) (h1 : p < 768) :
    Calls Tryd.prog 38 #[.agg #[.slice A n c, .slice R k d, .int .i64 M.bank], .int .i64 p] w (Got (readN M p) w) := by
  have HI := Lib.hid hi
  have HG := Lib.hid hg
  have HD := Lib.hid gd
  have hn : n = 256 := by have := hi.1; have := gd.ram; omega
  have HK := Lib.hid (show k = M.rom.length from hg.len.symm)
  have k1 : 1 ≤ k := by have := gd.one; have := HK.out; omega
  have k4 : k ≤ 4 := by have := gd.four; have := HK.out; omega
  have m0 := gd.bank0
  have m1 : M.bank < k := by have := gd.bank1; have := HK.out; omega
  subst hn
  have HE := Lib.hid (show readN M p = (M.rom.getD 0 []).getD (p - 512) 0 by unfold readN; rw [if_neg (by omega), if_pos (by omega)])
  have p0 : (0 : Int) ≤ p := by omega
  have p1 : (p : Int) < 1024 := by omega
  have hfd := field_readFirstBank
  clear hi hg gd
  go_enter Tryd.func38, Tryd.ntmps38
  go_wp2_with fail
  have X0 : Hid (Box (w.alloc (.cells #[.slice A 256 c, .slice R k d, .int .i64 M.bank] 26)).drew w.heap.size 26 [.slice A 256 c, .slice R k d, .int .i64 M.bank]) := Box.new w _ _
  have B0 : Hid (Below w.heap.size w (w.alloc (.cells #[.slice A 256 c, .slice R k d, .int .i64 M.bank] 26)).drew) := (below1 w _).drew
  go_region_held3 (fun w' => w'.cell? ⟨w.heap.size, 0, none⟩ = some (.slice A 256 c) ∧ w'.cell? ⟨w.heap.size, 1, none⟩ = some (.slice R k d) ∧ w'.cell? ⟨w.heap.size, 2, none⟩ = some (.int .i64 M.bank))
    (first
      | go_keep
      | exact ⟨(X0.out.below b1).cell 0, (X0.out.below b1).cell 1, (X0.out.below b1).cell 2⟩
      | exact ⟨((X0.out.below b1).below b2).cell 0, ((X0.out.below b1).below b2).cell 1, ((X0.out.below b1).below b2).cell 2⟩)
    (first
      | (go_at_call 53; refine (region_2 _ _ (by omega) (by omega)).mono ?_; rintro e w1 ⟨rfl, b1⟩)
      | (go_at_call 74; rw [show ((p : Int).tmod 256) = ((p - 512 : Nat) : Int) by rw [Int.tmod_eq_emod_of_nonneg p0]; omega]; refine (readFirst_any A 256 c R k d M fr (p - 512) _ (HG.out.below (B0.out.trans (b1.mono B0.out.size))) (by omega) (by rw [HD.out.rom 0 (by have := HK.out; omega)]; omega) (by rw [HD.out.rom 0 (by have := HK.out; omega)]; omega)).mono ?_; rintro e w2 ⟨rfl, b2⟩))
  have B1 : Hid (Below w.heap.size w w1) := B0.out.trans (b1.mono B0.out.size)
  have B2 : Hid (Below w.heap.size w w2) := B1.out.trans (b2.mono B1.out.size)
  clear b1 b2 hfd
  go_wp2
  go_ret
  exact ⟨ret_int HE.out.symm, B2.out⟩
theorem readAt_3 (A : Option Addr) (n c : Nat) (R : Option Addr) (k d : Nat) (M : Mem) (fa fr : List Nat) (p : Nat) (w : World) (hi : Ints w A n M.ram fa) (hg : Grid w R k M.rom fr) (gd : Good M) (h0 : 768 ≤ p) (h1 : p < 1024) :
    Calls Tryd.prog 38 #[.agg #[.slice A n c, .slice R k d, .int .i64 M.bank], .int .i64 p] w (Got (readN M p) w) := by
  have HI := Lib.hid hi
  have HG := Lib.hid hg
  have HD := Lib.hid gd
  have hn : n = 256 := by have := hi.1; have := gd.ram; omega
  have HK := Lib.hid (show k = M.rom.length from hg.len.symm)
  have k1 : 1 ≤ k := by have := gd.one; have := HK.out; omega
  have k4 : k ≤ 4 := by have := gd.four; have := HK.out; omega
  have m0 := gd.bank0
  have m1 : M.bank < k := by have := gd.bank1; have := HK.out; omega
  subst hn
  have HE := Lib.hid (show readN M p = (M.rom.getD M.bank.toNat []).getD (p - 768) 0 by unfold readN; rw [if_neg (by omega), if_neg (by omega)])
  have p0 : (0 : Int) ≤ p := by omega
  have p1 : (p : Int) < 1024 := by omega
  have hfd := field_readSwitchedBank
  clear hi hg gd
  go_enter Tryd.func38, Tryd.ntmps38
  go_wp2_with fail
  have X0 : Hid (Box (w.alloc (.cells #[.slice A 256 c, .slice R k d, .int .i64 M.bank] 26)).drew w.heap.size 26 [.slice A 256 c, .slice R k d, .int .i64 M.bank]) := Box.new w _ _
  have B0 : Hid (Below w.heap.size w (w.alloc (.cells #[.slice A 256 c, .slice R k d, .int .i64 M.bank] 26)).drew) := (below1 w _).drew
  go_region_held3 (fun w' => w'.cell? ⟨w.heap.size, 0, none⟩ = some (.slice A 256 c) ∧ w'.cell? ⟨w.heap.size, 1, none⟩ = some (.slice R k d) ∧ w'.cell? ⟨w.heap.size, 2, none⟩ = some (.int .i64 M.bank))
    (first
      | go_keep
      | exact ⟨(X0.out.below b1).cell 0, (X0.out.below b1).cell 1, (X0.out.below b1).cell 2⟩
      | exact ⟨((X0.out.below b1).below b2).cell 0, ((X0.out.below b1).below b2).cell 1, ((X0.out.below b1).below b2).cell 2⟩)
    (first
      | (go_at_call 53; refine (region_3 _ _ (by omega) (by omega)).mono ?_; rintro e w1 ⟨rfl, b1⟩)
      | (go_at_call 76; rw [show ((p : Int).tmod 256) = ((p - 768 : Nat) : Int) by rw [Int.tmod_eq_emod_of_nonneg p0]; omega]; refine (readSwitched_any A 256 c R k d M fr (p - 768) _ (HG.out.below (B0.out.trans (b1.mono B0.out.size))) m0 m1 (by omega) (by rw [HD.out.rom M.bank.toNat (by have := HK.out; omega)]; omega) (by rw [HD.out.rom M.bank.toNat (by have := HK.out; omega)]; omega)).mono ?_; rintro e w2 ⟨rfl, b2⟩))
  have B1 : Hid (Below w.heap.size w w1) := B0.out.trans (b1.mono B0.out.size)
  have B2 : Hid (Below w.heap.size w w2) := B1.out.trans (b2.mono B1.out.size)
  clear b1 b2 hfd
  go_wp2
  go_ret
  exact ⟨ret_int HE.out.symm, B2.out⟩
theorem readAt_any (A : Option Addr) (n c : Nat) (R : Option Addr) (k d : Nat) (M : Mem) (fa fr : List Nat) (p : Nat) (w : World) (hi : Ints w A n M.ram fa) (hg : Grid w R k M.rom fr) (gd : Good M) (h1 : p < 1024) :
    Calls Tryd.prog 38 #[.agg #[.slice A n c, .slice R k d, .int .i64 M.bank], .int .i64 p] w (Got (readN M p) w) := by
  by_cases a1 : p < 256
  · exact readAt_0 A n c R k d M fa fr p w hi hg gd (by omega) a1
  by_cases a2 : p < 512
  · exact readAt_1 A n c R k d M fa fr p w hi hg gd (by omega) a2
  by_cases a3 : p < 768
  · exact readAt_2 A n c R k d M fa fr p w hi hg gd (by omega) a3
  · exact readAt_3 A n c R k d M fa fr p w hi hg gd (by omega) (by omega)
end Go.Proofs.YtcapfafglikcmaaDoor
