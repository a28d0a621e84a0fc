/- Contracts of the program's functions on memory (chapter 2): ReadMemory and WriteMemory. -/
import Derived.Test.YtbcibgfjdenheaaMemW
namespace Go.Proofs.Ytbcibgfjdenheaa
open Go.ChangeShapes Go.WideShapes Go.ChangeAt Go.RowKit

theorem impl_read (A : Option Addr) (n c : Nat) (R : Option Addr) (k d : Nat) (M : Mem) (fa fr : List Nat) (a : Int) (w : World) (hi : Ints w A n M.ram fa) (hg : Grid w R k M.rom fr) (hn : n ≤ 1000000000) (hk : k ≤ 1000000000) (hs : ∀ i, (M.rom.getD i []).length ≤ 1000000000) :
    Calls Try.prog 12 #[.agg #[.slice A n c, .slice R k d, .int .i64 M.bank], .int .i64 a] w (Got (readM M a) w) := by
  have HI := Lib.hid (hi.below (below1 w (.cells #[.slice A n c, .slice R k d, .int .i64 M.bank] 26)))
  have HG := Lib.hid (hg.below (below1 w (.cells #[.slice A n c, .slice R k d, .int .i64 M.bank] 26)))
  have HS := Lib.hid hs
  clear hi hg hs
  go_enter Try.func12, Try.ntmps12
  go_wp2_with fail
  refine (isAddress_any _ _).mono ?_; rintro e w' ⟨rfl, rfl⟩
  by_cases ha : addrB a = true
  · have HA := Lib.hid ha
    obtain ⟨a0, a1⟩ := addrB_yes ha
    clear ha
    rw [HA.out]
    go_wp2_with fail
    refine (impl_valid _ _ _ _ _ _ _ _ _ _ HI.out HG.out hn hk HS.out).mono ?_
    rintro e w1 ⟨rfl, b1⟩
    have X0 : Hid (Box w1 w.heap.size _ [.slice A n c, .slice R k d, .int .i64 M.bank]) := (Box.new w _ _).below b1
    have I1 := Lib.hid (HI.out.below b1)
    have G1 := Lib.hid (HG.out.below b1)
    have B1 : Hid (Below w.heap.size w w1) := (below1 w _).trans (b1.mono (by simp))
    clear b1
    by_cases hv : validB M = true
    · have HV := Lib.hid hv
      have HE := Lib.hid (show readM M a = readN M a.toNat by simp [readM, HA.out, hv])
      clear hv
      rw [HV.out]
      have c0 : w1.cell? ⟨w.heap.size, 0, none⟩ = some (.slice A n c) := X0.out.cell 0
      have c1 : w1.cell? ⟨w.heap.size, 1, none⟩ = some (.slice R k d) := X0.out.cell 1
      have c2 : w1.cell? ⟨w.heap.size, 2, none⟩ = some (.int .i64 M.bank) := X0.out.cell 2
      go_wp2_with fail
      obtain ⟨p, rfl⟩ := Int.eq_ofNat_of_zero_le a0
      refine (readAt_any A n c R k d M fa fr p _ I1.out G1.out (good_of HV.out) (by omega)).mono ?_
      rintro e w2 ⟨rfl, b2⟩
      have B2 := Lib.hid (B1.out.trans (b2.mono B1.out.size))
      clear b2
      go_wp2_with fail
      go_ret
      exact ⟨ret_int (by rw [HE.out]; rfl), B2.out⟩
    · have HV := Lib.hid (show validB M = false by simpa using hv)
      have HE := Lib.hid (show readM M a = 0 by simp [readM, hv])
      clear hv
      rw [HV.out]
      go_wp2_with fail
      go_ret
      exact ⟨ret_int HE.out.symm, B1.out⟩
  · have HA := Lib.hid (show addrB a = false by simpa using ha)
    have HE := Lib.hid (show readM M a = 0 by simp [readM, ha])
    clear ha
    rw [HA.out]
    go_wp2_with fail
    go_ret
    exact ⟨ret_int HE.out.symm, below1 w _⟩
/-- A memory in new memory, laid behind a new block. -/
theorem mem_boxed {w1 w2 : World} {M : Mem} {A : Option Addr} {n c : Nat} {R : Option Addr} {k d : Nat} {fa fr : List Nat} {L : Nat} (i : Ints w2 A n M.ram fa) (g : Grid w2 R k M.rom fr) (nw : New L w2 (fa ++ fr)) (hw : w1 = w2.alloc (.cells #[.slice A n c, .slice R k d, .int .i64 M.bank] 26)) :
    MemIn w1 w2.heap.size A n c R k d M fa fr L := by
  subst hw
  exact ⟨Box.new w2 _ _, i.below (below1 w2 _), g.below (below1 w2 _), nw.keep (.of_below (below1 w2 _)), fun h => by have := (nw.lt _ h).2; omega⟩
end Go.Proofs.Ytbcibgfjdenheaa
