/- Contracts of the program's functions on memory (chapter 2): ReadMemory and WriteMemory. -/
import Derived.Test.YtlfmagjgplijgaaMemW
namespace Go.Proofs.Ytlfmagjgplijgaa
open Go.ChangeShapes Go.WideShapes Go.ChangeAt Go.RowKit

theorem impl_read (A : Option Addr) (n c : Nat) (R : Option Addr) (k d : Nat) (M : Mem) (fa fr : List Nat) (a : Int) (w : World) (hi : Ints w A n M.ram fa) (hg : Grid w R k M.rom fr) (hn : n ≤ 1000000000) (hk : k ≤ 1000000000) (hs : ∀ i, (M.rom.getD i []).length ≤ 1000000000) :
    Calls Try.prog 16 #[.agg #[.slice A n c, .slice R k d, .int .i64 M.bank], .int .i64 a] w (Got (readM M a) w) := by
  have HI := Lib.hid (hi.below (below1 w (.cells #[.slice A n c, .slice R k d, .int .i64 M.bank] 26)))
  have HG := Lib.hid (hg.below (below1 w (.cells #[.slice A n c, .slice R k d, .int .i64 M.bank] 26)))
  have HS := Lib.hid hs
  clear hi hg hs
  go_enter Try.func16, Try.ntmps16
  go_wp2_with fail
  refine (isAddress_any _ _).mono ?_; rintro e w' ⟨rfl, rfl⟩
  by_cases ha : addrB a = true
  · have HA := Lib.hid ha
    obtain ⟨a0, a1⟩ := addrB_yes ha
    clear ha
    rw [HA.out]
    go_wp2_with fail
    refine (impl_valid _ _ _ _ _ _ _ _ _ _ HI.out HG.out hn hk HS.out).mono ?_
    rintro e w1 ⟨rfl, b1⟩
    have X0 : Hid (Box w1 w.heap.size _ [.slice A n c, .slice R k d, .int .i64 M.bank]) := (Box.new w _ _).below b1
    have I1 := Lib.hid (HI.out.below b1)
    have G1 := Lib.hid (HG.out.below b1)
    have B1 : Hid (Below w.heap.size w w1) := (below1 w _).trans (b1.mono (by simp))
    clear b1
    by_cases hv : validB M = true
    · have HV := Lib.hid hv
      have HE := Lib.hid (show readM M a = readN M a.toNat by simp [readM, HA.out, hv])
      clear hv
      rw [HV.out]
      have c0 : w1.cell? ⟨w.heap.size, 0, none⟩ = some (.slice A n c) := X0.out.cell 0
      have c1 : w1.cell? ⟨w.heap.size, 1, none⟩ = some (.slice R k d) := X0.out.cell 1
      have c2 : w1.cell? ⟨w.heap.size, 2, none⟩ = some (.int .i64 M.bank) := X0.out.cell 2
      go_wp2_with fail
      obtain ⟨p, rfl⟩ := Int.eq_ofNat_of_zero_le a0
      refine (readAt_any A n c R k d M fa fr p _ I1.out G1.out (good_of HV.out) (by omega)).mono ?_
      rintro e w2 ⟨rfl, b2⟩
      have B2 := Lib.hid (B1.out.trans (b2.mono B1.out.size))
      clear b2
      go_wp2_with fail
      go_ret
      exact ⟨ret_int (by rw [HE.out]; rfl), B2.out⟩
    · have HV := Lib.hid (show validB M = false by simpa using hv)
      have HE := Lib.hid (show readM M a = 0 by simp [readM, hv])
      clear hv
      rw [HV.out]
      go_wp2_with fail
      go_ret
      exact ⟨ret_int HE.out.symm, B1.out⟩
  · have HA := Lib.hid (show addrB a = false by simpa using ha)
    have HE := Lib.hid (show readM M a = 0 by simp [readM, ha])
    clear ha
    rw [HA.out]
    go_wp2_with fail
    go_ret
    exact ⟨ret_int HE.out.symm, below1 w _⟩
/-- A memory in new memory, laid behind a new block. -/
theorem mem_boxed {w1 w2 : World} {M : Mem} {A : Option Addr} {n c : Nat} {R : Option Addr} {k d : Nat} {fa fr : List Nat} {L : Nat} (i : Ints w2 A n M.ram fa) (g : Grid w2 R k M.rom fr) (nw : New L w2 (fa ++ fr)) (hw : w1 = w2.alloc (.cells #[.slice A n c, .slice R k d, .int .i64 M.bank] 26)) :
    MemIn w1 w2.heap.size A n c R k d M fa fr L := by
  subst hw
  exact ⟨Box.new w2 _ _, i.below (below1 w2 _), g.below (below1 w2 _), nw.keep (.of_below (below1 w2 _)), fun h => by have := (nw.lt _ h).2; omega⟩
theorem impl_write (A : Option Addr) (n c : Nat) (R : Option Addr) (k d : Nat) (M : Mem) (fa fr : List Nat) (a v : Int) (w : World) (hi : Ints w A n M.ram fa) (hg : Grid w R k M.rom fr) (hn : n ≤ 1000000000) (hk : k ≤ 1000000000) (hs : ∀ i, (M.rom.getD i []).length ≤ 1000000000) :
    Calls Try.prog 7 #[.agg #[.slice A n c, .slice R k d, .int .i64 M.bank], .int .i64 a, .int .i64 v] w (MemNew (writeM M a v) w) := by
  have b00 := below2 w (.cells #[.slice A n c, .slice R k d, .int .i64 M.bank] 26) (.cells #[.slice none 0 0, .slice none 0 0, .int .i64 0] 26)
  have HI := Lib.hid (hi.below b00)
  have HG := Lib.hid (hg.below b00)
  have HS := Lib.hid hs
  clear hi hg hs b00
  go_enter Try.func7, Try.ntmps7
  go_wp2_with fail
  refine (isAddress_any _ _).mono ?_; rintro e w' ⟨rfl, rfl⟩
  by_cases ha : addrB a = true
  · have HA := Lib.hid ha
    obtain ⟨a0, a1⟩ := addrB_yes ha
    clear ha
    rw [HA.out]
    go_wp2_with fail
    refine (isByte_any _ _).mono ?_; rintro e w' ⟨rfl, rfl⟩
    by_cases hb : byteB v = true
    · have HB := Lib.hid hb
      obtain ⟨v0, v1⟩ := byteB_yes hb
      clear hb
      rw [HB.out]
      go_wp2_with fail
      refine (impl_valid _ _ _ _ _ _ _ _ _ _ HI.out HG.out hn hk HS.out).mono ?_
      rintro e w1 ⟨rfl, b1⟩
      have X0 : Hid (Box w1 w.heap.size _ [.slice A n c, .slice R k d, .int .i64 M.bank]) := ((Box.new w _ _).alloc _).below b1
      have X1 : Hid (Box w1 (w.heap.size + 1) _ [.slice none 0 0, .slice none 0 0, .int .i64 0]) := (Box.new_at (w.alloc _) _ _ _ (by simp)).below b1
      have I1 := Lib.hid (HI.out.below b1)
      have G1 := Lib.hid (HG.out.below b1)
      have B1 : Hid (Below w.heap.size w w1) := (below2 w _ _).trans (b1.mono (by simp; omega))
      have z1 : w.heap.size + 1 < w1.heap.size := X1.out.lt
      clear b1
      by_cases hv : validB M = true
      · have HV := Lib.hid hv
        have HE := Lib.hid (show writeM M a v = writeN M a.toNat v by simp [writeM, HA.out, HB.out, hv])
        clear hv
        rw [HV.out]
        have c0 : w1.cell? ⟨w.heap.size, 0, none⟩ = some (.slice A n c) := X0.out.cell 0
        have c1 : w1.cell? ⟨w.heap.size, 1, none⟩ = some (.slice R k d) := X0.out.cell 1
        have c2 : w1.cell? ⟨w.heap.size, 2, none⟩ = some (.int .i64 M.bank) := X0.out.cell 2
        go_wp2_with fail
        refine (clone_mem A n c R k d M _ fr _ I1.out G1.out hn hk HS.out).mono ?_
        rintro e w2 ⟨A', n', c', R', k', d', fa', fr', rfl, hc', hd', i2, g2, n2, b2⟩
        have Y1 := Lib.hid ((X1.out.below b2).alloc (.cells #[.slice A' n' c', .slice R' k' d', .int .i64 M.bank] 26))
        have H2 := Lib.hid (mem_boxed (c := c') (d := d') i2 g2 n2 rfl)
        have B2 : Hid (Below w.heap.size w w2) := B1.out.trans (b2.mono (by omega))
        have z2 : w1.heap.size ≤ w2.heap.size := b2.size
        have HN := Lib.hid n2
        clear i2 g2 n2 b2 c0 c1 c2
        go_wp2_with fail
        obtain ⟨p, rfl⟩ := Int.eq_ofNat_of_zero_le a0
        refine (writeAt_any w2.heap.size A' n' c' R' k' d' M fa' fr' _ p v _ H2.out (good_of HV.out) (by omega) v0 v1).mono ?_
        rintro e w3 ⟨rfl, m3, o3⟩
        have M3 := Lib.hid m3
        have Z1 := Lib.hid (Y1.out.only o3 (fun h => by
          rcases List.mem_cons.1 h with h | h
          · omega
          · have := (HN.out.lt _ h).1; omega))
        have B3 : Hid (Below w.heap.size w w3) := (B2.out.alloc B2.out.size _).trans (o3.below (fun b hb => by
          rcases List.mem_cons.1 hb with h | h
          · omega
          · have := (HN.out.lt _ h).1; omega) (by simp; omega))
        clear m3 o3
        have c0 : w3.cell? ⟨w2.heap.size, 0, none⟩ = some (.slice A' n' c') := M3.out.box.cell 0
        have c1 : w3.cell? ⟨w2.heap.size, 1, none⟩ = some (.slice R' k' d') := M3.out.box.cell 1
        have c2 : w3.cell? ⟨w2.heap.size, 2, none⟩ = some (.int .i64 (writeN M p v).bank) := M3.out.box.cell 2
        have c3 : w3.cell? ⟨w.heap.size + 1, 0, none⟩ = some (.slice none 0 0) := Z1.out.cell 0
        have c4 : w3.cell? ⟨w.heap.size + 1, 1, none⟩ = some (.slice none 0 0) := Z1.out.cell 1
        have c5 : w3.cell? ⟨w.heap.size + 1, 2, none⟩ = some (.int .i64 0) := Z1.out.cell 2
        have c6 := Z1.out.frozen 0
        have c7 := Z1.out.frozen 1
        have c8 := Z1.out.frozen 2
        go_wp2_with fail
        refine bodyPost_ret (v := .agg #[.slice A' n' c', .slice R' k' d', .int .i64 (writeN M p v).bank]) (by simp [results, Try.results7, go_sem, c3, c4, c5]) rfl ?_
        rw [HE.out]
        exact mem_handed (M := writeN M p v) M3.out.ram M3.out.rom M3.out.new hc' hd' B3.out (by omega)
      · have HV := Lib.hid (show validB M = false by simpa using hv)
        have HE := Lib.hid (show writeM M a v = memZ by simp [writeM, hv])
        clear hv
        rw [HV.out]
        have c3 : w1.cell? ⟨w.heap.size + 1, 0, none⟩ = some (.slice none 0 0) := X1.out.cell 0
        have c4 : w1.cell? ⟨w.heap.size + 1, 1, none⟩ = some (.slice none 0 0) := X1.out.cell 1
        have c5 : w1.cell? ⟨w.heap.size + 1, 2, none⟩ = some (.int .i64 0) := X1.out.cell 2
        have c6 := X1.out.frozen 0
        have c7 := X1.out.frozen 1
        have c8 := X1.out.frozen 2
        go_wp2_with fail
        refine bodyPost_ret (v := .agg #[.slice none 0 0, .slice none 0 0, .int .i64 0]) (by simp [results, Try.results7, go_sem, c3, c4, c5]) rfl ?_
        rw [HE.out]
        exact memZ_new (((B1.out.setCell (by simp) _).setCell (by simp) _).setCell (by simp) _)
    · have HB := Lib.hid (show byteB v = false by simpa using hb)
      have HE := Lib.hid (show writeM M a v = memZ by simp [writeM, hb])
      clear hb
      rw [HB.out]
      go_wp2_with fail
      refine bodyPost_ret (v := .agg #[.slice none 0 0, .slice none 0 0, .int .i64 0]) (by simp [results, Try.results7, go_sem]) rfl ?_
      rw [HE.out]
      exact memZ_new (below2 w _ _)
  · have HA := Lib.hid (show addrB a = false by simpa using ha)
    have HE := Lib.hid (show writeM M a v = memZ by simp [writeM, ha])
    clear ha
    rw [HA.out]
    go_wp2_with fail
    refine bodyPost_ret (v := .agg #[.slice none 0 0, .slice none 0 0, .int .i64 0]) (by simp [results, Try.results7, go_sem]) rfl ?_
    rw [HE.out]
    exact memZ_new (below2 w _ _)
end Go.Proofs.Ytlfmagjgplijgaa
