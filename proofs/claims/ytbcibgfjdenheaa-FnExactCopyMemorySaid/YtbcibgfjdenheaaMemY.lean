/- Contracts of the program's functions on memory (chapter 2): CopyMemory. -/
import Derived.Test.YtbcibgfjdenheaaMemX
import Derived.Deep.RegionLaw
namespace Go.Proofs.Ytbcibgfjdenheaa
open Go.ChangeShapes Go.WideShapes Go.ChangeAt Go.RowKit

theorem impl_copy_no (A : Option Addr) (n c : Nat) (R : Option Addr) (k d : Nat) (M : Mem) (fa fr : List Nat) (f t m : Int) (w : World) (hi : Ints w A n M.ram fa) (hg : Grid w R k M.rom fr) (hn : n ≤ 1000000000) (hk : k ≤ 1000000000) (hs : ∀ i, (M.rom.getD i []).length ≤ 1000000000)
    (h : ¬ ((0 ≤ m ∧ m ≤ 256) ∧ addrB f = true ∧ addrB t = true ∧ validB M = true)) :
    Calls Try.prog 8 #[.agg #[.slice A n c, .slice R k d, .int .i64 M.bank], .int .i64 f, .int .i64 t, .int .i64 m] w (MemNew memZ w) := by
  have b00 := below2 w (.cells #[.slice A n c, .slice R k d, .int .i64 M.bank] 26) (.cells #[.slice none 0 0, .slice none 0 0, .int .i64 0] 26)
  have HI := Lib.hid (hi.below b00)
  have HG := Lib.hid (hg.below b00)
  have HS := Lib.hid hs
  have HH := Lib.hid h
  clear hi hg hs b00 h
  by_cases m0 : m < 0
  · go_enter Try.func8, Try.ntmps8
    go_wp2_with fail
    refine bodyPost_ret (v := .agg #[.slice none 0 0, .slice none 0 0, .int .i64 0]) (by simp [results, Try.results8, go_sem]) rfl ?_
    exact memZ_new (below2 w _ _)
  · have d0 : decide (m < 0) = false := by simp; omega
    by_cases m1 : 256 < m
    · clear m0
      go_enter Try.func8, Try.ntmps8
      go_wp2_with fail
      refine bodyPost_ret (v := .agg #[.slice none 0 0, .slice none 0 0, .int .i64 0]) (by simp [results, Try.results8, go_sem]) rfl ?_
      exact memZ_new (below2 w _ _)
    · have d1 : decide (256 < m) = false := by simp; omega
      have n0 : 0 ≤ m := by omega
      have n1 : m ≤ 256 := by omega
      clear m0 m1
      go_enter Try.func8, Try.ntmps8
      go_wp2_with fail
      refine (isAddress_any _ _).mono ?_; rintro e w' ⟨rfl, rfl⟩
      by_cases ha : addrB f = true
      · have HA := Lib.hid ha
        clear ha
        rw [HA.out]
        go_wp2_with fail
        refine (isAddress_any _ _).mono ?_; rintro e w' ⟨rfl, rfl⟩
        by_cases hb : addrB t = true
        · have HB := Lib.hid hb
          have HV := Lib.hid (show validB M = false by
            by_cases hv : validB M = true
            · exact absurd ⟨⟨n0, n1⟩, HA.out, hb, hv⟩ HH.out
            · simpa using hv)
          clear hb
          rw [HB.out]
          go_wp2_with fail
          refine (impl_valid _ _ _ _ _ _ _ _ _ _ HI.out HG.out hn hk HS.out).mono ?_
          rintro e w1 ⟨rfl, b1⟩
          rw [HV.out]
          have X1 : Hid (Box w1 (w.heap.size + 1) _ [.slice none 0 0, .slice none 0 0, .int .i64 0]) := (Box.new_at (w.alloc _) _ _ _ (by simp)).below b1
          have B1 : Hid (Below w.heap.size w w1) := (below2 w _ _).trans (b1.mono (by simp; omega))
          clear b1
          have c3 : w1.cell? ⟨w.heap.size + 1, 0, none⟩ = some (.slice none 0 0) := X1.out.cell 0
          have c4 : w1.cell? ⟨w.heap.size + 1, 1, none⟩ = some (.slice none 0 0) := X1.out.cell 1
          have c5 : w1.cell? ⟨w.heap.size + 1, 2, none⟩ = some (.int .i64 0) := X1.out.cell 2
          have c6 := X1.out.frozen 0
          have c7 := X1.out.frozen 1
          have c8 := X1.out.frozen 2
          go_wp2_with fail
          refine bodyPost_ret (v := .agg #[.slice none 0 0, .slice none 0 0, .int .i64 0]) (by simp [results, Try.results8, go_sem, c3, c4, c5]) rfl ?_
          exact memZ_new (((B1.out.setCell (by simp) _).setCell (by simp) _).setCell (by simp) _)
        · have HB := Lib.hid (show addrB t = false by simpa using hb)
          clear hb
          rw [HB.out]
          go_wp2_with fail
          refine bodyPost_ret (v := .agg #[.slice none 0 0, .slice none 0 0, .int .i64 0]) (by simp [results, Try.results8, go_sem]) rfl ?_
          exact memZ_new (below2 w _ _)
      · have HA := Lib.hid (show addrB f = false by simpa using ha)
        clear ha
        rw [HA.out]
        go_wp2_with fail
        refine bodyPost_ret (v := .agg #[.slice none 0 0, .slice none 0 0, .int .i64 0]) (by simp [results, Try.results8, go_sem]) rfl ?_
        exact memZ_new (below2 w _ _)
theorem wrap_sum (f j : Nat) (hf : f ≤ 100000) (hj : j ≤ 100000) (w : World) :
    Calls Try.prog 30 #[.int .i64 ((f : Int) + (j : Int))] w fun e w' => e = .returned (.int .i64 (((f + j) % 1024 : Nat) : Int)) ∧ w = w' := by
  have e : (((f : Int) + (j : Int)) % 1024) = (((f + j) % 1024 : Nat) : Int) := by omega
  rw [← e]
  clear e
  go_enter Try.func30, Try.ntmps30
  go_wp2
  go_ret
  exact ⟨rfl, rfl⟩
theorem impl_copy_yes (A : Option Addr) (n c : Nat) (R : Option Addr) (k d : Nat) (M : Mem) (fa fr : List Nat) (f t m : Nat) (w : World) (hi : Ints w A n M.ram fa) (hg : Grid w R k M.rom fr) (hn : n ≤ 1000000000) (hk : k ≤ 1000000000) (hs : ∀ i, (M.rom.getD i []).length ≤ 1000000000)
    (n1 : m ≤ 256) (hf : addrB f = true) (ht : addrB t = true) (hv : validB M = true) :
    Calls Try.prog 8 #[.agg #[.slice A n c, .slice R k d, .int .i64 M.bank], .int .i64 f, .int .i64 t, .int .i64 m] w (MemNew (copyN M f t m) w) := by
  have b00 := below2 w (.cells #[.slice A n c, .slice R k d, .int .i64 M.bank] 26) (.cells #[.slice none 0 0, .slice none 0 0, .int .i64 0] 26)
  have HI := Lib.hid (hi.below b00)
  have HG := Lib.hid (hg.below b00)
  have HS := Lib.hid hs
  have HA := Lib.hid hf
  have HB := Lib.hid ht
  have HV := Lib.hid hv
  have f1 : f < 1024 := by have := addrB_yes hf; omega
  have t1 : t < 1024 := by have := addrB_yes ht; omega
  have d0 : decide ((m : Int) < 0) = false := by simp
  have d1 : decide (256 < (m : Int)) = false := by simp; omega
  clear hi hg hs b00 hf ht hv
  go_enter Try.func8, Try.ntmps8
  go_wp2_with fail
  refine (isAddress_any _ _).mono ?_; rintro e w' ⟨rfl, rfl⟩
  rw [HA.out]
  go_wp2_with fail
  refine (isAddress_any _ _).mono ?_; rintro e w' ⟨rfl, rfl⟩
  rw [HB.out]
  go_wp2_with fail
  refine (impl_valid _ _ _ _ _ _ _ _ _ _ HI.out HG.out hn hk HS.out).mono ?_
  rintro e w1 ⟨rfl, b1⟩
  rw [HV.out]
  have X0 : Hid (Box w1 w.heap.size _ [.slice A n c, .slice R k d, .int .i64 M.bank]) := ((Box.new w _ _).alloc _).below b1
  have X1 : Hid (Box w1 (w.heap.size + 1) 26 [.slice none 0 0, .slice none 0 0, .int .i64 0]) := (Box.new_at (w.alloc _) _ _ _ (by simp)).below b1
  have I1 := Lib.hid (HI.out.below b1)
  have G1 := Lib.hid (HG.out.below b1)
  have B1 : Hid (Below w.heap.size w w1) := (below2 w _ _).trans (b1.mono (by simp; omega))
  have z1 : w.heap.size + 1 < w1.heap.size := X1.out.lt
  clear b1
  have c0 : w1.cell? ⟨w.heap.size, 0, none⟩ = some (.slice A n c) := X0.out.cell 0
  have c1 : w1.cell? ⟨w.heap.size, 1, none⟩ = some (.slice R k d) := X0.out.cell 1
  have c2 : w1.cell? ⟨w.heap.size, 2, none⟩ = some (.int .i64 M.bank) := X0.out.cell 2
  go_wp2_with fail
  refine (clone_mem A n c R k d M _ fr _ I1.out G1.out hn hk HS.out).mono ?_
  rintro e w2 ⟨A', n', c', R', k', d', fa', fr', rfl, hc', hd', i2, g2, n2, b2⟩
  have Y1 := Lib.hid ((X1.out.below b2).alloc (.cells #[.slice A' n' c', .slice R' k' d', .int .i64 M.bank] 26))
  have H2 := Lib.hid (mem_boxed (c := c') (d := d') i2 g2 n2 rfl)
  have B2 : Hid (Below w.heap.size w w2) := B1.out.trans (b2.mono (by omega))
  have z2 : w1.heap.size ≤ w2.heap.size := b2.size
  have HN := Lib.hid n2
  clear i2 g2 n2 b2 c0 c1 c2
  go_wp2_with fail
  go_loopw [37] (fun i wr => ∃ j : Nat, j ≤ m ∧ i = .int .i64 j ∧ MemIn wr w2.heap.size A' n' c' R' k' d' (copyN M f t j) fa' fr' w1.heap.size ∧ Box wr (w.heap.size + 1) 26 [.slice none 0 0, .slice none 0 0, .int .i64 0] ∧ Below w.heap.size w wr) (fun i _ => m - (intOf i).toNat)
  case atStart => exact ⟨0, Nat.zero_le _, rfl, H2.out, Y1.out, B2.out.alloc B2.out.size _⟩
  case round =>
    obtain ⟨j, hj, rfl, hm, hy, hb⟩ := hrel
    have HM := Lib.hid hm
    have HY := Lib.hid hy
    have HW := Lib.hid hb
    have GD := Lib.hid (good_copy (good_of HV.out) f t j)
    have BN := Lib.hid (copy_bank M f t j)
    clear hm hy hb H2 Y1
    by_cases hlt : j < m
    · have c0 : wr.cell? ⟨w2.heap.size, 0, none⟩ = some (.slice A' n' c') := HM.out.box.cell 0
      have c1 : wr.cell? ⟨w2.heap.size, 1, none⟩ = some (.slice R' k' d') := HM.out.box.cell 1
      have c2 : wr.cell? ⟨w2.heap.size, 2, none⟩ = some (.int .i64 (copyN M f t j).bank) := HM.out.box.cell 2
      have HM1 : Hid (MemIn wr.drew w2.heap.size A' n' c' R' k' d' (copyN M f t j) fa' fr' w1.heap.size) := HM.out.below (Below.refl _ _).drew
      have HY1 : Hid (Box wr.drew (w.heap.size + 1) 26 [.slice none 0 0, .slice none 0 0, .int .i64 0]) := HY.out
      have hs := HW.out.size
      have hwr : IntKind.i64.wrap ((f : Int) + (j : Int)) = (f : Int) + (j : Int) := by rw [IntKind.wrap_i64]; omega
      go_wp2_with fail
      go_region_law (first
        | (go_simp; go_at_call 30; refine (wrap_sum f j (by omega) (by omega) _).mono ?_; rintro e w' ⟨rfl, rfl⟩)
        | (go_simp; go_at_call 29; refine (readAt_any A' n' c' R' k' d' (copyN M f t j) fa' fr' ((f + j) % 1024) _ HM1.out.ram HM1.out.rom GD.out (by omega)).mono ?_; rintro e w3 ⟨rfl, b3⟩; have M3 := Lib.hid (HM1.out.below b3); have Y3 := Lib.hid (HY1.out.below b3); have W3 : Hid (Below w.heap.size w w3) := HW.out.drew.trans (b3.mono hs); clear b3))
      all_goals
       have x01 := readN_byte GD.out ((f + j) % 1024) (by omega)
       have HC := Lib.hid (copy_step M f t j)
       clear c0 c1 c2 HM HY HW HM1 HY1
       generalize readN (copyN M f t j) ((f + j) % 1024) = x at x01 HC
       obtain ⟨x0, x1⟩ := x01
       go_wp2_with fail
       rw [show (((t : Int) + (j : Int)) % 256) = (((t + j) % 256 : Nat) : Int) by omega]
       refine (writeAt_any w2.heap.size A' n' c' R' k' d' (copyN M f t j) fa' fr' _ ((t + j) % 256) x _ M3.out GD.out (by omega) x0 x1).mono ?_
       rintro e w4 ⟨rfl, m4, o4⟩
       rw [HC.out] at m4
       have M4 := Lib.hid m4
       have Y4 := Lib.hid (Y3.out.only o4 (fun h => by
         rcases List.mem_cons.1 h with h | h
         · omega
         · have := (HN.out.lt _ h).1; omega))
       have B4 : Hid (Below w.heap.size w w4) := W3.out.trans (o4.below (fun b hb => by
         rcases List.mem_cons.1 hb with h | h
         · omega
         · have := (HN.out.lt _ h).1; omega) W3.out.size)
       clear m4 o4 M3 Y3 W3
       go_wp2
       go_roundw
       case rel => exact ⟨j + 1, by omega, by go_num, M4.out, Y4.out, B4.out⟩
       case measure => simp [intOf]; omega
    · obtain rfl : j = m := by omega
      have c0 : wr.cell? ⟨w2.heap.size, 0, none⟩ = some (.slice A' n' c') := HM.out.box.cell 0
      have c1 : wr.cell? ⟨w2.heap.size, 1, none⟩ = some (.slice R' k' d') := HM.out.box.cell 1
      have c2 : wr.cell? ⟨w2.heap.size, 2, none⟩ = some (.int .i64 (copyN M f t j).bank) := HM.out.box.cell 2
      have c3 : wr.cell? ⟨w.heap.size + 1, 0, none⟩ = some (.slice none 0 0) := HY.out.cell 0
      have c4 : wr.cell? ⟨w.heap.size + 1, 1, none⟩ = some (.slice none 0 0) := HY.out.cell 1
      have c5 : wr.cell? ⟨w.heap.size + 1, 2, none⟩ = some (.int .i64 0) := HY.out.cell 2
      have c6 := HY.out.frozen 0
      have c7 := HY.out.frozen 1
      have c8 := HY.out.frozen 2
      go_wp2_with fail
      refine bodyPost_ret (v := .agg #[.slice A' n' c', .slice R' k' d', .int .i64 (copyN M f t j).bank]) (by simp [results, Try.results8, go_sem, c3, c4, c5]) rfl ?_
      exact mem_handed (M := copyN M f t j) HM.out.ram HM.out.rom HM.out.new hc' hd' HW.out (by omega)
theorem impl_copy (A : Option Addr) (n c : Nat) (R : Option Addr) (k d : Nat) (M : Mem) (fa fr : List Nat) (f t m : Int) (w : World) (hi : Ints w A n M.ram fa) (hg : Grid w R k M.rom fr) (hn : n ≤ 1000000000) (hk : k ≤ 1000000000) (hs : ∀ i, (M.rom.getD i []).length ≤ 1000000000) :
    Calls Try.prog 8 #[.agg #[.slice A n c, .slice R k d, .int .i64 M.bank], .int .i64 f, .int .i64 t, .int .i64 m] w (MemNew (copyM M f t m) w) := by
  unfold copyM
  by_cases h : (0 ≤ m ∧ m ≤ 256) ∧ addrB f = true ∧ addrB t = true ∧ validB M = true
  · rw [if_pos h]
    obtain ⟨⟨m0, m1⟩, hf, ht, hv⟩ := h
    obtain ⟨m, rfl⟩ := Int.eq_ofNat_of_zero_le m0
    obtain ⟨f, rfl⟩ := Int.eq_ofNat_of_zero_le (addrB_yes hf).1
    obtain ⟨t, rfl⟩ := Int.eq_ofNat_of_zero_le (addrB_yes ht).1
    exact impl_copy_yes A n c R k d M fa fr f t m w hi hg hn hk hs (by omega) hf ht hv
  · rw [if_neg h]
    exact impl_copy_no A n c R k d M fa fr f t m w hi hg hn hk hs h
end Go.Proofs.Ytbcibgfjdenheaa
