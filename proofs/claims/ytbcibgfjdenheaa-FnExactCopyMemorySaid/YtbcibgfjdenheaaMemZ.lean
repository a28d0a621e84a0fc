/- Contracts of the model's functions on memory (chapter 2): WriteMemory and CopyMemory. -/
import Derived.Test.YtbcibgfjdenheaaMemU
import Derived.Test.YtbcibgfjdenheaaMemV
namespace Go.Proofs.Ytbcibgfjdenheaa
open Go.ChangeShapes Go.WideShapes Go.ChangeAt Go.RowKit

theorem cell_far {w1 : World} {q b i o : Nat} {u y : Value} (h : w1.cell? ⟨q, i, none⟩ = some y) (hb : q ≠ b) : (w1.setCell ⟨b, o, none⟩ u).cell? ⟨q, i, none⟩ = some y := by
  rw [World.cell?_setCell_other _ _ _ _ (fun e => by injection e with e; exact hb e.symm)]; exact h
theorem ram_cell {w : World} {b o n : Nat} {xs : List Int} {fp : List Nat} (h : Ints w (some ⟨b, o, none⟩) n xs fp) {i : Nat} (hi : i < n) : ∃ x : Int, w.cell? ⟨b, o + i, none⟩ = some (.int .i64 x) := by
  obtain ⟨b', o', he, _, _, hc⟩ := h.at_ (by omega)
  injection he with he
  injection he with h1 h2 _
  subst h1 h2
  exact ⟨_, hc i hi⟩
theorem betB_n (m : Int) (h0 : 0 ≤ m) (h1 : m ≤ 256) : betB m 0 256 = true := by simp [betB, h0, h1]
theorem betB_n_no (m : Int) (h : ¬ (0 ≤ m ∧ m ≤ 256)) : betB m 0 256 = false := by
  by_cases h0 : 0 ≤ m
  · have : ¬ m ≤ 256 := fun h1 => h ⟨h0, h1⟩
    simp [betB, this]
  · simp [betB, h0]
theorem spec_copy_no (A : Option Addr) (n c : Nat) (R : Option Addr) (k d : Nat) (M : Mem) (fa fr : List Nat) (f t m : Int) (w : World) (hi : Ints w A n M.ram fa) (hg : Grid w R k M.rom fr) (hn : n ≤ 1000000000) (hk : k ≤ 1000000000) (hs : ∀ i, (M.rom.getD i []).length ≤ 1000000000)
    (h : ¬ ((0 ≤ m ∧ m ≤ 256) ∧ addrB f = true ∧ addrB t = true ∧ validB M = true)) :
    Calls Try.prog 10 #[.agg #[.slice A n c, .slice R k d, .int .i64 M.bank], .int .i64 f, .int .i64 t, .int .i64 m] w (MemNew memZ w) := by
  have b00 := below2 w (.cells #[.slice A n c, .slice R k d, .int .i64 M.bank] 26) (.cells #[.slice none 0 0, .slice none 0 0, .int .i64 0] 26)
  have HI := Lib.hid (hi.below b00)
  have HG := Lib.hid (hg.below b00)
  have HS := Lib.hid hs
  have HH := Lib.hid h
  clear hi hg hs b00 h
  go_enter Try.func10, Try.ntmps10
  go_wp2_with fail
  refine (spec_valid _ _ _ _ _ _ _ _ _ _ HI.out HG.out hn hk HS.out).mono ?_
  rintro e w1 ⟨rfl, b1⟩
  have X0 : Hid (Box w1 w.heap.size _ [.slice A n c, .slice R k d, .int .i64 M.bank]) := ((Box.new w _ _).alloc _).below b1
  have X1 : Hid (Box w1 (w.heap.size + 1) 26 [.slice none 0 0, .slice none 0 0, .int .i64 0]) := (Box.new_at (w.alloc _) _ _ _ (by simp)).below b1
  have I1 := Lib.hid (HI.out.below b1)
  have G1 := Lib.hid (HG.out.below b1)
  have B1 : Hid (Below w.heap.size w w1) := (below2 w _ _).trans (b1.mono (by simp; omega))
  have z1 : w.heap.size + 1 < w1.heap.size := X1.out.lt
  clear b1
  by_cases hv : validB M = true
  · have HV := Lib.hid hv
    clear hv
    rw [HV.out]
    go_wp2_with fail
    refine (l1In_any _ _ _ _).mono ?_; rintro e w' ⟨rfl, rfl⟩
    rw [betB_addr]
    by_cases ha : addrB f = true
    · have HA := Lib.hid ha
      clear ha
      rw [HA.out]
      go_wp2_with fail
      refine (l1In_any _ _ _ _).mono ?_; rintro e w' ⟨rfl, rfl⟩
      rw [betB_addr]
      by_cases hb : addrB t = true
      · have HB := Lib.hid hb
        have HM := Lib.hid (betB_n_no m (fun hm => HH.out ⟨hm, HA.out, hb, HV.out⟩))
        clear hb
        rw [HB.out]
        go_wp2_with fail
        refine (l1In_any _ _ _ _).mono ?_; rintro e w' ⟨rfl, rfl⟩
        rw [HM.out]
        have e3 : w1.cell? ⟨w.heap.size + 1, 0, none⟩ = some (.slice none 0 0) := X1.out.cell 0
        have e4 : w1.cell? ⟨w.heap.size + 1, 1, none⟩ = some (.slice none 0 0) := X1.out.cell 1
        have e5 : w1.cell? ⟨w.heap.size + 1, 2, none⟩ = some (.int .i64 0) := X1.out.cell 2
        have e6 := X1.out.frozen 0
        have e7 := X1.out.frozen 1
        have e8 := X1.out.frozen 2
        go_wp2_with fail
        refine bodyPost_ret (v := .agg #[.slice none 0 0, .slice none 0 0, .int .i64 0]) (by simp [results, Try.results10, go_sem, e3, e4, e5]) rfl ?_
        exact memZ_new (((B1.out.setCell (by simp) _).setCell (by simp) _).setCell (by simp) _)
      · have HB := Lib.hid (show addrB t = false by simpa using hb)
        clear hb
        rw [HB.out]
        have e3 : w1.cell? ⟨w.heap.size + 1, 0, none⟩ = some (.slice none 0 0) := X1.out.cell 0
        have e4 : w1.cell? ⟨w.heap.size + 1, 1, none⟩ = some (.slice none 0 0) := X1.out.cell 1
        have e5 : w1.cell? ⟨w.heap.size + 1, 2, none⟩ = some (.int .i64 0) := X1.out.cell 2
        have e6 := X1.out.frozen 0
        have e7 := X1.out.frozen 1
        have e8 := X1.out.frozen 2
        go_wp2_with fail
        refine bodyPost_ret (v := .agg #[.slice none 0 0, .slice none 0 0, .int .i64 0]) (by simp [results, Try.results10, go_sem, e3, e4, e5]) rfl ?_
        exact memZ_new (((B1.out.setCell (by simp) _).setCell (by simp) _).setCell (by simp) _)
    · have HA := Lib.hid (show addrB f = false by simpa using ha)
      clear ha
      rw [HA.out]
      have e3 : w1.cell? ⟨w.heap.size + 1, 0, none⟩ = some (.slice none 0 0) := X1.out.cell 0
      have e4 : w1.cell? ⟨w.heap.size + 1, 1, none⟩ = some (.slice none 0 0) := X1.out.cell 1
      have e5 : w1.cell? ⟨w.heap.size + 1, 2, none⟩ = some (.int .i64 0) := X1.out.cell 2
      have e6 := X1.out.frozen 0
      have e7 := X1.out.frozen 1
      have e8 := X1.out.frozen 2
      go_wp2_with fail
      refine bodyPost_ret (v := .agg #[.slice none 0 0, .slice none 0 0, .int .i64 0]) (by simp [results, Try.results10, go_sem, e3, e4, e5]) rfl ?_
      exact memZ_new (((B1.out.setCell (by simp) _).setCell (by simp) _).setCell (by simp) _)
  · have HV := Lib.hid (show validB M = false by simpa using hv)
    clear hv
    rw [HV.out]
    have e3 : w1.cell? ⟨w.heap.size + 1, 0, none⟩ = some (.slice none 0 0) := X1.out.cell 0
    have e4 : w1.cell? ⟨w.heap.size + 1, 1, none⟩ = some (.slice none 0 0) := X1.out.cell 1
    have e5 : w1.cell? ⟨w.heap.size + 1, 2, none⟩ = some (.int .i64 0) := X1.out.cell 2
    have e6 := X1.out.frozen 0
    have e7 := X1.out.frozen 1
    have e8 := X1.out.frozen 2
    go_wp2_with fail
    refine bodyPost_ret (v := .agg #[.slice none 0 0, .slice none 0 0, .int .i64 0]) (by simp [results, Try.results10, go_sem, e3, e4, e5]) rfl ?_
    exact memZ_new (((B1.out.setCell (by simp) _).setCell (by simp) _).setCell (by simp) _)
set_option maxRecDepth 100000 in
theorem spec_copy_yes (A : Option Addr) (n c : Nat) (R : Option Addr) (k d : Nat) (M : Mem) (fa fr : List Nat) (f t m : Nat) (w : World) (hi : Ints w A n M.ram fa) (hg : Grid w R k M.rom fr) (hn : n ≤ 1000000000) (hk : k ≤ 1000000000) (hs : ∀ i, (M.rom.getD i []).length ≤ 1000000000)
    (n1 : m ≤ 256) (hf : addrB f = true) (ht : addrB t = true) (hv : validB M = true) :
    Calls Try.prog 10 #[.agg #[.slice A n c, .slice R k d, .int .i64 M.bank], .int .i64 f, .int .i64 t, .int .i64 m] w (MemNew (copyN M f t m) w) := by
  have b00 := below2 w (.cells #[.slice A n c, .slice R k d, .int .i64 M.bank] 26) (.cells #[.slice none 0 0, .slice none 0 0, .int .i64 0] 26)
  have HI := Lib.hid (hi.below b00)
  have HG := Lib.hid (hg.below b00)
  have HS := Lib.hid hs
  have HA := Lib.hid hf
  have HB := Lib.hid ht
  have HV := Lib.hid hv
  have HBN := Lib.hid (betB_n (m : Int) (by omega) (by omega))
  have f1 : f < 1024 := by have := addrB_yes hf; omega
  have t1 : t < 1024 := by have := addrB_yes ht; omega
  clear hi hg hs b00 hf ht hv
  go_enter Try.func10, Try.ntmps10
  go_wp2_with fail
  refine (spec_valid _ _ _ _ _ _ _ _ _ _ HI.out HG.out hn hk HS.out).mono ?_
  rintro e w1 ⟨rfl, b1⟩
  have X0 : Hid (Box w1 w.heap.size _ [.slice A n c, .slice R k d, .int .i64 M.bank]) := ((Box.new w _ _).alloc _).below b1
  have X1 : Hid (Box w1 (w.heap.size + 1) 26 [.slice none 0 0, .slice none 0 0, .int .i64 0]) := (Box.new_at (w.alloc _) _ _ _ (by simp)).below b1
  have I1 := Lib.hid (HI.out.below b1)
  have G1 := Lib.hid (HG.out.below b1)
  have B1 : Hid (Below w.heap.size w w1) := (below2 w _ _).trans (b1.mono (by simp; omega))
  have z1 : w.heap.size + 1 < w1.heap.size := X1.out.lt
  clear b1
  rw [HV.out]
  go_wp2_with fail
  refine (l1In_any _ _ _ _).mono ?_; rintro e w' ⟨rfl, rfl⟩
  rw [betB_addr, HA.out]
  go_wp2_with fail
  refine (l1In_any _ _ _ _).mono ?_; rintro e w' ⟨rfl, rfl⟩
  rw [betB_addr, HB.out]
  go_wp2_with fail
  refine (l1In_any _ _ _ _).mono ?_; rintro e w' ⟨rfl, rfl⟩
  rw [HBN.out]
  have c0 : w1.cell? ⟨w.heap.size, 0, none⟩ = some (.slice A n c) := X0.out.cell 0
  have c1 : w1.cell? ⟨w.heap.size, 1, none⟩ = some (.slice R k d) := X0.out.cell 1
  have c2 : w1.cell? ⟨w.heap.size, 2, none⟩ = some (.int .i64 M.bank) := X0.out.cell 2
  go_wp2_with fail
  refine (l2Copy_any A n c R k d M _ fr _ I1.out G1.out hn hk HS.out).mono ?_
  rintro e w2 ⟨A', n', c', R', k', d', fa', fr', rfl, hc', hd', i2, g2, n2, b2⟩
  have Y1 := Lib.hid ((X1.out.below b2).alloc (.cells #[.slice A' n' c', .slice R' k' d', .int .i64 M.bank] 26))
  have H2 := Lib.hid (mem_boxed (c := c') (d := d') i2 g2 n2 rfl)
  have B2 : Hid (Below w.heap.size w w2) := B1.out.trans (b2.mono (by omega))
  have z2 : w1.heap.size ≤ w2.heap.size := b2.size
  have HN := Lib.hid n2
  clear i2 g2 n2 b2 c0 c1 c2
  go_wp2_with fail
  go_loopw [10] (fun i wr => ∃ j : Nat, j ≤ m ∧ i = .int .i64 j ∧ MemIn wr w2.heap.size A' n' c' R' k' d' (copyN M f t j) fa' fr' w1.heap.size ∧ Box wr (w.heap.size + 1) 26 [.slice none 0 0, .slice none 0 0, .int .i64 0] ∧ Below w.heap.size w wr) (fun i _ => m - (intOf i).toNat)
  case atStart => exact ⟨0, Nat.zero_le _, rfl, H2.out, Y1.out, B2.out.alloc B2.out.size _⟩
  case round =>
    obtain ⟨j, hj, rfl, hm, hy, hb⟩ := hrel
    have HM := Lib.hid hm
    have HY := Lib.hid hy
    have HW := Lib.hid hb
    have GD := Lib.hid (good_copy (good_of HV.out) f t j)
    clear hm hy hb H2 Y1
    by_cases hlt : j < m
    · have hn' : n' = 256 := by have := HM.out.ram.1; have := GD.out.ram; omega
      subst hn'
      obtain ⟨b, o, rfl, hfa, hbl, hc⟩ := HM.out.ram.at_ (by omega)
      have HF := Lib.hid (show b ∈ fa' by rw [hfa]; simp)
      have HQ := Lib.hid (show w2.heap.size ≠ b from fun e => HM.out.off (List.mem_append_left _ (e ▸ HF.out)))
      clear hc hfa
      have c0 : wr.cell? ⟨w2.heap.size, 0, none⟩ = some (.slice (some ⟨b, o, none⟩) 256 c') := HM.out.box.cell 0
      have c1 : wr.cell? ⟨w2.heap.size, 1, none⟩ = some (.slice R' k' d') := HM.out.box.cell 1
      have c2 : wr.cell? ⟨w2.heap.size, 2, none⟩ = some (.int .i64 (copyN M f t j).bank) := HM.out.box.cell 2
      go_wp2_with fail
      have y1 : IntKind.i64.wrap ((t : Int) + (j : Int)) = (t : Int) + (j : Int) := IntWalk.i64_in _ (by omega)
      have y2 : IntKind.i64.wrap ((f : Int) + (j : Int)) = (f : Int) + (j : Int) := IntWalk.i64_in _ (by omega)
      obtain ⟨u, hu⟩ : ∃ u : Nat, u = (t + j) % 256 := ⟨_, rfl⟩
      have u1 : u < 256 := by omega
      have y3 : ((t : Int) + (j : Int)).tmod 256 = (u : Int) := by rw [Int.tmod_eq_emod_of_nonneg (by omega)]; omega
      have HU := Lib.hid hu
      clear hu
      have i0 : (0 : Int) ≤ (u : Int) := by omega
      have i1 : (u : Int) < 256 := by omega
      have y4 : ((f : Int) + (j : Int)).tmod 1024 = (((f + j) % 1024 : Nat) : Int) := by rw [Int.tmod_eq_emod_of_nonneg (by omega)]; omega
      have MD : Hid (MemIn wr.drew w2.heap.size (some ⟨b, o, none⟩) 256 c' R' k' d' (copyN M f t j) fa' fr' w1.heap.size) := HM.out.below (Below.refl _ _).drew
      have x01 := readN_byte GD.out ((f + j) % 1024) (by omega)
      go_region_held3 (fun w' => w'.cell? ⟨w2.heap.size, 0, none⟩ = some (.slice (some ⟨b, o, none⟩) 256 c') ∧ w'.cell? ⟨w2.heap.size, 1, none⟩ = some (.slice R' k' d') ∧ w'.cell? ⟨w2.heap.size, 2, none⟩ = some (.int .i64 (copyN M f t j).bank))
        (first
          | exact ⟨s0, s1, s2⟩
          | exact ⟨cell_far s0 HQ.out, cell_far s1 HQ.out, cell_far s2 HQ.out⟩
          | go_keep)
        (first
          | (go_at_call 36; refine (l2Read_any (some ⟨b, o, none⟩) 256 c' R' k' d' (copyN M f t j) fa' fr' ((f + j) % 1024) _ MD.out.ram MD.out.rom GD.out (by omega)).mono ?_; rintro e w3 ⟨rfl, b3⟩; have M3 := Lib.hid (MD.out.below b3); have s0 : w3.cell? ⟨w2.heap.size, 0, none⟩ = some (.slice (some ⟨b, o, none⟩) 256 c') := M3.out.box.cell 0; have s1 : w3.cell? ⟨w2.heap.size, 1, none⟩ = some (.slice R' k' d') := M3.out.box.cell 1; have s2 : w3.cell? ⟨w2.heap.size, 2, none⟩ = some (.int .i64 (copyN M f t j).bank) := M3.out.box.cell 2; obtain ⟨ov, s3⟩ := ram_cell M3.out.ram u1; have s4 := M3.out.new.free b (List.mem_append_left _ HF.out) (o + u)))
      have EC := Lib.hid (show ({ copyN M f t j with ram := (copyN M f t j).ram.set u (readN (copyN M f t j) ((f + j) % 1024)) } : Mem) = copyN M f t (j + 1) by rw [HU.out]; rfl)
      have M4 := Lib.hid (M3.out.setRam HF.out u1 (readN (copyN M f t j) ((f + j) % 1024))).1
      rw [EC.out] at M4
      have zb : w1.heap.size ≤ b := (HN.out.lt b (List.mem_append_left _ HF.out)).1
      have Y4 : Hid (Box w3 (w.heap.size + 1) 26 [.slice none 0 0, .slice none 0 0, .int .i64 0]) := (show Box wr.drew (w.heap.size + 1) 26 [.slice none 0 0, .slice none 0 0, .int .i64 0] from HY.out).below b3
      have W4 : Hid (Below w.heap.size w w3) := HW.out.drew.trans (b3.mono HW.out.size)
      clear b3 s0 s1 s2 s3 s4 c0 c1 c2 y1 y2 y3 y4 x01 HM HY HW MD M3
      generalize readN (copyN M f t j) ((f + j) % 1024) = x at M4
      go_wp2
      go_roundw
      case rel => exact ⟨j + 1, by omega, by go_num, M4.out, Y4.out.far (by omega) _, W4.out.setCell (by simp; omega) _⟩
      case measure => simp [intOf]; omega
    · obtain rfl : j = m := by omega
      have c0 : wr.cell? ⟨w2.heap.size, 0, none⟩ = some (.slice A' n' c') := HM.out.box.cell 0
      have c1 : wr.cell? ⟨w2.heap.size, 1, none⟩ = some (.slice R' k' d') := HM.out.box.cell 1
      have c2 : wr.cell? ⟨w2.heap.size, 2, none⟩ = some (.int .i64 (copyN M f t j).bank) := HM.out.box.cell 2
      have c3 : wr.cell? ⟨w.heap.size + 1, 0, none⟩ = some (.slice none 0 0) := HY.out.cell 0
      have c4 : wr.cell? ⟨w.heap.size + 1, 1, none⟩ = some (.slice none 0 0) := HY.out.cell 1
      have c5 : wr.cell? ⟨w.heap.size + 1, 2, none⟩ = some (.int .i64 0) := HY.out.cell 2
      have c6 := HY.out.frozen 0
      have c7 := HY.out.frozen 1
      have c8 := HY.out.frozen 2
      go_wp2_with fail
      refine bodyPost_ret (v := .agg #[.slice A' n' c', .slice R' k' d', .int .i64 (copyN M f t j).bank]) (by simp [results, Try.results10, go_sem, c3, c4, c5]) rfl ?_
      exact mem_handed (M := copyN M f t j) HM.out.ram HM.out.rom HM.out.new hc' hd' HW.out (by omega)
theorem spec_copy (A : Option Addr) (n c : Nat) (R : Option Addr) (k d : Nat) (M : Mem) (fa fr : List Nat) (f t m : Int) (w : World) (hi : Ints w A n M.ram fa) (hg : Grid w R k M.rom fr) (hn : n ≤ 1000000000) (hk : k ≤ 1000000000) (hs : ∀ i, (M.rom.getD i []).length ≤ 1000000000) :
    Calls Try.prog 10 #[.agg #[.slice A n c, .slice R k d, .int .i64 M.bank], .int .i64 f, .int .i64 t, .int .i64 m] w (MemNew (copyM M f t m) w) := by
  unfold copyM
  by_cases h : (0 ≤ m ∧ m ≤ 256) ∧ addrB f = true ∧ addrB t = true ∧ validB M = true
  · rw [if_pos h]
    obtain ⟨⟨m0, m1⟩, hf, ht, hv⟩ := h
    obtain ⟨m, rfl⟩ := Int.eq_ofNat_of_zero_le m0
    obtain ⟨f, rfl⟩ := Int.eq_ofNat_of_zero_le (addrB_yes hf).1
    obtain ⟨t, rfl⟩ := Int.eq_ofNat_of_zero_le (addrB_yes ht).1
    exact spec_copy_yes A n c R k d M fa fr f t m w hi hg hn hk hs (by omega) hf ht hv
  · rw [if_neg h]
    exact spec_copy_no A n c R k d M fa fr f t m w hi hg hn hk hs h
end Go.Proofs.Ytbcibgfjdenheaa
