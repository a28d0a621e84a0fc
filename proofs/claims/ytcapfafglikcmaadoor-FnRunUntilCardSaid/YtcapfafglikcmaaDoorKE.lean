import Derived.Test.YtcapfafglikcmaaDoorKB
import Derived.Test.YtcapfafglikcmaaDoorKA
import Derived.Lib.SliceRun
import Derived.Deep.RegionHeld3

section
/- Contracts of the program's functions on memory (chapter 2): tests. -/
namespace Go.Proofs.YtcapfafglikcmaaDoor
open Go.ChangeShapes Go.WideShapes Go.ChangeAt Go.RowKit

theorem isBank_any (A : Option Addr) (n c : Nat) (xs : List Int) (fa : List Nat) (w : World) (ha : Ints w A n xs fa) (hn : n ≤ 1000000000) :
    Calls Tryd.prog 51 #[.slice A n c] w fun e w' => e = .returned (.bool (bankB xs)) ∧ w = w' := by
  have HA := Lib.hid ha
  have HL := Lib.hid ha.1
  clear ha
  by_cases h : n = 256
  · have HE := Lib.hid (show bankB xs = bytesB xs by have := HL.out; simp [bankB, this, h])
    have hq : ((n : Int) == 256) = true := by simp; omega
    clear h
    go_enter Tryd.func51, Tryd.ntmps51
    go_wp2_with fail
    refine (allBytes_any _ _ _ _ _ _ HA.out hn).mono ?_; rintro e w' ⟨rfl, rfl⟩
    go_wp2_with fail
    go_ret
    exact ⟨ret_bool HE.out.symm, rfl⟩
  · have HE := Lib.hid (show bankB xs = false by have := HL.out; simp [bankB, this, h])
    have hq : ((n : Int) == 256) = false := by simp; omega
    clear h
    go_enter Tryd.func51, Tryd.ntmps51
    go_wp2_with fail
    go_ret
    exact ⟨ret_bool HE.out.symm, rfl⟩
theorem isAddress_any (a : Int) (w : World) : Calls Tryd.prog 34 #[.int .i64 a] w fun e w' => e = .returned (.bool (addrB a)) ∧ w = w' := by
  by_cases h0 : 0 ≤ a
  · by_cases h1 : a ≤ 1023
    · have e : addrB a = true := by simp [addrB, h0, h1]
      rw [e]
      clear e
      go_enter Tryd.func34, Tryd.ntmps34
      go_wp2
      go_ret
      exact ⟨rfl, rfl⟩
    · have e : addrB a = false := by simp [addrB, h1]
      have hd : decide (a ≤ 1023) = false := by simp; omega
      rw [e]
      clear e h1
      go_enter Tryd.func34, Tryd.ntmps34
      go_wp2
      go_ret
      exact ⟨rfl, rfl⟩
  · have e : addrB a = false := by simp [addrB, h0]
    have hd : decide (0 ≤ a) = false := by simp; omega
    rw [e]
    clear e h0
    go_enter Tryd.func34, Tryd.ntmps34
    go_wp2
    go_ret
    exact ⟨rfl, rfl⟩
theorem impl_valid (A : Option Addr) (n c : Nat) (R : Option Addr) (k d : Nat) (M : Mem) (fa fr : List Nat) (w : World) (hi : Ints w A n M.ram fa) (hg : Grid w R k M.rom fr) (hn : n ≤ 1000000000) (hk : k ≤ 1000000000) (hs : ∀ i, (M.rom.getD i []).length ≤ 1000000000) :
    Calls Tryd.prog 36 #[.agg #[.slice A n c, .slice R k d, .int .i64 M.bank]] w fun e w' => e = .returned (.bool (validB M)) ∧ Below w.heap.size w w' := by
  have HI := Lib.hid hi
  have HG := Lib.hid hg
  have HS := Lib.hid hs
  have HL := Lib.hid hg.len
  have HG1 := Lib.hid (hg.below (below1 w (.cells #[.slice A n c, .slice R k d, .int .i64 M.bank] 26)))
  clear hi hg hs
  by_cases hr : bankB M.ram = true
  · have HR := Lib.hid hr
    clear hr
    by_cases h4 : k ≤ 4
    · go_enter Tryd.func36, Tryd.ntmps36
      go_wp2_with fail
      refine (isBank_any _ _ _ _ _ _ (HI.out.below (below1 w _)) hn).mono ?_; rintro e w' ⟨rfl, rfl⟩
      rw [HR.out]
      go_wp2_with fail
      go_loop [18] (fun i => ∃ j : Nat, j ≤ k ∧ i = .int .i64 j ∧ ∀ q, q < j → bankB (M.rom.getD q []) = true) (fun i => k - (intOf i).toNat)
      case atStart => exact ⟨0, Nat.zero_le _, rfl, fun j hj => by omega⟩
      case round =>
        obtain ⟨j, hj, rfl, hm⟩ := hrel
        have HM := Lib.hid hm
        clear hm
        by_cases hlt : j < k
        · obtain ⟨p, o, a, m, e, f', rfl, hp, c1, _, i1, _⟩ := HG1.out.row hlt
          have I1 := Lib.hid i1
          have hm : m ≤ 1000000000 := by have := i1.1; have := HS.out j; omega
          clear i1
          by_cases hb : bankB (M.rom.getD j []) = true
          · have HB := Lib.hid hb
            clear hb
            go_wp2_with fail
            refine (isBank_any _ _ _ _ _ _ I1.out hm).mono ?_; rintro e w' ⟨rfl, rfl⟩
            rw [HB.out]
            go_wp2_with fail
            go_round
            case rel => exact ⟨j + 1, by omega, by go_num, fun q hq => by
              by_cases h : q = j
              · subst h; exact HB.out
              · exact HM.out q (by omega)⟩
            case measure => simp [intOf]; omega
          · have HB := Lib.hid (show bankB (M.rom.getD j []) = false by simpa using hb)
            have HF := Lib.hid (show validB M = false by simp [validB, banksB_no M.rom j (by rw [HL.out]; exact hlt) HB.out])
            clear hb
            go_wp2_with fail
            refine (isBank_any _ _ _ _ _ _ I1.out hm).mono ?_; rintro e w' ⟨rfl, rfl⟩
            rw [HB.out]
            go_wp2_with fail
            go_ret
            exact ⟨ret_bool HF.out.symm, below1 w _⟩
        · have HB := Lib.hid ((banksB_iff M.rom).2 fun i hi => HM.out i (by have := HL.out; omega))
          by_cases hb0 : 0 ≤ M.bank
          · by_cases hb1 : M.bank < k
            · by_cases hk1 : 1 ≤ k
              · have HF := Lib.hid (show validB M = true by simp [validB, HR.out, HB.out, HL.out, hk1, h4, hb0, hb1])
                go_wp2
                go_ret
                exact ⟨ret_bool HF.out.symm, below1 w _⟩
              · omega
            · have HF := Lib.hid (show validB M = false by simp [validB, HL.out, hb1])
              have hd : decide (M.bank < (k : Int)) = false := by simp; omega
              clear hb1
              go_wp2
              go_ret
              exact ⟨ret_bool HF.out.symm, below1 w _⟩
          · have HF := Lib.hid (show validB M = false by simp [validB, hb0])
            have hd : decide (0 ≤ M.bank) = false := by simp; omega
            clear hb0
            go_wp2
            go_ret
            exact ⟨ret_bool HF.out.symm, below1 w _⟩
    · have HF := Lib.hid (show validB M = false by simp [validB, HL.out, h4])
      go_enter Tryd.func36, Tryd.ntmps36
      go_wp2_with fail
      refine (isBank_any _ _ _ _ _ _ (HI.out.below (below1 w _)) hn).mono ?_; rintro e w' ⟨rfl, rfl⟩
      rw [HR.out]
      go_wp2_with fail
      go_ret
      exact ⟨ret_bool HF.out.symm, below1 w _⟩
  · have HR := Lib.hid (show bankB M.ram = false by simpa using hr)
    have HF := Lib.hid (show validB M = false by simp [validB, HR.out])
    clear hr
    go_enter Tryd.func36, Tryd.ntmps36
    go_wp2_with fail
    refine (isBank_any _ _ _ _ _ _ (HI.out.below (below1 w _)) hn).mono ?_; rintro e w' ⟨rfl, rfl⟩
    rw [HR.out]
    go_wp2_with fail
    go_ret
    exact ⟨ret_bool HF.out.symm, below1 w _⟩
end Go.Proofs.YtcapfafglikcmaaDoor
end

section
/- Contracts of the model's functions on memory (chapter 2): tests. -/
namespace Go.Proofs.YtcapfafglikcmaaDoor
open Go.ChangeShapes Go.WideShapes Go.ChangeAt Go.RowKit

theorem l2Bytes_any (A : Option Addr) (n c : Nat) (xs : List Int) (fa : List Nat) (w : World) (ha : Ints w A n xs fa) (hn : n ≤ 1000000000) :
    Calls Tryd.prog 49 #[.slice A n c, .int .i64 256] w fun e w' => e = .returned (.bool (bankB xs)) ∧ w = w' := by
  have HA := Lib.hid ha
  have HL := Lib.hid ha.1
  clear ha
  go_enter Tryd.func49, Tryd.ntmps49
  go_wp2
  go_loop [5] (fun i => ∃ k : Nat, k ≤ n ∧ i = .int .i64 k ∧ ∀ j, j < k → byteB (xs.getD j 0) = true) (fun i => n - (intOf i).toNat)
  case atStart => exact ⟨0, Nat.zero_le _, rfl, fun j hj => by omega⟩
  case round =>
    obtain ⟨k, hk, rfl, hm⟩ := hrel
    have HM := Lib.hid hm
    clear hm
    by_cases hlt : k < n
    · obtain ⟨p, o, rfl, hfp, hp, hc⟩ := HA.out.at_ (by omega)
      have c1 := hc k hlt
      obtain ⟨x, hx⟩ : ∃ x, x = xs.getD k 0 := ⟨_, rfl⟩
      rw [← hx] at c1
      have HX := Lib.hid hx
      clear hc hfp hx
      by_cases hb : byteB x = true
      · have HB := Lib.hid hb
        clear hb
        go_wp2_with fail
        refine (l1Byte_any _ _).mono ?_; rintro e w' ⟨rfl, rfl⟩
        rw [HB.out]
        go_wp2_with fail
        go_round
        case rel => exact ⟨k + 1, by omega, by go_num, fun j hj => by
          by_cases h : j = k
          · subst h; rw [← HX.out]; exact HB.out
          · exact HM.out j (by omega)⟩
        case measure => simp [intOf]; omega
      · have HB := Lib.hid (show byteB x = false by simpa using hb)
        have HF := Lib.hid (show bankB xs = false by simp [bankB, bytesB_no xs k (by rw [HL.out]; exact hlt) (by rw [← HX.out]; exact HB.out)])
        clear hb
        go_wp2_with fail
        refine (l1Byte_any _ _).mono ?_; rintro e w' ⟨rfl, rfl⟩
        rw [HB.out]
        go_wp2_with fail
        go_ret
        exact ⟨ret_bool HF.out.symm, rfl⟩
    · have HF := Lib.hid ((bytesB_iff xs).2 fun i hi => HM.out i (by have := HL.out; omega))
      by_cases h : n = 256
      · have HE := Lib.hid (show bankB xs = true by simp [bankB, HF.out, HL.out, h])
        have hq : ((n : Int) == 256) = true := by simp; omega
        clear h
        go_wp2
        go_ret
        exact ⟨ret_bool HE.out.symm, rfl⟩
      · have HE := Lib.hid (show bankB xs = false by simp [bankB, HL.out, h])
        have hq : ((n : Int) == 256) = false := by simp; omega
        clear h
        go_wp2
        go_ret
        exact ⟨ret_bool HE.out.symm, rfl⟩
theorem spec_valid (A : Option Addr) (n c : Nat) (R : Option Addr) (k d : Nat) (M : Mem) (fa fr : List Nat) (w : World) (hi : Ints w A n M.ram fa) (hg : Grid w R k M.rom fr) (hn : n ≤ 1000000000) (hk : k ≤ 1000000000) (hs : ∀ i, (M.rom.getD i []).length ≤ 1000000000) :
    Calls Tryd.prog 31 #[.agg #[.slice A n c, .slice R k d, .int .i64 M.bank]] w fun e w' => e = .returned (.bool (validB M)) ∧ Below w.heap.size w w' := by
  have HI := Lib.hid hi
  have HS := Lib.hid hs
  have HL := Lib.hid hg.len
  have HG1 := Lib.hid (hg.below (below1 w (.cells #[.slice A n c, .slice R k d, .int .i64 M.bank] 26)))
  clear hi hg hs
  go_enter Tryd.func31, Tryd.ntmps31
  go_wp2_with fail
  go_loop [3] (fun i => ∃ j : Nat, j ≤ k ∧ i = .int .i64 j ∧ ∀ q, q < j → bankB (M.rom.getD q []) = true) (fun i => k - (intOf i).toNat)
  case atStart => exact ⟨0, Nat.zero_le _, rfl, fun j hj => by omega⟩
  case round =>
    obtain ⟨j, hj, rfl, hm⟩ := hrel
    have HM := Lib.hid hm
    clear hm
    by_cases hlt : j < k
    · obtain ⟨p, o, a, m, e, f', rfl, hp, c1, _, i1, _⟩ := HG1.out.row hlt
      have I1 := Lib.hid i1
      have hm : m ≤ 1000000000 := by have := i1.1; have := HS.out j; omega
      clear i1
      by_cases hb : bankB (M.rom.getD j []) = true
      · have HB := Lib.hid hb
        clear hb
        go_wp2_with fail
        refine (l2Bytes_any _ _ _ _ _ _ I1.out hm).mono ?_; rintro e w' ⟨rfl, rfl⟩
        rw [HB.out]
        go_wp2_with fail
        go_round
        case rel => exact ⟨j + 1, by omega, by go_num, fun q hq => by
          by_cases h : q = j
          · subst h; exact HB.out
          · exact HM.out q (by omega)⟩
        case measure => simp [intOf]; omega
      · have HB := Lib.hid (show bankB (M.rom.getD j []) = false by simpa using hb)
        have HF := Lib.hid (show validB M = false by simp [validB, banksB_no M.rom j (by rw [HL.out]; exact hlt) HB.out])
        clear hb
        go_wp2_with fail
        refine (l2Bytes_any _ _ _ _ _ _ I1.out hm).mono ?_; rintro e w' ⟨rfl, rfl⟩
        rw [HB.out]
        go_wp2_with fail
        go_ret
        exact ⟨ret_bool HF.out.symm, below1 w _⟩
    · have HB := Lib.hid ((banksB_iff M.rom).2 fun i hi => HM.out i (by have := HL.out; omega))
      by_cases hr : bankB M.ram = true
      · have HR := Lib.hid hr
        clear hr
        by_cases hk4 : betB k 1 4 = true
        · have HK := Lib.hid hk4
          obtain ⟨k1, k4⟩ := betB_yes hk4
          clear hk4
          have HV := Lib.hid (show validB M = betB M.bank 0 ((k : Int) - 1) by
            have e1 : decide (1 ≤ M.rom.length) = true := by rw [HL.out]; simp; omega
            have e2 : decide (M.rom.length ≤ 4) = true := by rw [HL.out]; simp; omega
            have e3 : decide (M.bank < (M.rom.length : Int)) = decide (M.bank ≤ (k : Int) - 1) := by rw [HL.out]; congr 1; exact propext ⟨fun h => by omega, fun h => by omega⟩
            simp only [validB, HR.out, HB.out, e1, e2, e3, betB, Bool.true_and])
          go_wp2_with fail
          refine (l2Bytes_any _ _ _ _ _ _ (HI.out.below (below1 w _)) hn).mono ?_; rintro e w' ⟨rfl, rfl⟩
          rw [HR.out]
          go_wp2_with fail
          refine (l1In_any _ _ _ _).mono ?_; rintro e w' ⟨rfl, rfl⟩
          rw [HK.out]
          go_wp2_with fail
          refine (l1In_any _ _ _ _).mono ?_; rintro e w' ⟨rfl, rfl⟩
          go_wp2_with fail
          go_ret
          exact ⟨ret_bool HV.out.symm, below1 w _⟩
        · have HK := Lib.hid (show betB k 1 4 = false by simpa using hk4)
          have HF := Lib.hid (show validB M = false by
            have e := HK.out
            have : decide (1 ≤ M.rom.length) = false ∨ decide (M.rom.length ≤ 4) = false := by
              rw [HL.out]
              by_cases h : 1 ≤ k
              · by_cases h' : k ≤ 4
                · exfalso; simp [betB] at e; omega
                · right; simpa using h'
              · left; simpa using h
            rcases this with h | h <;> simp [validB, h])
          clear hk4
          go_wp2_with fail
          refine (l2Bytes_any _ _ _ _ _ _ (HI.out.below (below1 w _)) hn).mono ?_; rintro e w' ⟨rfl, rfl⟩
          rw [HR.out]
          go_wp2_with fail
          refine (l1In_any _ _ _ _).mono ?_; rintro e w' ⟨rfl, rfl⟩
          rw [HK.out]
          go_wp2_with fail
          go_ret
          exact ⟨ret_bool HF.out.symm, below1 w _⟩
      · have HR := Lib.hid (show bankB M.ram = false by simpa using hr)
        have HF := Lib.hid (show validB M = false by simp [validB, HR.out])
        clear hr
        go_wp2_with fail
        refine (l2Bytes_any _ _ _ _ _ _ (HI.out.below (below1 w _)) hn).mono ?_; rintro e w' ⟨rfl, rfl⟩
        rw [HR.out]
        go_wp2_with fail
        go_ret
        exact ⟨ret_bool HF.out.symm, below1 w _⟩
end Go.Proofs.YtcapfafglikcmaaDoor
end

section
/- Contracts of the program's functions on memory (chapter 2): copies. -/
namespace Go.Proofs.YtcapfafglikcmaaDoor
open Go.ChangeShapes Go.WideShapes Go.ChangeAt Go.RowKit

theorem clone_ints (A : Option Addr) (n c : Nat) (xs : List Int) (fa : List Nat) (w : World) (ha : Ints w A n xs fa) (hn : n ≤ 1000000000) :
    Calls Tryd.prog 55 #[.slice A n c] w (Copied xs n w) := by
  have HA := Lib.hid ha
  rcases A with _ | ad
  · have hx : xs = [] ∧ n = 0 := by
      obtain ⟨hl, ⟨h, _⟩ | ⟨_, b, o, h, _⟩⟩ := ha
      · exact ⟨List.eq_nil_of_length_eq_zero (by omega), h⟩
      · cases h
    obtain ⟨rfl, rfl⟩ := hx
    clear ha
    have hq := fun W => Lib.run_eql_slice_nil (P := Tryd.prog) W 23 3 none 0 c 0 0 Tryd.underlying23
    go_enter Tryd.func55, Tryd.ntmps55
    go_wp2
    go_ret
    exact ⟨none, 0, [], rfl, Nat.le_refl _, .nil _ _, .nil _ _, Below.refl _ _⟩
  · clear ha
    have hq := fun W => Lib.run_eql_slice_nil (P := Tryd.prog) W 23 3 (some ad) n c 0 0 Tryd.underlying23
    go_enter Tryd.func55, Tryd.ntmps55
    go_wp2_with (at_builtin; refine wpList_append_ints rfl _ _ rfl w.heap.size _ 0 [] rfl (own_empty w _ _ (Nat.le_refl _)) _ _ _ xs fa rfl (HA.out.below (below1 w _)) (by omega) (by simp) ?_; intro v' w1 hown hgrow hat)
    have HO : Hid (w1.ownsRow w.heap.size 3 1 v' n (iv xs)) := by
      simp only [Nat.zero_add, List.nil_append] at hown
      exact hown
    have HB := Lib.hid (below_grown (below1 w _) hgrow (by simp) (fun k hk => by have h : some w.heap.size = some k := hk; injection h; omega))
    clear hown hgrow hat hq
    go_wp2
    go_ret
    exact copied_own HO.out HB.out
theorem clone_mem (A : Option Addr) (n c : Nat) (R : Option Addr) (k d : Nat) (M : Mem) (fa fr : List Nat) (w : World) (hi : Ints w A n M.ram fa) (hg : Grid w R k M.rom fr) (hn : n ≤ 1000000000) (hk : k ≤ 1000000000) (hs : ∀ i, (M.rom.getD i []).length ≤ 1000000000) :
    Calls Tryd.prog 54 #[.agg #[.slice A n c, .slice R k d, .int .i64 M.bank]] w (MemNew M w) := by
  have HI := Lib.hid hi
  have HG := Lib.hid hg
  have HS := Lib.hid hs
  have HL := Lib.hid hg.len
  clear hi hg hs
  have hmk := Go.run_make_row' (P := Tryd.prog) 24 23 (.slice none 0 0) 24 Tryd.underlying24 infoInts rfl .i64 .i64 k (by omega) (by omega)
  go_enter Tryd.func54, Tryd.ntmps54
  go_wp2_with fail
  go_loopw [13] (fun i wr => ∃ (j : Nat) (D : List Row), j ≤ k ∧ i = .int .i64 j ∧ Fill wr (w.heap.size + 1 + 1) k M.rom j D ∧ Below w.heap.size w wr ∧ Box wr w.heap.size 26 [.slice A n c, .slice R k d, .int .i64 M.bank] ∧ Box wr (w.heap.size + 1) 26 [.slice none 0 0, .slice none 0 0, .int .i64 0]) (fun i _ => k - (intOf i).toNat)
  case atStart => exact ⟨0, [], Nat.zero_le _, rfl, by simpa using Fill.none_ ((w.alloc _).alloc _) k M.rom, below3 w _ _ _, ((Box.new w _ _).alloc _).alloc _, (Box.new_at (w.alloc _) _ _ _ (by simp)).alloc _⟩
  case round =>
    obtain ⟨j, D, hj, rfl, hf, hb, hx0, hx1⟩ := hrel
    have HF := Lib.hid hf
    have HB := Lib.hid hb
    have X0 := Lib.hid hx0
    have X1 := Lib.hid hx1
    clear hf hb hmk hx0 hx1
    by_cases hlt : j < k
    · obtain ⟨p, o, a, m, e, fr', rfl, hp, c1, _, i1, _⟩ := (HG.out.below HB.out).row hlt
      have I1 := Lib.hid i1
      have hm : m ≤ 1000000000 := by have := i1.1; have := HS.out j; omega
      clear i1
      go_wp2_with fail
      refine (clone_ints _ _ _ _ _ _ I1.out hm).mono ?_
      rintro e w1 ⟨A', c', fp, rfl, hmc, i2, n2, b2⟩
      have H1 := Lib.hid (HF.out.next (by have := HL.out; omega) b2 hmc i2 n2)
      have c2 := (HF.out.keep b2).row.cell hlt
      have c3 := (HF.out.keep b2).row.frozen j
      have B2 := Lib.hid (HB.out.trans (b2.mono HB.out.size))
      have Y0 := Lib.hid (X0.out.below b2)
      have Y1 := Lib.hid (X1.out.below b2)
      clear i2 n2 b2 HF HB I1 c1 X0 X1
      go_wp2
      go_roundw
      case rel => exact ⟨j + 1, _, by omega, by go_num, H1.out, B2.out.setCell (by simp; omega) _, Y0.out.far (by omega) _, Y1.out.far (by omega) _⟩
      case measure => simp [intOf]; omega
    · obtain rfl : j = k := by omega
      have a0 : wr.cell? ⟨w.heap.size, 0, none⟩ = some (.slice A n c) := X0.out.cell 0
      have a2 : wr.cell? ⟨w.heap.size, 2, none⟩ = some (.int .i64 M.bank) := X0.out.cell 2
      go_wp2_with fail
      have i0 : Hid (Ints wr.drew A n M.ram fa) := HI.out.below HB.out.drew
      have x0 : Hid (Box wr.drew w.heap.size 26 [.slice A n c, .slice R j d, .int .i64 M.bank]) := X0.out
      have x1 : Hid (Box wr.drew (w.heap.size + 1) 26 [.slice none 0 0, .slice none 0 0, .int .i64 0]) := X1.out
      go_region_held3 (fun w' => w'.cell? ⟨w.heap.size, 0, none⟩ = some (.slice A n c) ∧ w'.cell? ⟨w.heap.size, 2, none⟩ = some (.int .i64 M.bank))
        (first
          | go_keep
          | exact ⟨(x0.out.below b2).cell 0, (x0.out.below b2).cell 2⟩)
        (first
          | (go_at_call 55; refine (clone_ints A n c M.ram fa _ ?_ hn).mono ?_; (exact i0.out); rintro e w1 ⟨A', c', fp, rfl, hmc, i2, n2, b2⟩; have s0 : w1.cell? ⟨w.heap.size + 1, 0, none⟩ = some (.slice none 0 0) := (x1.out.below b2).cell 0; have s1 : w1.cell? ⟨w.heap.size + 1, 1, none⟩ = some (.slice none 0 0) := (x1.out.below b2).cell 1; have s2 : w1.cell? ⟨w.heap.size + 1, 2, none⟩ = some (.int .i64 0) := (x1.out.below b2).cell 2; have s3 := (x1.out.below b2).frozen 0; have s4 := (x1.out.below b2).frozen 1; have s5 := (x1.out.below b2).frozen 2))
      obtain ⟨fq, gq, nq⟩ := HF.out.both HL.out
      have R1 := Lib.hid (mem_new_rows (w := w) (M := M) (c := c') (d := j) (gq.below (w' := wr.drew) ((Below.refl _ _).drew)) (nq.keep (.of_below (w' := wr.drew) ((Below.refl _ _).drew))) i2 n2 b2 (show w.heap.size + 1 < w.heap.size + 1 + 1 by omega) hmc (Nat.le_refl _) (by omega) (Nat.le_of_lt HF.out.row.lt))
      have B3 : Hid (Below w.heap.size w w1) := HB.out.drew.trans (b2.mono HB.out.size)
      clear i2 n2 b2 gq nq s3 s4 s5 i0 x0 a0 a2
      go_wp2_with fail
      refine bodyPost_ret (v := .agg #[.slice A' n c', .slice (some ⟨w.heap.size + 1 + 1, 0, none⟩) j j, .int .i64 M.bank]) (by simp [results, Tryd.results54, go_sem, s0, s1, s2]) rfl (R1.out _ ?_ ?_)
      · exact (((Only.refl _ w1).setCell (.inl (by simp)) _).setCell (.inl (by simp)) _).setCell (.inl (by simp)) _
      · exact ((B3.out.setCell (by simp) _).setCell (by simp) _).setCell (by simp) _
end Go.Proofs.YtcapfafglikcmaaDoor
end

section
/- Contracts of the program's functions on memory (chapter 2): a new memory. -/
namespace Go.Proofs.YtcapfafglikcmaaDoor
open Go.ChangeShapes Go.WideShapes Go.ChangeAt Go.RowKit

theorem make256 (W : World) : (Instr.makeSlice 23 (.int .i64 256) (.int .i64 256)).run Tryd.prog W = .ok (.slice (some ⟨W.heap.size, 0, none⟩) 256 256) (W.alloc (.cells (madeCells #[.int .i64 0] 256) 3)) :=
  Go.run_make_row' (P := Tryd.prog) 23 3 (.int .i64 0) 8 Tryd.underlying23 infoInt rfl .i64 .i64 256 (by omega) (by omega) W
theorem zeros_ints {w : World} {g : Nat} (h : w.rowIs g 3 256 (fun _ => .int .i64 0)) : Ints w (some ⟨g, 0, none⟩) 256 zeros [g] :=
  ints_of_row h (fun i hi => by rw [zeros_at i hi]) zeros_len (by omega)
theorem memZ_new {w w' : World} (b : Below w.heap.size w w') : MemNew memZ w (.returned (.agg #[.slice none 0 0, .slice none 0 0, .int .i64 0])) w' :=
  ⟨none, 0, 0, none, 0, 0, [], [], rfl, Nat.le_refl _, Nat.le_refl _, .nil _ _, .nil _ _, by simpa using New.nil _ _, b⟩
/-- A memory in new memory, handed on through the result's own block q. -/
theorem mem_handed {w w2 : World} {M : Mem} {A : Option Addr} {n c : Nat} {R : Option Addr} {k d : Nat} {fa fr : List Nat} {L q : Nat} {u v x : Value} (i : Ints w2 A n M.ram fa) (g : Grid w2 R k M.rom fr) (nw : New L w2 (fa ++ fr)) (hc : n ≤ c) (hd : k ≤ d) (b : Below w.heap.size w w2) (hq : w.heap.size ≤ q ∧ q < L) :
    MemNew M w (.returned (.agg #[.slice A n c, .slice R k d, .int .i64 M.bank])) (((w2.setCell ⟨q, 0, none⟩ u).setCell ⟨q, 1, none⟩ v).setCell ⟨q, 2, none⟩ x) := by
  have o : Only [q] w2 (((w2.setCell ⟨q, 0, none⟩ u).setCell ⟨q, 1, none⟩ v).setCell ⟨q, 2, none⟩ x) := (((Only.refl _ w2).setCell (.inl (by simp)) _).setCell (.inl (by simp)) _).setCell (.inl (by simp)) _
  have dd : ∀ y ∈ fa ++ fr, y ∉ [q] := fun y hy hs => by have := (nw.lt y hy).1; simp at hs; omega
  have s : Same (fa ++ fr) w2 (((w2.setCell ⟨q, 0, none⟩ u).setCell ⟨q, 1, none⟩ v).setCell ⟨q, 2, none⟩ x) := .of_only o dd
  exact ⟨A, n, c, R, k, d, fa, fr, rfl, hc, hd, i.keep (s.sub fun y hy => List.mem_append_left _ hy), g.keep (s.sub fun y hy => List.mem_append_right _ hy), (nw.mono (by omega)).keep s, ((b.setCell (by simp; omega) _).setCell (by simp; omega) _).setCell (by simp; omega) _⟩
theorem impl_new (R : Option Addr) (k d : Nat) (rs : List (List Int)) (fr : List Nat) (w : World) (hg : Grid w R k rs fr) (hk : k ≤ 1000000000) (hs : ∀ i, (rs.getD i []).length ≤ 1000000000) :
    Calls Tryd.prog 43 #[.slice R k d] w (MemNew (newM rs) w) := by
  have HG := Lib.hid hg
  have HS := Lib.hid hs
  clear hg hs
  have hmk := make256
  go_enter Tryd.func43, Tryd.ntmps43
  go_wp2_with fail
  have RZ : ∀ o1 o3, ((((w.alloc o1).alloc (.cells (madeCells #[.int .i64 0] 256) 3)).alloc o3)).rowIs (w.heap.size + 1) 3 256 (fun _ => .int .i64 0) := fun o1 o3 => by
    have := (World.rowIs_made (w.alloc o1) (.int .i64 0) 256 3).alloc o3
    rwa [show (w.alloc o1).heap.size = w.heap.size + 1 from by simp] at this
  by_cases hv : validB ⟨zeros, rs, 0⟩ = true
  · have HV := Lib.hid hv
    have HN := Lib.hid (show newM rs = ⟨zeros, rs, 0⟩ by simp [newM, hv])
    clear hv
    refine (impl_valid _ 256 256 R k d ⟨zeros, rs, 0⟩ _ fr _ (zeros_ints (RZ _ _)) (HG.out.below (below3 w _ _ _)) (by omega) hk HS.out).mono ?_
    rintro e w1 ⟨rfl, b1⟩
    rw [HV.out]
    have X0 : Hid (Box w1 w.heap.size _ [.slice none 0 0, .slice none 0 0, .int .i64 0]) := (((Box.new w _ _).alloc _).alloc _).below b1
    have X2 : Hid (Box w1 (w.heap.size + 1 + 1) _ [.slice (some ⟨w.heap.size + 1, 0, none⟩) 256 256, .slice R k d, .int .i64 0]) := (Box.new_at ((w.alloc _).alloc _) _ _ _ (by simp)).below b1
    have B1 : Hid (Below w.heap.size w w1) := (below3 w _ _ _).trans (b1.mono (by simp; omega))
    have I1 := Lib.hid ((zeros_ints (RZ _ _)).below b1)
    have G1 := Lib.hid (HG.out.below B1.out)
    clear b1 RZ hmk
    have a0 : w1.cell? ⟨w.heap.size + 1 + 1, 0, none⟩ = some (.slice (some ⟨w.heap.size + 1, 0, none⟩) 256 256) := X2.out.cell 0
    have a1 : w1.cell? ⟨w.heap.size + 1 + 1, 1, none⟩ = some (.slice R k d) := X2.out.cell 1
    have a2 : w1.cell? ⟨w.heap.size + 1 + 1, 2, none⟩ = some (.int .i64 0) := X2.out.cell 2
    go_wp2_with fail
    refine (clone_mem _ 256 256 R k d ⟨zeros, rs, 0⟩ _ fr _ I1.out G1.out (by omega) hk HS.out).mono ?_
    rintro e w2 ⟨A', n', c', R', k', d', fa', fr', rfl, hc', hd', i2, g2, n2, b2⟩
    have Y0 := Lib.hid (X0.out.below b2)
    have I2 := Lib.hid i2
    have G2 := Lib.hid g2
    have N2 := Lib.hid n2
    have z1 : w.heap.size < w1.heap.size := X0.out.lt
    have B2 : Hid (Below w.heap.size w w2) := B1.out.trans (b2.mono (by omega))
    clear i2 g2 n2 b2 a0 a1 a2
    have a0 : w2.cell? ⟨w.heap.size, 0, none⟩ = some (.slice none 0 0) := Y0.out.cell 0
    have a1 : w2.cell? ⟨w.heap.size, 1, none⟩ = some (.slice none 0 0) := Y0.out.cell 1
    have a2 : w2.cell? ⟨w.heap.size, 2, none⟩ = some (.int .i64 0) := Y0.out.cell 2
    have a3 := Y0.out.frozen 0
    have a4 := Y0.out.frozen 1
    have a5 := Y0.out.frozen 2
    go_wp2_with fail
    refine bodyPost_ret (v := .agg #[.slice A' n' c', .slice R' k' d', .int .i64 0]) (by simp [results, Tryd.results43, go_sem, a0, a1, a2]) rfl ?_
    rw [HN.out]
    exact mem_handed (M := ⟨zeros, rs, 0⟩) I2.out G2.out N2.out hc' hd' B2.out (by omega)
  · have HV := Lib.hid (show validB ⟨zeros, rs, 0⟩ = false by simpa using hv)
    have HN := Lib.hid (show newM rs = memZ by simp [newM, hv])
    clear hv
    refine (impl_valid _ 256 256 R k d ⟨zeros, rs, 0⟩ _ fr _ (zeros_ints (RZ _ _)) (HG.out.below (below3 w _ _ _)) (by omega) hk HS.out).mono ?_
    rintro e w1 ⟨rfl, b1⟩
    rw [HV.out]
    have X0 : Hid (Box w1 w.heap.size _ [.slice none 0 0, .slice none 0 0, .int .i64 0]) := (((Box.new w _ _).alloc _).alloc _).below b1
    have B1 : Hid (Below w.heap.size w w1) := (below3 w _ _ _).trans (b1.mono (by simp; omega))
    clear b1 RZ hmk
    have a0 : w1.cell? ⟨w.heap.size, 0, none⟩ = some (.slice none 0 0) := X0.out.cell 0
    have a1 : w1.cell? ⟨w.heap.size, 1, none⟩ = some (.slice none 0 0) := X0.out.cell 1
    have a2 : w1.cell? ⟨w.heap.size, 2, none⟩ = some (.int .i64 0) := X0.out.cell 2
    have a3 := X0.out.frozen 0
    have a4 := X0.out.frozen 1
    have a5 := X0.out.frozen 2
    go_wp2_with fail
    refine bodyPost_ret (v := .agg #[.slice none 0 0, .slice none 0 0, .int .i64 0]) (by simp [results, Tryd.results43, go_sem, a0, a1, a2]) rfl ?_
    rw [HN.out]
    exact memZ_new (((B1.out.setCell (by simp) _).setCell (by simp) _).setCell (by simp) _)
end Go.Proofs.YtcapfafglikcmaaDoor
end
