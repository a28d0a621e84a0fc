/- Contracts of the program's functions on memory (chapter 2): tests. -/
import Derived.Test.YtnfphdpoimjcmaaIn
import Derived.Test.YtnfphdpoimjcmaaMemE
namespace Go.Proofs.Ytnfphdpoimjcmaa
open Go.ChangeShapes Go.WideShapes Go.ChangeAt Go.RowKit

theorem isBank_any (A : Option Addr) (n c : Nat) (xs : List Int) (fa : List Nat) (w : World) (ha : Ints w A n xs fa) (hn : n ≤ 1000000000) :
    Calls Try.prog 22 #[.slice A n c] w fun e w' => e = .returned (.bool (bankB xs)) ∧ w = w' := by
  have HA := Lib.hid ha
  have HL := Lib.hid ha.1
  clear ha
  by_cases h : n = 256
  · have HE := Lib.hid (show bankB xs = bytesB xs by have := HL.out; simp [bankB, this, h])
    have hq : ((n : Int) == 256) = true := by simp; omega
    clear h
    go_enter Try.func22, Try.ntmps22
    go_wp2_with fail
    refine (allBytes_any _ _ _ _ _ _ HA.out hn).mono ?_; rintro e w' ⟨rfl, rfl⟩
    go_wp2_with fail
    go_ret
    exact ⟨ret_bool HE.out.symm, rfl⟩
  · have HE := Lib.hid (show bankB xs = false by have := HL.out; simp [bankB, this, h])
    have hq : ((n : Int) == 256) = false := by simp; omega
    clear h
    go_enter Try.func22, Try.ntmps22
    go_wp2_with fail
    go_ret
    exact ⟨ret_bool HE.out.symm, rfl⟩
theorem isAddress_any (a : Int) (w : World) : Calls Try.prog 11 #[.int .i64 a] w fun e w' => e = .returned (.bool (addrB a)) ∧ w = w' := by
  by_cases h0 : 0 ≤ a
  · by_cases h1 : a ≤ 1023
    · have e : addrB a = true := by simp [addrB, h0, h1]
      rw [e]
      clear e
      go_enter Try.func11, Try.ntmps11
      go_wp2
      go_ret
      exact ⟨rfl, rfl⟩
    · have e : addrB a = false := by simp [addrB, h1]
      have hd : decide (a ≤ 1023) = false := by simp; omega
      rw [e]
      clear e h1
      go_enter Try.func11, Try.ntmps11
      go_wp2
      go_ret
      exact ⟨rfl, rfl⟩
  · have e : addrB a = false := by simp [addrB, h0]
    have hd : decide (0 ≤ a) = false := by simp; omega
    rw [e]
    clear e h0
    go_enter Try.func11, Try.ntmps11
    go_wp2
    go_ret
    exact ⟨rfl, rfl⟩
theorem impl_valid (A : Option Addr) (n c : Nat) (R : Option Addr) (k d : Nat) (M : Mem) (fa fr : List Nat) (w : World) (hi : Ints w A n M.ram fa) (hg : Grid w R k M.rom fr) (hn : n ≤ 1000000000) (hk : k ≤ 1000000000) (hs : ∀ i, (M.rom.getD i []).length ≤ 1000000000) :
    Calls Try.prog 13 #[.agg #[.slice A n c, .slice R k d, .int .i64 M.bank]] w fun e w' => e = .returned (.bool (validB M)) ∧ Below w.heap.size w w' := by
  have HI := Lib.hid hi
  have HG := Lib.hid hg
  have HS := Lib.hid hs
  have HL := Lib.hid hg.len
  have HG1 := Lib.hid (hg.below (below1 w (.cells #[.slice A n c, .slice R k d, .int .i64 M.bank] 26)))
  clear hi hg hs
  by_cases hr : bankB M.ram = true
  · have HR := Lib.hid hr
    clear hr
    by_cases h4 : k ≤ 4
    · go_enter Try.func13, Try.ntmps13
      go_wp2_with fail
      refine (isBank_any _ _ _ _ _ _ (HI.out.below (below1 w _)) hn).mono ?_; rintro e w' ⟨rfl, rfl⟩
      rw [HR.out]
      go_wp2_with fail
      go_loop [18] (fun i => ∃ j : Nat, j ≤ k ∧ i = .int .i64 j ∧ ∀ q, q < j → bankB (M.rom.getD q []) = true) (fun i => k - (intOf i).toNat)
      case atStart => exact ⟨0, Nat.zero_le _, rfl, fun j hj => by omega⟩
      case round =>
        obtain ⟨j, hj, rfl, hm⟩ := hrel
        have HM := Lib.hid hm
        clear hm
        by_cases hlt : j < k
        · obtain ⟨p, o, a, m, e, f', rfl, hp, c1, _, i1, _⟩ := HG1.out.row hlt
          have I1 := Lib.hid i1
          have hm : m ≤ 1000000000 := by have := i1.1; have := HS.out j; omega
          clear i1
          by_cases hb : bankB (M.rom.getD j []) = true
          · have HB := Lib.hid hb
            clear hb
            go_wp2_with fail
            refine (isBank_any _ _ _ _ _ _ I1.out hm).mono ?_; rintro e w' ⟨rfl, rfl⟩
            rw [HB.out]
            go_wp2_with fail
            go_round
            case rel => exact ⟨j + 1, by omega, by go_num, fun q hq => by
              by_cases h : q = j
              · subst h; exact HB.out
              · exact HM.out q (by omega)⟩
            case measure => simp [intOf]; omega
          · have HB := Lib.hid (show bankB (M.rom.getD j []) = false by simpa using hb)
            have HF := Lib.hid (show validB M = false by simp [validB, banksB_no M.rom j (by rw [HL.out]; exact hlt) HB.out])
            clear hb
            go_wp2_with fail
            refine (isBank_any _ _ _ _ _ _ I1.out hm).mono ?_; rintro e w' ⟨rfl, rfl⟩
            rw [HB.out]
            go_wp2_with fail
            go_ret
            exact ⟨ret_bool HF.out.symm, below1 w _⟩
        · have HB := Lib.hid ((banksB_iff M.rom).2 fun i hi => HM.out i (by have := HL.out; omega))
          by_cases hb0 : 0 ≤ M.bank
          · by_cases hb1 : M.bank < k
            · by_cases hk1 : 1 ≤ k
              · have HF := Lib.hid (show validB M = true by simp [validB, HR.out, HB.out, HL.out, hk1, h4, hb0, hb1])
                go_wp2
                go_ret
                exact ⟨ret_bool HF.out.symm, below1 w _⟩
              · omega
            · have HF := Lib.hid (show validB M = false by simp [validB, HL.out, hb1])
              have hd : decide (M.bank < (k : Int)) = false := by simp; omega
              clear hb1
              go_wp2
              go_ret
              exact ⟨ret_bool HF.out.symm, below1 w _⟩
          · have HF := Lib.hid (show validB M = false by simp [validB, hb0])
            have hd : decide (0 ≤ M.bank) = false := by simp; omega
            clear hb0
            go_wp2
            go_ret
            exact ⟨ret_bool HF.out.symm, below1 w _⟩
    · have HF := Lib.hid (show validB M = false by simp [validB, HL.out, h4])
      go_enter Try.func13, Try.ntmps13
      go_wp2_with fail
      refine (isBank_any _ _ _ _ _ _ (HI.out.below (below1 w _)) hn).mono ?_; rintro e w' ⟨rfl, rfl⟩
      rw [HR.out]
      go_wp2_with fail
      go_ret
      exact ⟨ret_bool HF.out.symm, below1 w _⟩
  · have HR := Lib.hid (show bankB M.ram = false by simpa using hr)
    have HF := Lib.hid (show validB M = false by simp [validB, HR.out])
    clear hr
    go_enter Try.func13, Try.ntmps13
    go_wp2_with fail
    refine (isBank_any _ _ _ _ _ _ (HI.out.below (below1 w _)) hn).mono ?_; rintro e w' ⟨rfl, rfl⟩
    rw [HR.out]
    go_wp2_with fail
    go_ret
    exact ⟨ret_bool HF.out.symm, below1 w _⟩
end Go.Proofs.Ytnfphdpoimjcmaa
