/- Contracts of the model's functions on memory (chapter 2): tests. -/
import Derived.Test.YtnfphdpoimjcmaaMemA
namespace Go.Proofs.Ytnfphdpoimjcmaa
open Go.ChangeShapes Go.WideShapes Go.ChangeAt Go.RowKit

theorem l2Bytes_any (A : Option Addr) (n c : Nat) (xs : List Int) (fa : List Nat) (w : World) (ha : Ints w A n xs fa) (hn : n ≤ 1000000000) :
    Calls Try.prog 23 #[.slice A n c, .int .i64 256] w fun e w' => e = .returned (.bool (bankB xs)) ∧ w = w' := by
  have HA := Lib.hid ha
  have HL := Lib.hid ha.1
  clear ha
  go_enter Try.func23, Try.ntmps23
  go_wp2
  go_loop [5] (fun i => ∃ k : Nat, k ≤ n ∧ i = .int .i64 k ∧ ∀ j, j < k → byteB (xs.getD j 0) = true) (fun i => n - (intOf i).toNat)
  case atStart => exact ⟨0, Nat.zero_le _, rfl, fun j hj => by omega⟩
  case round =>
    obtain ⟨k, hk, rfl, hm⟩ := hrel
    have HM := Lib.hid hm
    clear hm
    by_cases hlt : k < n
    · obtain ⟨p, o, rfl, hfp, hp, hc⟩ := HA.out.at_ (by omega)
      have c1 := hc k hlt
      obtain ⟨x, hx⟩ : ∃ x, x = xs.getD k 0 := ⟨_, rfl⟩
      rw [← hx] at c1
      have HX := Lib.hid hx
      clear hc hfp hx
      by_cases hb : byteB x = true
      · have HB := Lib.hid hb
        clear hb
        go_wp2_with fail
        refine (l1Byte_any _ _).mono ?_; rintro e w' ⟨rfl, rfl⟩
        rw [HB.out]
        go_wp2_with fail
        go_round
        case rel => exact ⟨k + 1, by omega, by go_num, fun j hj => by
          by_cases h : j = k
          · subst h; rw [← HX.out]; exact HB.out
          · exact HM.out j (by omega)⟩
        case measure => simp [intOf]; omega
      · have HB := Lib.hid (show byteB x = false by simpa using hb)
        have HF := Lib.hid (show bankB xs = false by simp [bankB, bytesB_no xs k (by rw [HL.out]; exact hlt) (by rw [← HX.out]; exact HB.out)])
        clear hb
        go_wp2_with fail
        refine (l1Byte_any _ _).mono ?_; rintro e w' ⟨rfl, rfl⟩
        rw [HB.out]
        go_wp2_with fail
        go_ret
        exact ⟨ret_bool HF.out.symm, rfl⟩
    · have HF := Lib.hid ((bytesB_iff xs).2 fun i hi => HM.out i (by have := HL.out; omega))
      by_cases h : n = 256
      · have HE := Lib.hid (show bankB xs = true by simp [bankB, HF.out, HL.out, h])
        have hq : ((n : Int) == 256) = true := by simp; omega
        clear h
        go_wp2
        go_ret
        exact ⟨ret_bool HE.out.symm, rfl⟩
      · have HE := Lib.hid (show bankB xs = false by simp [bankB, HL.out, h])
        have hq : ((n : Int) == 256) = false := by simp; omega
        clear h
        go_wp2
        go_ret
        exact ⟨ret_bool HE.out.symm, rfl⟩
theorem spec_valid (A : Option Addr) (n c : Nat) (R : Option Addr) (k d : Nat) (M : Mem) (fa fr : List Nat) (w : World) (hi : Ints w A n M.ram fa) (hg : Grid w R k M.rom fr) (hn : n ≤ 1000000000) (hk : k ≤ 1000000000) (hs : ∀ i, (M.rom.getD i []).length ≤ 1000000000) :
    Calls Try.prog 15 #[.agg #[.slice A n c, .slice R k d, .int .i64 M.bank]] w fun e w' => e = .returned (.bool (validB M)) ∧ Below w.heap.size w w' := by
  have HI := Lib.hid hi
  have HS := Lib.hid hs
  have HL := Lib.hid hg.len
  have HG1 := Lib.hid (hg.below (below1 w (.cells #[.slice A n c, .slice R k d, .int .i64 M.bank] 26)))
  clear hi hg hs
  go_enter Try.func15, Try.ntmps15
  go_wp2_with fail
  go_loop [3] (fun i => ∃ j : Nat, j ≤ k ∧ i = .int .i64 j ∧ ∀ q, q < j → bankB (M.rom.getD q []) = true) (fun i => k - (intOf i).toNat)
  case atStart => exact ⟨0, Nat.zero_le _, rfl, fun j hj => by omega⟩
  case round =>
    obtain ⟨j, hj, rfl, hm⟩ := hrel
    have HM := Lib.hid hm
    clear hm
    by_cases hlt : j < k
    · obtain ⟨p, o, a, m, e, f', rfl, hp, c1, _, i1, _⟩ := HG1.out.row hlt
      have I1 := Lib.hid i1
      have hm : m ≤ 1000000000 := by have := i1.1; have := HS.out j; omega
      clear i1
      by_cases hb : bankB (M.rom.getD j []) = true
      · have HB := Lib.hid hb
        clear hb
        go_wp2_with fail
        refine (l2Bytes_any _ _ _ _ _ _ I1.out hm).mono ?_; rintro e w' ⟨rfl, rfl⟩
        rw [HB.out]
        go_wp2_with fail
        go_round
        case rel => exact ⟨j + 1, by omega, by go_num, fun q hq => by
          by_cases h : q = j
          · subst h; exact HB.out
          · exact HM.out q (by omega)⟩
        case measure => simp [intOf]; omega
      · have HB := Lib.hid (show bankB (M.rom.getD j []) = false by simpa using hb)
        have HF := Lib.hid (show validB M = false by simp [validB, banksB_no M.rom j (by rw [HL.out]; exact hlt) HB.out])
        clear hb
        go_wp2_with fail
        refine (l2Bytes_any _ _ _ _ _ _ I1.out hm).mono ?_; rintro e w' ⟨rfl, rfl⟩
        rw [HB.out]
        go_wp2_with fail
        go_ret
        exact ⟨ret_bool HF.out.symm, below1 w _⟩
    · have HB := Lib.hid ((banksB_iff M.rom).2 fun i hi => HM.out i (by have := HL.out; omega))
      by_cases hr : bankB M.ram = true
      · have HR := Lib.hid hr
        clear hr
        by_cases hk4 : betB k 1 4 = true
        · have HK := Lib.hid hk4
          obtain ⟨k1, k4⟩ := betB_yes hk4
          clear hk4
          have HV := Lib.hid (show validB M = betB M.bank 0 ((k : Int) - 1) by
            have e1 : decide (1 ≤ M.rom.length) = true := by rw [HL.out]; simp; omega
            have e2 : decide (M.rom.length ≤ 4) = true := by rw [HL.out]; simp; omega
            have e3 : decide (M.bank < (M.rom.length : Int)) = decide (M.bank ≤ (k : Int) - 1) := by rw [HL.out]; congr 1; exact propext ⟨fun h => by omega, fun h => by omega⟩
            simp only [validB, HR.out, HB.out, e1, e2, e3, betB, Bool.true_and])
          go_wp2_with fail
          refine (l2Bytes_any _ _ _ _ _ _ (HI.out.below (below1 w _)) hn).mono ?_; rintro e w' ⟨rfl, rfl⟩
          rw [HR.out]
          go_wp2_with fail
          refine (l1In_any _ _ _ _).mono ?_; rintro e w' ⟨rfl, rfl⟩
          rw [HK.out]
          go_wp2_with fail
          refine (l1In_any _ _ _ _).mono ?_; rintro e w' ⟨rfl, rfl⟩
          go_wp2_with fail
          go_ret
          exact ⟨ret_bool HV.out.symm, below1 w _⟩
        · have HK := Lib.hid (show betB k 1 4 = false by simpa using hk4)
          have HF := Lib.hid (show validB M = false by
            have e := HK.out
            have : decide (1 ≤ M.rom.length) = false ∨ decide (M.rom.length ≤ 4) = false := by
              rw [HL.out]
              by_cases h : 1 ≤ k
              · by_cases h' : k ≤ 4
                · exfalso; simp [betB] at e; omega
                · right; simpa using h'
              · left; simpa using h
            rcases this with h | h <;> simp [validB, h])
          clear hk4
          go_wp2_with fail
          refine (l2Bytes_any _ _ _ _ _ _ (HI.out.below (below1 w _)) hn).mono ?_; rintro e w' ⟨rfl, rfl⟩
          rw [HR.out]
          go_wp2_with fail
          refine (l1In_any _ _ _ _).mono ?_; rintro e w' ⟨rfl, rfl⟩
          rw [HK.out]
          go_wp2_with fail
          go_ret
          exact ⟨ret_bool HF.out.symm, below1 w _⟩
      · have HR := Lib.hid (show bankB M.ram = false by simpa using hr)
        have HF := Lib.hid (show validB M = false by simp [validB, HR.out])
        clear hr
        go_wp2_with fail
        refine (l2Bytes_any _ _ _ _ _ _ (HI.out.below (below1 w _)) hn).mono ?_; rintro e w' ⟨rfl, rfl⟩
        rw [HR.out]
        go_wp2_with fail
        go_ret
        exact ⟨ret_bool HF.out.symm, below1 w _⟩
end Go.Proofs.Ytnfphdpoimjcmaa
