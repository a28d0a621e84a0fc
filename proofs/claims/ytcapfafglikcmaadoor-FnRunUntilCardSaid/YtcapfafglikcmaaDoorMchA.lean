/- Machines tested: the program's function and the model's. -/
import Derived.Test.YtcapfafglikcmaaDoorKE
import Derived.Test.YtcapfafglikcmaaDoorKG
namespace Go.Proofs.YtcapfafglikcmaaDoor
open Go.ChangeShapes Go.WideShapes Go.ChangeAt Go.RowKit

theorem allAddresses_any (A : Option Addr) (n c : Nat) (xs : List Int) (fa : List Nat) (w : World) (ha : Ints w A n xs fa) (hn : n ≤ 1000000000) :
    Calls Tryd.prog 35 #[.slice A n c] w fun e w' => e = .returned (.bool (addrsB xs)) ∧ w = w' := by
  have HA := Lib.hid ha
  clear ha
  go_enter Tryd.func35, Tryd.ntmps35
  go_wp2
  go_loop [7] (fun i => ∃ k : Nat, k ≤ n ∧ i = .int .i64 k ∧ ∀ j, j < k → addrB (xs.getD j 0) = true) (fun i => n - (intOf i).toNat)
  case atStart => exact ⟨0, Nat.zero_le _, rfl, fun j hj => by omega⟩
  case round =>
    obtain ⟨k, hk, rfl, hm⟩ := hrel
    have HM := Lib.hid hm
    clear hm
    by_cases hlt : k < n
    · obtain ⟨p, o, rfl, hfp, hp, hc⟩ := HA.out.at_ (by omega)
      have c1 := hc k hlt
      obtain ⟨x, hx⟩ : ∃ x, x = xs.getD k 0 := ⟨_, rfl⟩
      rw [← hx] at c1
      have HX := Lib.hid hx
      clear hc hfp hx
      by_cases hb : addrB x = true
      · have HB := Lib.hid hb
        clear hb
        go_wp2_with fail
        refine (isAddress_any _ _).mono ?_; rintro e w' ⟨rfl, rfl⟩
        rw [HB.out]
        go_wp2_with fail
        go_round
        case rel => exact ⟨k + 1, by omega, by go_num, fun j hj => by
          by_cases h : j = k
          · subst h; rw [← HX.out]; exact HB.out
          · exact HM.out j (by omega)⟩
        case measure => simp [intOf]; omega
      · have HB := Lib.hid (show addrB x = false by simpa using hb)
        have HF := Lib.hid (addrsB_no xs k (by rw [HA.out.1]; exact hlt) (by rw [← HX.out]; exact HB.out))
        clear hb
        go_wp2_with fail
        refine (isAddress_any _ _).mono ?_; rintro e w' ⟨rfl, rfl⟩
        rw [HB.out]
        go_wp2_with fail
        go_ret
        exact ⟨ret_bool HF.out.symm, rfl⟩
    · have HF := Lib.hid ((addrsB_iff xs).2 fun i hi => HM.out i (by have := HA.out.1; omega))
      go_wp2
      go_ret
      exact ⟨ret_bool HF.out.symm, rfl⟩
theorem impl_machValid (A : Option Addr) (c : Nat) (R : Option Addr) (d : Nat) (B : Option Addr) (g : Nat) (n k m : Nat) (X : Mach) (fa fr fb : List Nat) (w : World) (h : MHas w A n R k B m X fa fr fb) (f : Fits X 1000000000) :
    Calls Tryd.prog 13 #[.agg #[.slice A n c, .slice R k d, .int .i64 X.mem.bank, .int .i64 X.a, .int .i64 X.at_, .bool X.carry, .slice B m g, .bool X.stop, .int .i64 X.cyc]] w fun e w' => e = .returned (.bool (machB X)) ∧ Below w.heap.size w w' := by
  have hn := f.n h
  have hk := f.k h
  have hm := f.m h
  have HL := Lib.hid h.back.1
  have H1 := Lib.hid (h.below (below1 w (.cells #[.slice A n c, .slice R k d, .int .i64 X.mem.bank, .int .i64 X.a, .int .i64 X.at_, .bool X.carry, .slice B m g, .bool X.stop, .int .i64 X.cyc] 28)))
  have HS := Lib.hid f.row
  clear h f
  by_cases h1 : byteB X.a = true
  · have K1 := Lib.hid h1
    clear h1
    by_cases h2 : addrB X.at_ = true
    · have K2 := Lib.hid h2
      clear h2
      by_cases h3 : 0 ≤ X.cyc
      · by_cases h4 : X.cyc ≤ 1000000000
        · by_cases h5 : m ≤ 8
          · by_cases h6 : addrsB X.back = true
            · have K6 := Lib.hid h6
              have HF := Lib.hid (show machB X = validB X.mem by have := HL.out; have h5' : X.back.length ≤ 8 := (by omega); simp [machB, K1.out, K2.out, h3, h4, K6.out, h5'])
              clear h6
              go_enter Tryd.func13, Tryd.ntmps13
              go_wp2_with fail
              refine (isByte_any _ _).mono ?_; rintro e w' ⟨rfl, rfl⟩
              rw [K1.out]
              go_wp2_with fail
              refine (isAddress_any _ _).mono ?_; rintro e w' ⟨rfl, rfl⟩
              rw [K2.out]
              go_wp2_with fail
              refine (allAddresses_any _ _ _ _ _ _ H1.out.back hm).mono ?_; rintro e w' ⟨rfl, rfl⟩
              rw [K6.out]
              go_wp2_with fail
              refine (impl_valid _ _ _ _ _ _ _ _ _ _ H1.out.ram H1.out.rom hn hk HS.out).mono ?_; rintro e w' ⟨rfl, b⟩
              have BB := Lib.hid b
              clear b
              go_wp2_with fail
              go_ret
              exact ⟨ret_bool HF.out.symm, (below1 w _).trans (BB.out.mono (by simp))⟩
            · have K6 := Lib.hid (show addrsB X.back = false by simpa using h6)
              have HF := Lib.hid (show machB X = false by simp [machB, K6.out])
              clear h6
              go_enter Tryd.func13, Tryd.ntmps13
              go_wp2_with fail
              refine (isByte_any _ _).mono ?_; rintro e w' ⟨rfl, rfl⟩
              rw [K1.out]
              go_wp2_with fail
              refine (isAddress_any _ _).mono ?_; rintro e w' ⟨rfl, rfl⟩
              rw [K2.out]
              go_wp2_with fail
              refine (allAddresses_any _ _ _ _ _ _ H1.out.back hm).mono ?_; rintro e w' ⟨rfl, rfl⟩
              rw [K6.out]
              go_wp2_with fail
              go_ret
              exact ⟨ret_bool HF.out.symm, below1 w _⟩
          · have HF := Lib.hid (show machB X = false by have := HL.out; have h5' : ¬ X.back.length ≤ 8 := (by omega); simp [machB, h5'])
            go_enter Tryd.func13, Tryd.ntmps13
            go_wp2_with fail
            refine (isByte_any _ _).mono ?_; rintro e w' ⟨rfl, rfl⟩
            rw [K1.out]
            go_wp2_with fail
            refine (isAddress_any _ _).mono ?_; rintro e w' ⟨rfl, rfl⟩
            rw [K2.out]
            go_wp2_with fail
            go_ret
            exact ⟨ret_bool HF.out.symm, below1 w _⟩
        · have HF := Lib.hid (show machB X = false by simp [machB, h4])
          have h4' : decide (X.cyc ≤ 1000000000) = false := by simpa using h4
          have h4'' : 1000000000 < X.cyc := by omega
          clear h4
          go_enter Tryd.func13, Tryd.ntmps13
          go_wp2_with fail
          refine (isByte_any _ _).mono ?_; rintro e w' ⟨rfl, rfl⟩
          rw [K1.out]
          go_wp2_with fail
          refine (isAddress_any _ _).mono ?_; rintro e w' ⟨rfl, rfl⟩
          rw [K2.out]
          go_wp2_with fail
          go_ret
          exact ⟨ret_bool HF.out.symm, below1 w _⟩
      · have HF := Lib.hid (show machB X = false by simp [machB, h3])
        have h3' : X.cyc < 0 := by omega
        clear h3
        go_enter Tryd.func13, Tryd.ntmps13
        go_wp2_with fail
        refine (isByte_any _ _).mono ?_; rintro e w' ⟨rfl, rfl⟩
        rw [K1.out]
        go_wp2_with fail
        refine (isAddress_any _ _).mono ?_; rintro e w' ⟨rfl, rfl⟩
        rw [K2.out]
        go_wp2_with fail
        go_ret
        exact ⟨ret_bool HF.out.symm, below1 w _⟩
    · have K2 := Lib.hid (show addrB X.at_ = false by simpa using h2)
      have HF := Lib.hid (show machB X = false by simp [machB, K2.out])
      clear h2
      go_enter Tryd.func13, Tryd.ntmps13
      go_wp2_with fail
      refine (isByte_any _ _).mono ?_; rintro e w' ⟨rfl, rfl⟩
      rw [K1.out]
      go_wp2_with fail
      refine (isAddress_any _ _).mono ?_; rintro e w' ⟨rfl, rfl⟩
      rw [K2.out]
      go_wp2_with fail
      go_ret
      exact ⟨ret_bool HF.out.symm, below1 w _⟩
  · have K1 := Lib.hid (show byteB X.a = false by simpa using h1)
    have HF := Lib.hid (show machB X = false by simp [machB, K1.out])
    clear h1
    go_enter Tryd.func13, Tryd.ntmps13
    go_wp2_with fail
    refine (isByte_any _ _).mono ?_; rintro e w' ⟨rfl, rfl⟩
    rw [K1.out]
    go_wp2_with fail
    go_ret
    exact ⟨ret_bool HF.out.symm, below1 w _⟩
end Go.Proofs.YtcapfafglikcmaaDoor
