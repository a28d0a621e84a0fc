/- Tests on numbers and on lists of numbers that every chapter reaches: the program's and the model's. -/
import Derived.Test.YtihohmmfgamecaaOctet
import Derived.Test.YtihohmmfgamecaaMemMath
import Derived.Test.YtihohmmfgamecaaHeap
namespace Go.Proofs.Ytihohmmfgamecaa
open Go.ChangeShapes Go.WideShapes Go.ChangeAt Go.RowKit

theorem ret_bool {a b : Bool} (h : a = b) : Ending.returned (.bool a) = .returned (.bool b) := by rw [h]
theorem isByte_any (x : Int) (w : World) : Calls Try.prog 64 #[.int .i64 x] w fun e w' => e = .returned (.bool (byteB x)) ∧ w = w' := by
  by_cases h : byteB x = true
  · have HB := Lib.hid h
    obtain ⟨h0, h1⟩ := byteB_yes h
    rw [h]
    clear h
    go_enter Try.func64, Try.ntmps64
    go_wp2_with fail
    refine (toOctet_yes _ _ h0 h1).mono ?_; rintro e w' ⟨rfl, rfl⟩
    go_wp2_with fail
    go_ret
    exact ⟨rfl, rfl⟩
  · have h' : byteB x = false := by simpa using h
    have HO := Lib.hid (byteB_no h')
    rw [h']
    clear h h'
    go_enter Try.func64, Try.ntmps64
    go_wp2_with fail
    refine (toOctet_no _ _ HO.out).mono ?_; rintro e w' ⟨rfl, rfl⟩
    go_wp2_with fail
    go_ret
    exact ⟨rfl, rfl⟩
theorem allBytes_any (A : Option Addr) (n c : Nat) (xs : List Int) (fa : List Nat) (w : World) (ha : Ints w A n xs fa) (hn : n ≤ 1000000000) :
    Calls Try.prog 48 #[.slice A n c] w fun e w' => e = .returned (.bool (bytesB xs)) ∧ w = w' := by
  have HA := Lib.hid ha
  clear ha
  go_enter Try.func48, Try.ntmps48
  go_wp2
  go_loop [7] (fun i => ∃ k : Nat, k ≤ n ∧ i = .int .i64 k ∧ ∀ j, j < k → byteB (xs.getD j 0) = true) (fun i => n - (intOf i).toNat)
  case atStart => exact ⟨0, Nat.zero_le _, rfl, fun j hj => by omega⟩
  case round =>
    obtain ⟨k, hk, rfl, hm⟩ := hrel
    have HM := Lib.hid hm
    clear hm
    by_cases hlt : k < n
    · obtain ⟨p, o, rfl, hfp, hp, hc⟩ := HA.out.at_ (by omega)
      have c1 := hc k hlt
      obtain ⟨x, hx⟩ : ∃ x, x = xs.getD k 0 := ⟨_, rfl⟩
      rw [← hx] at c1
      have HX := Lib.hid hx
      clear hc hfp hx
      by_cases hb : byteB x = true
      · have HB := Lib.hid hb
        clear hb
        go_wp2_with fail
        refine (isByte_any _ _).mono ?_; rintro e w' ⟨rfl, rfl⟩
        rw [HB.out]
        go_wp2_with fail
        go_round
        case rel => exact ⟨k + 1, by omega, by go_num, fun j hj => by
          by_cases h : j = k
          · subst h; rw [← HX.out]; exact HB.out
          · exact HM.out j (by omega)⟩
        case measure => simp [intOf]; omega
      · have HB := Lib.hid (show byteB x = false by simpa using hb)
        have HF := Lib.hid (bytesB_no xs k (by rw [HA.out.1]; exact hlt) (by rw [← HX.out]; exact HB.out))
        clear hb
        go_wp2_with fail
        refine (isByte_any _ _).mono ?_; rintro e w' ⟨rfl, rfl⟩
        rw [HB.out]
        go_wp2_with fail
        go_ret
        exact ⟨ret_bool HF.out.symm, rfl⟩
    · have HF := Lib.hid ((bytesB_iff xs).2 fun i hi => HM.out i (by have := HA.out.1; omega))
      go_wp2
      go_ret
      exact ⟨ret_bool HF.out.symm, rfl⟩
def betB (a l h : Int) : Bool := decide (l ≤ a) && decide (a ≤ h)
theorem betB_yes {a l h : Int} (e : betB a l h = true) : l ≤ a ∧ a ≤ h := by simpa [betB] using e
theorem l1In_any (a l h : Int) (w : World) : Calls Try.prog 45 #[.int .i64 a, .int .i64 l, .int .i64 h] w fun e w' => e = .returned (.bool (betB a l h)) ∧ w = w' := by
  by_cases h0 : l ≤ a
  · by_cases h1 : a ≤ h
    · have e : betB a l h = true := by simp [betB, h0, h1]
      rw [e]
      clear e
      go_enter Try.func45, Try.ntmps45
      go_wp2
      go_ret
      exact ⟨rfl, rfl⟩
    · have e : betB a l h = false := by simp [betB, h1]
      have hd : decide (a ≤ h) = false := by simp; omega
      rw [e]
      clear e h1
      go_enter Try.func45, Try.ntmps45
      go_wp2
      go_ret
      exact ⟨rfl, rfl⟩
  · have e : betB a l h = false := by simp [betB, h0]
    have hd : decide (l ≤ a) = false := by simp; omega
    rw [e]
    clear e h0
    go_enter Try.func45, Try.ntmps45
    go_wp2
    go_ret
    exact ⟨rfl, rfl⟩
theorem l1Byte_any (x : Int) (w : World) : Calls Try.prog 66 #[.int .i64 x] w fun e w' => e = .returned (.bool (byteB x)) ∧ w = w' := by
  go_enter Try.func66, Try.ntmps66
  go_wp2_with fail
  refine (l1In_any _ _ _ _).mono ?_; rintro e w' ⟨rfl, rfl⟩
  go_wp2_with fail
  go_ret
  exact ⟨rfl, rfl⟩
end Go.Proofs.Ytihohmmfgamecaa
