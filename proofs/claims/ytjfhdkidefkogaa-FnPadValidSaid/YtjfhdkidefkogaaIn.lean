/- Tests on numbers and on lists of numbers that every chapter reaches: the program's and the model's. -/
import Derived.Test.YtjfhdkidefkogaaOctet
import Derived.Test.YtjfhdkidefkogaaMemMath
import Derived.Test.YtjfhdkidefkogaaHeap
namespace Go.Proofs.Ytjfhdkidefkogaa
open Go.ChangeShapes Go.WideShapes Go.ChangeAt Go.RowKit

theorem ret_bool {a b : Bool} (h : a = b) : Ending.returned (.bool a) = .returned (.bool b) := by rw [h]
theorem isByte_any (x : Int) (w : World) : Calls Try.prog 49 #[.int .i64 x] w fun e w' => e = .returned (.bool (byteB x)) ∧ w = w' := by
  by_cases h : byteB x = true
  · have HB := Lib.hid h
    obtain ⟨h0, h1⟩ := byteB_yes h
    rw [h]
    clear h
    go_enter Try.func49, Try.ntmps49
    go_wp2_with fail
    refine (toOctet_yes _ _ h0 h1).mono ?_; rintro e w' ⟨rfl, rfl⟩
    go_wp2_with fail
    go_ret
    exact ⟨rfl, rfl⟩
  · have h' : byteB x = false := by simpa using h
    have HO := Lib.hid (byteB_no h')
    rw [h']
    clear h h'
    go_enter Try.func49, Try.ntmps49
    go_wp2_with fail
    refine (toOctet_no _ _ HO.out).mono ?_; rintro e w' ⟨rfl, rfl⟩
    go_wp2_with fail
    go_ret
    exact ⟨rfl, rfl⟩
def betB (a l h : Int) : Bool := decide (l ≤ a) && decide (a ≤ h)
theorem betB_yes {a l h : Int} (e : betB a l h = true) : l ≤ a ∧ a ≤ h := by simpa [betB] using e
theorem l1In_any (a l h : Int) (w : World) : Calls Try.prog 38 #[.int .i64 a, .int .i64 l, .int .i64 h] w fun e w' => e = .returned (.bool (betB a l h)) ∧ w = w' := by
  by_cases h0 : l ≤ a
  · by_cases h1 : a ≤ h
    · have e : betB a l h = true := by simp [betB, h0, h1]
      rw [e]
      clear e
      go_enter Try.func38, Try.ntmps38
      go_wp2
      go_ret
      exact ⟨rfl, rfl⟩
    · have e : betB a l h = false := by simp [betB, h1]
      have hd : decide (a ≤ h) = false := by simp; omega
      rw [e]
      clear e h1
      go_enter Try.func38, Try.ntmps38
      go_wp2
      go_ret
      exact ⟨rfl, rfl⟩
  · have e : betB a l h = false := by simp [betB, h0]
    have hd : decide (l ≤ a) = false := by simp; omega
    rw [e]
    clear e h0
    go_enter Try.func38, Try.ntmps38
    go_wp2
    go_ret
    exact ⟨rfl, rfl⟩
theorem l1Byte_any (x : Int) (w : World) : Calls Try.prog 37 #[.int .i64 x] w fun e w' => e = .returned (.bool (byteB x)) ∧ w = w' := by
  go_enter Try.func37, Try.ntmps37
  go_wp2_with fail
  refine (l1In_any _ _ _ _).mono ?_; rintro e w' ⟨rfl, rfl⟩
  go_wp2_with fail
  go_ret
  exact ⟨rfl, rfl⟩
end Go.Proofs.Ytjfhdkidefkogaa
