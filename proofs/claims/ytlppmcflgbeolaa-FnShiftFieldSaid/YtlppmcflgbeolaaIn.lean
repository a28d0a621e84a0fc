/- Tests on numbers and on lists of numbers that every chapter reaches: the program's and the model's. -/
import Derived.Test.YtlppmcflgbeolaaOctet
import Derived.Test.YtlppmcflgbeolaaMemMath
import Derived.Test.YtlppmcflgbeolaaHeap
namespace Go.Proofs.Ytlppmcflgbeolaa
open Go.ChangeShapes Go.WideShapes Go.ChangeAt Go.RowKit

theorem ret_bool {a b : Bool} (h : a = b) : Ending.returned (.bool a) = .returned (.bool b) := by rw [h]
def betB (a l h : Int) : Bool := decide (l ≤ a) && decide (a ≤ h)
theorem betB_yes {a l h : Int} (e : betB a l h = true) : l ≤ a ∧ a ≤ h := by simpa [betB] using e
theorem l1In_any (a l h : Int) (w : World) : Calls Try.prog 41 #[.int .i64 a, .int .i64 l, .int .i64 h] w fun e w' => e = .returned (.bool (betB a l h)) ∧ w = w' := by
  by_cases h0 : l ≤ a
  · by_cases h1 : a ≤ h
    · have e : betB a l h = true := by simp [betB, h0, h1]
      rw [e]
      clear e
      go_enter Try.func41, Try.ntmps41
      go_wp2
      go_ret
      exact ⟨rfl, rfl⟩
    · have e : betB a l h = false := by simp [betB, h1]
      have hd : decide (a ≤ h) = false := by simp; omega
      rw [e]
      clear e h1
      go_enter Try.func41, Try.ntmps41
      go_wp2
      go_ret
      exact ⟨rfl, rfl⟩
  · have e : betB a l h = false := by simp [betB, h0]
    have hd : decide (l ≤ a) = false := by simp; omega
    rw [e]
    clear e h0
    go_enter Try.func41, Try.ntmps41
    go_wp2
    go_ret
    exact ⟨rfl, rfl⟩
end Go.Proofs.Ytlppmcflgbeolaa
