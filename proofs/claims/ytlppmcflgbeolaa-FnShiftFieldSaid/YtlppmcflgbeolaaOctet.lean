/- The few contracts of chapter 1 that every later chapter's laws reach: a number as an octet, SignedByte at a byte, 'alive'. -/
import Derived.Test.YtlppmcflgbeolaaBase
import Derived.Test.YtlppmcflgbeolaaBytesMath
import Derived.Lib.BitFns
import Derived.Laws.BitsAllLaws
import Derived.Deep.QuietTactic
import Derived.BigQuiet
namespace Go.Proofs.Ytlppmcflgbeolaa
open Go.ChangeShapes Go.WideShapes Go.ChangeAt Go.RowKit

theorem ret_int {k : IntKind} {a b : Int} (h : a = b) : Ending.returned (.int k a) = .returned (.int k b) := by rw [h]
theorem i8_of (a : Int) (h0 : 128 ≤ a) (h1 : a ≤ 255) : wrap64 (IntKind.i8.wrap a) = sgn a := by
  have e : IntKind.i8.wrap a = a - 256 := by simp [IntKind.wrap, IntKind.bits, IntKind.signed]; omega
  rw [e]; unfold wrap64 sgn; rw [if_pos h0]; omega

theorem signed_any (a : Int) (w : World) (h0 : 0 ≤ a) (h1 : a ≤ 255) :
    Calls Try.prog 68 #[.int .u8 a] w fun e w' => e = .returned (.int .i64 (sgn a)) ∧ w = w' := by
  by_cases h : a < 128
  · go_enter Try.func68, Try.ntmps68
    go_wp2
    go_ret
    exact ⟨ret_int (by unfold sgn; rw [if_neg (by omega)]), rfl⟩
  · have H : 128 ≤ a := by omega
    clear h
    go_enter Try.func68, Try.ntmps68
    go_wp2
    go_ret
    exact ⟨ret_int (i8_of a H h1), rfl⟩
theorem toOctet_yes (a : Int) (w : World) (h0 : 0 ≤ a) (h1 : a ≤ 255) :
    Calls Try.prog 67 #[.int .i64 a] w fun e w' => e = .returned (.tuple #[.int .u8 a, .bool true]) ∧ w = w' := by
  go_enter Try.func67, Try.ntmps67
  go_wp2
  go_ret2
  exact ⟨rfl, rfl⟩
theorem toOctet_no (a : Int) (w : World) (h : a < 0 ∨ 255 < a) :
    Calls Try.prog 67 #[.int .i64 a] w fun e w' => e = .returned (.tuple #[.int .u8 0, .bool false]) ∧ w = w' := by
  rcases h with h | h
  all_goals
    go_enter Try.func67, Try.ntmps67
    go_wp2
    go_ret2
    exact ⟨rfl, rfl⟩
theorem impl_sgn (a : Int) (w : World) (h0 : 0 ≤ a) (h1 : a ≤ 255) :
    Calls Try.prog 43 #[.int .i64 a] w fun e w' => e = .returned (.int .i64 (sgn a)) ∧ w = w' := by
  go_enter Try.func43, Try.ntmps43
  go_wp2_with fail
  refine (toOctet_yes _ _ h0 h1).mono ?_; rintro e w' ⟨rfl, rfl⟩
  go_wp2_with fail
  refine (signed_any _ _ h0 h1).mono ?_; rintro e w' ⟨rfl, rfl⟩
  go_wp2_with fail
  go_ret
  exact ⟨rfl, rfl⟩
theorem alive_any (w : World) : Calls Try.prog 15 #[] w fun e w' => e = .returned (.bool true) ∧ w = w' := by
  go_enter Try.func15, Try.ntmps15
  go_wp2_with fail
  refine (impl_sgn 255 _ (by omega) (by omega)).mono ?_; rintro e w' ⟨rfl, rfl⟩
  have hs : sgn 255 = -1 := by decide
  go_wp2_with fail
  go_ret
  exact ⟨rfl, rfl⟩
end Go.Proofs.Ytlppmcflgbeolaa
