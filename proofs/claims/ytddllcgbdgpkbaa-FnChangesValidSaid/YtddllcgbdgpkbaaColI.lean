/- Columns and lines: the program's two tests. -/
import Derived.Test.YtddllcgbdgpkbaaFldM
import Derived.Test.YtddllcgbdgpkbaaFldA
import Derived.Deep.Slices
import Derived.Laws.Slices
namespace Go.Proofs.Ytddllcgbdgpkbaa
open Go.ChangeShapes Go.WideShapes Go.ChangeAt Go.RowKit
set_option linter.unusedVariables false

theorem betB_no {a l h : Int} (k : ¬ (l ≤ a ∧ a ≤ h)) : betB a l h = false := by
  cases e : betB a l h
  · rfl
  · exact absurd (betB_iff.1 e) k
theorem im_isColumn (x : Int) (w : World) : Calls Try.prog 59 #[.int .i64 x] w fun e w' => e = .returned (.bool (betB x 0 31)) ∧ w = w' := by
  by_cases h0 : 0 ≤ x
  · by_cases h1 : x < 32
    · have HB := Lib.hid (betB_iff.2 (show 0 ≤ x ∧ x ≤ 31 by omega))
      go_enter Try.func59, Try.ntmps59
      go_wp2_with fail
      go_ret
      exact ⟨ret_bool HB.out.symm, rfl⟩
    · have HB := Lib.hid (betB_no (show ¬ (0 ≤ x ∧ x ≤ 31) by omega))
      have hd : decide (x < 32) = false := by simp; omega
      clear h1
      go_enter Try.func59, Try.ntmps59
      go_wp2_with fail
      go_ret
      exact ⟨ret_bool HB.out.symm, rfl⟩
  · have HB := Lib.hid (betB_no (show ¬ (0 ≤ x ∧ x ≤ 31) by omega))
    have hd : decide (0 ≤ x) = false := by simp; omega
    clear h0
    go_enter Try.func59, Try.ntmps59
    go_wp2_with fail
    go_ret
    exact ⟨ret_bool HB.out.symm, rfl⟩
theorem im_isLine (x : Int) (w : World) : Calls Try.prog 41 #[.int .i64 x] w fun e w' => e = .returned (.bool (betB x 0 15)) ∧ w = w' := by
  by_cases h0 : 0 ≤ x
  · by_cases h1 : x < 16
    · have HB := Lib.hid (betB_iff.2 (show 0 ≤ x ∧ x ≤ 15 by omega))
      go_enter Try.func41, Try.ntmps41
      go_wp2_with fail
      go_ret
      exact ⟨ret_bool HB.out.symm, rfl⟩
    · have HB := Lib.hid (betB_no (show ¬ (0 ≤ x ∧ x ≤ 15) by omega))
      have hd : decide (x < 16) = false := by simp; omega
      clear h1
      go_enter Try.func41, Try.ntmps41
      go_wp2_with fail
      go_ret
      exact ⟨ret_bool HB.out.symm, rfl⟩
  · have HB := Lib.hid (betB_no (show ¬ (0 ≤ x ∧ x ≤ 15) by omega))
    have hd : decide (0 ≤ x) = false := by simp; omega
    clear h0
    go_enter Try.func41, Try.ntmps41
    go_wp2_with fail
    go_ret
    exact ⟨ret_bool HB.out.symm, rfl⟩
/-- A part of a tile's own pixels. -/
theorem run_slice_pixels (w : World) (q k g h : Nat) (hg : g ≤ h) (h64 : h ≤ 64) (g64 : g < 64) :
    (Instr.sliceAt 72 (.pointer (some ⟨q, k, none⟩)) (some (.int .i64 (g : Int))) (some (.int .i64 (h : Int))) none).run Try.prog w = .ok (.slice (some ⟨q, k + g, none⟩) (h - g) (64 - g)) w := by
  have ha : Try.prog.arrayLen 72 = 64 := by kernel_rfl
  have he : Try.prog.elem 72 = 3 := by kernel_rfl
  have ht : Try.prog.underlying 72 = some (.array (Try.prog.arrayLen 72) (Try.prog.elem 72)) := by rw [ha, he]; exact Try.underlying72
  have hso : (sizeOf 3).run Try.prog w = .ok 1 w := by
    have hz := int_size
    cases hq : Try.prog.info? 3 with
    | none => simp [hq] at hz
    | some q => simp [hq] at hz; simp [sizeOf, typeInfo, hq, hz]
  rw [run_sliceAt_array_lh w _ _ ht .i64 .i64 (g : Int) (h : Int) (by omega) (by omega) (by rw [ha]; omega), ha, he, hso]
  have hne : ¬ 64 = g := by omega
  simp only [Result.andThen_ok, slicedAt, Int.toNat_natCast, if_neg hne, Nat.mul_one, add_none]
end Go.Proofs.Ytddllcgbdgpkbaa
