/- The timer as plain numbers; the program's and the model's functions on it. -/
import Derived.Test.YtmmngdofbmkmhaaIn
import Derived.IntWalk
import Derived.Deep.QuietTactic
import Derived.BigQuiet
import Derived.Deep.RegionLaw
namespace Go.Proofs.Ytmmngdofbmkmhaa
open Go.ChangeShapes Go.WideShapes Go.ChangeAt Go.RowKit

theorem betB_iff {a l h : Int} : betB a l h = true ↔ l ≤ a ∧ a ≤ h := by simp [betB]
def timB (l r f : Int) : Bool := betB l 0 1000 && betB r 0 1000 && betB f 0 1000000000
theorem timB_iff {l r f : Int} : timB l r f = true ↔ (0 ≤ l ∧ l ≤ 1000) ∧ (0 ≤ r ∧ r ≤ 1000) ∧ 0 ≤ f ∧ f ≤ 1000000000 := by simp [timB, betB, and_assoc]
theorem timB_no {l r f : Int} (h : timB l r f = false) : ¬ ((0 ≤ l ∧ l ≤ 1000) ∧ (0 ≤ r ∧ r ≤ 1000) ∧ 0 ≤ f ∧ f ≤ 1000000000) := fun k => by rw [timB_iff.2 k] at h; cases h
/-- The number of cycles up to the next firing. -/
def nxT (l r f : Int) : Int := if timB l r f = true then l + 1 else -1
/-- The timer after n cycles. -/
def skL (l r n : Int) : Int := if n ≤ l then l - n else r - (n - l - 1) % (r + 1)
def skF (l r f n : Int) : Int := if n ≤ l then f else f + 1 + (n - l - 1) / (r + 1)
theorem impl_timValid (l r f : Int) (w : World) : Calls Try.prog 13 #[.agg #[.int .i64 l, .int .i64 r, .int .i64 f]] w fun e w' => e = .returned (.bool (timB l r f)) ∧ Below w.heap.size w w' := by
  by_cases h0 : 0 ≤ l
  · by_cases h1 : l ≤ 1000
    · by_cases h2 : 0 ≤ r
      · by_cases h3 : r ≤ 1000
        · by_cases h4 : 0 ≤ f
          · by_cases h5 : f ≤ 1000000000
            · have HF := Lib.hid (show timB l r f = true from timB_iff.2 ⟨⟨h0, h1⟩, ⟨h2, h3⟩, h4, h5⟩)
              go_enter Try.func13, Try.ntmps13
              go_wp2_with fail
              go_ret
              exact ⟨ret_bool HF.out.symm, below1 w _⟩
            · have h5' : 1000000000 < f := by omega
              have h5'' : decide (f ≤ 1000000000) = false := by simpa using h5
              have HF := Lib.hid (show timB l r f = false by simp [timB, betB, h5])
              clear h5
              go_enter Try.func13, Try.ntmps13
              go_wp2_with fail
              go_ret
              exact ⟨ret_bool HF.out.symm, below1 w _⟩
          · have h4' : f < 0 := by omega
            have h4'' : decide (0 ≤ f) = false := by simpa using h4
            have HF := Lib.hid (show timB l r f = false by simp [timB, betB, h4])
            clear h4
            go_enter Try.func13, Try.ntmps13
            go_wp2_with fail
            go_ret
            exact ⟨ret_bool HF.out.symm, below1 w _⟩
        · have h3' : 1000 < r := by omega
          have h3'' : decide (r ≤ 1000) = false := by simpa using h3
          have HF := Lib.hid (show timB l r f = false by simp [timB, betB, h3])
          clear h3
          go_enter Try.func13, Try.ntmps13
          go_wp2_with fail
          go_ret
          exact ⟨ret_bool HF.out.symm, below1 w _⟩
      · have h2' : r < 0 := by omega
        have h2'' : decide (0 ≤ r) = false := by simpa using h2
        have HF := Lib.hid (show timB l r f = false by simp [timB, betB, h2])
        clear h2
        go_enter Try.func13, Try.ntmps13
        go_wp2_with fail
        go_ret
        exact ⟨ret_bool HF.out.symm, below1 w _⟩
    · have h1' : 1000 < l := by omega
      have h1'' : decide (l ≤ 1000) = false := by simpa using h1
      have HF := Lib.hid (show timB l r f = false by simp [timB, betB, h1])
      clear h1
      go_enter Try.func13, Try.ntmps13
      go_wp2_with fail
      go_ret
      exact ⟨ret_bool HF.out.symm, below1 w _⟩
  · have h0' : l < 0 := by omega
    have h0'' : decide (0 ≤ l) = false := by simpa using h0
    have HF := Lib.hid (show timB l r f = false by simp [timB, betB, h0])
    clear h0
    go_enter Try.func13, Try.ntmps13
    go_wp2_with fail
    go_ret
    exact ⟨ret_bool HF.out.symm, below1 w _⟩
theorem spec_timValid (l r f : Int) (w : World) : Calls Try.prog 14 #[.agg #[.int .i64 l, .int .i64 r, .int .i64 f]] w fun e w' => e = .returned (.bool (timB l r f)) ∧ Below w.heap.size w w' := by
  by_cases h0 : betB l 0 1000 = true
  · have K0 := Lib.hid h0
    clear h0
    by_cases h1 : betB r 0 1000 = true
    · have K1 := Lib.hid h1
      clear h1
      obtain ⟨v, hv⟩ : ∃ v, betB f 0 1000000000 = v := ⟨_, rfl⟩
      have K2 := Lib.hid hv
      clear hv
      have HF := Lib.hid (show timB l r f = v by simp [timB, K0.out, K1.out, K2.out])
      go_enter Try.func14, Try.ntmps14
      go_wp2_with fail
      refine (l1In_any _ _ _ _).mono ?_; rintro e w' ⟨rfl, rfl⟩
      rw [K0.out]
      go_wp2_with fail
      refine (l1In_any _ _ _ _).mono ?_; rintro e w' ⟨rfl, rfl⟩
      rw [K1.out]
      go_wp2_with fail
      refine (l1In_any _ _ _ _).mono ?_; rintro e w' ⟨rfl, rfl⟩
      rw [K2.out]
      go_wp2_with fail
      go_ret
      exact ⟨ret_bool HF.out.symm, below1 w _⟩
    · have K1 := Lib.hid (show betB r 0 1000 = false by simpa using h1)
      clear h1
      have HF := Lib.hid (show timB l r f = false by simp [timB, K1.out])
      go_enter Try.func14, Try.ntmps14
      go_wp2_with fail
      refine (l1In_any _ _ _ _).mono ?_; rintro e w' ⟨rfl, rfl⟩
      rw [K0.out]
      go_wp2_with fail
      refine (l1In_any _ _ _ _).mono ?_; rintro e w' ⟨rfl, rfl⟩
      rw [K1.out]
      go_wp2_with fail
      go_ret
      exact ⟨ret_bool HF.out.symm, below1 w _⟩
  · have K0 := Lib.hid (show betB l 0 1000 = false by simpa using h0)
    clear h0
    have HF := Lib.hid (show timB l r f = false by simp [timB, K0.out])
    go_enter Try.func14, Try.ntmps14
    go_wp2_with fail
    refine (l1In_any _ _ _ _).mono ?_; rintro e w' ⟨rfl, rfl⟩
    rw [K0.out]
    go_wp2_with fail
    go_ret
    exact ⟨ret_bool HF.out.symm, below1 w _⟩
theorem impl_next (l r f : Int) (w : World) : Calls Try.prog 23 #[.agg #[.int .i64 l, .int .i64 r, .int .i64 f]] w fun e w' => e = .returned (.int .i64 (nxT l r f)) ∧ Below w.heap.size w w' := by
  by_cases h : timB l r f = true
  · have K := Lib.hid h
    have hl := (timB_iff.1 h).1
    obtain ⟨hl0, hl1⟩ := hl
    rw [show nxT l r f = l + 1 from if_pos h]
    clear h
    go_enter Try.func23, Try.ntmps23
    go_wp2_with fail
    refine (impl_timValid _ _ _ _).mono ?_
    rintro e w1 ⟨rfl, b1⟩
    have X1 : Hid (Box w1 w.heap.size 24 [.int .i64 l, .int .i64 r, .int .i64 f]) := (Box.new w _ _).below b1
    have B1 : Hid (Below w.heap.size w w1) := (below1 w _).trans (b1.mono (by simp))
    clear b1
    rw [K.out]
    have c0 : w1.cell? ⟨w.heap.size, 0, none⟩ = some (.int .i64 l) := X1.out.cell 0
    go_wp2_with fail
    go_ret
    exact ⟨rfl, B1.out⟩
  · have K := Lib.hid (show timB l r f = false by simpa using h)
    rw [show nxT l r f = -1 from if_neg h]
    clear h
    go_enter Try.func23, Try.ntmps23
    go_wp2_with fail
    refine (impl_timValid _ _ _ _).mono ?_
    rintro e w1 ⟨rfl, b1⟩
    have X1 : Hid (Box w1 w.heap.size 24 [.int .i64 l, .int .i64 r, .int .i64 f]) := (Box.new w _ _).below b1
    have B1 : Hid (Below w.heap.size w w1) := (below1 w _).trans (b1.mono (by simp))
    clear b1
    rw [K.out]
    go_wp2_with fail
    go_ret
    exact ⟨rfl, B1.out⟩
theorem spec_next (l r f : Int) (w : World) : Calls Try.prog 24 #[.agg #[.int .i64 l, .int .i64 r, .int .i64 f]] w fun e w' => e = .returned (.int .i64 (nxT l r f)) ∧ Below w.heap.size w w' := by
  by_cases h : timB l r f = true
  · have K := Lib.hid h
    have hl := (timB_iff.1 h).1
    obtain ⟨hl0, hl1⟩ := hl
    rw [show nxT l r f = l + 1 from if_pos h]
    clear h
    go_enter Try.func24, Try.ntmps24
    go_wp2_with fail
    refine (spec_timValid _ _ _ _).mono ?_
    rintro e w1 ⟨rfl, b1⟩
    have X1 : Hid (Box w1 w.heap.size 24 [.int .i64 l, .int .i64 r, .int .i64 f]) := (Box.new w _ _).below b1
    have B1 : Hid (Below w.heap.size w w1) := (below1 w _).trans (b1.mono (by simp))
    clear b1
    rw [K.out]
    have c0 : w1.cell? ⟨w.heap.size, 0, none⟩ = some (.int .i64 l) := X1.out.cell 0
    go_wp2_with fail
    go_ret
    exact ⟨rfl, B1.out⟩
  · have K := Lib.hid (show timB l r f = false by simpa using h)
    rw [show nxT l r f = -1 from if_neg h]
    clear h
    go_enter Try.func24, Try.ntmps24
    go_wp2_with fail
    refine (spec_timValid _ _ _ _).mono ?_
    rintro e w1 ⟨rfl, b1⟩
    have X1 : Hid (Box w1 w.heap.size 24 [.int .i64 l, .int .i64 r, .int .i64 f]) := (Box.new w _ _).below b1
    have B1 : Hid (Below w.heap.size w w1) := (below1 w _).trans (b1.mono (by simp))
    clear b1
    rw [K.out]
    go_wp2_with fail
    go_ret
    exact ⟨rfl, B1.out⟩
end Go.Proofs.Ytmmngdofbmkmhaa
