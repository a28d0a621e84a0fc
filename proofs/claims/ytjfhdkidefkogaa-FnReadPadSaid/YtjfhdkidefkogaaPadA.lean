/- The controller as plain numbers; the program's and the model's functions on it. -/
import Derived.Test.YtjfhdkidefkogaaIn
import Derived.IntWalk
import Derived.Deep.QuietTactic
import Derived.BigQuiet
import Derived.Deep.RegionLaw
namespace Go.Proofs.Ytjfhdkidefkogaa
open Go.ChangeShapes Go.WideShapes Go.ChangeAt Go.RowKit

theorem betB_iff {a l h : Int} : betB a l h = true ↔ l ≤ a ∧ a ≤ h := by simp [betB]
/-- Whether three numbers are a controller. -/
def padB (p t r : Int) : Bool := byteB p && byteB t && betB r 0 8
theorem padB_iff {p t r : Int} : padB p t r = true ↔ (0 ≤ p ∧ p ≤ 255) ∧ (0 ≤ t ∧ t ≤ 255) ∧ 0 ≤ r ∧ r ≤ 8 := by simp [padB, byteB, betB, and_assoc]
/-- What pressing, latching and reading lead to. -/
def PressTo (p t r b x0 x1 x2 : Int) : Prop := if (padB p t r && byteB b) = true then x0 = b ∧ x1 = t ∧ x2 = r else x0 = 0 ∧ x1 = 0 ∧ x2 = 0
def LatchTo (p t r x0 x1 x2 : Int) : Prop := if padB p t r = true then x0 = p ∧ x1 = p ∧ x2 = 0 else x0 = 0 ∧ x1 = 0 ∧ x2 = 0
def ReadTo (p t r x0 x1 x2 x3 : Int) : Prop := if padB p t r = true then (if r = 8 then x0 = p ∧ x1 = t ∧ x2 = 8 ∧ x3 = 1 else x0 = p ∧ x1 = t ∧ x2 = r + 1 ∧ x3 = t / 2 ^ r.toNat % 2) else x0 = 0 ∧ x1 = 0 ∧ x2 = 0 ∧ x3 = 0
theorem press_to (p t r b : Int) : ∃ x0 x1 x2, PressTo p t r b x0 x1 x2 := by
  unfold PressTo; split <;> exact ⟨_, _, _, rfl, rfl, rfl⟩
theorem latch_to (p t r : Int) : ∃ x0 x1 x2, LatchTo p t r x0 x1 x2 := by
  unfold LatchTo; split <;> exact ⟨_, _, _, rfl, rfl, rfl⟩
theorem read_to (p t r : Int) : ∃ x0 x1 x2 x3, ReadTo p t r x0 x1 x2 x3 := by
  unfold ReadTo; split
  · split <;> exact ⟨_, _, _, _, rfl, rfl, rfl, rfl⟩
  · exact ⟨_, _, _, _, rfl, rfl, rfl, rfl⟩
theorem press_yes {p t r b x0 x1 x2 : Int} (h : PressTo p t r b x0 x1 x2) (k : padB p t r = true) (kb : byteB b = true) : x0 = b ∧ x1 = t ∧ x2 = r := by
  unfold PressTo at h; rwa [if_pos (by rw [k, kb]; rfl)] at h
theorem press_no {p t r b x0 x1 x2 : Int} (h : PressTo p t r b x0 x1 x2) (k : padB p t r = false ∨ byteB b = false) : x0 = 0 ∧ x1 = 0 ∧ x2 = 0 := by
  unfold PressTo at h; rwa [if_neg (by rcases k with k | k <;> rw [k] <;> simp)] at h
theorem latch_yes {p t r x0 x1 x2 : Int} (h : LatchTo p t r x0 x1 x2) (k : padB p t r = true) : x0 = p ∧ x1 = p ∧ x2 = 0 := by
  unfold LatchTo at h; rwa [if_pos k] at h
theorem latch_no {p t r x0 x1 x2 : Int} (h : LatchTo p t r x0 x1 x2) (k : padB p t r = false) : x0 = 0 ∧ x1 = 0 ∧ x2 = 0 := by
  unfold LatchTo at h; rwa [if_neg (by rw [k]; simp)] at h
theorem read_end {p t r x0 x1 x2 x3 : Int} (h : ReadTo p t r x0 x1 x2 x3) (k : padB p t r = true) (k8 : r = 8) : x0 = p ∧ x1 = t ∧ x2 = 8 ∧ x3 = 1 := by
  unfold ReadTo at h; rwa [if_pos k, if_pos k8] at h
theorem read_next {p t r x0 x1 x2 x3 : Int} (h : ReadTo p t r x0 x1 x2 x3) (k : padB p t r = true) (k8 : ¬ r = 8) : x0 = p ∧ x1 = t ∧ x2 = r + 1 ∧ x3 = t / 2 ^ r.toNat % 2 := by
  unfold ReadTo at h; rwa [if_pos k, if_neg k8] at h
theorem read_no {p t r x0 x1 x2 x3 : Int} (h : ReadTo p t r x0 x1 x2 x3) (k : padB p t r = false) : x0 = 0 ∧ x1 = 0 ∧ x2 = 0 ∧ x3 = 0 := by
  unfold ReadTo at h; rwa [if_neg (by rw [k]; simp)] at h
theorem byte_all7 {P : Int → Prop} (h : ∀ n : Fin 256, P (n.val : Int)) (a : Int) (h0 : 0 ≤ a) (h1 : a ≤ 255) : P a := by
  have k := h ⟨a.toNat, by omega⟩
  simpa [Int.toNat_of_nonneg h0] using k
theorem shr_bd (t : Int) (k : Nat) (h0 : 0 ≤ t) (h1 : t ≤ 255) : 0 ≤ t / 2 ^ k ∧ t / 2 ^ k ≤ 255 :=
  ⟨Int.ediv_nonneg h0 (Int.le_of_lt (Int.pow_pos (by decide))), Int.le_trans (Int.ediv_le_self _ h0) h1⟩
theorem and_one (x : Int) (h0 : 0 ≤ x) (h1 : x ≤ 255) : bits .and .i64 x 1 = x % 2 :=
  byte_all7 (P := fun x => bits .and .i64 x 1 = x % 2) (by decide +kernel) x h0 h1
theorem pad_valid (p t r : Int) (w : World) : Calls Try.prog 36 #[.agg #[.int .i64 p, .int .i64 t, .int .i64 r]] w fun e w' => e = .returned (.bool (padB p t r)) ∧ Below w.heap.size w w' := by
  by_cases h0 : byteB p = true
  · have K0 := Lib.hid h0
    clear h0
    by_cases h1 : byteB t = true
    · have K1 := Lib.hid h1
      clear h1
      by_cases h2 : 0 ≤ r
      · by_cases h3 : r ≤ 8
        · have HF := Lib.hid (show padB p t r = true by simp [padB, K0.out, K1.out, betB, h2, h3])
          go_enter Try.func36, Try.ntmps36
          go_wp2_with fail
          refine (isByte_any _ _).mono ?_; rintro e w' ⟨rfl, rfl⟩
          rw [K0.out]
          go_wp2_with fail
          refine (isByte_any _ _).mono ?_; rintro e w' ⟨rfl, rfl⟩
          rw [K1.out]
          go_wp2_with fail
          go_ret
          exact ⟨ret_bool HF.out.symm, below1 w _⟩
        · have h3' : 8 < r := by omega
          have h3'' : decide (r ≤ 8) = false := by simpa using h3
          have HF := Lib.hid (show padB p t r = false by simp [padB, betB, h3])
          clear h3
          go_enter Try.func36, Try.ntmps36
          go_wp2_with fail
          refine (isByte_any _ _).mono ?_; rintro e w' ⟨rfl, rfl⟩
          rw [K0.out]
          go_wp2_with fail
          refine (isByte_any _ _).mono ?_; rintro e w' ⟨rfl, rfl⟩
          rw [K1.out]
          go_wp2_with fail
          go_ret
          exact ⟨ret_bool HF.out.symm, below1 w _⟩
      · have h2' : r < 0 := by omega
        have h2'' : decide (0 ≤ r) = false := by simpa using h2
        have HF := Lib.hid (show padB p t r = false by simp [padB, betB, h2])
        clear h2
        go_enter Try.func36, Try.ntmps36
        go_wp2_with fail
        refine (isByte_any _ _).mono ?_; rintro e w' ⟨rfl, rfl⟩
        rw [K0.out]
        go_wp2_with fail
        refine (isByte_any _ _).mono ?_; rintro e w' ⟨rfl, rfl⟩
        rw [K1.out]
        go_wp2_with fail
        go_ret
        exact ⟨ret_bool HF.out.symm, below1 w _⟩
    · have K1 := Lib.hid (show byteB t = false by simpa using h1)
      clear h1
      have HF := Lib.hid (show padB p t r = false by simp [padB, K1.out])
      go_enter Try.func36, Try.ntmps36
      go_wp2_with fail
      refine (isByte_any _ _).mono ?_; rintro e w' ⟨rfl, rfl⟩
      rw [K0.out]
      go_wp2_with fail
      refine (isByte_any _ _).mono ?_; rintro e w' ⟨rfl, rfl⟩
      rw [K1.out]
      go_wp2_with fail
      go_ret
      exact ⟨ret_bool HF.out.symm, below1 w _⟩
  · have K0 := Lib.hid (show byteB p = false by simpa using h0)
    clear h0
    have HF := Lib.hid (show padB p t r = false by simp [padB, K0.out])
    go_enter Try.func36, Try.ntmps36
    go_wp2_with fail
    refine (isByte_any _ _).mono ?_; rintro e w' ⟨rfl, rfl⟩
    rw [K0.out]
    go_wp2_with fail
    go_ret
    exact ⟨ret_bool HF.out.symm, below1 w _⟩
theorem impl_padValid (p t r : Int) (w : World) : Calls Try.prog 15 #[.agg #[.int .i64 p, .int .i64 t, .int .i64 r]] w fun e w' => e = .returned (.bool (padB p t r)) ∧ Below w.heap.size w w' := by
  go_enter Try.func15, Try.ntmps15
  go_wp2_with fail
  refine (pad_valid _ _ _ _).mono ?_; rintro e w1 ⟨rfl, b1⟩
  have B1 : Hid (Below w.heap.size w w1) := (below1 w _).trans (b1.mono (by simp))
  clear b1
  go_wp2_with fail
  go_ret
  exact ⟨rfl, B1.out⟩
theorem spec_padValid (p t r : Int) (w : World) : Calls Try.prog 16 #[.agg #[.int .i64 p, .int .i64 t, .int .i64 r]] w fun e w' => e = .returned (.bool (padB p t r)) ∧ Below w.heap.size w w' := by
  by_cases h0 : byteB p = true
  · have K0 := Lib.hid h0
    clear h0
    by_cases h1 : byteB t = true
    · have K1 := Lib.hid h1
      clear h1
      obtain ⟨v, hv⟩ : ∃ v, betB r 0 8 = v := ⟨_, rfl⟩
      have K2 := Lib.hid hv
      clear hv
      have HF := Lib.hid (show padB p t r = v by simp [padB, K0.out, K1.out, K2.out])
      go_enter Try.func16, Try.ntmps16
      go_wp2_with fail
      refine (l1Byte_any _ _).mono ?_; rintro e w' ⟨rfl, rfl⟩
      rw [K0.out]
      go_wp2_with fail
      refine (l1Byte_any _ _).mono ?_; rintro e w' ⟨rfl, rfl⟩
      rw [K1.out]
      go_wp2_with fail
      refine (l1In_any _ _ _ _).mono ?_; rintro e w' ⟨rfl, rfl⟩
      rw [K2.out]
      go_wp2_with fail
      go_ret
      exact ⟨ret_bool HF.out.symm, below1 w _⟩
    · have K1 := Lib.hid (show byteB t = false by simpa using h1)
      clear h1
      have HF := Lib.hid (show padB p t r = false by simp [padB, K1.out])
      go_enter Try.func16, Try.ntmps16
      go_wp2_with fail
      refine (l1Byte_any _ _).mono ?_; rintro e w' ⟨rfl, rfl⟩
      rw [K0.out]
      go_wp2_with fail
      refine (l1Byte_any _ _).mono ?_; rintro e w' ⟨rfl, rfl⟩
      rw [K1.out]
      go_wp2_with fail
      go_ret
      exact ⟨ret_bool HF.out.symm, below1 w _⟩
  · have K0 := Lib.hid (show byteB p = false by simpa using h0)
    clear h0
    have HF := Lib.hid (show padB p t r = false by simp [padB, K0.out])
    go_enter Try.func16, Try.ntmps16
    go_wp2_with fail
    refine (l1Byte_any _ _).mono ?_; rintro e w' ⟨rfl, rfl⟩
    rw [K0.out]
    go_wp2_with fail
    go_ret
    exact ⟨ret_bool HF.out.symm, below1 w _⟩
theorem pad_press (p t r b : Int) (w : World) (h0 : 0 ≤ b) (h1 : b ≤ 255) : Calls Try.prog 42 #[.agg #[.int .i64 p, .int .i64 t, .int .i64 r], .int .u8 b] w fun e w' => e = .returned (.agg #[.int .i64 b, .int .i64 t, .int .i64 r]) ∧ Below w.heap.size w w' := by
  have BB := Lib.hid (below2 w (.cells #[.int .i64 p, .int .i64 t, .int .i64 r] 24) (.cells #[.int .i64 0, .int .i64 0, .int .i64 0] 24))
  go_enter Try.func42, Try.ntmps42
  go_wp2_with fail
  refine bodyPost_ret (v := .agg #[.int .i64 b, .int .i64 t, .int .i64 r]) (by simp [results, Try.results42, go_sem]) rfl ⟨rfl, ?_⟩
  repeat (first | with_reducible exact BB.out | with_reducible exact below2 w _ _ | with_reducible refine Below.setCell ?_ (by simp) _ | with_reducible refine Below.drew ?_ | with_reducible refine below_drewN ?_ _)
theorem pad_latch (p t r : Int) (w : World) : Calls Try.prog 43 #[.agg #[.int .i64 p, .int .i64 t, .int .i64 r]] w fun e w' => e = .returned (.agg #[.int .i64 p, .int .i64 p, .int .i64 0]) ∧ Below w.heap.size w w' := by
  have BB := Lib.hid (below2 w (.cells #[.int .i64 p, .int .i64 t, .int .i64 r] 24) (.cells #[.int .i64 0, .int .i64 0, .int .i64 0] 24))
  go_enter Try.func43, Try.ntmps43
  go_wp2_with fail
  refine bodyPost_ret (v := .agg #[.int .i64 p, .int .i64 p, .int .i64 0]) (by simp [results, Try.results43, go_sem]) rfl ⟨rfl, ?_⟩
  repeat (first | with_reducible exact BB.out | with_reducible exact below2 w _ _ | with_reducible refine Below.setCell ?_ (by simp) _ | with_reducible refine Below.drew ?_ | with_reducible refine below_drewN ?_ _)
theorem pad_next (p t r x0 x1 x2 x3 : Int) (w : World) (k : padB p t r = true) (h : ReadTo p t r x0 x1 x2 x3) : Calls Try.prog 44 #[.agg #[.int .i64 p, .int .i64 t, .int .i64 r]] w fun e w' => e = .returned (.tuple #[.agg #[.int .i64 x0, .int .i64 x1, .int .i64 x2], .int .i64 x3]) ∧ Below w.heap.size w w' := by
  obtain ⟨⟨p0, p1⟩, ⟨t0, t1⟩, r0, r1⟩ := padB_iff.1 k
  have BB := Lib.hid (below2 w (.cells #[.int .i64 p, .int .i64 t, .int .i64 r] 24) (.cells #[.int .i64 0, .int .i64 0, .int .i64 0] 24))
  by_cases h8 : r = 8
  · obtain ⟨rfl, rfl, rfl, rfl⟩ := read_end h k h8
    clear h k
    subst h8
    go_enter Try.func44, Try.ntmps44
    go_wp2_with fail
    refine bodyPost_ret (v := .tuple #[.agg #[.int .i64 x0, .int .i64 x1, .int .i64 8], .int .i64 1]) (by simp [results, Try.results44, go_sem]) rfl ⟨rfl, ?_⟩
    repeat (first | with_reducible exact BB.out | with_reducible exact below2 w _ _ | with_reducible refine Below.setCell ?_ (by simp) _ | with_reducible refine Below.drew ?_ | with_reducible refine below_drewN ?_ _)
  · obtain ⟨rfl, rfl, rfl, hx⟩ := read_next h k h8
    have hd : (r == 8) = false := by simpa using h8
    obtain ⟨j, rfl⟩ := Int.eq_ofNat_of_zero_le r0
    obtain ⟨s0, s1⟩ := shr_bd x1 j t0 t1
    have HX : Hid (bits .and .i64 (x1 / 2 ^ j) 1 = x3) := by rw [hx, Int.toNat_natCast]; exact and_one _ s0 s1
    clear h k h8 hx
    go_enter Try.func44, Try.ntmps44
    go_wp2_with fail
    refine bodyPost_ret (v := .tuple #[.agg #[.int .i64 x0, .int .i64 x1, .int .i64 ((j : Int) + 1)], .int .i64 (bits .and .i64 (x1 / 2 ^ j) 1)]) (by simp [results, Try.results44, go_sem]) rfl ⟨by rw [HX.out], ?_⟩
    repeat (first | with_reducible exact BB.out | with_reducible exact below2 w _ _ | with_reducible refine Below.setCell ?_ (by simp) _ | with_reducible refine Below.drew ?_ | with_reducible refine below_drewN ?_ _)
theorem impl_press (p t r b x0 x1 x2 : Int) (w : World) (h : PressTo p t r b x0 x1 x2) : Calls Try.prog 19 #[.agg #[.int .i64 p, .int .i64 t, .int .i64 r], .int .i64 b] w fun e w' => e = .returned (.agg #[.int .i64 x0, .int .i64 x1, .int .i64 x2]) ∧ Below w.heap.size w w' := by
  have BB := Lib.hid (below2 w (.cells #[.int .i64 p, .int .i64 t, .int .i64 r] 24) (.cells #[.int .i64 0, .int .i64 0, .int .i64 0] 24))
  by_cases kb : byteB b = true
  · obtain ⟨y0, y1⟩ := byteB_yes kb
    by_cases k : padB p t r = true
    · obtain ⟨rfl, rfl, rfl⟩ := press_yes h k kb
      have K := Lib.hid k
      clear h k kb
      go_enter Try.func19, Try.ntmps19
      go_wp2_with fail
      refine (toOctet_yes _ _ y0 y1).mono ?_; rintro e w' ⟨rfl, rfl⟩
      go_wp2_with fail
      refine (pad_valid _ _ _ _).mono ?_
      rintro e w1 ⟨rfl, b1⟩
      have X1 : Hid (Box w1 w.heap.size 24 [.int .i64 p, .int .i64 x1, .int .i64 x2]) := (((Box.new w _ _).alloc _).below b1)
      have Y1 : Hid (Box w1 (w.heap.size + 1) 24 [.int .i64 0, .int .i64 0, .int .i64 0]) := (Box.new_at _ _ _ _ (by simp)).below b1
      have B1 : Hid (Below w.heap.size w w1) := BB.out.trans (b1.mono (by simp; omega))
      have z1 : w.heap.size + 1 < w1.heap.size := Y1.out.lt
      clear b1
      have c0 : w1.cell? ⟨w.heap.size, 0, none⟩ = some (.int .i64 p) := X1.out.cell 0
      have e0 := X1.out.frozen 0
      have c1 : w1.cell? ⟨w.heap.size, 1, none⟩ = some (.int .i64 x1) := X1.out.cell 1
      have e1 := X1.out.frozen 1
      have c2 : w1.cell? ⟨w.heap.size, 2, none⟩ = some (.int .i64 x2) := X1.out.cell 2
      have e2 := X1.out.frozen 2
      have d0 : w1.cell? ⟨w.heap.size + 1, 0, none⟩ = some (.int .i64 0) := Y1.out.cell 0
      have g0 := Y1.out.frozen 0
      have d1 : w1.cell? ⟨w.heap.size + 1, 1, none⟩ = some (.int .i64 0) := Y1.out.cell 1
      have g1 := Y1.out.frozen 1
      have d2 : w1.cell? ⟨w.heap.size + 1, 2, none⟩ = some (.int .i64 0) := Y1.out.cell 2
      have g2 := Y1.out.frozen 2
      rw [K.out]
      go_wp2_with fail
      refine (pad_press _ _ _ _ _ y0 y1).mono ?_
      rintro e w2 ⟨rfl, b2⟩
      have X2 := Lib.hid (X1.out.below b2)
      have Y2 := Lib.hid (Y1.out.below b2)
      have B2 : Hid (Below w.heap.size w w2) := B1.out.trans (b2.mono (by omega))
      clear b2 c0 c1 c2 d0 d1 d2 e0 e1 e2 g0 g1 g2
      have c0 : w2.cell? ⟨w.heap.size, 0, none⟩ = some (.int .i64 p) := X2.out.cell 0
      have e0 := X2.out.frozen 0
      have c1 : w2.cell? ⟨w.heap.size, 1, none⟩ = some (.int .i64 x1) := X2.out.cell 1
      have e1 := X2.out.frozen 1
      have c2 : w2.cell? ⟨w.heap.size, 2, none⟩ = some (.int .i64 x2) := X2.out.cell 2
      have e2 := X2.out.frozen 2
      have d0 : w2.cell? ⟨w.heap.size + 1, 0, none⟩ = some (.int .i64 0) := Y2.out.cell 0
      have g0 := Y2.out.frozen 0
      have d1 : w2.cell? ⟨w.heap.size + 1, 1, none⟩ = some (.int .i64 0) := Y2.out.cell 1
      have g1 := Y2.out.frozen 1
      have d2 : w2.cell? ⟨w.heap.size + 1, 2, none⟩ = some (.int .i64 0) := Y2.out.cell 2
      have g2 := Y2.out.frozen 2
      go_wp2_with fail
      refine bodyPost_ret (v := .agg #[.int .i64 x0, .int .i64 x1, .int .i64 x2]) (by simp [results, Try.results19, go_sem, d0, d1, d2]) rfl ⟨rfl, ?_⟩
      repeat (first | with_reducible exact B2.out | with_reducible exact below2 w _ _ | with_reducible refine Below.setCell ?_ (by simp) _ | with_reducible refine Below.drew ?_ | with_reducible refine below_drewN ?_ _)
    · have K := Lib.hid (show padB p t r = false by simpa using k)
      obtain ⟨rfl, rfl, rfl⟩ := press_no h (.inl K.out)
      clear h k kb
      go_enter Try.func19, Try.ntmps19
      go_wp2_with fail
      refine (toOctet_yes _ _ y0 y1).mono ?_; rintro e w' ⟨rfl, rfl⟩
      go_wp2_with fail
      refine (pad_valid _ _ _ _).mono ?_
      rintro e w1 ⟨rfl, b1⟩
      have X1 : Hid (Box w1 w.heap.size 24 [.int .i64 p, .int .i64 t, .int .i64 r]) := (((Box.new w _ _).alloc _).below b1)
      have Y1 : Hid (Box w1 (w.heap.size + 1) 24 [.int .i64 0, .int .i64 0, .int .i64 0]) := (Box.new_at _ _ _ _ (by simp)).below b1
      have B1 : Hid (Below w.heap.size w w1) := BB.out.trans (b1.mono (by simp; omega))
      have z1 : w.heap.size + 1 < w1.heap.size := Y1.out.lt
      clear b1
      have c0 : w1.cell? ⟨w.heap.size, 0, none⟩ = some (.int .i64 p) := X1.out.cell 0
      have e0 := X1.out.frozen 0
      have c1 : w1.cell? ⟨w.heap.size, 1, none⟩ = some (.int .i64 t) := X1.out.cell 1
      have e1 := X1.out.frozen 1
      have c2 : w1.cell? ⟨w.heap.size, 2, none⟩ = some (.int .i64 r) := X1.out.cell 2
      have e2 := X1.out.frozen 2
      have d0 : w1.cell? ⟨w.heap.size + 1, 0, none⟩ = some (.int .i64 0) := Y1.out.cell 0
      have g0 := Y1.out.frozen 0
      have d1 : w1.cell? ⟨w.heap.size + 1, 1, none⟩ = some (.int .i64 0) := Y1.out.cell 1
      have g1 := Y1.out.frozen 1
      have d2 : w1.cell? ⟨w.heap.size + 1, 2, none⟩ = some (.int .i64 0) := Y1.out.cell 2
      have g2 := Y1.out.frozen 2
      rw [K.out]
      go_wp2_with fail
      refine bodyPost_ret (v := .agg #[.int .i64 0, .int .i64 0, .int .i64 0]) (by simp [results, Try.results19, go_sem, d0, d1, d2]) rfl ⟨rfl, ?_⟩
      repeat (first | with_reducible exact B1.out | with_reducible exact below2 w _ _ | with_reducible refine Below.setCell ?_ (by simp) _ | with_reducible refine Below.drew ?_ | with_reducible refine below_drewN ?_ _)
  · have k' : byteB b = false := by simpa using kb
    have KB := Lib.hid (byteB_no k')
    obtain ⟨rfl, rfl, rfl⟩ := press_no h (.inr k')
    clear h kb k'
    go_enter Try.func19, Try.ntmps19
    go_wp2_with fail
    refine (toOctet_no _ _ KB.out).mono ?_; rintro e w' ⟨rfl, rfl⟩
    go_wp2_with fail
    refine bodyPost_ret (v := .agg #[.int .i64 0, .int .i64 0, .int .i64 0]) (by simp [results, Try.results19, go_sem]) rfl ⟨rfl, ?_⟩
    repeat (first | with_reducible exact BB.out | with_reducible exact below2 w _ _ | with_reducible refine Below.setCell ?_ (by simp) _ | with_reducible refine Below.drew ?_ | with_reducible refine below_drewN ?_ _)
theorem spec_press (p t r b x0 x1 x2 : Int) (w : World) (h : PressTo p t r b x0 x1 x2) : Calls Try.prog 20 #[.agg #[.int .i64 p, .int .i64 t, .int .i64 r], .int .i64 b] w fun e w' => e = .returned (.agg #[.int .i64 x0, .int .i64 x1, .int .i64 x2]) ∧ Below w.heap.size w w' := by
  have BB := Lib.hid (below2 w (.cells #[.int .i64 p, .int .i64 t, .int .i64 r] 24) (.cells #[.int .i64 0, .int .i64 0, .int .i64 0] 24))
  by_cases k : padB p t r = true
  · have K := Lib.hid k
    by_cases kb : byteB b = true
    · obtain ⟨rfl, rfl, rfl⟩ := press_yes h k kb
      have KB := Lib.hid kb
      clear h k kb
      go_enter Try.func20, Try.ntmps20
      go_wp2_with fail
      refine (spec_padValid _ _ _ _).mono ?_
      rintro e w1 ⟨rfl, b1⟩
      have X1 : Hid (Box w1 w.heap.size 24 [.int .i64 p, .int .i64 x1, .int .i64 x2]) := (((Box.new w _ _).alloc _).below b1)
      have Y1 : Hid (Box w1 (w.heap.size + 1) 24 [.int .i64 0, .int .i64 0, .int .i64 0]) := (Box.new_at _ _ _ _ (by simp)).below b1
      have B1 : Hid (Below w.heap.size w w1) := BB.out.trans (b1.mono (by simp; omega))
      have z1 : w.heap.size + 1 < w1.heap.size := Y1.out.lt
      clear b1
      have c0 : w1.cell? ⟨w.heap.size, 0, none⟩ = some (.int .i64 p) := X1.out.cell 0
      have e0 := X1.out.frozen 0
      have c1 : w1.cell? ⟨w.heap.size, 1, none⟩ = some (.int .i64 x1) := X1.out.cell 1
      have e1 := X1.out.frozen 1
      have c2 : w1.cell? ⟨w.heap.size, 2, none⟩ = some (.int .i64 x2) := X1.out.cell 2
      have e2 := X1.out.frozen 2
      have d0 : w1.cell? ⟨w.heap.size + 1, 0, none⟩ = some (.int .i64 0) := Y1.out.cell 0
      have g0 := Y1.out.frozen 0
      have d1 : w1.cell? ⟨w.heap.size + 1, 1, none⟩ = some (.int .i64 0) := Y1.out.cell 1
      have g1 := Y1.out.frozen 1
      have d2 : w1.cell? ⟨w.heap.size + 1, 2, none⟩ = some (.int .i64 0) := Y1.out.cell 2
      have g2 := Y1.out.frozen 2
      rw [K.out]
      go_wp2_with fail
      refine (l1Byte_any _ _).mono ?_; rintro e w' ⟨rfl, rfl⟩
      rw [KB.out]
      go_wp2_with fail
      refine bodyPost_ret (v := .agg #[.int .i64 x0, .int .i64 x1, .int .i64 x2]) (by simp [results, Try.results20, go_sem, d0, d1, d2]) rfl ⟨rfl, ?_⟩
      repeat (first | with_reducible exact B1.out | with_reducible exact below2 w _ _ | with_reducible refine Below.setCell ?_ (by simp) _ | with_reducible refine Below.drew ?_ | with_reducible refine below_drewN ?_ _)
    · have KB := Lib.hid (show byteB b = false by simpa using kb)
      obtain ⟨rfl, rfl, rfl⟩ := press_no h (.inr KB.out)
      clear h k kb
      go_enter Try.func20, Try.ntmps20
      go_wp2_with fail
      refine (spec_padValid _ _ _ _).mono ?_
      rintro e w1 ⟨rfl, b1⟩
      have X1 : Hid (Box w1 w.heap.size 24 [.int .i64 p, .int .i64 t, .int .i64 r]) := (((Box.new w _ _).alloc _).below b1)
      have Y1 : Hid (Box w1 (w.heap.size + 1) 24 [.int .i64 0, .int .i64 0, .int .i64 0]) := (Box.new_at _ _ _ _ (by simp)).below b1
      have B1 : Hid (Below w.heap.size w w1) := BB.out.trans (b1.mono (by simp; omega))
      have z1 : w.heap.size + 1 < w1.heap.size := Y1.out.lt
      clear b1
      have c0 : w1.cell? ⟨w.heap.size, 0, none⟩ = some (.int .i64 p) := X1.out.cell 0
      have e0 := X1.out.frozen 0
      have c1 : w1.cell? ⟨w.heap.size, 1, none⟩ = some (.int .i64 t) := X1.out.cell 1
      have e1 := X1.out.frozen 1
      have c2 : w1.cell? ⟨w.heap.size, 2, none⟩ = some (.int .i64 r) := X1.out.cell 2
      have e2 := X1.out.frozen 2
      have d0 : w1.cell? ⟨w.heap.size + 1, 0, none⟩ = some (.int .i64 0) := Y1.out.cell 0
      have g0 := Y1.out.frozen 0
      have d1 : w1.cell? ⟨w.heap.size + 1, 1, none⟩ = some (.int .i64 0) := Y1.out.cell 1
      have g1 := Y1.out.frozen 1
      have d2 : w1.cell? ⟨w.heap.size + 1, 2, none⟩ = some (.int .i64 0) := Y1.out.cell 2
      have g2 := Y1.out.frozen 2
      rw [K.out]
      go_wp2_with fail
      refine (l1Byte_any _ _).mono ?_; rintro e w' ⟨rfl, rfl⟩
      rw [KB.out]
      go_wp2_with fail
      refine bodyPost_ret (v := .agg #[.int .i64 0, .int .i64 0, .int .i64 0]) (by simp [results, Try.results20, go_sem, d0, d1, d2]) rfl ⟨rfl, ?_⟩
      repeat (first | with_reducible exact B1.out | with_reducible exact below2 w _ _ | with_reducible refine Below.setCell ?_ (by simp) _ | with_reducible refine Below.drew ?_ | with_reducible refine below_drewN ?_ _)
  · have K := Lib.hid (show padB p t r = false by simpa using k)
    obtain ⟨rfl, rfl, rfl⟩ := press_no h (.inl K.out)
    clear h k
    go_enter Try.func20, Try.ntmps20
    go_wp2_with fail
    refine (spec_padValid _ _ _ _).mono ?_
    rintro e w1 ⟨rfl, b1⟩
    have X1 : Hid (Box w1 w.heap.size 24 [.int .i64 p, .int .i64 t, .int .i64 r]) := (((Box.new w _ _).alloc _).below b1)
    have Y1 : Hid (Box w1 (w.heap.size + 1) 24 [.int .i64 0, .int .i64 0, .int .i64 0]) := (Box.new_at _ _ _ _ (by simp)).below b1
    have B1 : Hid (Below w.heap.size w w1) := BB.out.trans (b1.mono (by simp; omega))
    have z1 : w.heap.size + 1 < w1.heap.size := Y1.out.lt
    clear b1
    have c0 : w1.cell? ⟨w.heap.size, 0, none⟩ = some (.int .i64 p) := X1.out.cell 0
    have e0 := X1.out.frozen 0
    have c1 : w1.cell? ⟨w.heap.size, 1, none⟩ = some (.int .i64 t) := X1.out.cell 1
    have e1 := X1.out.frozen 1
    have c2 : w1.cell? ⟨w.heap.size, 2, none⟩ = some (.int .i64 r) := X1.out.cell 2
    have e2 := X1.out.frozen 2
    have d0 : w1.cell? ⟨w.heap.size + 1, 0, none⟩ = some (.int .i64 0) := Y1.out.cell 0
    have g0 := Y1.out.frozen 0
    have d1 : w1.cell? ⟨w.heap.size + 1, 1, none⟩ = some (.int .i64 0) := Y1.out.cell 1
    have g1 := Y1.out.frozen 1
    have d2 : w1.cell? ⟨w.heap.size + 1, 2, none⟩ = some (.int .i64 0) := Y1.out.cell 2
    have g2 := Y1.out.frozen 2
    rw [K.out]
    go_wp2_with fail
    refine bodyPost_ret (v := .agg #[.int .i64 0, .int .i64 0, .int .i64 0]) (by simp [results, Try.results20, go_sem, d0, d1, d2]) rfl ⟨rfl, ?_⟩
    repeat (first | with_reducible exact B1.out | with_reducible exact below2 w _ _ | with_reducible refine Below.setCell ?_ (by simp) _ | with_reducible refine Below.drew ?_ | with_reducible refine below_drewN ?_ _)
theorem impl_latch (p t r x0 x1 x2 : Int) (w : World) (h : LatchTo p t r x0 x1 x2) : Calls Try.prog 23 #[.agg #[.int .i64 p, .int .i64 t, .int .i64 r]] w fun e w' => e = .returned (.agg #[.int .i64 x0, .int .i64 x1, .int .i64 x2]) ∧ Below w.heap.size w w' := by
  have BB := Lib.hid (below2 w (.cells #[.int .i64 p, .int .i64 t, .int .i64 r] 24) (.cells #[.int .i64 0, .int .i64 0, .int .i64 0] 24))
  by_cases k : padB p t r = true
  · have K := Lib.hid k
    obtain ⟨rfl, rfl, rfl⟩ := latch_yes h k
    clear h k
    go_enter Try.func23, Try.ntmps23
    go_wp2_with fail
    refine (pad_valid _ _ _ _).mono ?_
    rintro e w1 ⟨rfl, b1⟩
    have X1 : Hid (Box w1 w.heap.size 24 [.int .i64 x1, .int .i64 t, .int .i64 r]) := (((Box.new w _ _).alloc _).below b1)
    have Y1 : Hid (Box w1 (w.heap.size + 1) 24 [.int .i64 0, .int .i64 0, .int .i64 0]) := (Box.new_at _ _ _ _ (by simp)).below b1
    have B1 : Hid (Below w.heap.size w w1) := BB.out.trans (b1.mono (by simp; omega))
    have z1 : w.heap.size + 1 < w1.heap.size := Y1.out.lt
    clear b1
    have c0 : w1.cell? ⟨w.heap.size, 0, none⟩ = some (.int .i64 x1) := X1.out.cell 0
    have e0 := X1.out.frozen 0
    have c1 : w1.cell? ⟨w.heap.size, 1, none⟩ = some (.int .i64 t) := X1.out.cell 1
    have e1 := X1.out.frozen 1
    have c2 : w1.cell? ⟨w.heap.size, 2, none⟩ = some (.int .i64 r) := X1.out.cell 2
    have e2 := X1.out.frozen 2
    have d0 : w1.cell? ⟨w.heap.size + 1, 0, none⟩ = some (.int .i64 0) := Y1.out.cell 0
    have g0 := Y1.out.frozen 0
    have d1 : w1.cell? ⟨w.heap.size + 1, 1, none⟩ = some (.int .i64 0) := Y1.out.cell 1
    have g1 := Y1.out.frozen 1
    have d2 : w1.cell? ⟨w.heap.size + 1, 2, none⟩ = some (.int .i64 0) := Y1.out.cell 2
    have g2 := Y1.out.frozen 2
    rw [K.out]
    go_wp2_with fail
    refine (pad_latch _ _ _ _).mono ?_
    rintro e w2 ⟨rfl, b2⟩
    have X2 := Lib.hid (X1.out.below b2)
    have Y2 := Lib.hid (Y1.out.below b2)
    have B2 : Hid (Below w.heap.size w w2) := B1.out.trans (b2.mono (by omega))
    clear b2 c0 c1 c2 d0 d1 d2 e0 e1 e2 g0 g1 g2
    have c0 : w2.cell? ⟨w.heap.size, 0, none⟩ = some (.int .i64 x1) := X2.out.cell 0
    have e0 := X2.out.frozen 0
    have c1 : w2.cell? ⟨w.heap.size, 1, none⟩ = some (.int .i64 t) := X2.out.cell 1
    have e1 := X2.out.frozen 1
    have c2 : w2.cell? ⟨w.heap.size, 2, none⟩ = some (.int .i64 r) := X2.out.cell 2
    have e2 := X2.out.frozen 2
    have d0 : w2.cell? ⟨w.heap.size + 1, 0, none⟩ = some (.int .i64 0) := Y2.out.cell 0
    have g0 := Y2.out.frozen 0
    have d1 : w2.cell? ⟨w.heap.size + 1, 1, none⟩ = some (.int .i64 0) := Y2.out.cell 1
    have g1 := Y2.out.frozen 1
    have d2 : w2.cell? ⟨w.heap.size + 1, 2, none⟩ = some (.int .i64 0) := Y2.out.cell 2
    have g2 := Y2.out.frozen 2
    go_wp2_with fail
    refine bodyPost_ret (v := .agg #[.int .i64 x1, .int .i64 x1, .int .i64 0]) (by simp [results, Try.results23, go_sem, d0, d1, d2]) rfl ⟨rfl, ?_⟩
    repeat (first | with_reducible exact B2.out | with_reducible exact below2 w _ _ | with_reducible refine Below.setCell ?_ (by simp) _ | with_reducible refine Below.drew ?_ | with_reducible refine below_drewN ?_ _)
  · have K := Lib.hid (show padB p t r = false by simpa using k)
    obtain ⟨rfl, rfl, rfl⟩ := latch_no h K.out
    clear h k
    go_enter Try.func23, Try.ntmps23
    go_wp2_with fail
    refine (pad_valid _ _ _ _).mono ?_
    rintro e w1 ⟨rfl, b1⟩
    have X1 : Hid (Box w1 w.heap.size 24 [.int .i64 p, .int .i64 t, .int .i64 r]) := (((Box.new w _ _).alloc _).below b1)
    have Y1 : Hid (Box w1 (w.heap.size + 1) 24 [.int .i64 0, .int .i64 0, .int .i64 0]) := (Box.new_at _ _ _ _ (by simp)).below b1
    have B1 : Hid (Below w.heap.size w w1) := BB.out.trans (b1.mono (by simp; omega))
    have z1 : w.heap.size + 1 < w1.heap.size := Y1.out.lt
    clear b1
    have c0 : w1.cell? ⟨w.heap.size, 0, none⟩ = some (.int .i64 p) := X1.out.cell 0
    have e0 := X1.out.frozen 0
    have c1 : w1.cell? ⟨w.heap.size, 1, none⟩ = some (.int .i64 t) := X1.out.cell 1
    have e1 := X1.out.frozen 1
    have c2 : w1.cell? ⟨w.heap.size, 2, none⟩ = some (.int .i64 r) := X1.out.cell 2
    have e2 := X1.out.frozen 2
    have d0 : w1.cell? ⟨w.heap.size + 1, 0, none⟩ = some (.int .i64 0) := Y1.out.cell 0
    have g0 := Y1.out.frozen 0
    have d1 : w1.cell? ⟨w.heap.size + 1, 1, none⟩ = some (.int .i64 0) := Y1.out.cell 1
    have g1 := Y1.out.frozen 1
    have d2 : w1.cell? ⟨w.heap.size + 1, 2, none⟩ = some (.int .i64 0) := Y1.out.cell 2
    have g2 := Y1.out.frozen 2
    rw [K.out]
    go_wp2_with fail
    refine bodyPost_ret (v := .agg #[.int .i64 0, .int .i64 0, .int .i64 0]) (by simp [results, Try.results23, go_sem, d0, d1, d2]) rfl ⟨rfl, ?_⟩
    repeat (first | with_reducible exact B1.out | with_reducible exact below2 w _ _ | with_reducible refine Below.setCell ?_ (by simp) _ | with_reducible refine Below.drew ?_ | with_reducible refine below_drewN ?_ _)
theorem spec_latch (p t r x0 x1 x2 : Int) (w : World) (h : LatchTo p t r x0 x1 x2) : Calls Try.prog 24 #[.agg #[.int .i64 p, .int .i64 t, .int .i64 r]] w fun e w' => e = .returned (.agg #[.int .i64 x0, .int .i64 x1, .int .i64 x2]) ∧ Below w.heap.size w w' := by
  have BB := Lib.hid (below2 w (.cells #[.int .i64 p, .int .i64 t, .int .i64 r] 24) (.cells #[.int .i64 0, .int .i64 0, .int .i64 0] 24))
  by_cases k : padB p t r = true
  · have K := Lib.hid k
    obtain ⟨rfl, rfl, rfl⟩ := latch_yes h k
    clear h k
    go_enter Try.func24, Try.ntmps24
    go_wp2_with fail
    refine (spec_padValid _ _ _ _).mono ?_
    rintro e w1 ⟨rfl, b1⟩
    have X1 : Hid (Box w1 w.heap.size 24 [.int .i64 x1, .int .i64 t, .int .i64 r]) := (((Box.new w _ _).alloc _).below b1)
    have Y1 : Hid (Box w1 (w.heap.size + 1) 24 [.int .i64 0, .int .i64 0, .int .i64 0]) := (Box.new_at _ _ _ _ (by simp)).below b1
    have B1 : Hid (Below w.heap.size w w1) := BB.out.trans (b1.mono (by simp; omega))
    have z1 : w.heap.size + 1 < w1.heap.size := Y1.out.lt
    clear b1
    have c0 : w1.cell? ⟨w.heap.size, 0, none⟩ = some (.int .i64 x1) := X1.out.cell 0
    have e0 := X1.out.frozen 0
    have c1 : w1.cell? ⟨w.heap.size, 1, none⟩ = some (.int .i64 t) := X1.out.cell 1
    have e1 := X1.out.frozen 1
    have c2 : w1.cell? ⟨w.heap.size, 2, none⟩ = some (.int .i64 r) := X1.out.cell 2
    have e2 := X1.out.frozen 2
    have d0 : w1.cell? ⟨w.heap.size + 1, 0, none⟩ = some (.int .i64 0) := Y1.out.cell 0
    have g0 := Y1.out.frozen 0
    have d1 : w1.cell? ⟨w.heap.size + 1, 1, none⟩ = some (.int .i64 0) := Y1.out.cell 1
    have g1 := Y1.out.frozen 1
    have d2 : w1.cell? ⟨w.heap.size + 1, 2, none⟩ = some (.int .i64 0) := Y1.out.cell 2
    have g2 := Y1.out.frozen 2
    rw [K.out]
    go_wp2_with fail
    refine bodyPost_ret (v := .agg #[.int .i64 x1, .int .i64 x1, .int .i64 0]) (by simp [results, Try.results24, go_sem, d0, d1, d2]) rfl ⟨rfl, ?_⟩
    repeat (first | with_reducible exact B1.out | with_reducible exact below2 w _ _ | with_reducible refine Below.setCell ?_ (by simp) _ | with_reducible refine Below.drew ?_ | with_reducible refine below_drewN ?_ _)
  · have K := Lib.hid (show padB p t r = false by simpa using k)
    obtain ⟨rfl, rfl, rfl⟩ := latch_no h K.out
    clear h k
    go_enter Try.func24, Try.ntmps24
    go_wp2_with fail
    refine (spec_padValid _ _ _ _).mono ?_
    rintro e w1 ⟨rfl, b1⟩
    have X1 : Hid (Box w1 w.heap.size 24 [.int .i64 p, .int .i64 t, .int .i64 r]) := (((Box.new w _ _).alloc _).below b1)
    have Y1 : Hid (Box w1 (w.heap.size + 1) 24 [.int .i64 0, .int .i64 0, .int .i64 0]) := (Box.new_at _ _ _ _ (by simp)).below b1
    have B1 : Hid (Below w.heap.size w w1) := BB.out.trans (b1.mono (by simp; omega))
    have z1 : w.heap.size + 1 < w1.heap.size := Y1.out.lt
    clear b1
    have c0 : w1.cell? ⟨w.heap.size, 0, none⟩ = some (.int .i64 p) := X1.out.cell 0
    have e0 := X1.out.frozen 0
    have c1 : w1.cell? ⟨w.heap.size, 1, none⟩ = some (.int .i64 t) := X1.out.cell 1
    have e1 := X1.out.frozen 1
    have c2 : w1.cell? ⟨w.heap.size, 2, none⟩ = some (.int .i64 r) := X1.out.cell 2
    have e2 := X1.out.frozen 2
    have d0 : w1.cell? ⟨w.heap.size + 1, 0, none⟩ = some (.int .i64 0) := Y1.out.cell 0
    have g0 := Y1.out.frozen 0
    have d1 : w1.cell? ⟨w.heap.size + 1, 1, none⟩ = some (.int .i64 0) := Y1.out.cell 1
    have g1 := Y1.out.frozen 1
    have d2 : w1.cell? ⟨w.heap.size + 1, 2, none⟩ = some (.int .i64 0) := Y1.out.cell 2
    have g2 := Y1.out.frozen 2
    rw [K.out]
    go_wp2_with fail
    refine bodyPost_ret (v := .agg #[.int .i64 0, .int .i64 0, .int .i64 0]) (by simp [results, Try.results24, go_sem, d0, d1, d2]) rfl ⟨rfl, ?_⟩
    repeat (first | with_reducible exact B1.out | with_reducible exact below2 w _ _ | with_reducible refine Below.setCell ?_ (by simp) _ | with_reducible refine Below.drew ?_ | with_reducible refine below_drewN ?_ _)
theorem impl_read (p t r x0 x1 x2 x3 : Int) (w : World) (h : ReadTo p t r x0 x1 x2 x3) : Calls Try.prog 25 #[.agg #[.int .i64 p, .int .i64 t, .int .i64 r]] w fun e w' => e = .returned (.tuple #[.agg #[.int .i64 x0, .int .i64 x1, .int .i64 x2], .int .i64 x3]) ∧ Below w.heap.size w w' := by
  have BB := Lib.hid (below2 w (.cells #[.int .i64 p, .int .i64 t, .int .i64 r] 24) (.cells #[.int .i64 0, .int .i64 0, .int .i64 0] 24))
  by_cases k : padB p t r = true
  · have K := Lib.hid k
    have H := Lib.hid h
    clear h k
    go_enter Try.func25, Try.ntmps25
    go_wp2_with fail
    refine (pad_valid _ _ _ _).mono ?_
    rintro e w1 ⟨rfl, b1⟩
    have X1 : Hid (Box w1 w.heap.size 24 [.int .i64 p, .int .i64 t, .int .i64 r]) := (((Box.new w _ _).alloc _).below b1)
    have Y1 : Hid (Box w1 (w.heap.size + 1) 24 [.int .i64 0, .int .i64 0, .int .i64 0]) := (Box.new_at _ _ _ _ (by simp)).below b1
    have B1 : Hid (Below w.heap.size w w1) := BB.out.trans (b1.mono (by simp; omega))
    have z1 : w.heap.size + 1 < w1.heap.size := Y1.out.lt
    clear b1
    have c0 : w1.cell? ⟨w.heap.size, 0, none⟩ = some (.int .i64 p) := X1.out.cell 0
    have e0 := X1.out.frozen 0
    have c1 : w1.cell? ⟨w.heap.size, 1, none⟩ = some (.int .i64 t) := X1.out.cell 1
    have e1 := X1.out.frozen 1
    have c2 : w1.cell? ⟨w.heap.size, 2, none⟩ = some (.int .i64 r) := X1.out.cell 2
    have e2 := X1.out.frozen 2
    have d0 : w1.cell? ⟨w.heap.size + 1, 0, none⟩ = some (.int .i64 0) := Y1.out.cell 0
    have g0 := Y1.out.frozen 0
    have d1 : w1.cell? ⟨w.heap.size + 1, 1, none⟩ = some (.int .i64 0) := Y1.out.cell 1
    have g1 := Y1.out.frozen 1
    have d2 : w1.cell? ⟨w.heap.size + 1, 2, none⟩ = some (.int .i64 0) := Y1.out.cell 2
    have g2 := Y1.out.frozen 2
    rw [K.out]
    go_wp2_with fail
    refine (pad_next _ _ _ _ _ _ _ _ K.out H.out).mono ?_
    rintro e w2 ⟨rfl, b2⟩
    have X2 := Lib.hid (X1.out.below b2)
    have Y2 := Lib.hid (Y1.out.below b2)
    have B2 : Hid (Below w.heap.size w w2) := B1.out.trans (b2.mono (by omega))
    clear b2 c0 c1 c2 d0 d1 d2 e0 e1 e2 g0 g1 g2
    have c0 : w2.cell? ⟨w.heap.size, 0, none⟩ = some (.int .i64 p) := X2.out.cell 0
    have e0 := X2.out.frozen 0
    have c1 : w2.cell? ⟨w.heap.size, 1, none⟩ = some (.int .i64 t) := X2.out.cell 1
    have e1 := X2.out.frozen 1
    have c2 : w2.cell? ⟨w.heap.size, 2, none⟩ = some (.int .i64 r) := X2.out.cell 2
    have e2 := X2.out.frozen 2
    have d0 : w2.cell? ⟨w.heap.size + 1, 0, none⟩ = some (.int .i64 0) := Y2.out.cell 0
    have g0 := Y2.out.frozen 0
    have d1 : w2.cell? ⟨w.heap.size + 1, 1, none⟩ = some (.int .i64 0) := Y2.out.cell 1
    have g1 := Y2.out.frozen 1
    have d2 : w2.cell? ⟨w.heap.size + 1, 2, none⟩ = some (.int .i64 0) := Y2.out.cell 2
    have g2 := Y2.out.frozen 2
    go_wp2_with fail
    refine bodyPost_ret (v := .tuple #[.agg #[.int .i64 x0, .int .i64 x1, .int .i64 x2], .int .i64 x3]) (by simp [results, Try.results25, go_sem, d0, d1, d2]) rfl ⟨rfl, ?_⟩
    repeat (first | with_reducible exact B2.out | with_reducible exact below2 w _ _ | with_reducible refine Below.setCell ?_ (by simp) _ | with_reducible refine Below.drew ?_ | with_reducible refine below_drewN ?_ _)
  · have K := Lib.hid (show padB p t r = false by simpa using k)
    obtain ⟨rfl, rfl, rfl, rfl⟩ := read_no h K.out
    clear h k
    go_enter Try.func25, Try.ntmps25
    go_wp2_with fail
    refine (pad_valid _ _ _ _).mono ?_
    rintro e w1 ⟨rfl, b1⟩
    have X1 : Hid (Box w1 w.heap.size 24 [.int .i64 p, .int .i64 t, .int .i64 r]) := (((Box.new w _ _).alloc _).below b1)
    have Y1 : Hid (Box w1 (w.heap.size + 1) 24 [.int .i64 0, .int .i64 0, .int .i64 0]) := (Box.new_at _ _ _ _ (by simp)).below b1
    have B1 : Hid (Below w.heap.size w w1) := BB.out.trans (b1.mono (by simp; omega))
    have z1 : w.heap.size + 1 < w1.heap.size := Y1.out.lt
    clear b1
    have c0 : w1.cell? ⟨w.heap.size, 0, none⟩ = some (.int .i64 p) := X1.out.cell 0
    have e0 := X1.out.frozen 0
    have c1 : w1.cell? ⟨w.heap.size, 1, none⟩ = some (.int .i64 t) := X1.out.cell 1
    have e1 := X1.out.frozen 1
    have c2 : w1.cell? ⟨w.heap.size, 2, none⟩ = some (.int .i64 r) := X1.out.cell 2
    have e2 := X1.out.frozen 2
    have d0 : w1.cell? ⟨w.heap.size + 1, 0, none⟩ = some (.int .i64 0) := Y1.out.cell 0
    have g0 := Y1.out.frozen 0
    have d1 : w1.cell? ⟨w.heap.size + 1, 1, none⟩ = some (.int .i64 0) := Y1.out.cell 1
    have g1 := Y1.out.frozen 1
    have d2 : w1.cell? ⟨w.heap.size + 1, 2, none⟩ = some (.int .i64 0) := Y1.out.cell 2
    have g2 := Y1.out.frozen 2
    rw [K.out]
    go_wp2_with fail
    refine bodyPost_ret (v := .tuple #[.agg #[.int .i64 0, .int .i64 0, .int .i64 0], .int .i64 0]) (by simp [results, Try.results25, go_sem, d0, d1, d2]) rfl ⟨rfl, ?_⟩
    repeat (first | with_reducible exact B1.out | with_reducible exact below2 w _ _ | with_reducible refine Below.setCell ?_ (by simp) _ | with_reducible refine Below.drew ?_ | with_reducible refine below_drewN ?_ _)
theorem spec_read (p t r x0 x1 x2 x3 : Int) (w : World) (h : ReadTo p t r x0 x1 x2 x3) : Calls Try.prog 27 #[.agg #[.int .i64 p, .int .i64 t, .int .i64 r]] w fun e w' => e = .returned (.tuple #[.agg #[.int .i64 x0, .int .i64 x1, .int .i64 x2], .int .i64 x3]) ∧ Below w.heap.size w w' := by
  have BB := Lib.hid (below2 w (.cells #[.int .i64 p, .int .i64 t, .int .i64 r] 24) (.cells #[.int .i64 0, .int .i64 0, .int .i64 0] 24))
  by_cases k : padB p t r = true
  · obtain ⟨⟨p0, p1⟩, ⟨t0, t1⟩, r0, r1⟩ := padB_iff.1 k
    have K := Lib.hid k
    by_cases h8 : r = 8
    · obtain ⟨rfl, rfl, rfl, rfl⟩ := read_end h k h8
      clear h k
      subst h8
      go_enter Try.func27, Try.ntmps27
      go_wp2_with fail
      refine (spec_padValid _ _ _ _).mono ?_
      rintro e w1 ⟨rfl, b1⟩
      have X1 : Hid (Box w1 w.heap.size 24 [.int .i64 x0, .int .i64 x1, .int .i64 8]) := (((Box.new w _ _).alloc _).below b1)
      have Y1 : Hid (Box w1 (w.heap.size + 1) 24 [.int .i64 0, .int .i64 0, .int .i64 0]) := (Box.new_at _ _ _ _ (by simp)).below b1
      have B1 : Hid (Below w.heap.size w w1) := BB.out.trans (b1.mono (by simp; omega))
      have z1 : w.heap.size + 1 < w1.heap.size := Y1.out.lt
      clear b1
      have c0 : w1.cell? ⟨w.heap.size, 0, none⟩ = some (.int .i64 x0) := X1.out.cell 0
      have e0 := X1.out.frozen 0
      have c1 : w1.cell? ⟨w.heap.size, 1, none⟩ = some (.int .i64 x1) := X1.out.cell 1
      have e1 := X1.out.frozen 1
      have c2 : w1.cell? ⟨w.heap.size, 2, none⟩ = some (.int .i64 8) := X1.out.cell 2
      have e2 := X1.out.frozen 2
      have d0 : w1.cell? ⟨w.heap.size + 1, 0, none⟩ = some (.int .i64 0) := Y1.out.cell 0
      have g0 := Y1.out.frozen 0
      have d1 : w1.cell? ⟨w.heap.size + 1, 1, none⟩ = some (.int .i64 0) := Y1.out.cell 1
      have g1 := Y1.out.frozen 1
      have d2 : w1.cell? ⟨w.heap.size + 1, 2, none⟩ = some (.int .i64 0) := Y1.out.cell 2
      have g2 := Y1.out.frozen 2
      rw [K.out]
      go_wp2_with fail
      refine bodyPost_ret (v := .tuple #[.agg #[.int .i64 x0, .int .i64 x1, .int .i64 8], .int .i64 1]) (by simp [results, Try.results27, go_sem, d0, d1, d2]) rfl ⟨rfl, ?_⟩
      repeat (first | with_reducible exact B1.out | with_reducible exact below2 w _ _ | with_reducible refine Below.setCell ?_ (by simp) _ | with_reducible refine Below.drew ?_ | with_reducible refine below_drewN ?_ _)
    · obtain ⟨rfl, rfl, rfl, hx⟩ := read_next h k h8
      have hd : (r == 8) = false := by simpa using h8
      obtain ⟨j, rfl⟩ := Int.eq_ofNat_of_zero_le r0
      obtain ⟨s0, s1⟩ := shr_bd x1 j t0 t1
      have HX : Hid (x1 / 2 ^ j % 2 = x3) := by rw [hx, Int.toNat_natCast]; exact Lib.hid rfl
      clear h k h8 hx
      go_enter Try.func27, Try.ntmps27
      go_wp2_with fail
      refine (spec_padValid _ _ _ _).mono ?_
      rintro e w1 ⟨rfl, b1⟩
      have X1 : Hid (Box w1 w.heap.size 24 [.int .i64 x0, .int .i64 x1, .int .i64 (j : Int)]) := (((Box.new w _ _).alloc _).below b1)
      have Y1 : Hid (Box w1 (w.heap.size + 1) 24 [.int .i64 0, .int .i64 0, .int .i64 0]) := (Box.new_at _ _ _ _ (by simp)).below b1
      have B1 : Hid (Below w.heap.size w w1) := BB.out.trans (b1.mono (by simp; omega))
      have z1 : w.heap.size + 1 < w1.heap.size := Y1.out.lt
      clear b1
      have c0 : w1.cell? ⟨w.heap.size, 0, none⟩ = some (.int .i64 x0) := X1.out.cell 0
      have e0 := X1.out.frozen 0
      have c1 : w1.cell? ⟨w.heap.size, 1, none⟩ = some (.int .i64 x1) := X1.out.cell 1
      have e1 := X1.out.frozen 1
      have c2 : w1.cell? ⟨w.heap.size, 2, none⟩ = some (.int .i64 (j : Int)) := X1.out.cell 2
      have e2 := X1.out.frozen 2
      have d0 : w1.cell? ⟨w.heap.size + 1, 0, none⟩ = some (.int .i64 0) := Y1.out.cell 0
      have g0 := Y1.out.frozen 0
      have d1 : w1.cell? ⟨w.heap.size + 1, 1, none⟩ = some (.int .i64 0) := Y1.out.cell 1
      have g1 := Y1.out.frozen 1
      have d2 : w1.cell? ⟨w.heap.size + 1, 2, none⟩ = some (.int .i64 0) := Y1.out.cell 2
      have g2 := Y1.out.frozen 2
      rw [K.out]
      go_wp2_with fail
      refine bodyPost_ret (v := .tuple #[.agg #[.int .i64 x0, .int .i64 x1, .int .i64 ((j : Int) + 1)], .int .i64 (x1 / 2 ^ j % 2)]) (by simp [results, Try.results27, go_sem, d0, d1, d2]) rfl ⟨by rw [HX.out], ?_⟩
      repeat (first | with_reducible exact B1.out | with_reducible exact below2 w _ _ | with_reducible refine Below.setCell ?_ (by simp) _ | with_reducible refine Below.drew ?_ | with_reducible refine below_drewN ?_ _)
  · have K := Lib.hid (show padB p t r = false by simpa using k)
    obtain ⟨rfl, rfl, rfl, rfl⟩ := read_no h K.out
    clear h k
    go_enter Try.func27, Try.ntmps27
    go_wp2_with fail
    refine (spec_padValid _ _ _ _).mono ?_
    rintro e w1 ⟨rfl, b1⟩
    have X1 : Hid (Box w1 w.heap.size 24 [.int .i64 p, .int .i64 t, .int .i64 r]) := (((Box.new w _ _).alloc _).below b1)
    have Y1 : Hid (Box w1 (w.heap.size + 1) 24 [.int .i64 0, .int .i64 0, .int .i64 0]) := (Box.new_at _ _ _ _ (by simp)).below b1
    have B1 : Hid (Below w.heap.size w w1) := BB.out.trans (b1.mono (by simp; omega))
    have z1 : w.heap.size + 1 < w1.heap.size := Y1.out.lt
    clear b1
    have c0 : w1.cell? ⟨w.heap.size, 0, none⟩ = some (.int .i64 p) := X1.out.cell 0
    have e0 := X1.out.frozen 0
    have c1 : w1.cell? ⟨w.heap.size, 1, none⟩ = some (.int .i64 t) := X1.out.cell 1
    have e1 := X1.out.frozen 1
    have c2 : w1.cell? ⟨w.heap.size, 2, none⟩ = some (.int .i64 r) := X1.out.cell 2
    have e2 := X1.out.frozen 2
    have d0 : w1.cell? ⟨w.heap.size + 1, 0, none⟩ = some (.int .i64 0) := Y1.out.cell 0
    have g0 := Y1.out.frozen 0
    have d1 : w1.cell? ⟨w.heap.size + 1, 1, none⟩ = some (.int .i64 0) := Y1.out.cell 1
    have g1 := Y1.out.frozen 1
    have d2 : w1.cell? ⟨w.heap.size + 1, 2, none⟩ = some (.int .i64 0) := Y1.out.cell 2
    have g2 := Y1.out.frozen 2
    rw [K.out]
    go_wp2_with fail
    refine bodyPost_ret (v := .tuple #[.agg #[.int .i64 0, .int .i64 0, .int .i64 0], .int .i64 0]) (by simp [results, Try.results27, go_sem, d0, d1, d2]) rfl ⟨rfl, ?_⟩
    repeat (first | with_reducible exact B1.out | with_reducible exact below2 w _ _ | with_reducible refine Below.setCell ?_ (by simp) _ | with_reducible refine Below.drew ?_ | with_reducible refine below_drewN ?_ _)
theorem toPad_any (p t r : Int) (w : World) : Calls Try.prog 32 #[.agg #[.int .i64 p, .int .i64 t, .int .i64 r]] w fun e w' => e = .returned (.agg #[.int .i64 p, .int .i64 t, .int .i64 r]) ∧ Below w.heap.size w w' := by
  go_enter Try.func32, Try.ntmps32
  go_wp2_with fail
  refine bodyPost_ret (v := .agg #[.int .i64 p, .int .i64 t, .int .i64 r]) (by simp [results, Try.results32, go_sem]) rfl ⟨rfl, ?_⟩
  exact below3 w _ _ _
theorem eqPad_any (p t r : Int) (w : World) : Calls Try.prog 33 #[.agg #[.int .i64 p, .int .i64 t, .int .i64 r], .agg #[.int .i64 p, .int .i64 t, .int .i64 r]] w fun e w' => e = .returned (.bool true) ∧ Below w.heap.size w w' := by
  have BB := Lib.hid (below2 w (.cells #[.int .i64 p, .int .i64 t, .int .i64 r] 24) (.cells #[.int .i64 p, .int .i64 t, .int .i64 r] 24))
  go_enter Try.func33, Try.ntmps33
  go_wp2_with fail
  go_ret
  exact ⟨rfl, BB.out⟩
end Go.Proofs.Ytjfhdkidefkogaa
