/- The model's functions on sound channels: valid, sample, next, skip, fade. -/
import Derived.Test.YtfbpnneegenhgaaVocA
import Derived.Test.YtfbpnneegenhgaaGC
import Derived.Test.YtfbpnneegenhgaaGA
import Derived.Deep.RegionLaw
import Derived.Deep.Cut
namespace Go.Proofs.Ytfbpnneegenhgaa
open Go.ChangeShapes Go.WideShapes Go.ChangeAt Go.RowKit
set_option linter.unusedVariables false

theorem voc_ret {fn : Func} {p : Tmp} {tmps : Array Value} {w : World} {b : Nat} {t : TypeId} {u : Voc} (hr : fn.results = #[.cell p 24]) (hp : tmps.getD p undef = .pointer (some ⟨b, 0, none⟩)) (hb : Box w b t (vcs u)) : (results fn tmps).run Try.prog w = .ok (vocV u) w :=
  results_cell_row hr tmps w b t (vcs u).toArray (0, 0) _ hp hb Try.underlying24 rfl voc_info
theorem spec_voiceValid (x : Voc) (w : World) : Calls Try.prog 16 #[vocV x] w fun e w' => e = .returned (.bool (vocB x)) ∧ Below w.heap.size w w' := by
  obtain ⟨l, h, v, s, e⟩ := x
  have HF : Hid (vocB ⟨l, h, v, s, e⟩ = (betB l 1 100 && betB h 0 8 && betB v 0 15 && betB s 0 7 && betB e 1 l)) := Lib.hid rfl
  show Calls Try.prog 16 #[.agg #[.int .i64 l, .int .i64 h, .int .i64 v, .int .i64 s, .int .i64 e]] w _
  generalize vocB ⟨l, h, v, s, e⟩ = V at HF ⊢
  go_enter Try.func16, Try.ntmps16
  go_wp2_with fail
  refine (l1In_any l 1 100 _).mono ?_; rintro e' w' ⟨rfl, rfl⟩
  cases k0 : betB l 1 100
  · have HV : Hid (V = false) := Lib.hid (by rw [HF.out, k0]; simp)
    clear k0
    go_wp2_with fail
    go_ret
    exact ⟨ret_bool HV.out.symm, below1 w _⟩
  have K0 := Lib.hid k0
  clear k0
  go_wp2_with fail
  refine (l1In_any h 0 8 _).mono ?_; rintro e' w' ⟨rfl, rfl⟩
  cases k1 : betB h 0 8
  · have HV : Hid (V = false) := Lib.hid (by rw [HF.out, K0.out, k1]; simp)
    clear k1
    go_wp2_with fail
    go_ret
    exact ⟨ret_bool HV.out.symm, below1 w _⟩
  have K1 := Lib.hid k1
  clear k1
  go_wp2_with fail
  refine (l1In_any v 0 15 _).mono ?_; rintro e' w' ⟨rfl, rfl⟩
  cases k2 : betB v 0 15
  · have HV : Hid (V = false) := Lib.hid (by rw [HF.out, K0.out, K1.out, k2]; simp)
    clear k2
    go_wp2_with fail
    go_ret
    exact ⟨ret_bool HV.out.symm, below1 w _⟩
  have K2 := Lib.hid k2
  clear k2
  go_wp2_with fail
  refine (l1In_any s 0 7 _).mono ?_; rintro e' w' ⟨rfl, rfl⟩
  cases k3 : betB s 0 7
  · have HV : Hid (V = false) := Lib.hid (by rw [HF.out, K0.out, K1.out, K2.out, k3]; simp)
    clear k3
    go_wp2_with fail
    go_ret
    exact ⟨ret_bool HV.out.symm, below1 w _⟩
  have K3 := Lib.hid k3
  clear k3
  go_wp2_with fail
  refine (l1In_any e 1 l _).mono ?_; rintro e' w' ⟨rfl, rfl⟩
  cases k4 : betB e 1 l
  · have HV : Hid (V = false) := Lib.hid (by rw [HF.out, K0.out, K1.out, K2.out, K3.out, k4]; simp)
    clear k4
    go_wp2_with fail
    go_ret
    exact ⟨ret_bool HV.out.symm, below1 w _⟩
  have K4 := Lib.hid k4
  clear k4
  have HV : Hid (V = true) := Lib.hid (by rw [HF.out, K0.out, K1.out, K2.out, K3.out, K4.out]; rfl)
  go_wp2_with fail
  go_ret
  exact ⟨ret_bool HV.out.symm, below1 w _⟩
theorem spec_level (x : Voc) (w : World) : Calls Try.prog 48 #[vocV x] w fun e w' => e = .returned (.int .i64 (lev x)) ∧ Below w.heap.size w w' := by
  obtain ⟨l, h, v, s, e⟩ := x
  show Calls Try.prog 48 #[.agg #[.int .i64 l, .int .i64 h, .int .i64 v, .int .i64 s, .int .i64 e]] w _
  by_cases hk : s < h
  · have HL : Hid (lev ⟨l, h, v, s, e⟩ = v) := Lib.hid (if_pos hk)
    generalize lev ⟨l, h, v, s, e⟩ = V at HL ⊢
    go_enter Try.func48, Try.ntmps48
    go_wp2_with fail
    go_ret
    exact ⟨by rw [HL.out]; rfl, below1 w _⟩
  · have HL : Hid (lev ⟨l, h, v, s, e⟩ = 0) := Lib.hid (if_neg hk)
    generalize lev ⟨l, h, v, s, e⟩ = V at HL ⊢
    go_enter Try.func48, Try.ntmps48
    go_wp2_with fail
    go_ret
    exact ⟨by rw [HL.out]; rfl, below1 w _⟩
theorem spec_next (x : Voc) (w : World) (hx : vocB x = true) : Calls Try.prog 49 #[vocV x] w fun e w' => e = .returned (vocV (nxt x)) ∧ Below w.heap.size w w' := by
  obtain ⟨⟨l0, l1⟩, -, -, ⟨s0, s1⟩, e0, e1⟩ := vocB_iff.1 hx
  clear hx
  obtain ⟨l, h, v, s, e⟩ := x
  simp only at l0 l1 s0 s1 e0 e1
  show Calls Try.prog 49 #[.agg #[.int .i64 l, .int .i64 h, .int .i64 v, .int .i64 s, .int .i64 e]] w _
  by_cases hk : e = 1
  · subst hk
    have HN : Hid (nxt ⟨l, h, v, s, 1⟩ = ⟨l, h, v, (s + 1) % 8, l⟩) := Lib.hid (if_pos rfl)
    rw [HN.out]
    obtain ⟨w1, hw1⟩ : ∃ w1, w1 = (w.alloc (.cells #[.int .i64 l, .int .i64 h, .int .i64 v, .int .i64 s, .int .i64 1] 24)).alloc (.cells #[.int .i64 0, .int .i64 0, .int .i64 0, .int .i64 0, .int .i64 0] 24) := ⟨_, rfl⟩
    have X1 : Hid (Box w1 w.heap.size 24 (vcs ⟨l, h, v, s, 1⟩)) := Lib.hid (by rw [hw1]; exact (Box.new w _ _).alloc _)
    have Y1 : Hid (Box w1 (w.heap.size + 1) 24 (vcs .zero)) := Lib.hid (by rw [hw1]; exact Box.new_at _ _ _ _ (by simp))
    have B1 : Hid (Below w.heap.size w w1) := Lib.hid (by rw [hw1]; exact below2 w _ _)
    go_enter Try.func49, Try.ntmps49
    go_upto_region 1 with (fail)
    rw [← hw1]
    clear hw1
    have x0 := X1.out.cell 0
    have f0 := X1.out.frozen 0
    have x1 := X1.out.cell 1
    have f1 := X1.out.frozen 1
    have x2 := X1.out.cell 2
    have f2 := X1.out.frozen 2
    have x3 := X1.out.cell 3
    have f3 := X1.out.frozen 3
    have x4 := X1.out.cell 4
    have f4 := X1.out.frozen 4
    have X4 := Lib.hid (((X1.out.set 4 (.int .i64 0)).set 4 (.int .i64 l)).set 3 (.int .i64 ((s + 1) % 8)))
    have Y4 := Lib.hid (((Y1.out.far (b' := w.heap.size) (i := 4) (by omega) (.int .i64 0)).far (b' := w.heap.size) (i := 4) (by omega) (.int .i64 l)).far (b' := w.heap.size) (i := 3) (by omega) (.int .i64 ((s + 1) % 8)))
    have B4 := Lib.hid (((B1.out.setCell (p := ⟨w.heap.size, 4, none⟩) (Nat.le_refl _) (.int .i64 0)).setCell (p := ⟨w.heap.size, 4, none⟩) (Nat.le_refl _) (.int .i64 l)).setCell (p := ⟨w.heap.size, 3, none⟩) (Nat.le_refl _) (.int .i64 ((s + 1) % 8)))
    go_upto_region 5 with (fail)
    go_wp2_with (first | (refine vo_load (by rfl) _ rfl w.heap.size rfl ⟨l, h, v, (s + 1) % 8, l⟩ X4.out ?_) | (refine vo_store (by rfl) _ _ rfl (w.heap.size + 1) rfl ⟨l, h, v, (s + 1) % 8, l⟩ rfl (vcs .zero) Y4.out rfl ?_))
    exact bodyPost_ret (voc_ret (u := ⟨l, h, v, (s + 1) % 8, l⟩) rfl rfl (Box.row Y4.out)) rfl ⟨rfl, below_row B4.out (by omega) _⟩
  · have HN : Hid (nxt ⟨l, h, v, s, e⟩ = ⟨l, h, v, s, e - 1⟩) := Lib.hid (if_neg (by simp only; omega))
    rw [HN.out]
    have hne : ¬ (e - 1 = 0) := by omega
    obtain ⟨w1, hw1⟩ : ∃ w1, w1 = (w.alloc (.cells #[.int .i64 l, .int .i64 h, .int .i64 v, .int .i64 s, .int .i64 e] 24)).alloc (.cells #[.int .i64 0, .int .i64 0, .int .i64 0, .int .i64 0, .int .i64 0] 24) := ⟨_, rfl⟩
    have X1 : Hid (Box w1 w.heap.size 24 (vcs ⟨l, h, v, s, e⟩)) := Lib.hid (by rw [hw1]; exact (Box.new w _ _).alloc _)
    have Y1 : Hid (Box w1 (w.heap.size + 1) 24 (vcs .zero)) := Lib.hid (by rw [hw1]; exact Box.new_at _ _ _ _ (by simp))
    have B1 : Hid (Below w.heap.size w w1) := Lib.hid (by rw [hw1]; exact below2 w _ _)
    go_enter Try.func49, Try.ntmps49
    go_upto_region 1 with (fail)
    rw [← hw1]
    clear hw1
    have x0 := X1.out.cell 0
    have f0 := X1.out.frozen 0
    have x1 := X1.out.cell 1
    have f1 := X1.out.frozen 1
    have x2 := X1.out.cell 2
    have f2 := X1.out.frozen 2
    have x3 := X1.out.cell 3
    have f3 := X1.out.frozen 3
    have x4 := X1.out.cell 4
    have f4 := X1.out.frozen 4
    have X4 := Lib.hid (X1.out.set 4 (.int .i64 (e - 1)))
    have Y4 := Lib.hid (Y1.out.far (b' := w.heap.size) (i := 4) (by omega) (.int .i64 (e - 1)))
    have B4 := Lib.hid (B1.out.setCell (p := ⟨w.heap.size, 4, none⟩) (Nat.le_refl _) (.int .i64 (e - 1)))
    go_upto_region 5 with (fail)
    go_wp2_with (first | (refine vo_load (by rfl) _ rfl w.heap.size rfl ⟨l, h, v, s, e - 1⟩ X4.out ?_) | (refine vo_store (by rfl) _ _ rfl (w.heap.size + 1) rfl ⟨l, h, v, s, e - 1⟩ rfl (vcs .zero) Y4.out rfl ?_))
    exact bodyPost_ret (voc_ret (u := ⟨l, h, v, s, e - 1⟩) rfl rfl (Box.row Y4.out)) rfl ⟨rfl, below_row B4.out (by omega) _⟩
def fadeT (a b c : Int) : Int := if (betB a 0 15 && betB b 0 1000 && betB c 1 100) = true then max 0 (a - b / c) else -1
theorem spec_fade (a b c : Int) (w : World) : Calls Try.prog 30 #[.int .i64 a, .int .i64 b, .int .i64 c] w fun e w' => e = .returned (.int .i64 (fadeT a b c)) ∧ w = w' := by
  have HF : Hid (fadeT a b c = if (betB a 0 15 && betB b 0 1000 && betB c 1 100) = true then max 0 (a - b / c) else -1) := Lib.hid rfl
  generalize fadeT a b c = V at HF ⊢
  go_enter Try.func30, Try.ntmps30
  go_wp2_with fail
  refine (l1In_any a 0 15 _).mono ?_; rintro e' w' ⟨rfl, rfl⟩
  cases k0 : betB a 0 15
  · have HV : Hid (V = -1) := Lib.hid (by rw [HF.out, k0]; simp)
    clear k0
    go_wp2_with fail
    go_ret
    exact ⟨by rw [HV.out]; rfl, rfl⟩
  have K0 := Lib.hid k0
  clear k0
  go_wp2_with fail
  refine (l1In_any b 0 1000 _).mono ?_; rintro e' w' ⟨rfl, rfl⟩
  cases k1 : betB b 0 1000
  · have HV : Hid (V = -1) := Lib.hid (by rw [HF.out, K0.out, k1]; simp)
    clear k1
    go_wp2_with fail
    go_ret
    exact ⟨by rw [HV.out]; rfl, rfl⟩
  have K1 := Lib.hid k1
  clear k1
  go_wp2_with fail
  refine (l1In_any c 1 100 _).mono ?_; rintro e' w' ⟨rfl, rfl⟩
  cases k2 : betB c 1 100
  · have HV : Hid (V = -1) := Lib.hid (by rw [HF.out, K0.out, K1.out, k2]; simp)
    clear k2
    go_wp2_with fail
    go_ret
    exact ⟨by rw [HV.out]; rfl, rfl⟩
  have K2 := Lib.hid k2
  clear k2
  obtain ⟨a0, a1⟩ := betB_iff.1 K0.out
  obtain ⟨b0, b1⟩ := betB_iff.1 K1.out
  obtain ⟨c0, c1⟩ := betB_iff.1 K2.out
  have t1 : b.tdiv c = b / c := Int.tdiv_eq_ediv_of_nonneg b0
  have d1 : 0 ≤ b / c := Int.ediv_nonneg b0 (by omega)
  have d2 : b / c ≤ b := Int.ediv_le_self _ b0
  have HV : Hid (V = if a - b / c ≤ 0 then 0 else a - b / c) := Lib.hid (by rw [HF.out, K0.out, K1.out, K2.out]; simp only [Bool.and_self, if_true]; split <;> omega)
  generalize b / c = q at t1 d1 d2 HV
  by_cases hm : a - q ≤ 0
  · rw [if_pos hm] at HV
    go_wp2_with fail
    go_ret
    exact ⟨by rw [HV.out]; rfl, rfl⟩
  · rw [if_neg hm] at HV
    have hm' : 0 < a - q := by omega
    go_wp2_with fail
    go_ret
    exact ⟨by rw [HV.out]; rfl, rfl⟩
end Go.Proofs.Ytfbpnneegenhgaa
