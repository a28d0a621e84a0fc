/- Cycles skipped: the program's and the model's functions, and the laws' own on timers. -/
import Derived.Test.YtmmngdofbmkmhaaTimA
namespace Go.Proofs.Ytmmngdofbmkmhaa
open Go.ChangeShapes Go.WideShapes Go.ChangeAt Go.RowKit

def okS (l r f n : Int) : Bool := timB l r f && betB n 0 100000
/-- What skipping leaves of a timer: its three numbers. -/
def sL (l r f n : Int) : Int := if okS l r f n = true then skL l r n else 0
def sR (l r f n : Int) : Int := if okS l r f n = true then r else 0
def sF (l r f n : Int) : Int := if okS l r f n = true then skF l r f n else 0
def Skipped (l r f n : Int) (w : World) (e : Ending) (w' : World) : Prop := e = .returned (.agg #[.int .i64 (sL l r f n), .int .i64 (sR l r f n), .int .i64 (sF l r f n)]) ∧ Below w.heap.size w w'
theorem skipped_no {l r f n : Int} {w : World} {e : Ending} {w' : World} (h : okS l r f n = false) (k : e = .returned (.agg #[.int .i64 0, .int .i64 0, .int .i64 0]) ∧ Below w.heap.size w w') : Skipped l r f n w e w' := by
  unfold Skipped sL sR sF; simpa [h] using k
theorem skipped_near {l r f n : Int} {w : World} {e : Ending} {w' : World} (h : okS l r f n = true) (hn : n ≤ l) (k : e = .returned (.agg #[.int .i64 (l - n), .int .i64 r, .int .i64 f]) ∧ Below w.heap.size w w') : Skipped l r f n w e w' := by
  unfold Skipped sL sR sF skL skF; simpa [h, hn] using k
theorem skipped_far {l r f n : Int} {w : World} {e : Ending} {w' : World} (h : okS l r f n = true) (hn : ¬ n ≤ l) (k : e = .returned (.agg #[.int .i64 (r - (n - l - 1) % (r + 1)), .int .i64 r, .int .i64 (f + 1 + (n - l - 1) / (r + 1))]) ∧ Below w.heap.size w w') : Skipped l r f n w e w' := by
  unfold Skipped sL sR sF skL skF; simpa [h, hn] using k
set_option maxHeartbeats 2000000 in
theorem impl_skip (l r f n : Int) (w : World) : Calls Try.prog 20 #[.agg #[.int .i64 l, .int .i64 r, .int .i64 f], .int .i64 n] w (Skipped l r f n w) := by
  have BB := Lib.hid (below2 w (.cells #[.int .i64 l, .int .i64 r, .int .i64 f] 24) (.cells #[.int .i64 0, .int .i64 0, .int .i64 0] 24))
  by_cases h0 : 0 ≤ n
  · by_cases h1 : n ≤ 100000
    · by_cases h : timB l r f = true
      · have K := Lib.hid h
        obtain ⟨⟨l0, l1⟩, ⟨r0, r1⟩, f0, f1⟩ := timB_iff.1 h
        have HF := Lib.hid (show okS l r f n = true by simp [okS, betB, h, h0, h1])
        clear h
        by_cases hn : n ≤ l
        · have hd : n < l + 1 := by omega
          refine (show Calls Try.prog 20 #[.agg #[.int .i64 l, .int .i64 r, .int .i64 f], .int .i64 n] w (fun e w' => e = .returned (.agg #[.int .i64 (l - n), .int .i64 r, .int .i64 f]) ∧ Below w.heap.size w w') from ?_).mono fun e w' k => skipped_near HF.out hn k
          go_enter Try.func20, Try.ntmps20
          go_wp2_with fail
          refine (impl_timValid _ _ _ _).mono ?_
          rintro e w1 ⟨rfl, b1⟩
          have X1 : Hid (Box w1 w.heap.size 24 [.int .i64 l, .int .i64 r, .int .i64 f]) := (((Box.new w _ _).alloc _).below b1)
          have Y1 : Hid (Box w1 (w.heap.size + 1) 24 [.int .i64 0, .int .i64 0, .int .i64 0]) := (Box.new_at _ _ _ _ (by simp)).below b1
          have B1 : Hid (Below w.heap.size w w1) := BB.out.trans (b1.mono (by simp; omega))
          have z1 : w.heap.size + 1 < w1.heap.size := Y1.out.lt
          clear b1
          rw [K.out]
          have c0 : w1.cell? ⟨w.heap.size, 0, none⟩ = some (.int .i64 l) := X1.out.cell 0
          have c1 : w1.cell? ⟨w.heap.size, 1, none⟩ = some (.int .i64 r) := X1.out.cell 1
          have c2 : w1.cell? ⟨w.heap.size, 2, none⟩ = some (.int .i64 f) := X1.out.cell 2
          go_wp2_with fail
          refine (impl_next _ _ _ _).mono ?_
          rintro e w2 ⟨rfl, b2⟩
          rw [show nxT l r f = l + 1 from if_pos K.out]
          have X2 := Lib.hid (X1.out.below b2)
          have Y2 := Lib.hid (Y1.out.below b2)
          have B2 : Hid (Below w.heap.size w w2) := B1.out.trans (b2.mono (by omega))
          clear b2 c0 c1 c2
          have c0 : w2.cell? ⟨w.heap.size, 0, none⟩ = some (.int .i64 l) := X2.out.cell 0
          have c1 : w2.cell? ⟨w.heap.size, 1, none⟩ = some (.int .i64 r) := X2.out.cell 1
          have c2 : w2.cell? ⟨w.heap.size, 2, none⟩ = some (.int .i64 f) := X2.out.cell 2
          have d0 : w2.cell? ⟨w.heap.size + 1, 0, none⟩ = some (.int .i64 0) := Y2.out.cell 0
          have d1 : w2.cell? ⟨w.heap.size + 1, 1, none⟩ = some (.int .i64 0) := Y2.out.cell 1
          have d2 : w2.cell? ⟨w.heap.size + 1, 2, none⟩ = some (.int .i64 0) := Y2.out.cell 2
          have e0 := X2.out.frozen 0
          have e1 := X2.out.frozen 1
          have e2 := X2.out.frozen 2
          have g0 := Y2.out.frozen 0
          have g1 := Y2.out.frozen 1
          have g2 := Y2.out.frozen 2
          go_wp2_with fail
          refine bodyPost_ret (v := .agg #[.int .i64 (l - n), .int .i64 r, .int .i64 f]) (by simp [results, Try.results20, go_sem, d0, d1, d2]) rfl ⟨rfl, ?_⟩
          repeat (first | with_reducible exact B2.out | with_reducible refine Below.setCell ?_ (by simp) _ | with_reducible refine Below.drew ?_ | with_reducible refine below_drewN ?_ _)
        · have hd : decide (n < l + 1) = false := by simp; omega
          have HK : Hid (0 ≤ n - l - 1 ∧ n - (l + 1) = n - l - 1 ∧ (n - l - 1) / (r + 1) ≤ 100000 ∧ 0 ≤ (n - l - 1) / (r + 1) ∧ 0 ≤ (n - l - 1) % (r + 1) ∧ (n - l - 1) % (r + 1) ≤ r) := ⟨by omega, by omega, Int.le_trans (Int.ediv_le_self _ (by omega)) (by omega), Int.ediv_nonneg (by omega) (by omega), Int.emod_nonneg _ (by omega), by have := Int.emod_lt_of_pos (n - l - 1) (show 0 < r + 1 by omega); omega⟩
          refine (show Calls Try.prog 20 #[.agg #[.int .i64 l, .int .i64 r, .int .i64 f], .int .i64 n] w (fun e w' => e = .returned (.agg #[.int .i64 (r - (n - l - 1) % (r + 1)), .int .i64 r, .int .i64 (f + 1 + (n - l - 1) / (r + 1))]) ∧ Below w.heap.size w w') from ?_).mono fun e w' k => skipped_far HF.out hn k
          clear hn
          go_enter Try.func20, Try.ntmps20
          go_wp2_with fail
          refine (impl_timValid _ _ _ _).mono ?_
          rintro e w1 ⟨rfl, b1⟩
          have X1 : Hid (Box w1 w.heap.size 24 [.int .i64 l, .int .i64 r, .int .i64 f]) := (((Box.new w _ _).alloc _).below b1)
          have Y1 : Hid (Box w1 (w.heap.size + 1) 24 [.int .i64 0, .int .i64 0, .int .i64 0]) := (Box.new_at _ _ _ _ (by simp)).below b1
          have B1 : Hid (Below w.heap.size w w1) := BB.out.trans (b1.mono (by simp; omega))
          have z1 : w.heap.size + 1 < w1.heap.size := Y1.out.lt
          clear b1
          rw [K.out]
          have c0 : w1.cell? ⟨w.heap.size, 0, none⟩ = some (.int .i64 l) := X1.out.cell 0
          have c1 : w1.cell? ⟨w.heap.size, 1, none⟩ = some (.int .i64 r) := X1.out.cell 1
          have c2 : w1.cell? ⟨w.heap.size, 2, none⟩ = some (.int .i64 f) := X1.out.cell 2
          go_wp2_with fail
          refine (impl_next _ _ _ _).mono ?_
          rintro e w2 ⟨rfl, b2⟩
          rw [show nxT l r f = l + 1 from if_pos K.out]
          have X2 := Lib.hid (X1.out.below b2)
          have Y2 := Lib.hid (Y1.out.below b2)
          have B2 : Hid (Below w.heap.size w w2) := B1.out.trans (b2.mono (by omega))
          clear b2 c0 c1 c2
          have c0 : w2.cell? ⟨w.heap.size, 0, none⟩ = some (.int .i64 l) := X2.out.cell 0
          have c1 : w2.cell? ⟨w.heap.size, 1, none⟩ = some (.int .i64 r) := X2.out.cell 1
          have c2 : w2.cell? ⟨w.heap.size, 2, none⟩ = some (.int .i64 f) := X2.out.cell 2
          have d0 : w2.cell? ⟨w.heap.size + 1, 0, none⟩ = some (.int .i64 0) := Y2.out.cell 0
          have d1 : w2.cell? ⟨w.heap.size + 1, 1, none⟩ = some (.int .i64 0) := Y2.out.cell 1
          have d2 : w2.cell? ⟨w.heap.size + 1, 2, none⟩ = some (.int .i64 0) := Y2.out.cell 2
          have e0 := X2.out.frozen 0
          have e1 := X2.out.frozen 1
          have e2 := X2.out.frozen 2
          have g0 := Y2.out.frozen 0
          have g1 := Y2.out.frozen 1
          have g2 := Y2.out.frozen 2
          go_wp2_with fail
          obtain ⟨k1, k2, k3, k4, k5, k6⟩ := HK.out
          obtain ⟨Q, hQ⟩ : ∃ Q, Q = (n - l - 1) / (r + 1) := ⟨_, rfl⟩
          obtain ⟨M, hM⟩ : ∃ M, M = (n - l - 1) % (r + 1) := ⟨_, rfl⟩
          rw [← hQ] at k3 k4
          rw [← hM] at k5 k6
          have t1 : (n - l - 1).tdiv (r + 1) = Q := by rw [hQ]; exact Int.tdiv_eq_ediv_of_nonneg k1
          have t2 : (n - l - 1).tmod (r + 1) = M := by rw [hM]; exact Int.tmod_eq_emod_of_nonneg k1
          have t3 : (r + 1 == 0) = false := by simp; omega
          have t4 : (n - l - 1) / (r + 1) = Q := hQ.symm
          have t5 : (n - l - 1) % (r + 1) = M := hM.symm
          have HV := Lib.hid (And.intro hQ hM)
          clear hQ hM
          go_quiet (fail)
          go_wp2_with fail
          go_region
          go_wp2_with fail
          go_region
          go_wp2_with fail
          refine bodyPost_ret (v := .agg #[.int .i64 (r - M), .int .i64 r, .int .i64 (f + (1 + Q))]) (by simp [results, Try.results20, go_sem, d0, d1, d2]) rfl ⟨?_, ?_⟩
          · rw [HV.out.1, HV.out.2]; simp; omega
          · repeat (first | with_reducible exact B2.out | with_reducible refine Below.setCell ?_ (by simp) _ | with_reducible refine Below.drew ?_ | with_reducible refine below_drewN ?_ _)
      · have K := Lib.hid (show timB l r f = false by simpa using h)
        clear h
        have HF := Lib.hid (show okS l r f n = false by simp [okS, K.out])
        refine (show Calls Try.prog 20 #[.agg #[.int .i64 l, .int .i64 r, .int .i64 f], .int .i64 n] w (fun e w' => e = .returned (.agg #[.int .i64 0, .int .i64 0, .int .i64 0]) ∧ Below w.heap.size w w') from ?_).mono fun e w' k => skipped_no HF.out k
        go_enter Try.func20, Try.ntmps20
        go_wp2_with fail
        refine (impl_timValid _ _ _ _).mono ?_
        rintro e w1 ⟨rfl, b1⟩
        have X1 : Hid (Box w1 w.heap.size 24 [.int .i64 l, .int .i64 r, .int .i64 f]) := (((Box.new w _ _).alloc _).below b1)
        have Y1 : Hid (Box w1 (w.heap.size + 1) 24 [.int .i64 0, .int .i64 0, .int .i64 0]) := (Box.new_at _ _ _ _ (by simp)).below b1
        have B1 : Hid (Below w.heap.size w w1) := BB.out.trans (b1.mono (by simp; omega))
        have z1 : w.heap.size + 1 < w1.heap.size := Y1.out.lt
        clear b1
        rw [K.out]
        have d0 : w1.cell? ⟨w.heap.size + 1, 0, none⟩ = some (.int .i64 0) := Y1.out.cell 0
        have d1 : w1.cell? ⟨w.heap.size + 1, 1, none⟩ = some (.int .i64 0) := Y1.out.cell 1
        have d2 : w1.cell? ⟨w.heap.size + 1, 2, none⟩ = some (.int .i64 0) := Y1.out.cell 2
        have g0 := Y1.out.frozen 0
        have g1 := Y1.out.frozen 1
        have g2 := Y1.out.frozen 2
        go_wp2_with fail
        refine bodyPost_ret (v := .agg #[.int .i64 0, .int .i64 0, .int .i64 0]) (by simp [results, Try.results20, go_sem, d0, d1, d2]) rfl ⟨rfl, ?_⟩
        repeat (first | with_reducible exact B1.out | with_reducible refine Below.setCell ?_ (by simp) _ | with_reducible refine Below.drew ?_ | with_reducible refine below_drewN ?_ _)
    · have hx : 100000 < n := by omega
      have hd : decide (n ≤ 100000) = false := by simpa using h1
      have HF := Lib.hid (show okS l r f n = false by simp [okS, betB, h1])
      clear h1
      refine (show Calls Try.prog 20 #[.agg #[.int .i64 l, .int .i64 r, .int .i64 f], .int .i64 n] w (fun e w' => e = .returned (.agg #[.int .i64 0, .int .i64 0, .int .i64 0]) ∧ Below w.heap.size w w') from ?_).mono fun e w' k => skipped_no HF.out k
      go_enter Try.func20, Try.ntmps20
      go_wp2_with fail
      refine bodyPost_ret (v := .agg #[.int .i64 0, .int .i64 0, .int .i64 0]) (by simp [results, Try.results20, go_sem]) rfl ⟨rfl, ?_⟩
      repeat (first | with_reducible exact BB.out | with_reducible refine Below.setCell ?_ (by simp) _ | with_reducible refine Below.drew ?_ | with_reducible refine below_drewN ?_ _)
  · have hx : n < 0 := by omega
    have hd : decide (0 ≤ n) = false := by simpa using h0
    have HF := Lib.hid (show okS l r f n = false by simp [okS, betB, h0])
    clear h0
    refine (show Calls Try.prog 20 #[.agg #[.int .i64 l, .int .i64 r, .int .i64 f], .int .i64 n] w (fun e w' => e = .returned (.agg #[.int .i64 0, .int .i64 0, .int .i64 0]) ∧ Below w.heap.size w w') from ?_).mono fun e w' k => skipped_no HF.out k
    go_enter Try.func20, Try.ntmps20
    go_wp2_with fail
    refine bodyPost_ret (v := .agg #[.int .i64 0, .int .i64 0, .int .i64 0]) (by simp [results, Try.results20, go_sem]) rfl ⟨rfl, ?_⟩
    repeat (first | with_reducible exact BB.out | with_reducible refine Below.setCell ?_ (by simp) _ | with_reducible refine Below.drew ?_ | with_reducible refine below_drewN ?_ _)
theorem impl_tick (l r f : Int) (w : World) : Calls Try.prog 17 #[.agg #[.int .i64 l, .int .i64 r, .int .i64 f]] w (Skipped l r f 1 w) := by
  have BB := Lib.hid (below2 w (.cells #[.int .i64 l, .int .i64 r, .int .i64 f] 24) (.cells #[.int .i64 0, .int .i64 0, .int .i64 0] 24))
  go_enter Try.func17, Try.ntmps17
  go_wp2_with fail
  refine (impl_skip _ _ _ _ _).mono ?_
  rintro e w1 ⟨rfl, b1⟩
  obtain ⟨a0, h0⟩ : ∃ a, a = sL l r f 1 := ⟨_, rfl⟩
  obtain ⟨a1, h1⟩ : ∃ a, a = sR l r f 1 := ⟨_, rfl⟩
  obtain ⟨a2, h2⟩ : ∃ a, a = sF l r f 1 := ⟨_, rfl⟩
  rw [← h0, ← h1, ← h2]
  have HV := Lib.hid (And.intro h0 (And.intro h1 h2))
  clear h0 h1 h2
  have X1 : Hid (Box w1 w.heap.size 24 [.int .i64 l, .int .i64 r, .int .i64 f]) := ((Box.new w _ _).alloc _).below b1
  have Y1 : Hid (Box w1 (w.heap.size + 1) 24 [.int .i64 0, .int .i64 0, .int .i64 0]) := (Box.new_at _ _ _ _ (by simp)).below b1
  have B1 : Hid (Below w.heap.size w w1) := BB.out.trans (b1.mono (by simp; omega))
  have z1 : w.heap.size + 1 < w1.heap.size := Y1.out.lt
  clear b1
  have d0 : w1.cell? ⟨w.heap.size + 1, 0, none⟩ = some (.int .i64 0) := Y1.out.cell 0
  have d1 : w1.cell? ⟨w.heap.size + 1, 1, none⟩ = some (.int .i64 0) := Y1.out.cell 1
  have d2 : w1.cell? ⟨w.heap.size + 1, 2, none⟩ = some (.int .i64 0) := Y1.out.cell 2
  have g0 := Y1.out.frozen 0
  have g1 := Y1.out.frozen 1
  have g2 := Y1.out.frozen 2
  go_wp2_with fail
  refine bodyPost_ret (v := .agg #[.int .i64 a0, .int .i64 a1, .int .i64 a2]) (by simp [results, Try.results17, go_sem, d0, d1, d2]) rfl ⟨?_, ?_⟩
  · rw [HV.out.1, HV.out.2.1, HV.out.2.2]
  · repeat (first | with_reducible exact B1.out | with_reducible refine Below.setCell ?_ (by simp) _ | with_reducible refine Below.drew ?_ | with_reducible refine below_drewN ?_ _)
set_option maxHeartbeats 2000000 in
theorem spec_skip (l r f n : Int) (w : World) : Calls Try.prog 21 #[.agg #[.int .i64 l, .int .i64 r, .int .i64 f], .int .i64 n] w (Skipped l r f n w) := by
  have BB := Lib.hid (below2 w (.cells #[.int .i64 l, .int .i64 r, .int .i64 f] 24) (.cells #[.int .i64 0, .int .i64 0, .int .i64 0] 24))
  by_cases h : timB l r f = true
  · have K := Lib.hid h
    obtain ⟨⟨l0, l1⟩, ⟨r0, r1⟩, f0, f1⟩ := timB_iff.1 h
    by_cases hb : betB n 0 100000 = true
    · have KN := Lib.hid hb
      obtain ⟨h0, h1⟩ := betB_iff.1 hb
      have HF := Lib.hid (show okS l r f n = true by simp [okS, h, hb])
      clear h hb
      by_cases hn : n ≤ l
      · refine (show Calls Try.prog 21 #[.agg #[.int .i64 l, .int .i64 r, .int .i64 f], .int .i64 n] w (fun e w' => e = .returned (.agg #[.int .i64 (l - n), .int .i64 r, .int .i64 f]) ∧ Below w.heap.size w w') from ?_).mono fun e w' k => skipped_near HF.out hn k
        go_enter Try.func21, Try.ntmps21
        go_wp2_with fail
        refine (spec_timValid _ _ _ _).mono ?_
        rintro e w1 ⟨rfl, b1⟩
        have X1 : Hid (Box w1 w.heap.size 24 [.int .i64 l, .int .i64 r, .int .i64 f]) := ((Box.new w _ _).alloc _).below b1
        have Y1 : Hid (Box w1 (w.heap.size + 1) 24 [.int .i64 0, .int .i64 0, .int .i64 0]) := (Box.new_at _ _ _ _ (by simp)).below b1
        have B1 : Hid (Below w.heap.size w w1) := BB.out.trans (b1.mono (by simp; omega))
        have z1 : w.heap.size + 1 < w1.heap.size := Y1.out.lt
        clear b1
        rw [K.out]
        have c0 : w1.cell? ⟨w.heap.size, 0, none⟩ = some (.int .i64 l) := X1.out.cell 0
        have c1 : w1.cell? ⟨w.heap.size, 1, none⟩ = some (.int .i64 r) := X1.out.cell 1
        have c2 : w1.cell? ⟨w.heap.size, 2, none⟩ = some (.int .i64 f) := X1.out.cell 2
        have e0 := X1.out.frozen 0
        have e1 := X1.out.frozen 1
        have e2 := X1.out.frozen 2
        have d0 : w1.cell? ⟨w.heap.size + 1, 0, none⟩ = some (.int .i64 0) := Y1.out.cell 0
        have d1 : w1.cell? ⟨w.heap.size + 1, 1, none⟩ = some (.int .i64 0) := Y1.out.cell 1
        have d2 : w1.cell? ⟨w.heap.size + 1, 2, none⟩ = some (.int .i64 0) := Y1.out.cell 2
        have g0 := Y1.out.frozen 0
        have g1 := Y1.out.frozen 1
        have g2 := Y1.out.frozen 2
        go_wp2_with fail
        refine (l1In_any _ _ _ _).mono ?_; rintro e w' ⟨rfl, rfl⟩
        rw [KN.out]
        go_wp2_with fail
        refine bodyPost_ret (v := .agg #[.int .i64 (l - n), .int .i64 r, .int .i64 f]) (by simp [results, Try.results21, go_sem, d0, d1, d2]) rfl ⟨rfl, ?_⟩
        repeat (first | with_reducible exact B1.out | with_reducible refine Below.setCell ?_ (by simp) _ | with_reducible refine Below.drew ?_ | with_reducible refine below_drewN ?_ _)
      · have hd : decide (n ≤ l) = false := by simp; omega
        have HK : Hid (0 ≤ n - l - 1 ∧ (n - l - 1) / (r + 1) ≤ 100000 ∧ 0 ≤ (n - l - 1) / (r + 1) ∧ 0 ≤ (n - l - 1) % (r + 1) ∧ (n - l - 1) % (r + 1) ≤ r) := ⟨by omega, Int.le_trans (Int.ediv_le_self _ (by omega)) (by omega), Int.ediv_nonneg (by omega) (by omega), Int.emod_nonneg _ (by omega), by have := Int.emod_lt_of_pos (n - l - 1) (show 0 < r + 1 by omega); omega⟩
        refine (show Calls Try.prog 21 #[.agg #[.int .i64 l, .int .i64 r, .int .i64 f], .int .i64 n] w (fun e w' => e = .returned (.agg #[.int .i64 (r - (n - l - 1) % (r + 1)), .int .i64 r, .int .i64 (f + 1 + (n - l - 1) / (r + 1))]) ∧ Below w.heap.size w w') from ?_).mono fun e w' k => skipped_far HF.out hn k
        clear hn
        go_enter Try.func21, Try.ntmps21
        go_wp2_with fail
        refine (spec_timValid _ _ _ _).mono ?_
        rintro e w1 ⟨rfl, b1⟩
        have X1 : Hid (Box w1 w.heap.size 24 [.int .i64 l, .int .i64 r, .int .i64 f]) := ((Box.new w _ _).alloc _).below b1
        have Y1 : Hid (Box w1 (w.heap.size + 1) 24 [.int .i64 0, .int .i64 0, .int .i64 0]) := (Box.new_at _ _ _ _ (by simp)).below b1
        have B1 : Hid (Below w.heap.size w w1) := BB.out.trans (b1.mono (by simp; omega))
        have z1 : w.heap.size + 1 < w1.heap.size := Y1.out.lt
        clear b1
        rw [K.out]
        have c0 : w1.cell? ⟨w.heap.size, 0, none⟩ = some (.int .i64 l) := X1.out.cell 0
        have c1 : w1.cell? ⟨w.heap.size, 1, none⟩ = some (.int .i64 r) := X1.out.cell 1
        have c2 : w1.cell? ⟨w.heap.size, 2, none⟩ = some (.int .i64 f) := X1.out.cell 2
        have e0 := X1.out.frozen 0
        have e1 := X1.out.frozen 1
        have e2 := X1.out.frozen 2
        have d0 : w1.cell? ⟨w.heap.size + 1, 0, none⟩ = some (.int .i64 0) := Y1.out.cell 0
        have d1 : w1.cell? ⟨w.heap.size + 1, 1, none⟩ = some (.int .i64 0) := Y1.out.cell 1
        have d2 : w1.cell? ⟨w.heap.size + 1, 2, none⟩ = some (.int .i64 0) := Y1.out.cell 2
        have g0 := Y1.out.frozen 0
        have g1 := Y1.out.frozen 1
        have g2 := Y1.out.frozen 2
        go_wp2_with fail
        refine (l1In_any _ _ _ _).mono ?_; rintro e w' ⟨rfl, rfl⟩
        rw [KN.out]
        obtain ⟨k1, k3, k4, k5, k6⟩ := HK.out
        obtain ⟨Q, hQ⟩ : ∃ Q, Q = (n - l - 1) / (r + 1) := ⟨_, rfl⟩
        obtain ⟨M, hM⟩ : ∃ M, M = (n - l - 1) % (r + 1) := ⟨_, rfl⟩
        rw [← hQ] at k3 k4
        rw [← hM] at k5 k6
        have t1 : (n - l - 1).tdiv (r + 1) = Q := by rw [hQ]; exact Int.tdiv_eq_ediv_of_nonneg k1
        have t2 : (n - l - 1).tmod (r + 1) = M := by rw [hM]; exact Int.tmod_eq_emod_of_nonneg k1
        have t3 : (r + 1 == 0) = false := by simp; omega
        have t4 : (n - l - 1) / (r + 1) = Q := hQ.symm
        have t5 : (n - l - 1) % (r + 1) = M := hM.symm
        have HV := Lib.hid (And.intro hQ hM)
        clear hQ hM
        go_wp2_with fail
        go_region
        go_wp2_with fail
        go_region
        go_wp2_with fail
        refine bodyPost_ret (v := .agg #[.int .i64 (r - M), .int .i64 r, .int .i64 (f + 1 + Q)]) (by simp [results, Try.results21, go_sem, d0, d1, d2]) rfl ⟨?_, ?_⟩
        · rw [HV.out.1, HV.out.2]
        · repeat (first | with_reducible exact B1.out | with_reducible refine Below.setCell ?_ (by simp) _ | with_reducible refine Below.drew ?_ | with_reducible refine below_drewN ?_ _)
    · have KN := Lib.hid (show betB n 0 100000 = false by simpa using hb)
      clear h hb
      have HF := Lib.hid (show okS l r f n = false by simp [okS, KN.out])
      refine (show Calls Try.prog 21 #[.agg #[.int .i64 l, .int .i64 r, .int .i64 f], .int .i64 n] w (fun e w' => e = .returned (.agg #[.int .i64 0, .int .i64 0, .int .i64 0]) ∧ Below w.heap.size w w') from ?_).mono fun e w' k => skipped_no HF.out k
      go_enter Try.func21, Try.ntmps21
      go_wp2_with fail
      refine (spec_timValid _ _ _ _).mono ?_
      rintro e w1 ⟨rfl, b1⟩
      have X1 : Hid (Box w1 w.heap.size 24 [.int .i64 l, .int .i64 r, .int .i64 f]) := ((Box.new w _ _).alloc _).below b1
      have Y1 : Hid (Box w1 (w.heap.size + 1) 24 [.int .i64 0, .int .i64 0, .int .i64 0]) := (Box.new_at _ _ _ _ (by simp)).below b1
      have B1 : Hid (Below w.heap.size w w1) := BB.out.trans (b1.mono (by simp; omega))
      have z1 : w.heap.size + 1 < w1.heap.size := Y1.out.lt
      clear b1
      rw [K.out]
      have c0 : w1.cell? ⟨w.heap.size, 0, none⟩ = some (.int .i64 l) := X1.out.cell 0
      have c1 : w1.cell? ⟨w.heap.size, 1, none⟩ = some (.int .i64 r) := X1.out.cell 1
      have c2 : w1.cell? ⟨w.heap.size, 2, none⟩ = some (.int .i64 f) := X1.out.cell 2
      have e0 := X1.out.frozen 0
      have e1 := X1.out.frozen 1
      have e2 := X1.out.frozen 2
      have d0 : w1.cell? ⟨w.heap.size + 1, 0, none⟩ = some (.int .i64 0) := Y1.out.cell 0
      have d1 : w1.cell? ⟨w.heap.size + 1, 1, none⟩ = some (.int .i64 0) := Y1.out.cell 1
      have d2 : w1.cell? ⟨w.heap.size + 1, 2, none⟩ = some (.int .i64 0) := Y1.out.cell 2
      have g0 := Y1.out.frozen 0
      have g1 := Y1.out.frozen 1
      have g2 := Y1.out.frozen 2
      go_wp2_with fail
      refine (l1In_any _ _ _ _).mono ?_; rintro e w' ⟨rfl, rfl⟩
      rw [KN.out]
      go_wp2_with fail
      refine bodyPost_ret (v := .agg #[.int .i64 0, .int .i64 0, .int .i64 0]) (by simp [results, Try.results21, go_sem, d0, d1, d2]) rfl ⟨rfl, ?_⟩
      repeat (first | with_reducible exact B1.out | with_reducible refine Below.setCell ?_ (by simp) _ | with_reducible refine Below.drew ?_ | with_reducible refine below_drewN ?_ _)
  · have K := Lib.hid (show timB l r f = false by simpa using h)
    clear h
    have HF := Lib.hid (show okS l r f n = false by simp [okS, K.out])
    refine (show Calls Try.prog 21 #[.agg #[.int .i64 l, .int .i64 r, .int .i64 f], .int .i64 n] w (fun e w' => e = .returned (.agg #[.int .i64 0, .int .i64 0, .int .i64 0]) ∧ Below w.heap.size w w') from ?_).mono fun e w' k => skipped_no HF.out k
    go_enter Try.func21, Try.ntmps21
    go_wp2_with fail
    refine (spec_timValid _ _ _ _).mono ?_
    rintro e w1 ⟨rfl, b1⟩
    have X1 : Hid (Box w1 w.heap.size 24 [.int .i64 l, .int .i64 r, .int .i64 f]) := ((Box.new w _ _).alloc _).below b1
    have Y1 : Hid (Box w1 (w.heap.size + 1) 24 [.int .i64 0, .int .i64 0, .int .i64 0]) := (Box.new_at _ _ _ _ (by simp)).below b1
    have B1 : Hid (Below w.heap.size w w1) := BB.out.trans (b1.mono (by simp; omega))
    have z1 : w.heap.size + 1 < w1.heap.size := Y1.out.lt
    clear b1
    rw [K.out]
    have c0 : w1.cell? ⟨w.heap.size, 0, none⟩ = some (.int .i64 l) := X1.out.cell 0
    have c1 : w1.cell? ⟨w.heap.size, 1, none⟩ = some (.int .i64 r) := X1.out.cell 1
    have c2 : w1.cell? ⟨w.heap.size, 2, none⟩ = some (.int .i64 f) := X1.out.cell 2
    have e0 := X1.out.frozen 0
    have e1 := X1.out.frozen 1
    have e2 := X1.out.frozen 2
    have d0 : w1.cell? ⟨w.heap.size + 1, 0, none⟩ = some (.int .i64 0) := Y1.out.cell 0
    have d1 : w1.cell? ⟨w.heap.size + 1, 1, none⟩ = some (.int .i64 0) := Y1.out.cell 1
    have d2 : w1.cell? ⟨w.heap.size + 1, 2, none⟩ = some (.int .i64 0) := Y1.out.cell 2
    have g0 := Y1.out.frozen 0
    have g1 := Y1.out.frozen 1
    have g2 := Y1.out.frozen 2
    go_wp2_with fail
    refine bodyPost_ret (v := .agg #[.int .i64 0, .int .i64 0, .int .i64 0]) (by simp [results, Try.results21, go_sem, d0, d1, d2]) rfl ⟨rfl, ?_⟩
    repeat (first | with_reducible exact B1.out | with_reducible refine Below.setCell ?_ (by simp) _ | with_reducible refine Below.drew ?_ | with_reducible refine below_drewN ?_ _)
set_option maxHeartbeats 2000000 in
theorem spec_tick (l r f : Int) (w : World) : Calls Try.prog 18 #[.agg #[.int .i64 l, .int .i64 r, .int .i64 f]] w (Skipped l r f 1 w) := by
  have BB := Lib.hid (below2 w (.cells #[.int .i64 l, .int .i64 r, .int .i64 f] 24) (.cells #[.int .i64 0, .int .i64 0, .int .i64 0] 24))
  by_cases h : timB l r f = true
  · have K := Lib.hid h
    obtain ⟨⟨l0, l1⟩, ⟨r0, r1⟩, f0, f1⟩ := timB_iff.1 h
    have HF := Lib.hid (show okS l r f 1 = true by simp [okS, h, betB])
    clear h
    by_cases hn : l = 0
    · refine (show Calls Try.prog 18 #[.agg #[.int .i64 l, .int .i64 r, .int .i64 f]] w (fun e w' => e = .returned (.agg #[.int .i64 r, .int .i64 r, .int .i64 (f + 1)]) ∧ Below w.heap.size w w') from ?_).mono fun e w' k => skipped_far HF.out (by omega) ⟨by rw [k.1, hn]; simp, k.2⟩
      subst hn
      go_enter Try.func18, Try.ntmps18
      go_wp2_with fail
      refine (spec_timValid _ _ _ _).mono ?_
      rintro e w1 ⟨rfl, b1⟩
      have X1 : Hid (Box w1 w.heap.size 24 [.int .i64 0, .int .i64 r, .int .i64 f]) := ((Box.new w _ _).alloc _).below b1
      have Y1 : Hid (Box w1 (w.heap.size + 1) 24 [.int .i64 0, .int .i64 0, .int .i64 0]) := (Box.new_at _ _ _ _ (by simp)).below b1
      have B1 : Hid (Below w.heap.size w w1) := BB.out.trans (b1.mono (by simp; omega))
      have z1 : w.heap.size + 1 < w1.heap.size := Y1.out.lt
      clear b1
      rw [K.out]
      have c0 : w1.cell? ⟨w.heap.size, 0, none⟩ = some (.int .i64 0) := X1.out.cell 0
      have c1 : w1.cell? ⟨w.heap.size, 1, none⟩ = some (.int .i64 r) := X1.out.cell 1
      have c2 : w1.cell? ⟨w.heap.size, 2, none⟩ = some (.int .i64 f) := X1.out.cell 2
      have e0 := X1.out.frozen 0
      have e1 := X1.out.frozen 1
      have e2 := X1.out.frozen 2
      have d0 : w1.cell? ⟨w.heap.size + 1, 0, none⟩ = some (.int .i64 0) := Y1.out.cell 0
      have d1 : w1.cell? ⟨w.heap.size + 1, 1, none⟩ = some (.int .i64 0) := Y1.out.cell 1
      have d2 : w1.cell? ⟨w.heap.size + 1, 2, none⟩ = some (.int .i64 0) := Y1.out.cell 2
      have g0 := Y1.out.frozen 0
      have g1 := Y1.out.frozen 1
      have g2 := Y1.out.frozen 2
      go_wp2_with fail
      refine bodyPost_ret (v := .agg #[.int .i64 r, .int .i64 r, .int .i64 (f + 1)]) (by simp [results, Try.results18, go_sem, d0, d1, d2]) rfl ⟨rfl, ?_⟩
      repeat (first | with_reducible exact B1.out | with_reducible refine Below.setCell ?_ (by simp) _ | with_reducible refine Below.drew ?_ | with_reducible refine below_drewN ?_ _)
    · have hd : (l == 0) = false := by simpa using hn
      refine (show Calls Try.prog 18 #[.agg #[.int .i64 l, .int .i64 r, .int .i64 f]] w (fun e w' => e = .returned (.agg #[.int .i64 (l - 1), .int .i64 r, .int .i64 f]) ∧ Below w.heap.size w w') from ?_).mono fun e w' k => skipped_near HF.out (by omega) k
      clear hn
      go_enter Try.func18, Try.ntmps18
      go_wp2_with fail
      refine (spec_timValid _ _ _ _).mono ?_
      rintro e w1 ⟨rfl, b1⟩
      have X1 : Hid (Box w1 w.heap.size 24 [.int .i64 l, .int .i64 r, .int .i64 f]) := ((Box.new w _ _).alloc _).below b1
      have Y1 : Hid (Box w1 (w.heap.size + 1) 24 [.int .i64 0, .int .i64 0, .int .i64 0]) := (Box.new_at _ _ _ _ (by simp)).below b1
      have B1 : Hid (Below w.heap.size w w1) := BB.out.trans (b1.mono (by simp; omega))
      have z1 : w.heap.size + 1 < w1.heap.size := Y1.out.lt
      clear b1
      rw [K.out]
      have c0 : w1.cell? ⟨w.heap.size, 0, none⟩ = some (.int .i64 l) := X1.out.cell 0
      have c1 : w1.cell? ⟨w.heap.size, 1, none⟩ = some (.int .i64 r) := X1.out.cell 1
      have c2 : w1.cell? ⟨w.heap.size, 2, none⟩ = some (.int .i64 f) := X1.out.cell 2
      have e0 := X1.out.frozen 0
      have e1 := X1.out.frozen 1
      have e2 := X1.out.frozen 2
      have d0 : w1.cell? ⟨w.heap.size + 1, 0, none⟩ = some (.int .i64 0) := Y1.out.cell 0
      have d1 : w1.cell? ⟨w.heap.size + 1, 1, none⟩ = some (.int .i64 0) := Y1.out.cell 1
      have d2 : w1.cell? ⟨w.heap.size + 1, 2, none⟩ = some (.int .i64 0) := Y1.out.cell 2
      have g0 := Y1.out.frozen 0
      have g1 := Y1.out.frozen 1
      have g2 := Y1.out.frozen 2
      go_wp2_with fail
      refine bodyPost_ret (v := .agg #[.int .i64 (l - 1), .int .i64 r, .int .i64 f]) (by simp [results, Try.results18, go_sem, d0, d1, d2]) rfl ⟨rfl, ?_⟩
      repeat (first | with_reducible exact B1.out | with_reducible refine Below.setCell ?_ (by simp) _ | with_reducible refine Below.drew ?_ | with_reducible refine below_drewN ?_ _)
  · have K := Lib.hid (show timB l r f = false by simpa using h)
    clear h
    have HF := Lib.hid (show okS l r f 1 = false by simp [okS, K.out])
    refine (show Calls Try.prog 18 #[.agg #[.int .i64 l, .int .i64 r, .int .i64 f]] w (fun e w' => e = .returned (.agg #[.int .i64 0, .int .i64 0, .int .i64 0]) ∧ Below w.heap.size w w') from ?_).mono fun e w' k => skipped_no HF.out k
    go_enter Try.func18, Try.ntmps18
    go_wp2_with fail
    refine (spec_timValid _ _ _ _).mono ?_
    rintro e w1 ⟨rfl, b1⟩
    have X1 : Hid (Box w1 w.heap.size 24 [.int .i64 l, .int .i64 r, .int .i64 f]) := ((Box.new w _ _).alloc _).below b1
    have Y1 : Hid (Box w1 (w.heap.size + 1) 24 [.int .i64 0, .int .i64 0, .int .i64 0]) := (Box.new_at _ _ _ _ (by simp)).below b1
    have B1 : Hid (Below w.heap.size w w1) := BB.out.trans (b1.mono (by simp; omega))
    have z1 : w.heap.size + 1 < w1.heap.size := Y1.out.lt
    clear b1
    rw [K.out]
    have c0 : w1.cell? ⟨w.heap.size, 0, none⟩ = some (.int .i64 l) := X1.out.cell 0
    have c1 : w1.cell? ⟨w.heap.size, 1, none⟩ = some (.int .i64 r) := X1.out.cell 1
    have c2 : w1.cell? ⟨w.heap.size, 2, none⟩ = some (.int .i64 f) := X1.out.cell 2
    have e0 := X1.out.frozen 0
    have e1 := X1.out.frozen 1
    have e2 := X1.out.frozen 2
    have d0 : w1.cell? ⟨w.heap.size + 1, 0, none⟩ = some (.int .i64 0) := Y1.out.cell 0
    have d1 : w1.cell? ⟨w.heap.size + 1, 1, none⟩ = some (.int .i64 0) := Y1.out.cell 1
    have d2 : w1.cell? ⟨w.heap.size + 1, 2, none⟩ = some (.int .i64 0) := Y1.out.cell 2
    have g0 := Y1.out.frozen 0
    have g1 := Y1.out.frozen 1
    have g2 := Y1.out.frozen 2
    go_wp2_with fail
    refine bodyPost_ret (v := .agg #[.int .i64 0, .int .i64 0, .int .i64 0]) (by simp [results, Try.results18, go_sem, d0, d1, d2]) rfl ⟨rfl, ?_⟩
    repeat (first | with_reducible exact B1.out | with_reducible refine Below.setCell ?_ (by simp) _ | with_reducible refine Below.drew ?_ | with_reducible refine below_drewN ?_ _)
theorem toTimer_any (l r f : Int) (w : World) : Calls Try.prog 25 #[.agg #[.int .i64 l, .int .i64 r, .int .i64 f]] w fun e w' => e = .returned (.agg #[.int .i64 l, .int .i64 r, .int .i64 f]) ∧ Below w.heap.size w w' := by
  go_enter Try.func25, Try.ntmps25
  go_wp2_with fail
  refine bodyPost_ret (v := .agg #[.int .i64 l, .int .i64 r, .int .i64 f]) (by simp [results, Try.results25, go_sem]) rfl ⟨rfl, ?_⟩
  exact below3 w _ _ _
theorem eqTimer_any (l r f : Int) (w : World) : Calls Try.prog 26 #[.agg #[.int .i64 l, .int .i64 r, .int .i64 f], .agg #[.int .i64 l, .int .i64 r, .int .i64 f]] w fun e w' => e = .returned (.bool true) ∧ Below w.heap.size w w' := by
  have BB := Lib.hid (below2 w (.cells #[.int .i64 l, .int .i64 r, .int .i64 f] 24) (.cells #[.int .i64 l, .int .i64 r, .int .i64 f] 24))
  go_enter Try.func26, Try.ntmps26
  go_wp2_with fail
  go_ret
  exact ⟨rfl, BB.out⟩
end Go.Proofs.Ytmmngdofbmkmhaa
