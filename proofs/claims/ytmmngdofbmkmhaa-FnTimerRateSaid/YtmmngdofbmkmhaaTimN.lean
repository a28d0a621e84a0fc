/- The laws of chapter 6, walked: skipping, and a timer's rate. -/
import Derived.Test.YtmmngdofbmkmhaaTimE
import Derived.Test.YtmmngdofbmkmhaaTimM
import Derived.Test.YtmmngdofbmkmhaaLater
import Derived.Deep.DeepCutAuto
namespace Go.Proofs.Ytmmngdofbmkmhaa
open Go.ChangeShapes Go.WideShapes Go.ChangeAt Go.RowKit
set_option linter.unusedVariables false

set_option maxRecDepth 100000 in
set_option maxHeartbeats 4000000 in
theorem walk_FnSkipTimer (a0 : Option Addr) (len0 cap0 : Nat) (z0 : List Int) (w : World) (w0 : IsRow .u8 w a0 len0 cap0 z0) :
    Calls Try.prog 5 #[.slice a0 len0 cap0] w fun e w' => e = .returned (.bool true) ∧ Below w.heap.size w w' := by
  have H := Lib.hid w0
  have hl := isRow_len w0
  clear w0
  by_cases hs : len0 ≤ 1048576
  · go_enter Try.func5, Try.ntmps5
    go_wp2_with fail
    refine (draw_skip _ _ _ _ _ H.out).mono ?_; rintro e w1 ⟨l, r, f, n, rfl, hl1, hr1, hf1, hn1, b1⟩
    obtain ⟨WX, hWX⟩ : ∃ WX, WX = w1.alloc (.cells #[.int .i64 l, .int .i64 r, .int .i64 f] 24) := ⟨_, rfl⟩
    have B1 : Hid (Below w.heap.size w WX) := by rw [hWX]; exact b1.alloc b1.size _
    have X1 : Hid (Box WX w1.heap.size 24 [.int .i64 l, .int .i64 r, .int .i64 f]) := by rw [hWX]; exact Box.new w1 _ _
    clear b1
    go_upto_region 4 with (fail)
    rw [← hWX]
    generalize w1.heap.size = bt at X1
    clear hWX
    obtain ⟨A, hA⟩ : ∃ A, A = sL l r f n := ⟨_, rfl⟩
    obtain ⟨B, hB⟩ : ∃ B, B = sR l r f n := ⟨_, rfl⟩
    obtain ⟨C, hC⟩ : ∃ C, C = sF l r f n := ⟨_, rfl⟩
    have E : Hid (sL l r f n = A ∧ sR l r f n = B ∧ sF l r f n = C) := ⟨hA.symm, hB.symm, hC.symm⟩
    clear hA hB hC
    have c0 : WX.cell? ⟨bt, 0, none⟩ = some (.int .i64 l) := X1.out.cell 0
    have c1 : WX.cell? ⟨bt, 1, none⟩ = some (.int .i64 r) := X1.out.cell 1
    have c2 : WX.cell? ⟨bt, 2, none⟩ = some (.int .i64 f) := X1.out.cell 2
    
    go_wp2_with fail
    refine (skip_at (impl_skip _ _ _ _ _) E.out).mono ?_; rintro e w2 ⟨rfl, b2⟩
    obtain ⟨W2, hW2⟩ : ∃ W2, W2 = w2.alloc (.cells #[.int .i64 A, .int .i64 B, .int .i64 C] 24) := ⟨_, rfl⟩
    have X2 : Hid (Box W2 bt 24 [.int .i64 l, .int .i64 r, .int .i64 f]) := by rw [hW2]; exact (X1.out.below b2).alloc _
    have Y2 : Hid (Box W2 w2.heap.size 24 [.int .i64 A, .int .i64 B, .int .i64 C]) := by rw [hW2]; exact Box.new w2 _ _
    have B2 : Hid (Below w.heap.size w W2) := by rw [hW2]; exact (below_then B1.out b2).alloc (below_then B1.out b2).size _
    clear b2 c0 c1 c2 X1 B1
    go_upto_region 5 with (fail)
    rw [← hW2]
    clear hW2
    generalize w2.heap.size = bx at Y2 ⊢
    have VS : Hid (∀ u : Later W2, Calls Try.prog 21 #[(.agg #[.int .i64 l, .int .i64 r, .int .i64 f]), .int .i64 n] u.now fun e w' => e = .returned (.agg #[.int .i64 A, .int .i64 B, .int .i64 C]) ∧ Below u.now.heap.size u.now w') := fun u => skip_at (spec_skip _ _ _ _ _) E.out
    have c0 : ∀ u : Later W2, u.now.cell? ⟨bt, 0, none⟩ = some (.int .i64 l) := later_cell (X2.out.cell 0)
    have c1 : ∀ u : Later W2, u.now.cell? ⟨bt, 1, none⟩ = some (.int .i64 r) := later_cell (X2.out.cell 1)
    have c2 : ∀ u : Later W2, u.now.cell? ⟨bt, 2, none⟩ = some (.int .i64 f) := later_cell (X2.out.cell 2)
    have d0 : ∀ u : Later W2, u.now.cell? ⟨bx, 0, none⟩ = some (.int .i64 A) := later_cell (Y2.out.cell 0)
    have d1 : ∀ u : Later W2, u.now.cell? ⟨bx, 1, none⟩ = some (.int .i64 B) := later_cell (Y2.out.cell 1)
    have d2 : ∀ u : Later W2, u.now.cell? ⟨bx, 2, none⟩ = some (.int .i64 C) := later_cell (Y2.out.cell 2)
    
    refine wp_region_later (by kernel_rfl) (by kernel_rfl) ?_
    repeat (go_big_quiet_step ((first
      | (go_at_call 21; exact Calls.later (VS.out _)))))
    refine wpQuiet_nil ?_
    rintro _ ⟨u, rfl⟩
    have X3 := Lib.hid (X2.out.below u.below)
    have Y3 := Lib.hid (Y2.out.below u.below)
    have B3 := Lib.hid (below_then B2.out u.below)
    clear c0 c1 c2 d0 d1 d2 VS X2 Y2 B2
    generalize u.now = w3 at X3 Y3 B3
    have c0 : w3.cell? ⟨bt, 0, none⟩ = some (.int .i64 l) := X3.out.cell 0
    have c1 : w3.cell? ⟨bt, 1, none⟩ = some (.int .i64 r) := X3.out.cell 1
    have c2 : w3.cell? ⟨bt, 2, none⟩ = some (.int .i64 f) := X3.out.cell 2
    
    go_wp2_with fail
    refine (spec_timValid _ _ _ _).mono ?_; rintro e w4 ⟨rfl, b4⟩
    have X4 := Lib.hid (X3.out.below b4)
    have Y4 := Lib.hid (Y3.out.below b4)
    have B4 := Lib.hid (below_then B3.out b4)
    clear b4 c0 c1 c2 X3 Y3 B3
    by_cases hv : timB l r f = true
    · rw [hv]
      by_cases hn0 : n < 0
      · obtain ⟨z1, z2, z3⟩ := sk_bad (l := l) (r := r) (f := f) (n := n) (.inr (.inl hn0))
        obtain rfl : A = 0 := E.out.1.symm.trans z1
        obtain rfl : B = 0 := E.out.2.1.symm.trans z2
        obtain rfl : C = 0 := E.out.2.2.symm.trans z3
        clear E z1 z2 z3
        have d0 : w4.cell? ⟨bx, 0, none⟩ = some (.int .i64 0) := Y4.out.cell 0
        have d1 : w4.cell? ⟨bx, 1, none⟩ = some (.int .i64 0) := Y4.out.cell 1
        have d2 : w4.cell? ⟨bx, 2, none⟩ = some (.int .i64 0) := Y4.out.cell 2
        
        go_wp2_with fail
        refine (alive_any _).mono ?_; rintro e w' ⟨rfl, rfl⟩
        go_wp2_with fail
        go_ret
        exact ⟨rfl, B4.out⟩
      · by_cases hn2 : 100000 < n
        · obtain ⟨z1, z2, z3⟩ := sk_bad (l := l) (r := r) (f := f) (n := n) (.inr (.inr hn2))
          obtain rfl : A = 0 := E.out.1.symm.trans z1
          obtain rfl : B = 0 := E.out.2.1.symm.trans z2
          obtain rfl : C = 0 := E.out.2.2.symm.trans z3
          clear E z1 z2 z3
          have d0 : w4.cell? ⟨bx, 0, none⟩ = some (.int .i64 0) := Y4.out.cell 0
          have d1 : w4.cell? ⟨bx, 1, none⟩ = some (.int .i64 0) := Y4.out.cell 1
          have d2 : w4.cell? ⟨bx, 2, none⟩ = some (.int .i64 0) := Y4.out.cell 2
          
          go_wp2_with fail
          refine (alive_any _).mono ?_; rintro e w' ⟨rfl, rfl⟩
          go_wp2_with fail
          go_ret
          exact ⟨rfl, B4.out⟩
        · have E3 := Lib.hid (sk_ok (n := n) hv (by omega) (by omega))
          have eB : B = r := E.out.2.1.symm.trans E3.out.2.1
          subst B
          have EA : skL l r n = A := E3.out.1.symm.trans E.out.1
          have EC : skF l r f n = C := E3.out.2.2.symm.trans E.out.2.2
          obtain ⟨⟨l0, l1⟩, ⟨r0, r1⟩, f0, f1⟩ := timB_iff.1 hv
          clear E E3
          obtain ⟨N, rfl⟩ := Int.eq_ofNat_of_zero_le (show 0 ≤ n by omega)
          have hN : N ≤ 100000 := by omega
          obtain ⟨H, hH⟩ : ∃ H : Nat, H = N / 3 := ⟨_, rfl⟩
          have hHN : H ≤ N := by omega
          obtain ⟨P, hP⟩ : ∃ P, P = skL l r H := ⟨_, rfl⟩
          obtain ⟨Q, hQ⟩ : ∃ Q, Q = skF l r f H := ⟨_, rfl⟩
          have E1 : Hid (sL l r f H = P ∧ sR l r f H = r ∧ sF l r f H = Q) := by
            obtain ⟨a, b, c⟩ := sk_ok (n := (H : Int)) hv (by omega) (by omega)
            exact ⟨a.trans hP.symm, b, c.trans hQ.symm⟩
          have E2 : Hid (sL P r Q (↑N - ↑H) = A ∧ sR P r Q (↑N - ↑H) = r ∧ sF P r Q (↑N - ↑H) = C) := by
            have hb := sk_bound l r f H l0 l1 r0 r1 f0 hf1.2 (by omega) (by omega)
            rw [← hP, ← hQ] at hb
            obtain ⟨a, b, c⟩ := sk_ok (n := (↑N - ↑H : Int)) hb (by omega) (by omega)
            obtain ⟨s1, s2⟩ := sk_add l r f H (↑N - ↑H) l0 r0 (by omega) (by omega)
            rw [← hP, show (H : Int) + (↑N - ↑H) = ↑N by omega] at s1
            rw [← hP, ← hQ, show (H : Int) + (↑N - ↑H) = ↑N by omega] at s2
            exact ⟨a.trans (s1.trans EA), b, c.trans (s2.trans EC)⟩
          have HH : Hid ((N : Int) / 3 = (H : Int)) := by rw [hH]; rfl
          have HQ := Lib.hid hQ
          have HP := Lib.hid hP
          have HV := Lib.hid hv
          have HA := Lib.hid EA
          have HC := Lib.hid EC
          clear hP hQ hv EA EC hH
          have X5 := Lib.hid (X4.out.alloc (.cells #[.int .i64 l, .int .i64 r, .int .i64 f] 24))
          have Y5 := Lib.hid (Y4.out.alloc (.cells #[.int .i64 l, .int .i64 r, .int .i64 f] 24))
          have Z5 : Hid (Box (w4.alloc (.cells #[.int .i64 l, .int .i64 r, .int .i64 f] 24)) w4.heap.size 24 [.int .i64 l, .int .i64 r, .int .i64 f]) := Box.new w4 _ _
          have B5 := Lib.hid (B4.out.alloc B4.out.size (.cells #[.int .i64 l, .int .i64 r, .int .i64 f] 24))
          have c0 : w4.cell? ⟨bt, 0, none⟩ = some (.int .i64 l) := X4.out.cell 0
          have c1 : w4.cell? ⟨bt, 1, none⟩ = some (.int .i64 r) := X4.out.cell 1
          have c2 : w4.cell? ⟨bt, 2, none⟩ = some (.int .i64 f) := X4.out.cell 2
          
          go_upto_region 10 with (fail)
          have zt : bt ≠ w4.heap.size := by have := X4.out.lt; omega
          have zx : bx ≠ w4.heap.size := by have := Y4.out.lt; omega
          have zw : w.heap.size ≤ w4.heap.size := B4.out.size
          clear c0 c1 c2 X4 Y4 B4
          generalize w4.alloc (.cells #[.int .i64 l, .int .i64 r, .int .i64 f] 24) = W at X5 Y5 Z5 B5 ⊢
          generalize w4.heap.size = bz at Z5 zt zx zw ⊢
          go_wp2_with fail
          go_loopw [7] (fun i wr => ∃ j : Nat, j ≤ N ∧ (N ≤ 200 ∨ j = 0) ∧ i = .int .i64 j ∧ Box wr bt 24 [.int .i64 l, .int .i64 r, .int .i64 f] ∧ Box wr bx 24 [.int .i64 A, .int .i64 r, .int .i64 C] ∧ Box wr bz 24 [.int .i64 (skL l r j), .int .i64 r, .int .i64 (skF l r f j)] ∧ Below w.heap.size w wr) (fun i _ => N - (intOf i).toNat)
          case atStart => exact ⟨0, by omega, .inr rfl, rfl, X5.out, Y5.out, by rw [show ((0 : Nat) : Int) = 0 from rfl, (sk_zero l r f l0).1, (sk_zero l r f l0).2]; exact Z5.out, B5.out⟩
          case round =>
            obtain ⟨j, hj, hj2, rfl, hxr, hyr, hzr, hbr⟩ := hrel
            have XR := Lib.hid hxr
            have YR := Lib.hid hyr
            have BR := Lib.hid hbr
            clear hxr hyr hbr X5 Y5 Z5 B5
            by_cases h200 : N ≤ 200
            · have i200 : (N : Int) ≤ 200 := by omega
              have j200 : ¬ (200 < (N : Int)) := by omega
              have k200 : ¬ (200 < N) := by omega
              by_cases hlt : j < N
              · have ilt : (j : Int) < ↑N := by omega
                have EJ : Hid (sL (skL l r j) r (skF l r f j) 1 = skL l r (↑j + 1) ∧ sR (skL l r j) r (skF l r f j) 1 = r ∧ sF (skL l r j) r (skF l r f j) 1 = skF l r f (↑j + 1)) := by
                  obtain ⟨a, b, c⟩ := sk_ok (n := 1) (sk_bound l r f j l0 l1 r0 r1 f0 hf1.2 (by omega) (by omega)) (by omega) (by omega)
                  obtain ⟨s1, s2⟩ := sk_add l r f j 1 l0 r0 (by omega) (by omega)
                  exact ⟨a.trans s1, b, c.trans s2⟩
                have ZR := Lib.hid hzr
                clear hzr
                generalize skL l r (j : Int) = pj at EJ ZR
                generalize skF l r f (j : Int) = qj at EJ ZR
                have c0 : wr.cell? ⟨bz, 0, none⟩ = some (.int .i64 pj) := ZR.out.cell 0
                have c1 : wr.cell? ⟨bz, 1, none⟩ = some (.int .i64 r) := ZR.out.cell 1
                have c2 : wr.cell? ⟨bz, 2, none⟩ = some (.int .i64 qj) := ZR.out.cell 2
                go_wp2_with fail
                refine (skip_at (impl_tick _ _ _ _) EJ.out).mono ?_; rintro e w6 ⟨rfl, b6⟩
                have X6 := Lib.hid (XR.out.below b6)
                have Y6 := Lib.hid (YR.out.below b6)
                have Z6 := Lib.hid (ZR.out.below b6)
                have B6 := Lib.hid (below_then BR.out b6)
                clear b6 c0 c1 c2 XR YR ZR BR
                obtain ⟨pk, hpk⟩ : ∃ pk, pk = skL l r (↑j + 1) := ⟨_, rfl⟩
                obtain ⟨qk, hqk⟩ : ∃ qk, qk = skF l r f (↑j + 1) := ⟨_, rfl⟩
                rw [← hpk, ← hqk]
                have HPK := Lib.hid hpk
                have HQK := Lib.hid hqk
                clear hpk hqk
                have d0 : w6.cell? ⟨bz, 0, none⟩ = some (.int .i64 pj) := Z6.out.cell 0
                have g0 := Z6.out.frozen 0
                have d1 : w6.cell? ⟨bz, 1, none⟩ = some (.int .i64 r) := Z6.out.cell 1
                have g1 := Z6.out.frozen 1
                have d2 : w6.cell? ⟨bz, 2, none⟩ = some (.int .i64 qj) := Z6.out.cell 2
                have g2 := Z6.out.frozen 2
                go_wp2_with fail
                go_roundw
                case rel => exact ⟨j + 1, by omega, .inl h200, by go_num, ((X6.out.far zt _).far zt _).far zt _, ((Y6.out.far zx _).far zx _).far zx _, by rw [show ((j + 1 : Nat) : Int) = ↑j + 1 from rfl, ← HPK.out, ← HQK.out]; exact ((Z6.out.set 0 (.int .i64 pk)).set 1 (.int .i64 r)).set 2 (.int .i64 qk), ((B6.out.setCell zw _).setCell zw _).setCell zw _⟩
                case measure => simp [intOf]; omega
              · obtain rfl : N = j := by omega
                rw [HA.out, HC.out] at hzr
                have ZR := Lib.hid hzr
                have nlt : ¬ (N : Int) < ↑N := by omega
                clear hzr hlt
                go_upto_region 15 with (fail)
                rw [HH.out]
                have c0 : ∀ u : Later wr, u.now.cell? ⟨bt, 0, none⟩ = some (.int .i64 l) := later_cell (XR.out.cell 0)
                have c1 : ∀ u : Later wr, u.now.cell? ⟨bt, 1, none⟩ = some (.int .i64 r) := later_cell (XR.out.cell 1)
                have c2 : ∀ u : Later wr, u.now.cell? ⟨bt, 2, none⟩ = some (.int .i64 f) := later_cell (XR.out.cell 2)
                have d0 : ∀ u : Later wr, u.now.cell? ⟨bx, 0, none⟩ = some (.int .i64 A) := later_cell (YR.out.cell 0)
                have d1 : ∀ u : Later wr, u.now.cell? ⟨bx, 1, none⟩ = some (.int .i64 r) := later_cell (YR.out.cell 1)
                have d2 : ∀ u : Later wr, u.now.cell? ⟨bx, 2, none⟩ = some (.int .i64 C) := later_cell (YR.out.cell 2)
                have e0 : ∀ u : Later wr, u.now.cell? ⟨bz, 0, none⟩ = some (.int .i64 A) := later_cell (ZR.out.cell 0)
                have e1 : ∀ u : Later wr, u.now.cell? ⟨bz, 1, none⟩ = some (.int .i64 r) := later_cell (ZR.out.cell 1)
                have e2 : ∀ u : Later wr, u.now.cell? ⟨bz, 2, none⟩ = some (.int .i64 C) := later_cell (ZR.out.cell 2)
                
                have V1 : Hid (∀ u : Later wr, Calls Try.prog 20 #[(.agg #[.int .i64 l, .int .i64 r, .int .i64 f]), .int .i64 ↑H] u.now fun e w' => e = .returned (.agg #[.int .i64 P, .int .i64 r, .int .i64 Q]) ∧ Below u.now.heap.size u.now w') := fun u => skip_at (impl_skip _ _ _ _ _) E1.out
                have V2 : Hid (∀ u : Later wr, Calls Try.prog 20 #[(.agg #[.int .i64 P, .int .i64 r, .int .i64 Q]), .int .i64 (↑N - ↑H)] u.now fun e w' => e = .returned (.agg #[.int .i64 A, .int .i64 r, .int .i64 C]) ∧ Below u.now.heap.size u.now w') := fun u => skip_at (impl_skip _ _ _ _ _) E2.out
                refine wp_region_later (by kernel_rfl) (by kernel_rfl) ?_
                repeat (go_big_quiet_step ((first
                  | (go_at_call 20; first | with_reducible exact Calls.later (V1.out _) | with_reducible exact Calls.later (V2.out _)))))
                refine wpQuiet_nil ?_
                rintro _ ⟨u, rfl⟩
                have B9 := Lib.hid (below_then BR.out u.below)
                clear c0 c1 c2 d0 d1 d2 e0 e1 e2 V1 V2
                generalize u.now = w9 at B9
                go_wp2_with fail
                go_ret
                exact ⟨rfl, B9.out⟩
            · obtain rfl : j = 0 := by omega
              have i200 : ¬ (N : Int) ≤ 200 := by omega
              have j200 : 200 < (N : Int) := by omega
              have k200 : 200 < N := by omega
              have hlt : (0 : Int) < ↑N := by omega
              rw [show ((0 : Nat) : Int) = 0 from rfl, (sk_zero l r f l0).1, (sk_zero l r f l0).2] at hzr
              have ZR := Lib.hid hzr
              clear hzr
              go_upto_region 15 with (fail)
              rw [HH.out]
              have c0 : ∀ u : Later wr, u.now.cell? ⟨bt, 0, none⟩ = some (.int .i64 l) := later_cell (XR.out.cell 0)
              have c1 : ∀ u : Later wr, u.now.cell? ⟨bt, 1, none⟩ = some (.int .i64 r) := later_cell (XR.out.cell 1)
              have c2 : ∀ u : Later wr, u.now.cell? ⟨bt, 2, none⟩ = some (.int .i64 f) := later_cell (XR.out.cell 2)
              have d0 : ∀ u : Later wr, u.now.cell? ⟨bx, 0, none⟩ = some (.int .i64 A) := later_cell (YR.out.cell 0)
              have d1 : ∀ u : Later wr, u.now.cell? ⟨bx, 1, none⟩ = some (.int .i64 r) := later_cell (YR.out.cell 1)
              have d2 : ∀ u : Later wr, u.now.cell? ⟨bx, 2, none⟩ = some (.int .i64 C) := later_cell (YR.out.cell 2)
              have e0 : ∀ u : Later wr, u.now.cell? ⟨bz, 0, none⟩ = some (.int .i64 l) := later_cell (ZR.out.cell 0)
              have e1 : ∀ u : Later wr, u.now.cell? ⟨bz, 1, none⟩ = some (.int .i64 r) := later_cell (ZR.out.cell 1)
              have e2 : ∀ u : Later wr, u.now.cell? ⟨bz, 2, none⟩ = some (.int .i64 f) := later_cell (ZR.out.cell 2)
              
              have V1 : Hid (∀ u : Later wr, Calls Try.prog 20 #[(.agg #[.int .i64 l, .int .i64 r, .int .i64 f]), .int .i64 ↑H] u.now fun e w' => e = .returned (.agg #[.int .i64 P, .int .i64 r, .int .i64 Q]) ∧ Below u.now.heap.size u.now w') := fun u => skip_at (impl_skip _ _ _ _ _) E1.out
              have V2 : Hid (∀ u : Later wr, Calls Try.prog 20 #[(.agg #[.int .i64 P, .int .i64 r, .int .i64 Q]), .int .i64 (↑N - ↑H)] u.now fun e w' => e = .returned (.agg #[.int .i64 A, .int .i64 r, .int .i64 C]) ∧ Below u.now.heap.size u.now w') := fun u => skip_at (impl_skip _ _ _ _ _) E2.out
              refine wp_region_later (by kernel_rfl) (by kernel_rfl) ?_
              repeat (go_big_quiet_step ((first
                | (go_at_call 20; first | with_reducible exact Calls.later (V1.out _) | with_reducible exact Calls.later (V2.out _)))))
              refine wpQuiet_nil ?_
              rintro _ ⟨u, rfl⟩
              have B9 := Lib.hid (below_then BR.out u.below)
              clear c0 c1 c2 d0 d1 d2 e0 e1 e2 V1 V2
              generalize u.now = w9 at B9
              go_wp2_with fail
              go_ret
              exact ⟨rfl, B9.out⟩
    · have hv2 : timB l r f = false := by simpa using hv
      rw [hv2]
      obtain ⟨z1, z2, z3⟩ := sk_bad (l := l) (r := r) (f := f) (n := n) (.inl hv2)
      obtain rfl : A = 0 := E.out.1.symm.trans z1
      obtain rfl : B = 0 := E.out.2.1.symm.trans z2
      obtain rfl : C = 0 := E.out.2.2.symm.trans z3
      clear E z1 z2 z3
      have d0 : w4.cell? ⟨bx, 0, none⟩ = some (.int .i64 0) := Y4.out.cell 0
      have d1 : w4.cell? ⟨bx, 1, none⟩ = some (.int .i64 0) := Y4.out.cell 1
      have d2 : w4.cell? ⟨bx, 2, none⟩ = some (.int .i64 0) := Y4.out.cell 2
      
      go_wp2_with fail
      refine (alive_any _).mono ?_; rintro e w' ⟨rfl, rfl⟩
      go_wp2_with fail
      go_ret
      exact ⟨rfl, B4.out⟩
  · have hs' : 1048576 < len0 := by omega
    go_enter Try.func5, Try.ntmps5
    go_wp2_with fail
    go_ret
    exact ⟨rfl, Below.refl _ _⟩
set_option maxRecDepth 100000 in
set_option maxHeartbeats 4000000 in
theorem walk_FnTimerRate (a0 : Option Addr) (len0 cap0 : Nat) (z0 : List Int) (w : World) (w0 : IsRow .u8 w a0 len0 cap0 z0) :
    Calls Try.prog 7 #[.slice a0 len0 cap0] w fun e w' => e = .returned (.bool true) ∧ Below w.heap.size w w' := by
  have H := Lib.hid w0
  have hl := isRow_len w0
  clear w0
  by_cases hs : len0 ≤ 1048576
  · go_enter Try.func7, Try.ntmps7
    go_wp2_with fail
    refine (draw_skip _ _ _ _ _ H.out).mono ?_; rintro e w1 ⟨l, r, f, n, rfl, hl1, hr1, hf1, hn1, b1⟩
    obtain ⟨WX, hWX⟩ : ∃ WX, WX = w1.alloc (.cells #[.int .i64 l, .int .i64 r, .int .i64 f] 24) := ⟨_, rfl⟩
    have B1 : Hid (Below w.heap.size w WX) := by rw [hWX]; exact b1.alloc b1.size _
    have X1 : Hid (Box WX w1.heap.size 24 [.int .i64 l, .int .i64 r, .int .i64 f]) := by rw [hWX]; exact Box.new w1 _ _
    have ZB : w.heap.size ≤ w1.heap.size := b1.size
    clear b1
    go_upto_region 4 with (fail)
    rw [← hWX]
    have hbt : w.heap.size ≤ w1.heap.size := ZB
    generalize w1.heap.size = bt at X1 hbt
    clear hWX
    have c0 : WX.cell? ⟨bt, 0, none⟩ = some (.int .i64 l) := X1.out.cell 0
    have c1 : WX.cell? ⟨bt, 1, none⟩ = some (.int .i64 r) := X1.out.cell 1
    have c2 : WX.cell? ⟨bt, 2, none⟩ = some (.int .i64 f) := X1.out.cell 2
    
    go_wp2_with fail
    refine (spec_timValid _ _ _ _).mono ?_; rintro e w2 ⟨rfl, b2⟩
    have X2 := Lib.hid (X1.out.below b2)
    have B2 := Lib.hid (below_then B1.out b2)
    clear b2 c0 c1 c2 X1 B1
    by_cases hv : timB l r f = true
    · rw [hv]
      obtain ⟨⟨l0, l1⟩, ⟨r0, r1⟩, f0, f1⟩ := timB_iff.1 hv
      have HV := Lib.hid hv
      have c0 : w2.cell? ⟨bt, 0, none⟩ = some (.int .i64 l) := X2.out.cell 0
      have c1 : w2.cell? ⟨bt, 1, none⟩ = some (.int .i64 r) := X2.out.cell 1
      have c2 : w2.cell? ⟨bt, 2, none⟩ = some (.int .i64 f) := X2.out.cell 2
      have g0 := X2.out.frozen 0
      clear hv
      go_upto_region 6 with (fail)
      go_cut [3] (fun t3 wc => ∃ m : Int, t3 = .pointer (some ⟨bt, 0, none⟩) ∧ 0 ≤ m ∧ m ≤ r ∧ m ≤ 1000 ∧ Box wc bt 24 [.int .i64 m, .int .i64 r, .int .i64 f] ∧ Below w.heap.size w wc)
      case first =>
        by_cases hm : l ≤ r
        · have hm2 : ¬ r < l := by omega
          go_wp2_with fail
          go_meet
          case rel => exact ⟨l, rfl, l0, hm, l1, X2.out.set 0 (.int .i64 l), B2.out.setCell hbt _⟩
        · have hm2 : r < l := by omega
          go_wp2_with fail
          go_meet
          case rel => exact ⟨r, rfl, r0, Int.le_refl _, r1, X2.out.set 0 (.int .i64 r), B2.out.setCell hbt _⟩
      case rest =>
        obtain ⟨m, rfl, m0, m1, m2, hx, hb⟩ := hcut
        have X3 := Lib.hid hx
        have B3 := Lib.hid hb
        obtain ⟨W3, hW3⟩ : ∃ W3, W3 = wc := ⟨_, rfl⟩
        rw [← hW3] at X3 B3 ⊢
        clear hx hb c0 c1 c2 g0 X2 B2 hW3
        go_upto_region 7 with (fail)
        go_cut [5] (fun t5 wc => ∃ K : Nat, K < 50 ∧ t5 = .int .i64 K ∧ W3 = wc)
        case first =>
          by_cases hf : n ≤ 0
          · have hf2 : ¬ 0 < n := by omega
            go_wp2_with fail
            go_meet
            case rel => exact ⟨0, by omega, rfl, rfl⟩
          · have hf' : 0 < n := by omega
            obtain ⟨K, hK⟩ : ∃ K : Nat, n % 50 = (K : Int) := ⟨(n % 50).toNat, by omega⟩
            have HK := Lib.hid hK
            have hK2 : K < 50 := by omega
            clear hf hK
            go_wp2_with fail
            rw [HK.out]
            go_meet
            case rel => exact ⟨K, hK2, rfl, rfl⟩
        case rest =>
          obtain ⟨K, hK, rfl, rfl⟩ := hcut
          have hbd : (0 : Int) ≤ ↑K * (r + 1) ∧ (↑K * (r + 1) : Int) ≤ 49 * 1001 := by
            have a := Int.mul_le_mul_of_nonneg_right (show (K : Int) ≤ 49 by omega) (show 0 ≤ r + 1 by omega)
            have b := Int.mul_nonneg (show (0 : Int) ≤ K by omega) (show 0 ≤ r + 1 by omega)
            omega
          have E : Hid (sL m r f (↑K * (r + 1)) = m ∧ sR m r f (↑K * (r + 1)) = r ∧ sF m r f (↑K * (r + 1)) = f + ↑K) := by
            obtain ⟨a, b, c⟩ := sk_ok (n := ↑K * (r + 1)) (timB_iff.2 ⟨⟨m0, m2⟩, ⟨r0, r1⟩, f0, f1⟩) (by omega) (by omega)
            obtain ⟨s1, s2⟩ := sk_rate m r f K m0 m1 (by omega)
            exact ⟨a.trans s1, b, c.trans s2⟩
          obtain ⟨h0, h1⟩ := hbd
          have c0 : W3.cell? ⟨bt, 0, none⟩ = some (.int .i64 m) := X3.out.cell 0
          have c1 : W3.cell? ⟨bt, 1, none⟩ = some (.int .i64 r) := X3.out.cell 1
          have c2 : W3.cell? ⟨bt, 2, none⟩ = some (.int .i64 f) := X3.out.cell 2
    
          go_wp2_with fail
          refine (skip_at (impl_skip _ _ _ _ _) E.out).mono ?_; rintro e w4 ⟨rfl, b4⟩
          obtain ⟨W4, hW4⟩ : ∃ W4, W4 = w4.alloc (.cells #[.int .i64 m, .int .i64 r, .int .i64 (f + ↑K)] 24) := ⟨_, rfl⟩
          have X4 : Hid (Box W4 bt 24 [.int .i64 m, .int .i64 r, .int .i64 f]) := by rw [hW4]; exact (X3.out.below b4).alloc _
          have Y4 : Hid (Box W4 w4.heap.size 24 [.int .i64 m, .int .i64 r, .int .i64 (f + ↑K)]) := by rw [hW4]; exact Box.new w4 _ _
          have B4 : Hid (Below w.heap.size w W4) := by rw [hW4]; exact (below_then B3.out b4).alloc (below_then B3.out b4).size _
          clear b4 c0 c1 c2 X3 B3
          go_upto_region 9 with (fail)
          rw [← hW4]
          clear hW4
          generalize w4.heap.size = bx at Y4 ⊢
          have VS : Hid (∀ u : Later W4, Calls Try.prog 21 #[(.agg #[.int .i64 m, .int .i64 r, .int .i64 f]), .int .i64 (↑K * (r + 1))] u.now fun e w' => e = .returned (.agg #[.int .i64 m, .int .i64 r, .int .i64 (f + ↑K)]) ∧ Below u.now.heap.size u.now w') := fun u => skip_at (spec_skip _ _ _ _ _) E.out
          have c0 : ∀ u : Later W4, u.now.cell? ⟨bt, 0, none⟩ = some (.int .i64 m) := later_cell (X4.out.cell 0)
          have c1 : ∀ u : Later W4, u.now.cell? ⟨bt, 1, none⟩ = some (.int .i64 r) := later_cell (X4.out.cell 1)
          have c2 : ∀ u : Later W4, u.now.cell? ⟨bt, 2, none⟩ = some (.int .i64 f) := later_cell (X4.out.cell 2)
          have d0 : ∀ u : Later W4, u.now.cell? ⟨bx, 0, none⟩ = some (.int .i64 m) := later_cell (Y4.out.cell 0)
          have d1 : ∀ u : Later W4, u.now.cell? ⟨bx, 1, none⟩ = some (.int .i64 r) := later_cell (Y4.out.cell 1)
          have d2 : ∀ u : Later W4, u.now.cell? ⟨bx, 2, none⟩ = some (.int .i64 (f + ↑K)) := later_cell (Y4.out.cell 2)
    
          refine wp_region_later (by kernel_rfl) (by kernel_rfl) ?_
          repeat (go_big_quiet_step ((first
            | (go_at_call 21; with_reducible exact Calls.later (VS.out _)))))
          refine wpQuiet_nil ?_
          rintro _ ⟨u, rfl⟩
          have B9 := Lib.hid (below_then B4.out u.below)
          clear c0 c1 c2 d0 d1 d2 VS
          generalize u.now = w9 at B9
          go_wp2_with fail
          go_ret
          exact ⟨rfl, B9.out⟩
    · have hv2 : timB l r f = false := by simpa using hv
      rw [hv2]
      go_wp2_with fail
      refine (alive_any _).mono ?_; rintro e w' ⟨rfl, rfl⟩
      go_wp2_with fail
      go_ret
      exact ⟨rfl, B2.out⟩
  · have hs' : 1048576 < len0 := by omega
    go_enter Try.func7, Try.ntmps7
    go_wp2_with fail
    go_ret
    exact ⟨rfl, Below.refl _ _⟩
end Go.Proofs.Ytmmngdofbmkmhaa
