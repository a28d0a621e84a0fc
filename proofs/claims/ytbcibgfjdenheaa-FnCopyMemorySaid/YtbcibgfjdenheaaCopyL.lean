/- The walks of FnCopyMemory and FnCopyFill. -/
import Derived.Test.YtbcibgfjdenheaaMemI
import Derived.Test.YtbcibgfjdenheaaCopyD
import Derived.Test.YtbcibgfjdenheaaCopyMath
import Derived.Test.YtbcibgfjdenheaaTypedL
import Derived.Test.YtbcibgfjdenheaaLater
import Derived.Deep.DeepCutAuto
namespace Go.Proofs.Ytbcibgfjdenheaa
open Go.ChangeShapes Go.WideShapes Go.ChangeAt Go.RowKit

/-- A memory as a value. -/
def TM (X : Mem) : Value → World → Prop := fun v w => ∃ A n c R k d, v = .agg #[.slice A n c, .slice R k d, .int .i64 X.bank] ∧ MemHere w A n c R k d X
theorem stabB_m (X : Mem) : Stab RlB (TM X) := fun _ _ _ hR ⟨A, n, c, R, k, d, hv, h⟩ => ⟨A, n, c, R, k, d, hv, h.below hR⟩
theorem stabB_tv (x : Value) : Stab RlB (TV x) := fun _ _ _ _ h => h
theorem stabB_any : Stab RlB (fun _ _ => True) := fun _ _ _ _ _ => trivial
theorem load_mem {w : World} {b : Nat} {a r : Value} {z : Int} (h : Box w b 26 [a, r, .int .i64 z]) (ρ : Operand → Value) (x : Operand) (hx : ρ x = .pointer (some ⟨b, 0, none⟩)) {o : Oper} (ho : o.op = .load 26 x) :
    (execOp ρ o).run Try.prog w = .ok (.value (.agg #[a, r, .int .i64 z])) w := by
  have c0 := h.cell 0
  have c1 := h.cell 1
  have c2 := h.cell 2
  unfold execOp; rw [ho]
  simp only [hx]
  clear hx h
  go_simp
set_option maxHeartbeats 4000000 in
set_option maxRecDepth 100000 in
theorem walk_FnCopyMemory (a0 : Option Addr) (len0 cap0 : Nat) (z0 : List Int) (w : World) (w0 : IsRow .u8 w a0 len0 cap0 z0) :
    Calls Try.prog 3 #[.slice a0 len0 cap0] w fun e w' => e = .returned (.bool true) ∧ Below w.heap.size w w' := by
  have H := Lib.hid w0
  have hl := isRow_len w0
  clear w0
  by_cases hs : len0 ≤ 1048576
  · go_enter Try.func3, Try.ntmps3
    go_wp2_with fail
    refine (draw_memCopy _ _ _ _ _ H.out).mono ?_; rintro e w1 ⟨A, n, c, R, k, d, M, f, t, m, f0, f1, t0, t1, m0, m1, rfl, h1, b1⟩
    have B1 := Lib.hid (b1.alloc b1.size (.cells #[.slice A n c, .slice R k d, .int .i64 M.bank] 26))
    have H1 := Lib.hid (h1.below (below1 w1 (.cells #[.slice A n c, .slice R k d, .int .i64 M.bank] 26)))
    have Y1 : Hid (Box (w1.alloc (.cells #[.slice A n c, .slice R k d, .int .i64 M.bank] 26)) w1.heap.size 26 [.slice A n c, .slice R k d, .int .i64 M.bank]) := Box.new w1 _ _
    have rl := h1.ram_len
    have ml := h1.rom_len
    clear b1 h1
    go_upto_region 4 with (fail)
    obtain ⟨W1, hW1⟩ : ∃ W1, W1 = w1.alloc (.cells #[.slice A n c, .slice R k d, .int .i64 M.bank] 26) := ⟨_, rfl⟩
    rw [← hW1] at B1 H1 Y1 ⊢
    have zW : w1.heap.size < W1.heap.size := Y1.out.lt
    clear hW1
    have p0 : W1.cell? ⟨w1.heap.size, 0, none⟩ = some (.slice A n c) := Y1.out.cell 0
    have p1 : W1.cell? ⟨w1.heap.size, 1, none⟩ = some (.slice R k d) := Y1.out.cell 1
    have p2 : W1.cell? ⟨w1.heap.size, 2, none⟩ = some (.int .i64 M.bank) := Y1.out.cell 2
    go_wp2_with fail
    refine (hc_impl H1.out _ _ _).mono ?_; intro e w3 hw3
    have HSM := Lib.hid (small_copy M f t m)
    have HOR := Lib.hid (copyM_or M f t m)
    generalize hX : copyM M f t m = X at hw3 HSM HOR
    have HX := Lib.hid hX
    clear hX
    obtain ⟨A', n', c', R', k', d', rfl, h3, b3⟩ := hw3.here HSM.out
    have rl' := h3.ram_len
    have B3 := Lib.hid (below_then B1.out b3)
    have Y3 := Lib.hid (Y1.out.below b3)
    have H3 := Lib.hid (H1.out.below b3)
    have X3 := Lib.hid h3
    clear b3 h3 hw3 H1 Y1 B1 p0 p1 p2
    go_wp2_with fail
    have Z4 : Hid (Box (w3.alloc (.cells #[.slice A' n' c', .slice R' k' d', .int .i64 X.bank] 26)) w3.heap.size 26 [.slice A' n' c', .slice R' k' d', .int .i64 X.bank]) := Box.new w3 _ _
    have Y4 := Lib.hid (Y3.out.alloc (.cells #[.slice A' n' c', .slice R' k' d', .int .i64 X.bank] 26))
    have H4 := Lib.hid (H3.out.below (below1 w3 (.cells #[.slice A' n' c', .slice R' k' d', .int .i64 X.bank] 26)))
    have X4 := Lib.hid (X3.out.below (below1 w3 (.cells #[.slice A' n' c', .slice R' k' d', .int .i64 X.bank] 26)))
    have B4 := Lib.hid (B3.out.alloc B3.out.size (.cells #[.slice A' n' c', .slice R' k' d', .int .i64 X.bank] 26))
    generalize w3.alloc (.cells #[.slice A' n' c', .slice R' k' d', .int .i64 X.bank] 26) = W4 at Z4 Y4 H4 X4 B4
    clear H3 X3 B3 Y3
    refine wp_region_typed (ClB W4) RlB (Ty [TV (.agg #[.slice A' n' c', .slice R' k' d', .int .i64 X.bank]), TV (.agg #[.slice A n c, .slice R k d, .int .i64 M.bank]), TV (.int .i64 f), TV (.int .i64 t), TV (.int .i64 m), TM X, TV (.bool true), TV (.bool false)])
      (by kernel_rfl) (by kernel_rfl) (stab_ty _ ⟨stabB_tv _, stabB_tv _, stabB_tv _, stabB_tv _, stabB_tv _, stabB_m _, stabB_tv _, stabB_tv _, trivial⟩) (Below.refl _ _).drew ?_ ?_
    · refine ⟨?_, ?_, ?_, ?_, ?_, ?_, ?_, ?_, trivial⟩
      · exact lb_val _ (fun _ _ _ => want_none rfl) fun ρ wx hb _ hx _ => ⟨load_mem (Z4.out.below hb) ρ (.tmp 7) (hx 7 rfl) rfl, rfl⟩
      · exact lb_val _ (fun _ _ _ => want_none rfl) fun ρ wx hb _ hx _ => ⟨load_mem (Y4.out.below hb) ρ (.tmp 3) (hx 3 rfl) rfl, rfl⟩
      · exact lb_move (.tmp 4) (.inl rfl) (fun _ _ _ => want_none rfl) fun ρ wx _ hx _ => hx 4 rfl
      · exact lb_move (.tmp 5) (.inl rfl) (fun _ _ _ => want_none rfl) fun ρ wx _ hx _ => hx 5 rfl
      · exact lb_move (.tmp 6) (.inl rfl) (fun _ _ _ => want_none rfl) fun ρ wx _ hx _ => hx 6 rfl
      · refine lb_call _ _ _ (fun _ _ => by simp [go_sem]) rfl (fun _ _ _ => want_none rfl) fun ρ wx hb _ hp => ?_
        have e1 : ρ (.tmp 27) = .agg #[.slice A n c, .slice R k d, .int .i64 M.bank] := hp.1 rfl
        have e2 : ρ (.tmp 28) = .int .i64 f := hp.2.1 rfl
        have e3 : ρ (.tmp 29) = .int .i64 t := hp.2.2.1 rfl
        have e4 : ρ (.tmp 30) = .int .i64 m := hp.2.2.2.1 rfl
        refine ⟨#[.agg #[.slice A n c, .slice R k d, .int .i64 M.bank], .int .i64 f, .int .i64 t, .int .i64 m], by simp [e1, e2, e3, e4], (hc_spec (H4.out.below hb) f t m).mono ?_⟩
        intro e w' hw
        rw [HX.out] at hw
        obtain ⟨A5, n5, c5, R5, k5, d5, rfl, h5, b5⟩ := hw.here HSM.out
        exact ⟨_, rfl, b5, A5, n5, c5, R5, k5, d5, rfl, h5⟩
      · refine lb_call _ _ _ (fun _ _ => by simp [go_sem]) rfl (fun _ _ _ => want_none rfl) fun ρ wx hb _ hp => ?_
        have e1 : ρ (.tmp 26) = .agg #[.slice A' n' c', .slice R' k' d', .int .i64 X.bank] := hp.1 rfl
        obtain ⟨A5, n5, c5, R5, k5, d5, e2, h5⟩ : TM X (ρ (.tmp 31)) wx := hp.2.1 rfl
        exact ⟨_, by simp [e1, e2], (hs_same (X4.out.below hb) h5).mono fun _ _ ⟨he, hb'⟩ => ⟨_, he, hb', rfl⟩⟩
      · exact lb_unot (.tmp 32) _ true rfl (fun _ _ _ => want_none rfl) fun ρ wx hp => ⟨hp.1 rfl, rfl⟩
    · intro vs w5 b5 hF
      obtain ⟨_, _, _, _, _, _, _, hn, _⟩ := hF
      replace hn : vs 7 = .bool false := hn
      have Z5 := Lib.hid (Z4.out.below b5)
      have Y5 := Lib.hid (Y4.out.below b5)
      have H5 := Lib.hid (H4.out.below b5)
      have X5 := Lib.hid (X4.out.below b5)
      have B5 := Lib.hid (below_then B4.out b5)
      clear Z4 Y4 H4 X4 B4 b5
      simp only [putAll, Act.put, List.setIfInBounds_toArray, List.set_cons_zero, List.set_cons_succ, hn]
      clear hn
      have g0 : w5.cell? ⟨w3.heap.size, 0, none⟩ = some (.slice A' n' c') := Z5.out.cell 0
      by_cases hn0 : n' = 0
      · subst hn0
        go_wp2_with fail
        refine (alive_any _).mono ?_; rintro e w' ⟨rfl, rfl⟩
        go_wp2_with fail
        go_ret
        exact ⟨rfl, B5.out⟩
      · obtain ⟨hval, _, _, ⟨tt0, tt1⟩, hxv⟩ := HOR.out.resolve_left (fun hz => hn0 (by rw [← rl'.1, hz]; rfl))
        have gd := good_of hval
        have gx := good_of hxv
        obtain rfl : n' = 256 := by rw [← rl'.1]; exact gx.ram
        have hk1 : 0 < k := by rw [← ml.1]; exact gd.one
        have HV := Lib.hid hval
        have HXV := Lib.hid hxv
        have HG := Lib.hid gd
        obtain ⟨K, hK⟩ : ∃ K : Nat, t % 256 = (K : Int) := ⟨(t % 256).toNat, by omega⟩
        have hK2 : K < 256 := by omega
        have y1 : t.tmod 256 = (K : Int) := by rw [Int.tmod_eq_emod_of_nonneg tt0]; exact hK
        have k0 : (0 : Int) ≤ (K : Int) := by omega
        have k1 : (K : Int) < 256 := by omega
        have p0 : w5.cell? ⟨w1.heap.size, 0, none⟩ = some (.slice A n c) := Y5.out.cell 0
        have p1 : w5.cell? ⟨w1.heap.size, 1, none⟩ = some (.slice R k d) := Y5.out.cell 1
        have p2 : w5.cell? ⟨w1.heap.size, 2, none⟩ = some (.int .i64 M.bank) := Y5.out.cell 2
        clear hval hxv gd gx hn0
        go_wp2_with fail
        refine (hc_impl H5.out _ _ _).mono ?_; intro e w6 hw6
        have eY : copyM M (512 + (K : Int)) (K : Int) (256 - (K : Int)) = copyN M (512 + K) K (256 - K) := by
          rw [copyM_in HV.out (by omega) (by omega) (by omega) (by omega) (by omega) (by omega)]
          congr 1 <;> omega
        rw [eY] at hw6
        have HYV := Lib.hid (valid_of (good_copy HG.out (512 + K) K (256 - K)))
        have HYR := Lib.hid (copy_bankN HG.out K (256 - K) (by omega))
        have HSY := Lib.hid (small_of (good_copy HG.out (512 + K) K (256 - K)))
        generalize copyN M (512 + K) K (256 - K) = Y at hw6 HYV HYR HSY
        clear eY hK y1
        obtain ⟨A6, n6, c6, R6, k6, d6, rfl, h6, b6⟩ := hw6.here HSY.out
        have B6 := Lib.hid (below_then B5.out b6)
        have Z6 := Lib.hid (Z5.out.below b6)
        have Y6 := Lib.hid (Y5.out.below b6)
        have H6 := Lib.hid (H5.out.below b6)
        have X6 := Lib.hid (X5.out.below b6)
        have V6 := Lib.hid h6
        clear h6 b6 hw6 B5 Z5 Y5 H5 X5 p0 p1 p2 g0
        go_wp2_with fail
        have U7 : Hid (Box (w6.alloc (.cells #[.slice A6 n6 c6, .slice R6 k6 d6, .int .i64 Y.bank] 26)) w6.heap.size 26 [.slice A6 n6 c6, .slice R6 k6 d6, .int .i64 Y.bank]) := Box.new w6 _ _
        have b7 := below1 w6 (.cells #[.slice A6 n6 c6, .slice R6 k6 d6, .int .i64 Y.bank] 26)
        have Z7 := Lib.hid (Z6.out.below b7)
        have Y7 := Lib.hid (Y6.out.below b7)
        have H7 := Lib.hid (H6.out.below b7)
        have X7 := Lib.hid (X6.out.below b7)
        have V7 := Lib.hid (V6.out.below b7)
        have B7 := Lib.hid (below_then B6.out b7)
        generalize w6.alloc (.cells #[.slice A6 n6 c6, .slice R6 k6 d6, .int .i64 Y.bank] 26) = W7 at U7 Z7 Y7 H7 X7 V7 B7
        clear b7 Z6 Y6 H6 X6 V6 B6
        go_loopw [10] (fun i wr => ∃ j : Nat, K ≤ j ∧ j ≤ 256 ∧ i = .int .i64 j ∧ Below W7.heap.size W7 wr) (fun i _ => 256 - (intOf i).toNat)
        case atStart => exact ⟨K, by omega, by omega, rfl, Below.refl _ _⟩
        case round =>
          obtain ⟨j, hj1, hj2, rfl, hbr⟩ := hrel
          have BR := Lib.hid hbr
          clear hbr
          by_cases hlt : j < 256
          · have i0 : (0 : Int) ≤ (j : Int) := by omega
            have i1 : (j : Int) < 256 := by omega
            have hk2 : (0 : Int) < (k : Int) := by omega
            obtain ⟨rb, ro, ra, rc, pb, po, rfl, hrow, rfl, hcells⟩ := (H7.out.below BR.out).romAt HG.out hk1
            have hcell := hcells j hlt
            have hrd : readM Y (j : Int) = (M.rom.getD 0 []).getD j 0 := by
              rw [readM_in HYV.out (by omega) (by omega)]
              unfold readN
              rw [if_pos (by omega), Int.toNat_natCast, Nat.mod_eq_of_lt hlt, HYR.out j hlt, if_pos (by omega)]
            have RR : Hid (∀ u : Later wr, Calls Try.prog 12 #[.agg #[.slice A6 n6 c6, .slice R6 k6 d6, .int .i64 Y.bank], .int .i64 j] u.now fun e w' => e = .returned (.int .i64 ((M.rom.getD 0 []).getD j 0)) ∧ Below u.now.heap.size u.now w') := fun u => by
              have h := hr_impl ((V7.out.below BR.out).below u.below) (j : Int)
              rw [hrd] at h; exact h
            generalize (M.rom.getD 0 []).getD j 0 = r at RR hcell
            have UR := Lib.hid (U7.out.below BR.out)
            have YR := Lib.hid (Y7.out.below BR.out)
            have q0 : ∀ u : Later wr, u.now.cell? ⟨w6.heap.size, 0, none⟩ = some (.slice A6 n6 c6) := later_cell (UR.out.cell 0)
            have q1 : ∀ u : Later wr, u.now.cell? ⟨w6.heap.size, 1, none⟩ = some (.slice R6 k6 d6) := later_cell (UR.out.cell 1)
            have q2 : ∀ u : Later wr, u.now.cell? ⟨w6.heap.size, 2, none⟩ = some (.int .i64 Y.bank) := later_cell (UR.out.cell 2)
            have q3 : ∀ u : Later wr, u.now.cell? ⟨w1.heap.size, 1, none⟩ = some (.slice (some ⟨rb, ro, none⟩) k d) := later_cell (YR.out.cell 1)
            have q4 : ∀ u : Later wr, u.now.cell? ⟨rb, ro, none⟩ = some (.slice (some ⟨pb, po, none⟩) 256 rc) := later_cell (by simpa using hrow)
            have q5 : ∀ u : Later wr, u.now.cell? ⟨pb, po + j, none⟩ = some (.int .i64 r) := later_cell hcell
            clear hrow hcells hcell hrd
            go_wp2
            refine wp_region_later (by kernel_rfl) (by kernel_rfl) ?_
            repeat (go_big_quiet_step ((go_at_call 12; exact Calls.later (RR.out _))))
            refine wpQuiet_nil ?_
            rintro _ ⟨u, rfl⟩
            have BU := Lib.hid (below_then BR.out u.below)
            generalize u.now = wu at BU
            clear q0 q1 q2 q3 q4 q5 RR
            go_wp2
            go_roundw
            case rel => exact ⟨j + 1, by omega, by omega, by go_num, BU.out⟩
            case measure => simp [intOf]; omega
          · obtain rfl : j = 256 := by omega
            go_wp2_with fail
            have Z8 := Lib.hid (Z7.out.below BR.out)
            have Y8 := Lib.hid (Y7.out.below BR.out)
            have H8 := Lib.hid (H7.out.below BR.out)
            have X8 := Lib.hid (X7.out.below BR.out)
            have B8 := Lib.hid (below_then B7.out BR.out)
            have E1 := Lib.hid (show copyM M f t 0 = M by obtain ⟨_, _, ⟨ff0, ff1⟩, _, _⟩ := HOR.out.resolve_left (fun hz => by rw [hz] at rl'; simp [memZ] at rl'); rw [copyM_in HV.out ff0 ff1 tt0 tt1 (by omega) (by omega)]; rfl)
            have E2 := Lib.hid (show copyM M 0 0 256 = M by rw [copyM_in HV.out (by omega) (by omega) (by omega) (by omega) (by omega) (by omega)]; exact copy_self HG.out 256 (by omega))
            have HSS := Lib.hid (small_of HG.out)
            refine wp_region_typed (ClB wr) RlB (Ty [TV (.agg #[.slice A n c, .slice R k d, .int .i64 M.bank]), TV (.int .i64 f), TV (.int .i64 t), TM M, TV (.agg #[.slice A n c, .slice R k d, .int .i64 M.bank]), TV (.bool true), TV (.bool true), TV (.agg #[.slice A n c, .slice R k d, .int .i64 M.bank]), TM M, TV (.agg #[.slice A n c, .slice R k d, .int .i64 M.bank]), TV (.bool true), TV (.bool true), TV (.bool true), TV (.agg #[.slice A' 256 c', .slice R' k' d', .int .i64 X.bank]), TV (.bool true), TV (.bool true), TV (.bool true)])
              (by kernel_rfl) (by kernel_rfl) (stab_ty _ ⟨stabB_tv _, stabB_tv _, stabB_tv _, stabB_m _, stabB_tv _, stabB_tv _, stabB_tv _, stabB_tv _, stabB_m _, stabB_tv _, stabB_tv _, stabB_tv _, stabB_tv _, stabB_tv _, stabB_tv _, stabB_tv _, stabB_tv _, trivial⟩) (Below.refl _ _).drew ?_ ?_
            · refine ⟨?_, ?_, ?_, ?_, ?_, ?_, ?_, ?_, ?_, ?_, ?_, ?_, ?_, ?_, ?_, ?_, ?_, trivial⟩
              · exact lb_val _ (fun _ _ _ => want_none rfl) fun ρ wx hb _ hx _ => ⟨load_mem (Y8.out.below hb) ρ (.tmp 3) (hx 3 rfl) rfl, rfl⟩
              · exact lb_move (.tmp 4) (.inl rfl) (fun _ _ _ => want_none rfl) fun ρ wx _ hx _ => hx 4 rfl
              · exact lb_move (.tmp 5) (.inl rfl) (fun _ _ _ => want_none rfl) fun ρ wx _ hx _ => hx 5 rfl
              · refine lb_call _ _ _ (fun _ _ => by simp [go_sem]) rfl (fun _ _ _ => want_none rfl) fun ρ wx hb hc hp => ?_
                have e1 : ρ (.tmp 64) = .agg #[.slice A n c, .slice R k d, .int .i64 M.bank] := hp.1 rfl
                have e2 : ρ (.tmp 65) = .int .i64 f := hp.2.1 rfl
                have e3 : ρ (.tmp 66) = .int .i64 t := hp.2.2.1 rfl
                refine ⟨_, by simp [e1, e2, e3, hc], (hc_impl (H8.out.below hb) f t 0).mono ?_⟩
                intro e w' hw
                rw [E1.out] at hw
                obtain ⟨A5, n5, c5, R5, k5, d5, rfl, h5, b5⟩ := hw.here HSS.out
                exact ⟨_, rfl, b5, A5, n5, c5, R5, k5, d5, rfl, h5⟩
              · exact lb_val _ (fun _ _ _ => want_none rfl) fun ρ wx hb _ hx _ => ⟨load_mem (Y8.out.below hb) ρ (.tmp 3) (hx 3 rfl) rfl, rfl⟩
              · refine lb_call _ _ _ (fun _ _ => by simp [go_sem]) rfl (fun _ _ _ => want_none rfl) fun ρ wx hb _ hp => ?_
                have e1 : ρ (.tmp 68) = .agg #[.slice A n c, .slice R k d, .int .i64 M.bank] := hp.2.1 rfl
                obtain ⟨A5, n5, c5, R5, k5, d5, e2, h5⟩ : TM M (ρ (.tmp 67)) wx := hp.1 rfl
                exact ⟨_, by simp [e1, e2], (hs_same h5 (H8.out.below hb)).mono fun _ _ ⟨he, hb'⟩ => ⟨_, he, hb', rfl⟩⟩
              · exact lb_move (.tmp 69) (.inl rfl) (fun _ _ _ => want_none rfl) fun ρ wx _ _ hp => hp.1 rfl
              · exact lb_val _ (fun ρ wx hp => want_of 6 true 70 rfl rfl (hp.1 rfl)) fun ρ wx hb _ hx _ => ⟨load_mem (Y8.out.below hb) ρ (.tmp 3) (hx 3 rfl) rfl, rfl⟩
              · refine lb_call _ _ _ (fun _ _ => by simp [go_sem]) rfl (fun ρ wx hp => want_of 6 true 70 rfl rfl (hp.2.1 rfl)) fun ρ wx hb hc hp => ?_
                have e1 : ρ (.tmp 71) = .agg #[.slice A n c, .slice R k d, .int .i64 M.bank] := hp.1 rfl
                refine ⟨_, by simp [e1, hc], (hc_impl (H8.out.below hb) 0 0 256).mono ?_⟩
                intro e w' hw
                rw [E2.out] at hw
                obtain ⟨A5, n5, c5, R5, k5, d5, rfl, h5, b5⟩ := hw.here HSS.out
                exact ⟨_, rfl, b5, A5, n5, c5, R5, k5, d5, rfl, h5⟩
              · exact lb_val _ (fun ρ wx hp => want_of 6 true 70 rfl rfl (hp.1 rfl)) fun ρ wx hb _ hx _ => ⟨load_mem (Y8.out.below hb) ρ (.tmp 3) (hx 3 rfl) rfl, rfl⟩
              · refine lb_call _ _ _ (fun _ _ => by simp [go_sem]) rfl (fun ρ wx hp => want_of 6 true 70 rfl rfl (hp.2.2.2.1 rfl)) fun ρ wx hb _ hp => ?_
                have e1 : ρ (.tmp 73) = .agg #[.slice A n c, .slice R k d, .int .i64 M.bank] := hp.2.1 rfl
                obtain ⟨A5, n5, c5, R5, k5, d5, e2, h5⟩ : TM M (ρ (.tmp 72)) wx := hp.1 rfl
                exact ⟨_, by simp [e1, e2], (hs_same h5 (H8.out.below hb)).mono fun _ _ ⟨he, hb'⟩ => ⟨_, he, hb', rfl⟩⟩
              · exact lb_pick _ _ _ rfl true (fun _ _ _ => want_none rfl) fun ρ wx _ hp => ⟨hp.1 rfl, hp.2.1 rfl⟩
              · exact lb_move (.tmp 75) (.inl rfl) (fun _ _ _ => want_none rfl) fun ρ wx _ _ hp => hp.1 rfl
              · exact lb_val _ (fun ρ wx hp => want_of 12 true 76 rfl rfl (hp.1 rfl)) fun ρ wx hb _ hx _ => ⟨load_mem (Z8.out.below hb) ρ (.tmp 7) (hx 7 rfl) rfl, rfl⟩
              · refine lb_call _ _ _ (fun _ _ => by simp [go_sem]) rfl (fun ρ wx hp => want_of 12 true 76 rfl rfl (hp.2.1 rfl)) fun ρ wx hb _ hp => ?_
                have e1 : ρ (.tmp 77) = .agg #[.slice A' 256 c', .slice R' k' d', .int .i64 X.bank] := hp.1 rfl
                exact ⟨_, by simp [e1], (hv_impl (X8.out.below hb)).mono fun _ _ ⟨he, hb'⟩ => ⟨_, by rw [he, HXV.out], hb', rfl⟩⟩
              · exact lb_pick _ _ _ rfl true (fun _ _ _ => want_none rfl) fun ρ wx _ hp => ⟨hp.1 rfl, hp.2.1 rfl⟩
              · exact lb_move (.tmp 79) (.inr rfl) (fun _ _ _ => want_none rfl) fun ρ wx _ _ hp => hp.1 rfl
            · intro vs w9 b9 hF
              obtain ⟨_, _, _, _, _, _, _, _, _, _, _, _, _, _, _, _, hn, _⟩ := hF
              replace hn : vs 16 = .bool true := hn
              have B9 := Lib.hid (below_then B8.out b9)
              clear b9
              simp only [putAll, Act.put, List.setIfInBounds_toArray, List.set_cons_zero, List.set_cons_succ, hn]
              clear hn
              go_wp2_with fail
              go_ret
              exact ⟨rfl, B9.out⟩
  · go_enter Try.func3, Try.ntmps3
    go_wp2_with fail
    go_ret
    exact ⟨rfl, Below.refl _ _⟩
set_option maxHeartbeats 4000000 in
set_option maxRecDepth 100000 in
theorem walk_FnCopyFill (a0 : Option Addr) (len0 cap0 : Nat) (z0 : List Int) (w : World) (w0 : IsRow .u8 w a0 len0 cap0 z0) :
    Calls Try.prog 5 #[.slice a0 len0 cap0] w fun e w' => e = .returned (.bool true) ∧ Below w.heap.size w w' := by
  have H := Lib.hid w0
  have hl := isRow_len w0
  clear w0
  by_cases hs : len0 ≤ 1048576
  · go_enter Try.func5, Try.ntmps5
    go_wp2_with fail
    refine (draw_memCopy _ _ _ _ _ H.out).mono ?_; rintro e w1 ⟨A, n, c, R, k, d, M, f, t, m, f0, f1, t0, t1, m0, m1, rfl, h1, b1⟩
    have B1 := Lib.hid (b1.alloc b1.size (.cells #[.slice A n c, .slice R k d, .int .i64 M.bank] 26))
    have H1 := Lib.hid (h1.below (below1 w1 (.cells #[.slice A n c, .slice R k d, .int .i64 M.bank] 26)))
    have Y1 : Hid (Box (w1.alloc (.cells #[.slice A n c, .slice R k d, .int .i64 M.bank] 26)) w1.heap.size 26 [.slice A n c, .slice R k d, .int .i64 M.bank]) := Box.new w1 _ _
    have rl := h1.ram_len
    have ml := h1.rom_len
    clear b1 h1
    go_upto_region 4 with (fail)
    obtain ⟨W1, hW1⟩ : ∃ W1, W1 = w1.alloc (.cells #[.slice A n c, .slice R k d, .int .i64 M.bank] 26) := ⟨_, rfl⟩
    rw [← hW1] at B1 H1 Y1 ⊢
    have zW : w1.heap.size < W1.heap.size := Y1.out.lt
    clear hW1
    have p0 : W1.cell? ⟨w1.heap.size, 0, none⟩ = some (.slice A n c) := Y1.out.cell 0
    have p1 : W1.cell? ⟨w1.heap.size, 1, none⟩ = some (.slice R k d) := Y1.out.cell 1
    have p2 : W1.cell? ⟨w1.heap.size, 2, none⟩ = some (.int .i64 M.bank) := Y1.out.cell 2
    go_wp2_with fail
    refine (hv_spec H1.out).mono ?_; rintro e w2 ⟨rfl, b2⟩
    have B2 := Lib.hid (below_then B1.out b2)
    have Y2 := Lib.hid (Y1.out.below b2)
    have H2 := Lib.hid (H1.out.below b2)
    clear b2 B1 Y1 H1 p0 p1 p2
    by_cases hval : validB M = true
    · rw [hval]
      have HV := Lib.hid hval
      have gd := good_of hval
      have HG := Lib.hid gd
      obtain rfl : n = 256 := by rw [← rl.1]; exact gd.ram
      clear hval gd
      go_upto_region 6 with (fail)
      go_cut [7] (fun t7 wc => ∃ K : Nat, K < 200 ∧ t7 = .int .i64 K ∧ w2 = wc)
      case first =>
        by_cases hf : f ≤ 0
        · go_wp2_with fail
          go_meet
          case rel => exact ⟨0, by omega, rfl, rfl⟩
        · have hf' : 0 < f := by omega
          obtain ⟨K, hK⟩ : ∃ K : Nat, f % 200 = (K : Int) := ⟨(f % 200).toNat, by omega⟩
          have HK := Lib.hid hK
          have hK2 : K < 200 := by omega
          clear hf hK
          go_wp2_with fail
          rw [HK.out]
          go_meet
          case rel => exact ⟨K, hK2, rfl, rfl⟩
      case rest =>
        obtain ⟨K, hK, rfl, rfl⟩ := hcut
        go_upto_region 7 with (fail)
        go_cut [8] (fun t8 wc => ∃ N : Nat, N < 50 ∧ t8 = .int .i64 N ∧ w2 = wc)
        case first =>
          by_cases hf : m ≤ 0
          · go_wp2_with fail
            go_meet
            case rel => exact ⟨0, by omega, rfl, rfl⟩
          · have hf' : 0 < m := by omega
            obtain ⟨N, hN⟩ : ∃ N : Nat, m % 50 = (N : Int) := ⟨(m % 50).toNat, by omega⟩
            have HN := Lib.hid hN
            have hN2 : N < 50 := by omega
            clear hf hN
            go_wp2_with fail
            rw [HN.out]
            go_meet
            case rel => exact ⟨N, hN2, rfl, rfl⟩
        case rest =>
          obtain ⟨N, hN, rfl, rfl⟩ := hcut
          have p0 : w2.cell? ⟨w1.heap.size, 0, none⟩ = some (.slice A 256 c) := Y2.out.cell 0
          have p1 : w2.cell? ⟨w1.heap.size, 1, none⟩ = some (.slice R k d) := Y2.out.cell 1
          have p2 : w2.cell? ⟨w1.heap.size, 2, none⟩ = some (.int .i64 M.bank) := Y2.out.cell 2
          go_wp2_with fail
          refine (hc_impl H2.out _ _ _).mono ?_; intro e w3 hw3
          have hK0 : (0 : Int) ≤ (K : Int) := by omega
          have hK1 : (K : Int) < 200 := by omega
          have hN0 : (0 : Int) ≤ (N : Int) := by omega
          have hN1 : (N : Int) < 50 := by omega
          have eX : copyM M (K : Int) ((K : Int) + 1) (N : Int) = copyN M K (K + 1) N := by
            rw [copyM_in HV.out (by omega) (by omega) (by omega) (by omega) (by omega) (by omega)]
            congr 1
          have HX := Lib.hid eX
          rw [eX] at hw3
          have gx := good_copy HG.out K (K + 1) N
          have HXF := Lib.hid (copy_fill HG.out K hK N (by omega))
          have HSM := Lib.hid (small_of gx)
          have hxl := gx.ram
          clear eX gx p0 p1 p2
          generalize copyN M K (K + 1) N = X at hw3 HX HXF HSM hxl
          obtain ⟨A', n', c', R', k', d', rfl, h3, b3⟩ := hw3.here HSM.out
          obtain rfl : n' = 256 := by rw [← h3.ram_len.1]; exact hxl
          have B3 := Lib.hid (below_then B2.out b3)
          have Y3 := Lib.hid (Y2.out.below b3)
          have H3 := Lib.hid (H2.out.below b3)
          have X3 := Lib.hid h3
          clear b3 h3 hw3 H2 Y2 B2 hxl
          go_wp2_with fail
          have Z4 : Hid (Box (w3.alloc (.cells #[.slice A' 256 c', .slice R' k' d', .int .i64 X.bank] 26)) w3.heap.size 26 [.slice A' 256 c', .slice R' k' d', .int .i64 X.bank]) := Box.new w3 _ _
          have b4 := below1 w3 (.cells #[.slice A' 256 c', .slice R' k' d', .int .i64 X.bank] 26)
          have Y4 := Lib.hid (Y3.out.below b4)
          have H4 := Lib.hid (H3.out.below b4)
          have X4 := Lib.hid (X3.out.below b4)
          have B4 := Lib.hid (below_then B3.out b4)
          generalize w3.alloc (.cells #[.slice A' 256 c', .slice R' k' d', .int .i64 X.bank] 26) = W4 at Z4 Y4 H4 X4 B4
          clear b4 H3 X3 B3 Y3
          refine wp_region_typed (ClB W4) RlB (Ty [TV (.agg #[.slice A' 256 c', .slice R' k' d', .int .i64 X.bank]), TV (.agg #[.slice A 256 c, .slice R k d, .int .i64 M.bank]), TV (.int .i64 K), TV (.int .i64 K), TV (.int .i64 ((K : Int) + 1)), TV (.int .i64 N), TM X, TV (.bool true), TV (.bool false)])
            (by kernel_rfl) (by kernel_rfl) (stab_ty _ ⟨stabB_tv _, stabB_tv _, stabB_tv _, stabB_tv _, stabB_tv _, stabB_tv _, stabB_m _, stabB_tv _, stabB_tv _, trivial⟩) (Below.refl _ _).drew ?_ ?_
          · refine ⟨?_, ?_, ?_, ?_, ?_, ?_, ?_, ?_, ?_, trivial⟩
            · exact lb_val _ (fun _ _ _ => want_none rfl) fun ρ wx hb _ hx _ => ⟨load_mem (Z4.out.below hb) ρ (.tmp 9) (hx 9 rfl) rfl, rfl⟩
            · exact lb_val _ (fun _ _ _ => want_none rfl) fun ρ wx hb _ hx _ => ⟨load_mem (Y4.out.below hb) ρ (.tmp 3) (hx 3 rfl) rfl, rfl⟩
            · exact lb_move (.tmp 7) (.inl rfl) (fun _ _ _ => want_none rfl) fun ρ wx _ hx _ => hx 7 rfl
            · exact lb_move (.tmp 7) (.inl rfl) (fun _ _ _ => want_none rfl) fun ρ wx _ hx _ => hx 7 rfl
            · refine lb_val (.int .i64 ((K : Int) + 1)) (fun _ _ _ => want_none rfl) fun ρ wx _ hc _ hp => ⟨?_, rfl⟩
              have e1 : ρ (.tmp 40) = .int .i64 K := hp.1 rfl
              have hw : IntKind.i64.wrap ((K : Int) + 1) = (K : Int) + 1 := IntWalk.i64_in _ (by omega)
              unfold execOp
              simp only [e1, hc]
              clear e1 hp hc
              go_simp
            · exact lb_move (.tmp 8) (.inl rfl) (fun _ _ _ => want_none rfl) fun ρ wx _ hx _ => hx 8 rfl
            · refine lb_call _ _ _ (fun _ _ => by simp [go_sem]) rfl (fun _ _ _ => want_none rfl) fun ρ wx hb _ hp => ?_
              have e1 : ρ (.tmp 38) = .agg #[.slice A 256 c, .slice R k d, .int .i64 M.bank] := hp.1 rfl
              have e2 : ρ (.tmp 39) = .int .i64 K := hp.2.1 rfl
              have e3 : ρ (.tmp 41) = .int .i64 ((K : Int) + 1) := hp.2.2.1 rfl
              have e4 : ρ (.tmp 42) = .int .i64 N := hp.2.2.2.1 rfl
              refine ⟨_, by simp [e1, e2, e3, e4], (hc_spec (H4.out.below hb) K ((K : Int) + 1) N).mono ?_⟩
              intro e w' hw
              rw [HX.out] at hw
              obtain ⟨A5, n5, c5, R5, k5, d5, rfl, h5, b5⟩ := hw.here HSM.out
              exact ⟨_, rfl, b5, A5, n5, c5, R5, k5, d5, rfl, h5⟩
            · refine lb_call _ _ _ (fun _ _ => by simp [go_sem]) rfl (fun _ _ _ => want_none rfl) fun ρ wx hb _ hp => ?_
              have e1 : ρ (.tmp 37) = .agg #[.slice A' 256 c', .slice R' k' d', .int .i64 X.bank] := hp.1 rfl
              obtain ⟨A5, n5, c5, R5, k5, d5, e2, h5⟩ : TM X (ρ (.tmp 43)) wx := hp.2.1 rfl
              exact ⟨_, by simp [e1, e2], (hs_same (X4.out.below hb) h5).mono fun _ _ ⟨he, hb'⟩ => ⟨_, he, hb', rfl⟩⟩
            · exact lb_unot (.tmp 44) _ true rfl (fun _ _ _ => want_none rfl) fun ρ wx hp => ⟨hp.1 rfl, rfl⟩
          · intro vs w5 b5 hF
            obtain ⟨_, _, _, _, _, _, _, _, hn, _⟩ := hF
            replace hn : vs 8 = .bool false := hn
            have Z5 := Lib.hid (Z4.out.below b5)
            have Y5 := Lib.hid (Y4.out.below b5)
            obtain ⟨mb, mo, rfl, hm⟩ := (H4.out.below b5).ramAt rfl
            obtain ⟨xb, xo, rfl, hxm⟩ := (X4.out.below b5).ramAt rfl
            have HM := Lib.hid hm
            have HXM := Lib.hid hxm
            have B5 := Lib.hid (below_then B4.out b5)
            clear Z4 Y4 H4 X4 B4 b5 hm hxm
            simp only [putAll, Act.put, List.setIfInBounds_toArray, List.set_cons_zero, List.set_cons_succ, hn]
            clear hn
            have g0 : w5.cell? ⟨w3.heap.size, 0, none⟩ = some (.slice (some ⟨xb, xo, none⟩) 256 c') := Z5.out.cell 0
            have p0 : w5.cell? ⟨w1.heap.size, 0, none⟩ = some (.slice (some ⟨mb, mo, none⟩) 256 c) := Y5.out.cell 0
            have r1 := HM.out K (by omega)
            have hK3 : (K : Int) < 256 := by omega
            go_wp2_with fail
            go_loopw [10] (fun i wr => ∃ j q : Nat, K ≤ j ∧ j ≤ K + N + 1 ∧ i = .int .i64 j ∧ wr = w5.drewN q) (fun i _ => K + N + 1 - (intOf i).toNat)
            case atStart => exact ⟨K, 0, by omega, by omega, rfl, rfl⟩
            case round =>
              obtain ⟨j, q, hj1, hj2, rfl, rfl⟩ := hrel
              by_cases hlt : j ≤ K + N
              · have r2 := HXM.out j (by omega)
                rw [HXF.out j (by omega)] at r2
                have r2' : w5.cell? ⟨xb, xo + j, none⟩ = some (.int .i64 (M.ram.getD K 0)) := by
                  rw [r2]
                  by_cases h : K < j ∧ j ≤ K + N
                  · rw [if_pos h]
                  · rw [if_neg h, show j = K by omega]
                clear r2
                have i0 : (0 : Int) ≤ (j : Int) := by omega
                have i1 : (j : Int) < 256 := by omega
                have i2 : (j : Int) ≤ (K : Int) + (N : Int) := by omega
                generalize M.ram.getD K 0 = r at r1 r2'
                go_wp2
                go_quiet (fail)
                go_wp2
                go_roundw
                case rel => exact ⟨j + 1, _, by omega, by omega, by go_num, rfl⟩
                case measure => simp [intOf]; omega
              · have i2 : (K : Int) + (N : Int) < (j : Int) := by omega
                go_wp2_with fail
                go_ret
                exact ⟨rfl, below_drewN B5.out q⟩
    · have hvf : validB M = false := by simpa using hval
      rw [hvf]
      clear hval hvf
      go_wp2_with fail
      refine (alive_any _).mono ?_; rintro e w' ⟨rfl, rfl⟩
      go_wp2_with fail
      go_ret
      exact ⟨rfl, B2.out⟩
  · go_enter Try.func5, Try.ntmps5
    go_wp2_with fail
    go_ret
    exact ⟨rfl, Below.refl _ _⟩
end Go.Proofs.Ytbcibgfjdenheaa
