/- The walk of FnBankSwitch. -/
import Derived.Test.YtdmigdcbddcaeabMemI
namespace Go.Proofs.Ytdmigdcbddcaeab
open Go.ChangeShapes Go.WideShapes Go.ChangeAt Go.RowKit

theorem writeM_in {M : Mem} (hv : validB M = true) {a v : Int} (h0 : 0 ≤ a) (h1 : a ≤ 1023) (v0 : 0 ≤ v) (v1 : v ≤ 255) : writeM M a v = writeN M a.toNat v := by
  have ha : addrB a = true := by simp [addrB, h0, h1]
  have hb : byteB v = true := byteB_mk v0 v1
  simp [writeM, ha, hb, hv]
theorem write_valid {M : Mem} (g : Good M) (p : Nat) {v : Int} (v0 : 0 ≤ v) (v1 : v ≤ 255) : validB (writeN M p v) = true := valid_of (good_write g p v v0 v1)
set_option maxHeartbeats 8000000 in
set_option maxRecDepth 100000 in
theorem walk_FnBankSwitch (a0 : Option Addr) (len0 cap0 : Nat) (z0 : List Int) (w : World) (w0 : IsRow .u8 w a0 len0 cap0 z0) :
    Calls Try.prog 8 #[.slice a0 len0 cap0] w fun e w' => e = .returned (.bool true) ∧ Below w.heap.size w w' := by
  have H := Lib.hid w0
  have hl := isRow_len w0
  clear w0
  by_cases hs : len0 ≤ 1048576
  · go_enter Try.func8, Try.ntmps8
    go_wp2_with fail
    refine (draw_memWrite _ _ _ _ _ H.out).mono ?_; rintro e w1 ⟨A, n, c, R, k, d, M, x, v, x0, x1, v0, v1, rfl, h1, b1⟩
    have B1 := Lib.hid (b1.alloc b1.size (.cells #[.slice A n c, .slice R k d, .int .i64 M.bank] 26))
    have H1 := Lib.hid (h1.below (below1 w1 (.cells #[.slice A n c, .slice R k d, .int .i64 M.bank] 26)))
    clear b1 h1
    go_wp2_with fail
    refine (hv_spec H1.out).mono ?_; rintro e w2 ⟨rfl, b2⟩
    have Y2 : Hid (Box w2 w1.heap.size 26 [.slice A n c, .slice R k d, .int .i64 M.bank]) := (Box.new w1 _ _).below b2
    have B2 := Lib.hid (below_then B1.out b2)
    have H2 := Lib.hid (H1.out.below b2)
    clear b2 H1
    by_cases hval : validB M = true
    · rw [hval]
      by_cases hb : 0 ≤ v ∧ v ≤ 255
      · obtain ⟨vb0, vb1⟩ := hb
        have gd := good_of hval
        have HW := Lib.hid (show writeM M 1000 v = { M with bank := v % M.rom.length } by rw [writeM_in hval (by omega) (by omega) vb0 vb1]; rfl)
        have HWV := Lib.hid (show validB ({ M with bank := v % M.rom.length } : Mem) = true from write_valid gd 1000 vb0 vb1)
        have HSM := Lib.hid (small_write M 1000 v)
        have c0 : w2.cell? ⟨w1.heap.size, 0, none⟩ = some (.slice A n c) := Y2.out.cell 0
        have c1 : w2.cell? ⟨w1.heap.size, 1, none⟩ = some (.slice R k d) := Y2.out.cell 1
        have c2 : w2.cell? ⟨w1.heap.size, 2, none⟩ = some (.int .i64 M.bank) := Y2.out.cell 2
        have HVAL := Lib.hid hval
        have GD := Lib.hid gd
        clear hval gd
        go_wp2_with fail
        refine (isByte_yes _ _ vb0 vb1).mono ?_; rintro e w' ⟨rfl, rfl⟩
        go_wp2_with fail
        refine (hw_impl H2.out _ _).mono ?_; intro e w3 hw3
        obtain ⟨A', n', c', R', k', d', rfl, h3, b3⟩ := hw3.here HSM.out
        have Y3 := Lib.hid (Y2.out.below b3)
        have B3 := Lib.hid (below_then B2.out b3)
        have H3 := Lib.hid (H2.out.below b3)
        have X3 := Lib.hid h3
        clear b3 h3 hw3 H2 c0 c1 c2
        rw [HW.out] at X3 ⊢
        rw [HW.out] at HSM
        have ml := H3.out.rom_len
        obtain ⟨J, hJ⟩ : ∃ J : Nat, v % (M.rom.length : Int) = (J : Int) := ⟨(v % (M.rom.length : Int)).toNat, by have := GD.out.one; have := Int.emod_nonneg v (show (M.rom.length : Int) ≠ 0 by omega); omega⟩
        have hJk : J < k := by have := GD.out.one; have := Int.emod_lt_of_pos v (show (0 : Int) < (M.rom.length : Int) by omega); omega
        have hk0 : 0 < k := by omega
        have hk4 : k ≤ 4 := by have := GD.out.four; omega
        rw [hJ] at X3 HW HWV HSM ⊢
        have y4 : v.tmod (k : Int) = (J : Int) := by rw [Int.tmod_eq_emod_of_nonneg vb0, ← ml.1]; exact hJ
        have Y4' := Lib.hid (Y3.out.alloc (.cells #[.slice A' n' c', .slice R' k' d', .int .i64 (J : Int)] 26))
        have Z4' : Hid (Box (w3.alloc (.cells #[.slice A' n' c', .slice R' k' d', .int .i64 (J : Int)] 26)) w3.heap.size 26 [.slice A' n' c', .slice R' k' d', .int .i64 (J : Int)]) := Box.new w3 _ _
        have H4 := Lib.hid (H3.out.below (below1 w3 (.cells #[.slice A' n' c', .slice R' k' d', .int .i64 (J : Int)] 26)))
        have X4 := Lib.hid (X3.out.below (below1 w3 (.cells #[.slice A' n' c', .slice R' k' d', .int .i64 (J : Int)] 26)))
        have B4 := Lib.hid (B3.out.alloc B3.out.size (.cells #[.slice A' n' c', .slice R' k' d', .int .i64 (J : Int)] 26))
        obtain ⟨gb, go, r0, rc0, pb, po, hR, hh0, hr0, hp⟩ := H4.out.romAt GD.out hk0
        obtain ⟨gb', go', r1, rc1, qb, qo, hR', hh1, hr1, hq⟩ := H4.out.romAt GD.out hJk
        subst hR hr0 hr1
        injection hR' with hR'
        injection hR' with e1 e2 _
        subst e1; subst e2
        have g0 := Z4'.out.cell 0
        have g1 := Z4'.out.cell 1
        have g2 := Z4'.out.cell 2
        have f0 := Y4'.out.cell 0
        have f1 := Y4'.out.cell 1
        have f2 := Y4'.out.cell 2
        simp only [List.getElem?_cons_zero, List.getElem?_cons_succ] at g0 g1 g2 f0 f1 f2
        have f4 : (w3.alloc (.cells #[.slice A' n' c', .slice R' k' d', .int .i64 (J : Int)] 26)).cell? ⟨gb, go, none⟩ = some (.slice (some ⟨pb, po, none⟩) 256 rc0) := by simpa using hh0
        have f6 := hh1
        have HJ := Lib.hid hJ
        have j0 : (0 : Int) ≤ (J : Int) := by omega
        have j1 : (J : Int) < (k : Int) := by omega
        have k3 : (0 : Int) < (k : Int) := by omega
        have k5 : ¬ k = 0 := by omega
        have k6 : ((k : Int) == 0) = false := by simp; omega
        clear hh0 hh1 hJ ml H3 X3 B3 Y3
        by_cases hx : x ≤ 0
        · have E1 := Lib.hid (show readM { M with bank := (J : Int) } (768) = (M.rom.getD J []).getD (0) 0 by rw [readM_in HWV.out (by omega) (by omega), show ((768) : Int).toNat = 768 + 0 by omega]; unfold readN; rw [if_neg (by omega), if_neg (by omega), show 768 + 0 - 768 = 0 by omega]; rfl)
          have E2 := Lib.hid (show readM { M with bank := (J : Int) } (512) = (M.rom.getD 0 []).getD (0) 0 by rw [readM_in HWV.out (by omega) (by omega), show ((512) : Int).toNat = 512 + 0 by omega]; unfold readN; rw [if_neg (by omega), if_pos (by omega), show 512 + 0 - 512 = 0 by omega])
          have f5 := (show (w3.alloc (.cells #[.slice A' n' c', .slice R' k' d', .int .i64 (J : Int)] 26)).cell? ⟨pb, po, none⟩ = some (.int .i64 ((M.rom.getD 0 []).getD 0 0)) from hp 0 (by omega))
          have f7 := (show (w3.alloc (.cells #[.slice A' n' c', .slice R' k' d', .int .i64 (J : Int)] 26)).cell? ⟨qb, qo, none⟩ = some (.int .i64 ((M.rom.getD J []).getD 0 0)) from hq 0 (by omega))
          generalize (M.rom.getD 0 []).getD (0) 0 = rz at f5 E2
          generalize (M.rom.getD J []).getD (0) 0 = rk at f7 E1
          clear hp hq
          go_wp2_with fail
          generalize hW4 : w3.alloc (.cells #[.slice A' n' c', .slice R' k' d', .int .i64 (J : Int)] 26) = W4 at *
          clear hW4
          have KD : Hid (W4.drew.cell? ⟨w3.heap.size, 0, none⟩ = some (.slice A' n' c') ∧ W4.drew.cell? ⟨w3.heap.size, 1, none⟩ = some (.slice R' k' d') ∧ W4.drew.cell? ⟨w3.heap.size, 2, none⟩ = some (.int .i64 (J : Int)) ∧ W4.drew.cell? ⟨w1.heap.size, 0, none⟩ = some (.slice A n c) ∧ W4.drew.cell? ⟨w1.heap.size, 1, none⟩ = some (.slice (some ⟨gb, go, none⟩) k d) ∧ W4.drew.cell? ⟨w1.heap.size, 2, none⟩ = some (.int .i64 M.bank) ∧ W4.drew.cell? ⟨gb, go, none⟩ = some (.slice (some ⟨pb, po, none⟩) 256 rc0) ∧ W4.drew.cell? ⟨pb, po, none⟩ = some (.int .i64 rz) ∧ W4.drew.cell? ⟨gb, go + J, none⟩ = some (.slice (some ⟨qb, qo, none⟩) 256 rc1) ∧ W4.drew.cell? ⟨qb, qo, none⟩ = some (.int .i64 rk)) := ⟨g0, g1, g2, f0, f1, f2, f4, f5, f6, f7⟩
          have HD : Hid (MemHere W4.drew A n c (some ⟨gb, go, none⟩) k d M) := H4.out.below (Below.refl _ _).drew
          have XD : Hid (MemHere W4.drew A' n' c' R' k' d' { M with bank := (J : Int) }) := X4.out.below (Below.refl _ _).drew
          have BD : Hid (Below w.heap.size w W4.drew) := B4.out.drew
          have y5 : IntKind.i64.wrap 768 = 768 := IntWalk.i64_in _ (by omega)
          have y6 : IntKind.i64.wrap 512 = 512 := IntWalk.i64_in _ (by omega)
          go_region_held3 (fun w' => w'.cell? ⟨w3.heap.size, 0, none⟩ = some (.slice A' n' c') ∧ w'.cell? ⟨w3.heap.size, 1, none⟩ = some (.slice R' k' d') ∧ w'.cell? ⟨w3.heap.size, 2, none⟩ = some (.int .i64 (J : Int)) ∧ w'.cell? ⟨w1.heap.size, 0, none⟩ = some (.slice A n c) ∧ w'.cell? ⟨w1.heap.size, 1, none⟩ = some (.slice (some ⟨gb, go, none⟩) k d) ∧ w'.cell? ⟨w1.heap.size, 2, none⟩ = some (.int .i64 M.bank) ∧ w'.cell? ⟨gb, go, none⟩ = some (.slice (some ⟨pb, po, none⟩) 256 rc0) ∧ w'.cell? ⟨pb, po, none⟩ = some (.int .i64 rz) ∧ w'.cell? ⟨gb, go + J, none⟩ = some (.slice (some ⟨qb, qo, none⟩) 256 rc1) ∧ w'.cell? ⟨qb, qo, none⟩ = some (.int .i64 rk))
            (first
              | (with_reducible exact KD.out)
              | (with_reducible exact K5.out)
              | (with_reducible exact K6.out)
              | (with_reducible exact K7.out)
              | (with_reducible exact K8.out)
              | go_keep)
            (first
              | (go_at_call 19; ((with_reducible refine (hs_same (M := { M with bank := (J : Int) }) X7.out Z7.out).mono ?_)); rintro e w8 ⟨rfl, b_⟩; have K8 : Hid (w8.cell? ⟨w3.heap.size, 0, none⟩ = some (.slice A' n' c') ∧ w8.cell? ⟨w3.heap.size, 1, none⟩ = some (.slice R' k' d') ∧ w8.cell? ⟨w3.heap.size, 2, none⟩ = some (.int .i64 (J : Int)) ∧ w8.cell? ⟨w1.heap.size, 0, none⟩ = some (.slice A n c) ∧ w8.cell? ⟨w1.heap.size, 1, none⟩ = some (.slice (some ⟨gb, go, none⟩) k d) ∧ w8.cell? ⟨w1.heap.size, 2, none⟩ = some (.int .i64 M.bank) ∧ w8.cell? ⟨gb, go, none⟩ = some (.slice (some ⟨pb, po, none⟩) 256 rc0) ∧ w8.cell? ⟨pb, po, none⟩ = some (.int .i64 rz) ∧ w8.cell? ⟨gb, go + J, none⟩ = some (.slice (some ⟨qb, qo, none⟩) 256 rc1) ∧ w8.cell? ⟨qb, qo, none⟩ = some (.int .i64 rk)) := ⟨keeps b_ K7.out.1, keeps b_ K7.out.2.1, keeps b_ K7.out.2.2.1, keeps b_ K7.out.2.2.2.1, keeps b_ K7.out.2.2.2.2.1, keeps b_ K7.out.2.2.2.2.2.1, keeps b_ K7.out.2.2.2.2.2.2.1, keeps b_ K7.out.2.2.2.2.2.2.2.1, keeps b_ K7.out.2.2.2.2.2.2.2.2.1, keeps b_ K7.out.2.2.2.2.2.2.2.2.2⟩; have H8 := Lib.hid (H7.out.below b_); have X8 := Lib.hid (X7.out.below b_); have B8 := Lib.hid (below_then B7.out b_); clear b_)
              | (go_at_call 20; ((with_reducible refine (hw_spec H6.out _ _).mono ?_)); intro e w7 hw7; rw [HW.out] at hw7; obtain ⟨A7, n7, c7, R7, k7, d7, rfl, hz7, b_⟩ := hw7.here HSM.out; have Z7 := Lib.hid hz7; clear hw7 hz7; have K7 : Hid (w7.cell? ⟨w3.heap.size, 0, none⟩ = some (.slice A' n' c') ∧ w7.cell? ⟨w3.heap.size, 1, none⟩ = some (.slice R' k' d') ∧ w7.cell? ⟨w3.heap.size, 2, none⟩ = some (.int .i64 (J : Int)) ∧ w7.cell? ⟨w1.heap.size, 0, none⟩ = some (.slice A n c) ∧ w7.cell? ⟨w1.heap.size, 1, none⟩ = some (.slice (some ⟨gb, go, none⟩) k d) ∧ w7.cell? ⟨w1.heap.size, 2, none⟩ = some (.int .i64 M.bank) ∧ w7.cell? ⟨gb, go, none⟩ = some (.slice (some ⟨pb, po, none⟩) 256 rc0) ∧ w7.cell? ⟨pb, po, none⟩ = some (.int .i64 rz) ∧ w7.cell? ⟨gb, go + J, none⟩ = some (.slice (some ⟨qb, qo, none⟩) 256 rc1) ∧ w7.cell? ⟨qb, qo, none⟩ = some (.int .i64 rk)) := ⟨keeps b_ K6.out.1, keeps b_ K6.out.2.1, keeps b_ K6.out.2.2.1, keeps b_ K6.out.2.2.2.1, keeps b_ K6.out.2.2.2.2.1, keeps b_ K6.out.2.2.2.2.2.1, keeps b_ K6.out.2.2.2.2.2.2.1, keeps b_ K6.out.2.2.2.2.2.2.2.1, keeps b_ K6.out.2.2.2.2.2.2.2.2.1, keeps b_ K6.out.2.2.2.2.2.2.2.2.2⟩; have H7 := Lib.hid (H6.out.below b_); have X7 := Lib.hid (X6.out.below b_); have B7 := Lib.hid (below_then B6.out b_); clear b_)
              | (go_at_call 14; ((with_reducible refine (hr_impl (M := { M with bank := (J : Int) }) X5.out _).mono ?_)); rintro e w6 ⟨rfl, b_⟩; rw [E2.out]; have K6 : Hid (w6.cell? ⟨w3.heap.size, 0, none⟩ = some (.slice A' n' c') ∧ w6.cell? ⟨w3.heap.size, 1, none⟩ = some (.slice R' k' d') ∧ w6.cell? ⟨w3.heap.size, 2, none⟩ = some (.int .i64 (J : Int)) ∧ w6.cell? ⟨w1.heap.size, 0, none⟩ = some (.slice A n c) ∧ w6.cell? ⟨w1.heap.size, 1, none⟩ = some (.slice (some ⟨gb, go, none⟩) k d) ∧ w6.cell? ⟨w1.heap.size, 2, none⟩ = some (.int .i64 M.bank) ∧ w6.cell? ⟨gb, go, none⟩ = some (.slice (some ⟨pb, po, none⟩) 256 rc0) ∧ w6.cell? ⟨pb, po, none⟩ = some (.int .i64 rz) ∧ w6.cell? ⟨gb, go + J, none⟩ = some (.slice (some ⟨qb, qo, none⟩) 256 rc1) ∧ w6.cell? ⟨qb, qo, none⟩ = some (.int .i64 rk)) := ⟨keeps b_ K5.out.1, keeps b_ K5.out.2.1, keeps b_ K5.out.2.2.1, keeps b_ K5.out.2.2.2.1, keeps b_ K5.out.2.2.2.2.1, keeps b_ K5.out.2.2.2.2.2.1, keeps b_ K5.out.2.2.2.2.2.2.1, keeps b_ K5.out.2.2.2.2.2.2.2.1, keeps b_ K5.out.2.2.2.2.2.2.2.2.1, keeps b_ K5.out.2.2.2.2.2.2.2.2.2⟩; have H6 := Lib.hid (H5.out.below b_); have X6 := Lib.hid (X5.out.below b_); have B6 := Lib.hid (below_then B5.out b_); clear b_)
              | (go_at_call 14; ((with_reducible refine (hr_impl (M := { M with bank := (J : Int) }) XD.out _).mono ?_)); rintro e w5 ⟨rfl, b_⟩; rw [E1.out]; have K5 : Hid (w5.cell? ⟨w3.heap.size, 0, none⟩ = some (.slice A' n' c') ∧ w5.cell? ⟨w3.heap.size, 1, none⟩ = some (.slice R' k' d') ∧ w5.cell? ⟨w3.heap.size, 2, none⟩ = some (.int .i64 (J : Int)) ∧ w5.cell? ⟨w1.heap.size, 0, none⟩ = some (.slice A n c) ∧ w5.cell? ⟨w1.heap.size, 1, none⟩ = some (.slice (some ⟨gb, go, none⟩) k d) ∧ w5.cell? ⟨w1.heap.size, 2, none⟩ = some (.int .i64 M.bank) ∧ w5.cell? ⟨gb, go, none⟩ = some (.slice (some ⟨pb, po, none⟩) 256 rc0) ∧ w5.cell? ⟨pb, po, none⟩ = some (.int .i64 rz) ∧ w5.cell? ⟨gb, go + J, none⟩ = some (.slice (some ⟨qb, qo, none⟩) 256 rc1) ∧ w5.cell? ⟨qb, qo, none⟩ = some (.int .i64 rk)) := ⟨keeps b_ KD.out.1, keeps b_ KD.out.2.1, keeps b_ KD.out.2.2.1, keeps b_ KD.out.2.2.2.1, keeps b_ KD.out.2.2.2.2.1, keeps b_ KD.out.2.2.2.2.2.1, keeps b_ KD.out.2.2.2.2.2.2.1, keeps b_ KD.out.2.2.2.2.2.2.2.1, keeps b_ KD.out.2.2.2.2.2.2.2.2.1, keeps b_ KD.out.2.2.2.2.2.2.2.2.2⟩; have H5 := Lib.hid (HD.out.below b_); have X5 := Lib.hid (XD.out.below b_); have B5 := Lib.hid (below_then BD.out b_); clear b_))
          all_goals
            go_wp2_with fail
            go_ret
            exact ⟨rfl, B8.out⟩
        · have hx0 : 0 < x := by omega
          obtain ⟨K, hK⟩ : ∃ K : Nat, x % 256 = (K : Int) := ⟨(x % 256).toNat, by omega⟩
          have hK2 : K < 256 := by omega
          have HK := Lib.hid hK
          clear hK
          have E1 := Lib.hid (show readM { M with bank := (J : Int) } (768 + (K : Int)) = (M.rom.getD J []).getD (K) 0 by rw [readM_in HWV.out (by omega) (by omega), show ((768 + (K : Int)) : Int).toNat = 768 + K by omega]; unfold readN; rw [if_neg (by omega), if_neg (by omega), show 768 + K - 768 = K by omega]; rfl)
          have E2 := Lib.hid (show readM { M with bank := (J : Int) } (512 + (K : Int)) = (M.rom.getD 0 []).getD (K) 0 by rw [readM_in HWV.out (by omega) (by omega), show ((512 + (K : Int)) : Int).toNat = 512 + K by omega]; unfold readN; rw [if_neg (by omega), if_pos (by omega), show 512 + K - 512 = K by omega])
          have f5 := hp K hK2
          have f7 := hq K hK2
          generalize (M.rom.getD 0 []).getD (K) 0 = rz at f5 E2
          generalize (M.rom.getD J []).getD (K) 0 = rk at f7 E1
          clear hp hq
          go_wp2_with fail
          rw [HK.out]
          generalize hW4 : w3.alloc (.cells #[.slice A' n' c', .slice R' k' d', .int .i64 (J : Int)] 26) = W4 at *
          clear hW4
          have KD : Hid (W4.drew.cell? ⟨w3.heap.size, 0, none⟩ = some (.slice A' n' c') ∧ W4.drew.cell? ⟨w3.heap.size, 1, none⟩ = some (.slice R' k' d') ∧ W4.drew.cell? ⟨w3.heap.size, 2, none⟩ = some (.int .i64 (J : Int)) ∧ W4.drew.cell? ⟨w1.heap.size, 0, none⟩ = some (.slice A n c) ∧ W4.drew.cell? ⟨w1.heap.size, 1, none⟩ = some (.slice (some ⟨gb, go, none⟩) k d) ∧ W4.drew.cell? ⟨w1.heap.size, 2, none⟩ = some (.int .i64 M.bank) ∧ W4.drew.cell? ⟨gb, go, none⟩ = some (.slice (some ⟨pb, po, none⟩) 256 rc0) ∧ W4.drew.cell? ⟨pb, po + K, none⟩ = some (.int .i64 rz) ∧ W4.drew.cell? ⟨gb, go + J, none⟩ = some (.slice (some ⟨qb, qo, none⟩) 256 rc1) ∧ W4.drew.cell? ⟨qb, qo + K, none⟩ = some (.int .i64 rk)) := ⟨g0, g1, g2, f0, f1, f2, f4, f5, f6, f7⟩
          have HD : Hid (MemHere W4.drew A n c (some ⟨gb, go, none⟩) k d M) := H4.out.below (Below.refl _ _).drew
          have XD : Hid (MemHere W4.drew A' n' c' R' k' d' { M with bank := (J : Int) }) := X4.out.below (Below.refl _ _).drew
          have BD : Hid (Below w.heap.size w W4.drew) := B4.out.drew
          have y5 : IntKind.i64.wrap (768 + (K : Int)) = 768 + (K : Int) := IntWalk.i64_in _ (by omega)
          have y6 : IntKind.i64.wrap (512 + (K : Int)) = 512 + (K : Int) := IntWalk.i64_in _ (by omega)
          have i0 : (0 : Int) ≤ (K : Int) := by omega
          have i1 : (K : Int) < 256 := by omega
          go_region_held3 (fun w' => w'.cell? ⟨w3.heap.size, 0, none⟩ = some (.slice A' n' c') ∧ w'.cell? ⟨w3.heap.size, 1, none⟩ = some (.slice R' k' d') ∧ w'.cell? ⟨w3.heap.size, 2, none⟩ = some (.int .i64 (J : Int)) ∧ w'.cell? ⟨w1.heap.size, 0, none⟩ = some (.slice A n c) ∧ w'.cell? ⟨w1.heap.size, 1, none⟩ = some (.slice (some ⟨gb, go, none⟩) k d) ∧ w'.cell? ⟨w1.heap.size, 2, none⟩ = some (.int .i64 M.bank) ∧ w'.cell? ⟨gb, go, none⟩ = some (.slice (some ⟨pb, po, none⟩) 256 rc0) ∧ w'.cell? ⟨pb, po + K, none⟩ = some (.int .i64 rz) ∧ w'.cell? ⟨gb, go + J, none⟩ = some (.slice (some ⟨qb, qo, none⟩) 256 rc1) ∧ w'.cell? ⟨qb, qo + K, none⟩ = some (.int .i64 rk))
            (first
              | (with_reducible exact KD.out)
              | (with_reducible exact K5.out)
              | (with_reducible exact K6.out)
              | (with_reducible exact K7.out)
              | (with_reducible exact K8.out)
              | go_keep)
            (first
              | (go_at_call 19; ((with_reducible refine (hs_same (M := { M with bank := (J : Int) }) X7.out Z7.out).mono ?_)); rintro e w8 ⟨rfl, b_⟩; have K8 : Hid (w8.cell? ⟨w3.heap.size, 0, none⟩ = some (.slice A' n' c') ∧ w8.cell? ⟨w3.heap.size, 1, none⟩ = some (.slice R' k' d') ∧ w8.cell? ⟨w3.heap.size, 2, none⟩ = some (.int .i64 (J : Int)) ∧ w8.cell? ⟨w1.heap.size, 0, none⟩ = some (.slice A n c) ∧ w8.cell? ⟨w1.heap.size, 1, none⟩ = some (.slice (some ⟨gb, go, none⟩) k d) ∧ w8.cell? ⟨w1.heap.size, 2, none⟩ = some (.int .i64 M.bank) ∧ w8.cell? ⟨gb, go, none⟩ = some (.slice (some ⟨pb, po, none⟩) 256 rc0) ∧ w8.cell? ⟨pb, po + K, none⟩ = some (.int .i64 rz) ∧ w8.cell? ⟨gb, go + J, none⟩ = some (.slice (some ⟨qb, qo, none⟩) 256 rc1) ∧ w8.cell? ⟨qb, qo + K, none⟩ = some (.int .i64 rk)) := ⟨keeps b_ K7.out.1, keeps b_ K7.out.2.1, keeps b_ K7.out.2.2.1, keeps b_ K7.out.2.2.2.1, keeps b_ K7.out.2.2.2.2.1, keeps b_ K7.out.2.2.2.2.2.1, keeps b_ K7.out.2.2.2.2.2.2.1, keeps b_ K7.out.2.2.2.2.2.2.2.1, keeps b_ K7.out.2.2.2.2.2.2.2.2.1, keeps b_ K7.out.2.2.2.2.2.2.2.2.2⟩; have H8 := Lib.hid (H7.out.below b_); have X8 := Lib.hid (X7.out.below b_); have B8 := Lib.hid (below_then B7.out b_); clear b_)
              | (go_at_call 20; ((with_reducible refine (hw_spec H6.out _ _).mono ?_)); intro e w7 hw7; rw [HW.out] at hw7; obtain ⟨A7, n7, c7, R7, k7, d7, rfl, hz7, b_⟩ := hw7.here HSM.out; have Z7 := Lib.hid hz7; clear hw7 hz7; have K7 : Hid (w7.cell? ⟨w3.heap.size, 0, none⟩ = some (.slice A' n' c') ∧ w7.cell? ⟨w3.heap.size, 1, none⟩ = some (.slice R' k' d') ∧ w7.cell? ⟨w3.heap.size, 2, none⟩ = some (.int .i64 (J : Int)) ∧ w7.cell? ⟨w1.heap.size, 0, none⟩ = some (.slice A n c) ∧ w7.cell? ⟨w1.heap.size, 1, none⟩ = some (.slice (some ⟨gb, go, none⟩) k d) ∧ w7.cell? ⟨w1.heap.size, 2, none⟩ = some (.int .i64 M.bank) ∧ w7.cell? ⟨gb, go, none⟩ = some (.slice (some ⟨pb, po, none⟩) 256 rc0) ∧ w7.cell? ⟨pb, po + K, none⟩ = some (.int .i64 rz) ∧ w7.cell? ⟨gb, go + J, none⟩ = some (.slice (some ⟨qb, qo, none⟩) 256 rc1) ∧ w7.cell? ⟨qb, qo + K, none⟩ = some (.int .i64 rk)) := ⟨keeps b_ K6.out.1, keeps b_ K6.out.2.1, keeps b_ K6.out.2.2.1, keeps b_ K6.out.2.2.2.1, keeps b_ K6.out.2.2.2.2.1, keeps b_ K6.out.2.2.2.2.2.1, keeps b_ K6.out.2.2.2.2.2.2.1, keeps b_ K6.out.2.2.2.2.2.2.2.1, keeps b_ K6.out.2.2.2.2.2.2.2.2.1, keeps b_ K6.out.2.2.2.2.2.2.2.2.2⟩; have H7 := Lib.hid (H6.out.below b_); have X7 := Lib.hid (X6.out.below b_); have B7 := Lib.hid (below_then B6.out b_); clear b_)
              | (go_at_call 14; ((with_reducible refine (hr_impl (M := { M with bank := (J : Int) }) X5.out _).mono ?_)); rintro e w6 ⟨rfl, b_⟩; rw [E2.out]; have K6 : Hid (w6.cell? ⟨w3.heap.size, 0, none⟩ = some (.slice A' n' c') ∧ w6.cell? ⟨w3.heap.size, 1, none⟩ = some (.slice R' k' d') ∧ w6.cell? ⟨w3.heap.size, 2, none⟩ = some (.int .i64 (J : Int)) ∧ w6.cell? ⟨w1.heap.size, 0, none⟩ = some (.slice A n c) ∧ w6.cell? ⟨w1.heap.size, 1, none⟩ = some (.slice (some ⟨gb, go, none⟩) k d) ∧ w6.cell? ⟨w1.heap.size, 2, none⟩ = some (.int .i64 M.bank) ∧ w6.cell? ⟨gb, go, none⟩ = some (.slice (some ⟨pb, po, none⟩) 256 rc0) ∧ w6.cell? ⟨pb, po + K, none⟩ = some (.int .i64 rz) ∧ w6.cell? ⟨gb, go + J, none⟩ = some (.slice (some ⟨qb, qo, none⟩) 256 rc1) ∧ w6.cell? ⟨qb, qo + K, none⟩ = some (.int .i64 rk)) := ⟨keeps b_ K5.out.1, keeps b_ K5.out.2.1, keeps b_ K5.out.2.2.1, keeps b_ K5.out.2.2.2.1, keeps b_ K5.out.2.2.2.2.1, keeps b_ K5.out.2.2.2.2.2.1, keeps b_ K5.out.2.2.2.2.2.2.1, keeps b_ K5.out.2.2.2.2.2.2.2.1, keeps b_ K5.out.2.2.2.2.2.2.2.2.1, keeps b_ K5.out.2.2.2.2.2.2.2.2.2⟩; have H6 := Lib.hid (H5.out.below b_); have X6 := Lib.hid (X5.out.below b_); have B6 := Lib.hid (below_then B5.out b_); clear b_)
              | (go_at_call 14; ((with_reducible refine (hr_impl (M := { M with bank := (J : Int) }) XD.out _).mono ?_)); rintro e w5 ⟨rfl, b_⟩; rw [E1.out]; have K5 : Hid (w5.cell? ⟨w3.heap.size, 0, none⟩ = some (.slice A' n' c') ∧ w5.cell? ⟨w3.heap.size, 1, none⟩ = some (.slice R' k' d') ∧ w5.cell? ⟨w3.heap.size, 2, none⟩ = some (.int .i64 (J : Int)) ∧ w5.cell? ⟨w1.heap.size, 0, none⟩ = some (.slice A n c) ∧ w5.cell? ⟨w1.heap.size, 1, none⟩ = some (.slice (some ⟨gb, go, none⟩) k d) ∧ w5.cell? ⟨w1.heap.size, 2, none⟩ = some (.int .i64 M.bank) ∧ w5.cell? ⟨gb, go, none⟩ = some (.slice (some ⟨pb, po, none⟩) 256 rc0) ∧ w5.cell? ⟨pb, po + K, none⟩ = some (.int .i64 rz) ∧ w5.cell? ⟨gb, go + J, none⟩ = some (.slice (some ⟨qb, qo, none⟩) 256 rc1) ∧ w5.cell? ⟨qb, qo + K, none⟩ = some (.int .i64 rk)) := ⟨keeps b_ KD.out.1, keeps b_ KD.out.2.1, keeps b_ KD.out.2.2.1, keeps b_ KD.out.2.2.2.1, keeps b_ KD.out.2.2.2.2.1, keeps b_ KD.out.2.2.2.2.2.1, keeps b_ KD.out.2.2.2.2.2.2.1, keeps b_ KD.out.2.2.2.2.2.2.2.1, keeps b_ KD.out.2.2.2.2.2.2.2.2.1, keeps b_ KD.out.2.2.2.2.2.2.2.2.2⟩; have H5 := Lib.hid (HD.out.below b_); have X5 := Lib.hid (XD.out.below b_); have B5 := Lib.hid (below_then BD.out b_); clear b_))
          all_goals
            go_wp2_with fail
            go_ret
            exact ⟨rfl, B8.out⟩
      · have hbo : v < 0 ∨ 255 < v := by omega
        have c0 : w2.cell? ⟨w1.heap.size, 0, none⟩ = some (.slice A n c) := Y2.out.cell 0
        clear hb
        go_wp2_with fail
        refine (isByte_no _ _ hbo).mono ?_; rintro e w' ⟨rfl, rfl⟩
        go_wp2_with fail
        refine (alive_any _).mono ?_; rintro e w' ⟨rfl, rfl⟩
        go_wp2_with fail
        go_ret
        exact ⟨rfl, B2.out⟩
    · rw [show validB M = false by simpa using hval]
      clear hval
      go_wp2_with fail
      refine (alive_any _).mono ?_; rintro e w' ⟨rfl, rfl⟩
      go_wp2_with fail
      go_ret
      exact ⟨rfl, B2.out⟩
  · go_enter Try.func8, Try.ntmps8
    go_wp2_with fail
    go_ret
    exact ⟨rfl, Below.refl _ _⟩
end Go.Proofs.Ytdmigdcbddcaeab
