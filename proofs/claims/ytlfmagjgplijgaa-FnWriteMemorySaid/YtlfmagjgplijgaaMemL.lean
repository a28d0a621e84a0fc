/- The walk of FnWriteMemory. -/
import Derived.Test.YtlfmagjgplijgaaMemK
import Derived.Test.YtlfmagjgplijgaaLater
import Derived.Deep.DeepCutAuto
import Derived.Deep.RegionWith
namespace Go.Proofs.Ytlfmagjgplijgaa
open Go.ChangeShapes Go.WideShapes Go.ChangeAt Go.RowKit

/-- What is known of a memory behind a write that is in order. -/
structure Wrote (M X : Mem) (x v : Int) : Prop where
  valid : validB X = true
  rom : X.rom = M.rom
  ram : ∀ j : Nat, j < 256 → X.ram.getD j 0 = M.ram.getD j 0 ∨ (x ≤ 511 ∧ x % 256 = (j : Int))
  read : x ≤ 511 → readM X x = v
  low : x < 768 → X.bank = M.bank
  high : 768 ≤ x → X.bank = v % M.rom.length
theorem wrote {M : Mem} (hv : validB M = true) {x v : Int} (x0 : 0 ≤ x) (x1 : x ≤ 1023) (v0 : 0 ≤ v) (v1 : v ≤ 255) : Wrote M (writeM M x v) x v := by
  have g := good_of hv
  obtain ⟨P, rfl⟩ : ∃ P : Nat, x = P := ⟨x.toNat, by omega⟩
  have hval : validB (writeN M P v) = true := write_valid g P v0 v1
  rw [writeM_in hv x0 x1 v0 v1, Int.toNat_natCast]
  refine ⟨hval, ?_, fun j hj => ?_, fun h => ?_, fun h => ?_, fun h => ?_⟩
  · unfold writeN; split <;> (try split) <;> rfl
  · unfold writeN
    split
    · by_cases e : j = P % 256
      · exact .inr ⟨by omega, by omega⟩
      · left
        show (M.ram.set (P % 256) v).getD j 0 = _
        rw [getD_set _ _ _ _ (by rw [g.ram]; omega), if_neg e]
    · split <;> exact .inl rfl
  · rw [readM_in hval x0 x1, Int.toNat_natCast]
    have e : writeN M P v = { M with ram := M.ram.set (P % 256) v } := by unfold writeN; rw [if_pos (by omega)]
    rw [e]
    unfold readN
    rw [if_pos (by omega)]
    show (M.ram.set (P % 256) v).getD (P % 256) 0 = v
    rw [getD_set _ _ _ _ (by rw [g.ram]; omega), if_pos rfl]
  · unfold writeN; split
    · rfl
    · rw [if_pos (by omega)]
  · unfold writeN; rw [if_neg (by omega), if_neg (by omega)]
theorem unwrote {M : Mem} {x v : Int} (h : validB M = false ∨ x < 0 ∨ 1023 < x ∨ v < 0 ∨ 255 < v) : writeM M x v = memZ := by
  unfold writeM
  rw [if_neg]
  rintro ⟨h1, h2, h3⟩
  have := addrB_yes h1
  have := byteB_yes h2
  rcases h with h | h | h | h | h
  · rw [h] at h3; cases h3
  all_goals omega
set_option maxHeartbeats 16000000 in
set_option maxRecDepth 100000 in
theorem walk_FnWriteMemory (a0 : Option Addr) (len0 cap0 : Nat) (z0 : List Int) (w : World) (w0 : IsRow .u8 w a0 len0 cap0 z0) :
    Calls Try.prog 3 #[.slice a0 len0 cap0] w fun e w' => e = .returned (.bool true) ∧ Below w.heap.size w w' := by
  have H := Lib.hid w0
  have hl := isRow_len w0
  clear w0
  by_cases hs : len0 ≤ 1048576
  · go_enter Try.func3, Try.ntmps3
    go_wp2_with fail
    refine (draw_memWrite _ _ _ _ _ H.out).mono ?_; rintro e w1 ⟨A, n, c, R, k, d, M, x, v, x0, x1, v0, v1, rfl, h1, b1⟩
    have B1 := Lib.hid (b1.alloc b1.size (.cells #[.slice A n c, .slice R k d, .int .i64 M.bank] 26))
    have H1 := Lib.hid (h1.below (below1 w1 (.cells #[.slice A n c, .slice R k d, .int .i64 M.bank] 26)))
    have Y1 : Hid (Box (w1.alloc (.cells #[.slice A n c, .slice R k d, .int .i64 M.bank] 26)) w1.heap.size 26 [.slice A n c, .slice R k d, .int .i64 M.bank]) := Box.new w1 _ _
    have rl := h1.ram_len
    have ml := h1.rom_len
    clear b1 h1
    go_upto_region 4 with (fail)
    obtain ⟨W1, hW1⟩ : ∃ W1, W1 = w1.alloc (.cells #[.slice A n c, .slice R k d, .int .i64 M.bank] 26) := ⟨_, rfl⟩
    rw [← hW1] at B1 H1 Y1 ⊢
    have zW : w1.heap.size < W1.heap.size := Y1.out.lt
    clear hW1
    obtain ⟨fa, fr, hI, _⟩ := H1.out.parts
    have I1 := Lib.hid hI
    clear hI
    have p0 : W1.cell? ⟨w1.heap.size, 0, none⟩ = some (.slice A n c) := Y1.out.cell 0
    have p1 : W1.cell? ⟨w1.heap.size, 1, none⟩ = some (.slice R k d) := Y1.out.cell 1
    have p2 : W1.cell? ⟨w1.heap.size, 2, none⟩ = some (.int .i64 M.bank) := Y1.out.cell 2
    have own0 := Lib.hid (own_empty W1 3 W1.heap.size (Nat.le_refl _))
    have I1a := Lib.hid (I1.out.below (below1 W1 (.cells #[] 3)))
    go_wp2_with (at_builtin; refine wpList_append_ints rfl _ _ rfl W1.heap.size _ 0 [] rfl own0.out _ _ _ M.ram fa rfl I1a.out (by omega) (by simp) ?_; intro v' w2 own2 gr2 at2; have own2' : w2.ownsRow W1.heap.size 3 1 v' n (iv M.ram) := (by simpa using own2); have b2 : Below W1.heap.size W1 w2 := below_grown (below1 W1 _) gr2 (by simp) (fun b hb => (own_lt own0.out b hb).1); have O2 := Lib.hid own2'; have Y2 := Lib.hid (Y1.out.below b2); have E2 := Lib.hid b2; have c0 : w2.cell? ⟨w1.heap.size, 0, none⟩ = some (.slice A n c) := Y2.out.cell 0; have c1 : w2.cell? ⟨w1.heap.size, 1, none⟩ = some (.slice R k d) := Y2.out.cell 1; have c2 : w2.cell? ⟨w1.heap.size, 2, none⟩ = some (.int .i64 M.bank) := Y2.out.cell 2; clear own2 own2' gr2 at2 b2 p0 p1 p2)
    obtain ⟨BA, bc, fb, rfl, _, _, hIb, _, _⟩ := own_ints O2.out
    have J2 := Lib.hid hIb
    have B2 := Lib.hid (below_then B1.out E2.out)
    have H2 := Lib.hid (H1.out.below E2.out)
    clear hIb own0 I1a I1 H1 Y1 B1 O2 E2
    refine (hw_impl H2.out _ _).mono ?_; intro e w3 hw3
    have HSM := Lib.hid (small_write M x v)
    have HW1 := Lib.hid (fun (hv : validB M = true) (x0 : 0 ≤ x) (x1 : x ≤ 1023) (v0 : 0 ≤ v) (v1 : v ≤ 255) => wrote hv x0 x1 v0 v1)
    have HW0 := Lib.hid (fun h => unwrote (M := M) (x := x) (v := v) h)
    generalize hX : writeM M x v = X at hw3 HSM HW1 HW0
    have HX := Lib.hid hX
    clear hX
    obtain ⟨A', n', c', R', k', d', rfl, h3, b3⟩ := hw3.here HSM.out
    have rl' := h3.ram_len
    have ml' := h3.rom_len
    have B3 := Lib.hid (below_then B2.out b3)
    have Y3 := Lib.hid (Y2.out.below b3)
    have H3 := Lib.hid (H2.out.below b3)
    have J3 := Lib.hid (J2.out.below b3)
    have X3 := Lib.hid h3
    clear b3 h3 hw3 H2 Y2 J2 B2 c0 c1 c2
    go_wp2_with fail
    have g0 : (w3.alloc (.cells #[.slice A' n' c', .slice R' k' d', .int .i64 X.bank] 26)).cell? ⟨w3.heap.size, 0, none⟩ = some (.slice A' n' c') := (Box.new w3 _ _).cell 0
    have g1 : (w3.alloc (.cells #[.slice A' n' c', .slice R' k' d', .int .i64 X.bank] 26)).cell? ⟨w3.heap.size, 1, none⟩ = some (.slice R' k' d') := (Box.new w3 _ _).cell 1
    have g2 : (w3.alloc (.cells #[.slice A' n' c', .slice R' k' d', .int .i64 X.bank] 26)).cell? ⟨w3.heap.size, 2, none⟩ = some (.int .i64 X.bank) := (Box.new w3 _ _).cell 2
    have f0 : (w3.alloc (.cells #[.slice A' n' c', .slice R' k' d', .int .i64 X.bank] 26)).cell? ⟨w1.heap.size, 0, none⟩ = some (.slice A n c) := (Y3.out.alloc _).cell 0
    have f1 : (w3.alloc (.cells #[.slice A' n' c', .slice R' k' d', .int .i64 X.bank] 26)).cell? ⟨w1.heap.size, 1, none⟩ = some (.slice R k d) := (Y3.out.alloc _).cell 1
    have f2 : (w3.alloc (.cells #[.slice A' n' c', .slice R' k' d', .int .i64 X.bank] 26)).cell? ⟨w1.heap.size, 2, none⟩ = some (.int .i64 M.bank) := (Y3.out.alloc _).cell 2
    have H4 := Lib.hid (H3.out.below (below1 w3 (.cells #[.slice A' n' c', .slice R' k' d', .int .i64 X.bank] 26)))
    have X4 := Lib.hid (X3.out.below (below1 w3 (.cells #[.slice A' n' c', .slice R' k' d', .int .i64 X.bank] 26)))
    have J4 := Lib.hid (J3.out.below (below1 w3 (.cells #[.slice A' n' c', .slice R' k' d', .int .i64 X.bank] 26)))
    have B4 := Lib.hid (B3.out.alloc B3.out.size (.cells #[.slice A' n' c', .slice R' k' d', .int .i64 X.bank] 26))
    generalize w3.alloc (.cells #[.slice A' n' c', .slice R' k' d', .int .i64 X.bank] 26) = W4 at g0 g1 g2 f0 f1 f2 H4 X4 J4 B4
    clear H3 X3 J3 B3 Y3
    have KD : Hid (W4.drew.cell? ⟨w3.heap.size, 0, none⟩ = some (.slice A' n' c') ∧ W4.drew.cell? ⟨w3.heap.size, 1, none⟩ = some (.slice R' k' d') ∧ W4.drew.cell? ⟨w3.heap.size, 2, none⟩ = some (.int .i64 X.bank) ∧ W4.drew.cell? ⟨w1.heap.size, 0, none⟩ = some (.slice A n c) ∧ W4.drew.cell? ⟨w1.heap.size, 1, none⟩ = some (.slice R k d) ∧ W4.drew.cell? ⟨w1.heap.size, 2, none⟩ = some (.int .i64 M.bank)) := ⟨g0, g1, g2, f0, f1, f2⟩
    have HD : Hid (MemHere W4.drew A n c R k d M) := H4.out.below (Below.refl _ _).drew
    have XD : Hid (MemHere W4.drew A' n' c' R' k' d' X) := X4.out.below (Below.refl _ _).drew
    have JD : Hid (Ints W4.drew BA n M.ram fb) := J4.out.below (Below.refl _ _).drew
    have BD : Hid (Below w.heap.size w W4.drew) := B4.out.drew
    go_region_held3 (fun w' => w'.cell? ⟨w3.heap.size, 0, none⟩ = some (.slice A' n' c') ∧ w'.cell? ⟨w3.heap.size, 1, none⟩ = some (.slice R' k' d') ∧ w'.cell? ⟨w3.heap.size, 2, none⟩ = some (.int .i64 X.bank) ∧ w'.cell? ⟨w1.heap.size, 0, none⟩ = some (.slice A n c) ∧ w'.cell? ⟨w1.heap.size, 1, none⟩ = some (.slice R k d) ∧ w'.cell? ⟨w1.heap.size, 2, none⟩ = some (.int .i64 M.bank))
      (first
        | (with_reducible exact KD.out)
        | (with_reducible exact K5.out)
        | (with_reducible exact K6.out)
        | (with_reducible exact K7.out)
        | go_keep)
      (first
        | (go_at_call 10; ((with_reducible refine (same_ints _ _ _ _ _ _ _ _ _ I6.out J6.out hn6).mono ?_)); rintro e w7 ⟨rfl, m7, rfl⟩; have K7 : Hid ((w6.drewN m7).cell? ⟨w3.heap.size, 0, none⟩ = some (.slice A' n' c') ∧ (w6.drewN m7).cell? ⟨w3.heap.size, 1, none⟩ = some (.slice R' k' d') ∧ (w6.drewN m7).cell? ⟨w3.heap.size, 2, none⟩ = some (.int .i64 X.bank) ∧ (w6.drewN m7).cell? ⟨w1.heap.size, 0, none⟩ = some (.slice A n c) ∧ (w6.drewN m7).cell? ⟨w1.heap.size, 1, none⟩ = some (.slice R k d) ∧ (w6.drewN m7).cell? ⟨w1.heap.size, 2, none⟩ = some (.int .i64 M.bank)) := K6.out; have H7 := Lib.hid (H6.out.drew m7); have X7 := Lib.hid (X6.out.drew m7); have B7 := Lib.hid (below_drewN B6.out m7))
        | (go_at_call 8; ((with_reducible refine (hs_same (M := X) X5.out Z5.out).mono ?_)); rintro e w6 ⟨rfl, b_⟩; have J6 := Lib.hid (J5.out.below b_); have K6 : Hid (w6.cell? ⟨w3.heap.size, 0, none⟩ = some (.slice A' n' c') ∧ w6.cell? ⟨w3.heap.size, 1, none⟩ = some (.slice R' k' d') ∧ w6.cell? ⟨w3.heap.size, 2, none⟩ = some (.int .i64 X.bank) ∧ w6.cell? ⟨w1.heap.size, 0, none⟩ = some (.slice A n c) ∧ w6.cell? ⟨w1.heap.size, 1, none⟩ = some (.slice R k d) ∧ w6.cell? ⟨w1.heap.size, 2, none⟩ = some (.int .i64 M.bank)) := ⟨keeps b_ K5.out.1, keeps b_ K5.out.2.1, keeps b_ K5.out.2.2.1, keeps b_ K5.out.2.2.2.1, keeps b_ K5.out.2.2.2.2.1, keeps b_ K5.out.2.2.2.2.2⟩; have H6 := Lib.hid (H5.out.below b_); have X6 := Lib.hid (X5.out.below b_); have B6 := Lib.hid (below_then B5.out b_); clear b_; obtain ⟨fa6, fr6, hi6, _, hn6, _⟩ := H6.out.parts; have I6 := Lib.hid hi6; clear hi6)
        | (go_at_call 9; ((with_reducible refine (hw_spec HD.out _ _).mono ?_)); intro e w5 hw5; rw [HX.out] at hw5; obtain ⟨A5, n5, c5, R5, k5, d5, rfl, hz5, b_⟩ := hw5.here HSM.out; have Z5 := Lib.hid hz5; clear hw5 hz5; have J5 := Lib.hid (JD.out.below b_); have K5 : Hid (w5.cell? ⟨w3.heap.size, 0, none⟩ = some (.slice A' n' c') ∧ w5.cell? ⟨w3.heap.size, 1, none⟩ = some (.slice R' k' d') ∧ w5.cell? ⟨w3.heap.size, 2, none⟩ = some (.int .i64 X.bank) ∧ w5.cell? ⟨w1.heap.size, 0, none⟩ = some (.slice A n c) ∧ w5.cell? ⟨w1.heap.size, 1, none⟩ = some (.slice R k d) ∧ w5.cell? ⟨w1.heap.size, 2, none⟩ = some (.int .i64 M.bank)) := ⟨keeps b_ KD.out.1, keeps b_ KD.out.2.1, keeps b_ KD.out.2.2.1, keeps b_ KD.out.2.2.2.1, keeps b_ KD.out.2.2.2.2.1, keeps b_ KD.out.2.2.2.2.2⟩; have H5 := Lib.hid (HD.out.below b_); have X5 := Lib.hid (XD.out.below b_); have B5 := Lib.hid (below_then BD.out b_); clear b_))
    clear g0 g1 g2 f0 f1 f2
    generalize w6.drewN m7 = w7 at K7 H7 X7 B7
    obtain ⟨g0, g1, g2, f0, f1, f2⟩ := K7.out
    go_wp2_with fail
    refine (hv_spec H7.out).mono ?_; rintro e w8 ⟨rfl, b_⟩
    have K8 : Hid (w8.cell? ⟨w3.heap.size, 0, none⟩ = some (.slice A' n' c') ∧ w8.cell? ⟨w3.heap.size, 1, none⟩ = some (.slice R' k' d') ∧ w8.cell? ⟨w3.heap.size, 2, none⟩ = some (.int .i64 X.bank) ∧ w8.cell? ⟨w1.heap.size, 0, none⟩ = some (.slice A n c) ∧ w8.cell? ⟨w1.heap.size, 1, none⟩ = some (.slice R k d) ∧ w8.cell? ⟨w1.heap.size, 2, none⟩ = some (.int .i64 M.bank)) := ⟨keeps b_ K7.out.1, keeps b_ K7.out.2.1, keeps b_ K7.out.2.2.1, keeps b_ K7.out.2.2.2.1, keeps b_ K7.out.2.2.2.2.1, keeps b_ K7.out.2.2.2.2.2⟩
    have H8 := Lib.hid (H7.out.below b_)
    have X8 := Lib.hid (X7.out.below b_)
    have B8 := Lib.hid (below_then B7.out b_)
    clear b_
    clear g0 g1 g2 f0 f1 f2
    by_cases hval : validB M = true
    · rw [hval]
      by_cases hx0 : x < 0
      · have HZ := HW0.out (.inr (.inl hx0))
        obtain rfl : n' = 0 := by rw [← rl'.1, HZ]; rfl
        obtain rfl : k' = 0 := by rw [← ml'.1, HZ]; rfl
        obtain ⟨g0, g1, g2, f0, f1, f2⟩ := K8.out
        clear hval HZ
        go_wp2_with fail
        refine (alive_any _).mono ?_; rintro e w' ⟨rfl, rfl⟩
        go_wp2_with fail
        go_ret
        exact ⟨rfl, B8.out⟩
      · have hxd : decide (x < 0) = false := by simpa using hx0
        by_cases hx1 : 1023 < x
        · have HZ := HW0.out (.inr (.inr (.inl hx1)))
          obtain rfl : n' = 0 := by rw [← rl'.1, HZ]; rfl
          obtain rfl : k' = 0 := by rw [← ml'.1, HZ]; rfl
          obtain ⟨g0, g1, g2, f0, f1, f2⟩ := K8.out
          clear hval HZ hx0
          go_wp2_with fail
          refine (alive_any _).mono ?_; rintro e w' ⟨rfl, rfl⟩
          go_wp2_with fail
          go_ret
          exact ⟨rfl, B8.out⟩
        · have hxe : decide (1023 < x) = false := by simpa using hx1
          have hy0 : 0 ≤ x := by omega
          have hy1 : x ≤ 1023 := by omega
          clear hx0 hx1
          by_cases hb : 0 ≤ v ∧ v ≤ 255
          · obtain ⟨vb0, vb1⟩ := hb
            have WR := Lib.hid (HW1.out hval (by omega) (by omega) vb0 vb1)
            have gd := good_of hval
            have gx := good_of WR.out.valid
            obtain rfl : n = 256 := by rw [← rl.1]; exact gd.ram
            obtain rfl : n' = 256 := by rw [← rl'.1]; exact gx.ram
            obtain rfl : k = k' := by rw [← ml.1, ← ml'.1, WR.out.rom]
            have hk1 : 1 ≤ k := by rw [← ml.1]; exact gd.one
            obtain ⟨mb, mo, rfl, hm⟩ := H8.out.ramAt rfl
            obtain ⟨xb, xo, rfl, hxm⟩ := X8.out.ramAt rfl
            have HM := Lib.hid hm
            have HXM := Lib.hid hxm
            have HXV := Lib.hid WR.out.valid
            obtain ⟨g0, g1, g2, f0, f1, f2⟩ := K8.out
            have K8b : Hid (w8.cell? ⟨w3.heap.size, 0, none⟩ = some (.slice (some ⟨xb, xo, none⟩) 256 c') ∧ w8.cell? ⟨w3.heap.size, 1, none⟩ = some (.slice R' k d') ∧ w8.cell? ⟨w3.heap.size, 2, none⟩ = some (.int .i64 X.bank) ∧ w8.cell? ⟨w1.heap.size, 0, none⟩ = some (.slice (some ⟨mb, mo, none⟩) 256 c) ∧ w8.cell? ⟨w1.heap.size, 1, none⟩ = some (.slice R k d) ∧ w8.cell? ⟨w1.heap.size, 2, none⟩ = some (.int .i64 M.bank)) := ⟨g0, g1, g2, f0, f1, f2⟩
            clear hm hxm gd gx hval K8 rl rl'
            go_wp2_with fail
            refine (isByte_yes _ _ vb0 vb1).mono ?_; rintro e w' ⟨rfl, rfl⟩
            go_wp2_with fail
            go_loopw [9] (fun i wr => ∃ j m : Nat, j ≤ 256 ∧ i = .int .i64 j ∧ wr = w8.drewN m) (fun i _ => 256 - (intOf i).toNat)
            case atStart => exact ⟨0, 0, by omega, rfl, rfl⟩
            case round =>
              obtain ⟨j, m, hj, rfl, rfl⟩ := hrel
              by_cases hlt : j < 256
              · have r1 := HM.out j hlt
                have r2 := HXM.out j hlt
                have i0 : (0 : Int) ≤ (j : Int) := by omega
                have i1 : (j : Int) < 256 := by omega
                have hram := WR.out.ram j hlt
                by_cases he : X.ram.getD j 0 = M.ram.getD j 0
                · rw [he] at r2
                  generalize M.ram.getD j 0 = r at r1 r2
                  clear he hram
                  go_wp2
                  go_quiet (fail)
                  go_wp2
                  go_roundw
                  case rel => exact ⟨j + 1, _, by omega, by go_num, rfl⟩
                  case measure => simp [intOf]; omega
                · obtain ⟨hx5, hxm⟩ := hram.resolve_left he
                  have hne : (X.ram.getD j 0 != M.ram.getD j 0) = true := by simpa using he
                  have hd : decide (511 < x) = false := by simp; omega
                  have y : x.tmod 256 = (j : Int) := by rw [Int.tmod_eq_emod_of_nonneg hy0]; exact hxm
                  clear he hram hxm
                  generalize X.ram.getD j 0 = p at r2 hne
                  generalize M.ram.getD j 0 = r at r1 hne
                  go_wp2
                  go_quiet (fail)
                  go_wp2
                  go_roundw
                  case rel => exact ⟨j + 1, _, by omega, by go_num, rfl⟩
                  case measure => simp [intOf]; omega
              · obtain rfl : j = 256 := by omega
                go_wp2_with fail
                have KE0 : Hid ((w8.drewN m).cell? ⟨w3.heap.size, 0, none⟩ = some (.slice (some ⟨xb, xo, none⟩) 256 c') ∧ (w8.drewN m).cell? ⟨w3.heap.size, 1, none⟩ = some (.slice R' k d') ∧ (w8.drewN m).cell? ⟨w3.heap.size, 2, none⟩ = some (.int .i64 X.bank) ∧ (w8.drewN m).cell? ⟨w1.heap.size, 0, none⟩ = some (.slice (some ⟨mb, mo, none⟩) 256 c) ∧ (w8.drewN m).cell? ⟨w1.heap.size, 1, none⟩ = some (.slice R k d) ∧ (w8.drewN m).cell? ⟨w1.heap.size, 2, none⟩ = some (.int .i64 M.bank)) := K8b.out
                have HE0 := Lib.hid (H8.out.drew m)
                have XE0 := Lib.hid (X8.out.drew m)
                have BE0 := Lib.hid (below_drewN B8.out m)
                generalize w8.drewN m = W9 at KE0 HE0 XE0 BE0
                obtain ⟨fa9, fr9, _, hg9, _, hkb, hsb⟩ := HE0.out.parts
                obtain ⟨fa9', fr9', _, hg9', _, _, _⟩ := XE0.out.parts
                rw [WR.out.rom] at hg9'
                have HSB := Lib.hid hsb
                have VR := Lib.hid (fun u : Later W9 => same_rows R' R k d' d M.rom fr9' fr9 u.now (hg9'.below u.below) (hg9.below u.below) hkb HSB.out)
                have VV : Hid (∀ u : Later W9, Calls Try.prog 15 #[.agg #[.slice (some ⟨xb, xo, none⟩) 256 c', .slice R' k d', .int .i64 X.bank]] u.now fun e w' => e = .returned (.bool true) ∧ Below u.now.heap.size u.now w') := fun u => by have h := hv_impl (XE0.out.below u.below); rw [HXV.out] at h; exact h
                have c0 : ∀ u : Later W9, u.now.cell? ⟨w3.heap.size, 0, none⟩ = some (.slice (some ⟨xb, xo, none⟩) 256 c') := later_cell KE0.out.1
                have c1 : ∀ u : Later W9, u.now.cell? ⟨w3.heap.size, 1, none⟩ = some (.slice R' k d') := later_cell KE0.out.2.1
                have c2 : ∀ u : Later W9, u.now.cell? ⟨w3.heap.size, 2, none⟩ = some (.int .i64 X.bank) := later_cell KE0.out.2.2.1
                have c3 : ∀ u : Later W9, u.now.cell? ⟨w1.heap.size, 0, none⟩ = some (.slice (some ⟨mb, mo, none⟩) 256 c) := later_cell KE0.out.2.2.2.1
                have c4 : ∀ u : Later W9, u.now.cell? ⟨w1.heap.size, 1, none⟩ = some (.slice R k d) := later_cell KE0.out.2.2.2.2.1
                have c5 : ∀ u : Later W9, u.now.cell? ⟨w1.heap.size, 2, none⟩ = some (.int .i64 M.bank) := later_cell KE0.out.2.2.2.2.2
                have RD := Lib.hid (fun (u : Later W9) (a : Int) => hr_impl (XE0.out.below u.below) a)
                have BE : Hid (∀ u : Later W9, Below w.heap.size w u.now) := fun u => below_then BE0.out u.below
                clear hg9 hg9' g0 g1 g2 f0 f1 f2 hsb HM HXM H8 X8 B8 K8b HE0 XE0 BE0 KE0
                have hx3 : x ≤ 511 ∨ (512 ≤ x ∧ x < 768) ∨ 768 ≤ x := by omega
                rcases hx3 with hxa | hxa | hxa
                · have hd1 : decide (511 < x) = false := by simp; omega
                  have hd2 : x < 768 := by omega
                  have hd3 : decide (x < 768) = true := by simpa using hd2
                  have hbb : (X.bank == M.bank) = true := by simp [WR.out.low hd2]
                  have RR : Hid (∀ u : Later W9, Calls Try.prog 16 #[.agg #[.slice (some ⟨xb, xo, none⟩) 256 c', .slice R' k d', .int .i64 X.bank], .int .i64 x] u.now fun e w' => e = .returned (.int .i64 v) ∧ Below u.now.heap.size u.now w') := fun u => by have h := RD.out u x; rw [WR.out.read (by omega)] at h; exact h
                  clear hxa
                  refine wp_region_later (by kernel_rfl) (by kernel_rfl) ?_
                  repeat (go_big_quiet_step ((first
                    | (go_at_call 16; exact Calls.later (RR.out _))
                    | (go_at_call 15; exact Calls.later (VV.out _))
                    | (go_at_call 14; exact Calls.later_drew (VR.out _)))))
                  refine wpQuiet_nil ?_
                  rintro _ ⟨u, rfl⟩
                  have BU := Lib.hid (BE.out u)
                  generalize u.now = wu at BU
                  clear c0 c1 c2 c3 c4 c5 VR VV RD BE
                  go_wp2_with fail
                  go_ret
                  exact ⟨rfl, BU.out⟩
                · have hd1 : 511 < x := by omega
                  have hd2 : x < 768 := by omega
                  have hbb : (X.bank == M.bank) = true := by simp [WR.out.low hd2]
                  clear hxa
                  refine wp_region_later (by kernel_rfl) (by kernel_rfl) ?_
                  repeat (go_big_quiet_step ((first
                    | (go_at_call 15; exact Calls.later (VV.out _))
                    | (go_at_call 14; exact Calls.later_drew (VR.out _)))))
                  refine wpQuiet_nil ?_
                  rintro _ ⟨u, rfl⟩
                  have BU := Lib.hid (BE.out u)
                  generalize u.now = wu at BU
                  clear c0 c1 c2 c3 c4 c5 VR VV RD BE
                  go_wp2_with fail
                  go_ret
                  exact ⟨rfl, BU.out⟩
                · have hd1 : 511 < x := by omega
                  have hd2 : decide (x < 768) = false := by simp; omega
                  have hd3 : 768 ≤ x := by omega
                  obtain ⟨J, hJ⟩ : ∃ J : Nat, v % (k : Int) = (J : Int) := ⟨(v % (k : Int)).toNat, by have := Int.emod_nonneg v (show (k : Int) ≠ 0 by omega); omega⟩
                  have hbb : (X.bank == (J : Int)) = true := by rw [WR.out.high hd3, ml.1, hJ]; simp
                  have y4 : v.tmod (k : Int) = (J : Int) := by rw [Int.tmod_eq_emod_of_nonneg vb0]; exact hJ
                  have k3 : (0 : Int) < (k : Int) := by omega
                  have k5 : ¬ k = 0 := by omega
                  have k6 : ((k : Int) == 0) = false := by simp; omega
                  clear hJ hxa
                  refine wp_region_later (by kernel_rfl) (by kernel_rfl) ?_
                  repeat (go_big_quiet_step ((first
                    | (go_at_call 15; exact Calls.later (VV.out _))
                    | (go_at_call 14; exact Calls.later_drew (VR.out _)))))
                  refine wpQuiet_nil ?_
                  rintro _ ⟨u, rfl⟩
                  have BU := Lib.hid (BE.out u)
                  generalize u.now = wu at BU
                  clear c0 c1 c2 c3 c4 c5 VR VV RD BE
                  go_wp2_with fail
                  go_ret
                  exact ⟨rfl, BU.out⟩
          · have hbo : v < 0 ∨ 255 < v := by omega
            have HZ := HW0.out (by omega)
            obtain rfl : n' = 0 := by rw [← rl'.1, HZ]; rfl
            obtain rfl : k' = 0 := by rw [← ml'.1, HZ]; rfl
            obtain ⟨g0, g1, g2, f0, f1, f2⟩ := K8.out
            clear hb hval HZ
            go_wp2_with fail
            refine (isByte_no _ _ hbo).mono ?_; rintro e w' ⟨rfl, rfl⟩
            go_wp2_with fail
            refine (alive_any _).mono ?_; rintro e w' ⟨rfl, rfl⟩
            go_wp2_with fail
            go_ret
            exact ⟨rfl, B8.out⟩
    · have hvf : validB M = false := by simpa using hval
      rw [hvf]
      have HZ := HW0.out (.inl hvf)
      obtain rfl : n' = 0 := by rw [← rl'.1, HZ]; rfl
      obtain rfl : k' = 0 := by rw [← ml'.1, HZ]; rfl
      obtain ⟨g0, g1, g2, f0, f1, f2⟩ := K8.out
      clear hval HZ hvf
      go_wp2_with fail
      refine (alive_any _).mono ?_; rintro e w' ⟨rfl, rfl⟩
      go_wp2_with fail
      go_ret
      exact ⟨rfl, B8.out⟩
  · go_enter Try.func3, Try.ntmps3
    go_wp2_with fail
    go_ret
    exact ⟨rfl, Below.refl _ _⟩
end Go.Proofs.Ytlfmagjgplijgaa
