/- The law on touches, walked. -/
import Derived.Test.YtacebhncecninaaScnU
import Derived.Test.YtacebhncecninaaScnF
import Derived.Test.YtacebhncecninaaScnL
namespace Go.Proofs.Ytacebhncecninaa
open Go.ChangeShapes Go.WideShapes Go.ChangeAt Go.RowKit
set_option linter.unusedVariables false

/-- The first sprite alone. -/
theorem take_one {S : List Spr} (h : 0 < S.length) : S.take 1 = [S.getD 0 .zero] := by
  cases S with
  | nil => simp at h
  | cons s r => rfl
theorem lone_first {s : Spr} {nt : Nat} {zs : List Int} (h : sprB [s] nt zs = true) {x y : Nat} (hx : x < 32) (hy : y < 16) : decide ((atR [s] zs x y (atT [s] nt zs x y)).1 = 0) = decide (valF s zs x y ≠ 0) := by
  have e : atT [s] nt zs x y = atF [s] zs x y := by
    unfold atT
    rw [h, betB_iff.2 (show 0 ≤ (x : Int) ∧ (x : Int) ≤ 31 by omega), betB_iff.2 (show 0 ≤ (y : Int) ∧ (y : Int) ≤ 15 by omega)]
    rfl
  rw [e, ← dotF_on, dot_first]
  rfl
set_option maxRecDepth 100000 in
set_option maxHeartbeats 4000000 in
theorem draw_firstTouch (a : Option Addr) (len cap : Nat) (zs : List Int) (w : World) (h : IsRow .u8 w a len cap zs) : Calls Try.prog 36 #[.slice a len cap] w (ScnGot w) := by
  have H := Lib.hid (isRow_stays h (below1 w (.cells #[.int .i64 0, .slice none 0 0, .slice none 0 0, .int .i64 0, .int .i64 0, .slice none 0 0] 41)))
  clear h
  go_enter Try.func36, Try.ntmps36
  go_wp2_with fail
  refine (open_any a len cap zs _ H.out).mono ?_
  rintro e w1 ⟨rfl, b1, r1⟩
  have X1 : Hid (Box w1 w.heap.size 41 (ccs 0 none 0 0 none 0 0 0 0 none 0 0)) := Lib.hid ((Box.new w _ _).below b1)
  have B1 : Hid (Below w.heap.size w w1) := Lib.hid ((below1 w (.cells #[.int .i64 0, .slice none 0 0, .slice none 0 0, .int .i64 0, .int .i64 0, .slice none 0 0] 41)).trans (b1.mono (by simp)))
  have R1 := Lib.hid r1
  have zq : w.heap.size < (w.alloc (.cells #[.int .i64 0, .slice none 0 0, .slice none 0 0, .int .i64 0, .int .i64 0, .slice none 0 0] 41)).heap.size := by simp
  generalize (w.alloc (.cells #[.int .i64 0, .slice none 0 0, .slice none 0 0, .int .i64 0, .int .i64 0, .slice none 0 0] 41)).heap.size = q at R1 zq
  have zq1 : q < w1.heap.size := R1.out.lt
  clear b1 r1
  go_wp2_with fail
  refine (scene_any q 0 9 _ R1.out (by omega) (by omega) (by omega)).mono ?_
  rintro e w2 ⟨F, S, A, c, T, d, O, e0, fa, ft, fo, rfl, hx, ht, hs1, hxc, htd, hse, hf, hnew, o2, r2⟩
  have X2 := Lib.hid (X1.out.only o2 (by simp; omega))
  have B2 := Lib.hid (B1.out.trans (o2.below (B := w.heap.size) (fun b hb => by simp at hb; omega) B1.out.size))
  have z12 : w1.heap.size ≤ w2.heap.size := o2.size
  have R2 := Lib.hid r2
  have F2 := Lib.hid hf
  have N2 := Lib.hid hnew
  have zr : w.heap.size < w1.heap.size := X1.out.lt
  clear o2 r2 hf hnew X1 B1 R1
  go_wp2_with (first | (refine sc_store (by rfl) _ _ rfl w.heap.size rfl rfl _ X2.out rfl ?_))
  have RF : Hid (Box (w2.setRow w.heap.size (ccs F.w A F.xs.length c T F.nt d F.sx F.sy O S.length e0).toArray) w.heap.size 41 (ccs F.w A F.xs.length c T F.nt d F.sx F.sy O S.length e0)) := Lib.hid (Box.row X2.out)
  have o3 : Only [w.heap.size] w2 (w2.setRow w.heap.size (ccs F.w A F.xs.length c T F.nt d F.sx F.sy O S.length e0).toArray) := (Only.refl _ _).row (.inl (by simp)) _
  exact bodyPost_ret (scn_ret rfl rfl RF.out) rfl ⟨F, S, A, c, T, d, O, e0, fa, ft, fo, rfl, hx, ht, hs1, hxc, htd, hse, F2.out.stay o3 (fun b hb hx => by have := N2.out b hb; simp at hx; omega), below_row B2.out (Nat.le_refl _) _⟩
set_option maxRecDepth 100000 in
set_option maxHeartbeats 8000000 in
theorem walk_FnFirstTouch (a0 : Option Addr) (len0 cap0 : Nat) (z0 : List Int) (w : World) (w0 : IsRow .u8 w a0 len0 cap0 z0) :
    Calls Try.prog 8 #[.slice a0 len0 cap0] w fun e w' => e = .returned (.bool true) ∧ Below w.heap.size w w' := by
  have H := Lib.hid w0
  have hl := isRow_len w0
  clear w0
  by_cases hs : len0 ≤ 1048576
  · go_enter Try.func8, Try.ntmps8
    go_wp2_with fail
    refine (draw_firstTouch _ _ _ _ _ H.out).mono ?_; rintro e w1 ⟨F, S, A, c, T, d, O, e0, fa, ft, fo, rfl, hg⟩
    have hx1 := hg.x1
    have ht1 := hg.t1
    have hs1 := hg.s1
    have hxc := hg.xc
    have htd := hg.td
    have hse := hg.se
    have HS : Hid (SSmall F S) := Lib.hid ⟨⟨by omega, by omega⟩, by omega⟩
    obtain ⟨w2, hw2⟩ : ∃ W, W = w1.alloc (.cells #[.int .i64 F.w, .slice A F.xs.length c, .slice T F.nt d, .int .i64 F.sx, .int .i64 F.sy, .slice O S.length e0] 41) := ⟨_, rfl⟩
    have hbt : w.heap.size ≤ w1.heap.size := hg.below.size
    have X2 : Hid (Box w2 w1.heap.size 41 (ccs F.w A F.xs.length c T F.nt d F.sx F.sy O S.length e0)) := Lib.hid (by rw [hw2]; exact Box.new _ _ _)
    have H2 : Hid (SHas w2 A T O F S fa ft fo) := Lib.hid (by rw [hw2]; exact hg.has.below (below1 _ _))
    have B2 : Hid (Below w.heap.size w w2) := Lib.hid (by rw [hw2]; exact hg.below.alloc hg.below.size _)
    clear hg
    go_upto_region 4 with (fail)
    rw [← hw2]
    generalize w1.heap.size = bs at X2 hbt
    clear hw2
    go_wp2_with (first | (refine sc_load (by rfl) _ rfl bs rfl X2.out ?_))
    refine (im_scnTouch F A c T d S O e0 fa ft fo _ H2.out HS.out).mono ?_; rintro e w3 ⟨rfl, bl⟩
    obtain ⟨V, hV⟩ : ∃ V, touT F S = V := ⟨_, rfl⟩
    have HV := Lib.hid hV
    rw [hV]
    clear hV
    have X3 := Lib.hid (X2.out.below bl)
    have H3 := Lib.hid (H2.out.below bl)
    have B3 := Lib.hid (below_then B2.out bl)
    clear X2 H2 B2 bl
    go_wp2_with (first | (refine sc_load (by rfl) _ rfl bs rfl X3.out ?_))
    refine (spec_scnTouch F A c T d S O e0 fa ft fo _ H3.out HS.out).mono ?_; rintro e w4 ⟨rfl, bl⟩
    rw [HV.out]
    have X4 := Lib.hid (X3.out.below bl)
    have H4 := Lib.hid (H3.out.below bl)
    have B4 := Lib.hid (below_then B3.out bl)
    clear X3 H3 B3 bl
    go_wp2_with (first | (refine sc_load (by rfl) _ rfl bs rfl X4.out ?_))
    refine (spec_scnValid F A c T d S O e0 fa ft fo _ H4.out HS.out).mono ?_; rintro e w5 ⟨rfl, bl⟩
    have X5 := Lib.hid (X4.out.below bl)
    have H5 := Lib.hid (H4.out.below bl)
    have B5 := Lib.hid (below_then B4.out bl)
    clear X4 H4 B4 bl
    cases hv : scnB F S
    · obtain rfl : V = -1 := by rw [← HV.out]; unfold touT; rw [if_neg (by rw [hv]; simp)]
      clear hv
      go_wp2_with fail
      refine (alive_any _).mono ?_; rintro e w' ⟨rfl, rfl⟩
      go_wp2_with fail
      go_ret
      exact ⟨rfl, B5.out⟩
    · have HVN : Hid (noN (touF F S) = V) := Lib.hid (by rw [← HV.out]; unfold touT; rw [if_pos hv])
      have hboth : fldB F = true ∧ sprB S F.nt F.zs = true := by unfold scnB at hv; rwa [Bool.and_eq_true] at hv
      have HP1 := Lib.hid (spr_part hboth.2 0 1)
      have HVAL := Lib.hid hboth.1
      have hz := Lib.hid H5.out.1.2.1
      clear hv hboth HV
      have k5 := X5.out.cell 5
      by_cases hlen : 0 < S.length
      · have hl0 : decide ((S.length : Int) = 0) = false := decide_eq_false (by omega)
        have HL := Lib.hid hlen
        obtain ⟨p, o, rfl, _, hpl, hc⟩ := H5.out.2.at_ hlen
        clear hc
        have hse1 : (1 : Int) ≤ e0 := by omega
        have HT1 := Lib.hid (take_one hlen)
        go_wp2_with fail
        have hbe : ((S.length : Int) == 0) = false := by
          cases e : ((S.length : Int) == 0)
          · rfl
          · have := eq_of_beq e; omega
        rw [hbe]
        clear k5 hl0
        go_loopw [6] (fun i wr => ∃ k : Nat, k ≤ 512 ∧ i = .int .i64 k ∧ (∀ j, j < k → touK F S j = false) ∧ Below w5.heap.size w5 wr) (fun i _ => 512 - (intOf i).toNat)
        case atStart => exact ⟨0, by omega, rfl, fun j hj => by omega, Below.refl _ _⟩
        case round =>
          obtain ⟨k, hk, rfl, hall, hb⟩ := hrel
          have KR := Lib.hid hall
          have BR := Lib.hid hb
          clear hall hb
          by_cases h5 : k < 512
          · have i5 : (k : Int) < 512 := by omega
            have XR := Lib.hid (X5.out.below BR.out)
            have HR := Lib.hid (H5.out.below BR.out)
            have HIT : Hid (touK F S k = true → V = k) := Lib.hid fun h => by rw [← HVN.out, show touF F S = some k from find_hit h5 KR.out h]; rfl
            have HNX : Hid (touK F S k = false → ∀ j, j < k + 1 → touK F S j = false) := Lib.hid fun h j hj => by
              by_cases e : j = k
              · subst e; exact h
              · exact KR.out j (by omega)
            have hm32 : k % 32 < 32 := Nat.mod_lt _ (by omega)
            have hd32 : k / 32 < 16 := by omega
            have m1 : (k : Int).tmod 32 = ((k % 32 : Nat) : Int) := by rw [Int.tmod_eq_emod_of_nonneg (by omega)]; omega
            have q1 : (k : Int).tdiv 32 = ((k / 32 : Nat) : Int) := by rw [Int.tdiv_eq_ediv_of_nonneg (by omega)]; omega
            have m2 : IntKind.i64.wrap ((k % 32 : Nat) : Int) = ((k % 32 : Nat) : Int) := by rw [IntKind.wrap_i64]; omega
            have q2 : IntKind.i64.wrap ((k / 32 : Nat) : Int) = ((k / 32 : Nat) : Int) := by rw [IntKind.wrap_i64]; omega
            have HQP : Hid (pixT F ((k % 32 : Nat) : Int) ((k / 32 : Nat) : Int) = pixF F ((k % 32 : Nat) : Int) ((k / 32 : Nat) : Int)) := Lib.hid (pixT_yes HVAL.out (betB_iff.2 (by omega)) (betB_iff.2 (by omega)))
            have hqb := pixF_b (fldB_iff.1 HVAL.out) hz.out ((k % 32 : Nat) : Int) ((k / 32 : Nat) : Int)
            obtain ⟨s, hse0⟩ : ∃ s, S.getD 0 .zero = s := ⟨_, rfl⟩
            have HTB0 : Hid (touK F S k = (decide (valF s F.zs ((k % 32 : Nat) : Int) ((k / 32 : Nat) : Int) ≠ 0) && decide (pixF F ((k % 32 : Nat) : Int) ((k / 32 : Nat) : Int) ≠ 0))) := Lib.hid (by unfold touK tchB; rw [decide_eq_true HL.out, hse0]; rfl)
            have HS1 : Hid (Sprs wr (some ⟨p, o, none⟩) 1 [s] fo) := Lib.hid (by have := HR.out.2.part 0 1 (by omega) (by omega); rwa [List.drop_zero, HT1.out, hse0] at this)
            have HA := Lib.hid (lone_first (s := s) (nt := F.nt) (zs := F.zs) (by have := HP1.out; rwa [List.drop_zero, HT1.out, hse0] at this) hm32 hd32)
            have k2 := XR.out.cell 2
            clear hse0
            go_wp2_with fail
            clear k2
            refine (im_at (some ⟨p, o, none⟩) 1 e0 [s] fo T F.nt d F.zs ft ((k % 32 : Nat) : Int) ((k / 32 : Nat) : Int) _ HS1.out HR.out.1.2 (by omega) HS.out.1.2).mono ?_; rintro e w6 ⟨rfl, bl⟩
            have X6 := Lib.hid (XR.out.below bl)
            have H6 := Lib.hid (HR.out.below bl)
            have B6 := Lib.hid (below_then BR.out bl)
            clear bl XR HR BR HS1
            generalize atR [s] F.zs ((k % 32 : Nat) : Int) ((k / 32 : Nat) : Int) (atT [s] F.nt F.zs ((k % 32 : Nat) : Int) ((k / 32 : Nat) : Int)) = pr at HA ⊢
            obtain ⟨a, pp⟩ := pr
            unfold pairV
            replace HA : Hid (decide (a = 0) = decide (valF s F.zs ((k % 32 : Nat) : Int) ((k / 32 : Nat) : Int) ≠ 0)) := HA
            rw [← HA.out] at HTB0
            clear HA
            generalize pixF F ((k % 32 : Nat) : Int) ((k / 32 : Nat) : Int) = q at HTB0 hqb HQP
            by_cases ha : a = 0
            · subst ha
              go_wp2_with (first | (refine sc_back (by rfl) _ rfl bs rfl X6.out ?_))
              refine (im_fieldPixel F A c T d fa ft ((k % 32 : Nat) : Int) ((k / 32 : Nat) : Int) _ H6.out.1 HS.out.1).mono ?_; rintro e w7 ⟨rfl, bl⟩
              rw [HQP.out]
              have B7 := Lib.hid (below_then B6.out bl)
              clear bl
              by_cases hq : q = 0
              · subst hq
                have HN := Lib.hid (HNX.out (by rw [HTB0.out]; rfl))
                go_wp2_with fail
                go_roundw
                case rel => exact ⟨k + 1, by omega, by go_num, HN.out, B7.out⟩
                case measure => simp [intOf]; omega
              · obtain rfl : V = k := HIT.out (by rw [HTB0.out]; simp [hq])
                have hq0 : 0 < q := by omega
                go_wp2_with fail
                go_ret
                exact ⟨rfl, below_then B5.out B7.out⟩
            · have had : decide (a = 0) = false := decide_eq_false ha
              have HN := Lib.hid (HNX.out (by rw [HTB0.out, had]; rfl))
              go_wp2_with fail
              go_roundw
              case rel => exact ⟨k + 1, by omega, by go_num, HN.out, B6.out⟩
              case measure => simp [intOf]; omega
          · obtain rfl : k = 512 := by omega
            obtain rfl : V = -1 := by rw [← HVN.out, show touF F S = none from find_miss KR.out]; rfl
            go_wp2_with fail
            go_ret
            exact ⟨rfl, below_then B5.out BR.out⟩
      · have hl0 : S.length = 0 := by omega
        obtain rfl : V = -1 := by rw [← HVN.out, tou_none hl0]; rfl
        rw [hl0] at k5
        go_wp2_with fail
        refine (alive_any _).mono ?_; rintro e w' ⟨rfl, rfl⟩
        go_wp2_with fail
        go_ret
        exact ⟨rfl, B5.out⟩
  · have hs' : 1048576 < len0 := by omega
    go_enter Try.func8, Try.ntmps8
    go_wp2_with fail
    go_ret
    exact ⟨rfl, Below.refl _ _⟩
end Go.Proofs.Ytacebhncecninaa
