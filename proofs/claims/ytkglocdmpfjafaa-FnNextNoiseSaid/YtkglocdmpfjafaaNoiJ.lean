/- What the laws on noise draw: a state, a state and a number, two states. -/
import Derived.Test.YtkglocdmpfjafaaNoiA
import Derived.Test.YtkglocdmpfjafaaGC
import Derived.Deep.RegionLaw
import Derived.Deep.Cut
namespace Go.Proofs.Ytkglocdmpfjafaa
open Go.ChangeShapes Go.WideShapes Go.ChangeAt Go.RowKit
set_option linter.unusedVariables false

def NoiseDrawn (q m : Nat) (w : World) (e : Ending) (w' : World) : Prop := ∃ z : Int, e = .returned (.int .i64 z) ∧ (0 ≤ z ∧ z ≤ 32768) ∧ Only [q] w w' ∧ Rd w' q (m + 2)
theorem nxT_b (x : Int) : 0 ≤ nxT x ∧ nxT x ≤ 32767 := by
  unfold nxT
  by_cases h : betB x 1 32767 = true
  · rw [if_pos h]
    have h1 := betB_is.1 h
    have := nx_le (show x.toNat ≤ 32767 by omega)
    omega
  · rw [if_neg h]; omega
set_option maxRecDepth 100000 in
set_option maxHeartbeats 4000000 in
theorem noise_draw (q m : Nat) (w : World) (h : Rd w q m) (hm : m ≤ 100000) : Calls Try.prog 24 #[.pointer (some ⟨q, 0, none⟩)] w (NoiseDrawn q m w) := by
  have H := Lib.hid h
  clear h
  go_enter Try.func24, Try.ntmps24
  go_wp2_with fail
  refine (pick_any q _ 256 _ H.out (by omega) (by omega) (by omega)).mono ?_
  rintro e w2 ⟨x, x0, x1, rfl, s2, r2⟩
  have S2 := Lib.hid s2.only
  have R2 := Lib.hid r2
  have zq : q < w2.heap.size := r2.lt
  clear s2 r2 H
  go_wp2_with fail
  refine (pick_any q _ 9 _ ((R2.out.alloc _).alloc _) (by omega) (by omega) (by omega)).mono ?_
  rintro e w3 ⟨K0, v0, v1, rfl, s3, r3⟩
  have BA := Lib.hid (((Box.new w2 #[.int .i64 (1 + x * 127), .int .i64 1, .int .i64 32767, .int .i64 0, .int .i64 32768] 3).alloc (.cells #[.int .i64 0, .int .i64 0, .int .i64 0, .int .i64 0, .int .i64 0, .int .i64 1, .int .i64 2, .int .i64 3, .int .i64 4] 3)).only s3.only (by simp; omega))
  have BB := Lib.hid ((Box.new_at (w2.alloc (.cells #[.int .i64 (1 + x * 127), .int .i64 1, .int .i64 32767, .int .i64 0, .int .i64 32768] 3)) #[.int .i64 0, .int .i64 0, .int .i64 0, .int .i64 0, .int .i64 0, .int .i64 1, .int .i64 2, .int .i64 3, .int .i64 4] 3 (w2.heap.size + 1) (by simp)).only s3.only (by simp; omega))
  have O3 : Hid (Only [q] w w3) := Lib.hid (((S2.out.alloc _).alloc _).trans s3.only)
  have R3 := Lib.hid r3
  clear s3 r3 S2 R2
  obtain ⟨K, rfl⟩ : ∃ K : Nat, K0 = K := ⟨K0.toNat, by omega⟩
  have hK : K = 0 ∨ K = 1 ∨ K = 2 ∨ K = 3 ∨ K = 4 ∨ K = 5 ∨ K = 6 ∨ K = 7 ∨ K = 8 := by omega
  have a0 := BA.out.cell 0
  have a1 := BA.out.cell 1
  have a2 := BA.out.cell 2
  have a3 := BA.out.cell 3
  have a4 := BA.out.cell 4
  clear v0 v1
  rcases hK with rfl | rfl | rfl | rfl | rfl | rfl | rfl | rfl | rfl
  · have c := BB.out.cell 0
    go_wp2_with fail
    go_ret
    exact ⟨_, rfl, by omega, O3.out, R3.out⟩
  · have c := BB.out.cell 1
    go_wp2_with fail
    go_ret
    exact ⟨_, rfl, by omega, O3.out, R3.out⟩
  · have c := BB.out.cell 2
    go_wp2_with fail
    go_ret
    exact ⟨_, rfl, by omega, O3.out, R3.out⟩
  · have c := BB.out.cell 3
    go_wp2_with fail
    go_ret
    exact ⟨_, rfl, by omega, O3.out, R3.out⟩
  · have c := BB.out.cell 4
    go_wp2_with fail
    go_ret
    exact ⟨_, rfl, by omega, O3.out, R3.out⟩
  · have c := BB.out.cell 5
    go_wp2_with fail
    go_ret
    exact ⟨_, rfl, by omega, O3.out, R3.out⟩
  · have c := BB.out.cell 6
    go_wp2_with fail
    go_ret
    exact ⟨_, rfl, by omega, O3.out, R3.out⟩
  · have c := BB.out.cell 7
    go_wp2_with fail
    go_ret
    exact ⟨_, rfl, by omega, O3.out, R3.out⟩
  · have c := BB.out.cell 8
    go_wp2_with fail
    go_ret
    exact ⟨_, rfl, by omega, O3.out, R3.out⟩
def GotOne (w : World) (e : Ending) (w' : World) : Prop := ∃ x : Int, e = .returned (.int .i64 x) ∧ (0 ≤ x ∧ x ≤ 32768) ∧ Below w.heap.size w w'
def GotTwo (lo hi : Int) (w : World) (e : Ending) (w' : World) : Prop := ∃ x y : Int, e = .returned (.tuple #[.int .i64 x, .int .i64 y]) ∧ (0 ≤ x ∧ x ≤ 32768) ∧ (lo ≤ y ∧ y ≤ hi) ∧ Below w.heap.size w w'
set_option maxRecDepth 100000 in
set_option maxHeartbeats 4000000 in
theorem draw_NextNoise (a : Option Addr) (len cap : Nat) (zs : List Int) (w : World) (h : IsRow .u8 w a len cap zs) : Calls Try.prog 10 #[.slice a len cap] w (GotOne w) := by
  have H := Lib.hid h
  clear h
  go_enter Try.func10, Try.ntmps10
  go_wp2_with fail
  refine (open_any a len cap zs _ H.out).mono ?_
  rintro e w1 ⟨rfl, b1, r1⟩
  have B1 := Lib.hid b1
  have R1 := Lib.hid r1
  clear b1 r1
  obtain ⟨q, hq⟩ : ∃ q, w.heap.size = q := ⟨_, rfl⟩
  rw [hq] at R1 B1 ⊢
  have HQ := Lib.hid hq
  clear hq
  have zq : q < w1.heap.size := R1.out.lt
  go_wp2_with fail
  refine (noise_draw q 0 _ R1.out (by omega)).mono ?_
  rintro e w2 ⟨z, rfl, hz, o2, r2⟩
  have B2 := Lib.hid (B1.out.trans (o2.below (B := q) (fun b hb => by simp at hb; omega) (by omega)))
  have HZ := Lib.hid hz
  clear o2 r2 hz
  go_wp2_with fail
  go_ret
  exact ⟨z, rfl, HZ.out, by rw [HQ.out]; exact B2.out⟩
set_option maxRecDepth 100000 in
set_option maxHeartbeats 4000000 in
theorem draw_NoiseSamples (a : Option Addr) (len cap : Nat) (zs : List Int) (w : World) (h : IsRow .u8 w a len cap zs) : Calls Try.prog 14 #[.slice a len cap] w (GotTwo (-1) 401 w) := by
  have H := Lib.hid h
  clear h
  go_enter Try.func14, Try.ntmps14
  go_wp2_with fail
  refine (open_any a len cap zs _ H.out).mono ?_
  rintro e w0 ⟨rfl, b1, r1⟩
  have B0 := Lib.hid b1
  have R0 := Lib.hid r1
  clear b1 r1
  obtain ⟨q, hq⟩ : ∃ q, w.heap.size = q := ⟨_, rfl⟩
  rw [hq] at R0 B0 ⊢
  have HQ := Lib.hid hq
  clear hq
  have zq0 : q < w0.heap.size := R0.out.lt
  go_wp2_with fail
  refine (noise_draw q 0 _ R0.out (by omega)).mono ?_
  rintro e w1 ⟨s, rfl, hz, o2, r2⟩
  have B1 := Lib.hid (B0.out.trans (o2.below (B := q) (fun b hb => by simp at hb; omega) (by omega)))
  have HS := Lib.hid hz
  have R1 := Lib.hid r2
  clear o2 r2 hz R0 B0 zq0
  have zq : q < w1.heap.size := R1.out.lt
  have hS : ∀ b ∈ [q], b < w1.heap.size := by simp; omega
  have hJ : Kept q (fun _ => True) := fun _ _ _ _ => trivial
  have hD : Kept q (fun _ => True) := fun _ _ _ _ => trivial
  have hqS : q ∈ [q] := by simp
  go_upto_region 3 with (fail)
  refine wp_region_typed (Cls [q] q 1000 w1 fun _ => True) (Rel [q] fun _ => True)
    (Ty [TV (.int .i64 s), TV (.pointer (some ⟨q, 0, none⟩)), TI 0 59, TL [q] 3 (-1) 401, TL [q] 6 0 2, TV (.pointer (some ⟨q, 0, none⟩)), TI 0 5, TP [q] 0 2, TI 0 2, TP [q] (-1) 401, TI (-1) 401, TV (.int .i64 s), TI (-1) 401])
    (by kernel_rfl) (by kernel_rfl) (stab_ty _ ⟨stab_tv _, stab_tv _, stab_ti _ _, stab_tl _ _ _, stab_tl _ _ _, stab_tv _, stab_ti _ _, stab_tp _ _, stab_ti _ _, stab_tp _ _, stab_ti _ _, stab_tv _, stab_ti _ _, trivial⟩)
    ⟨(Only.refl _ w1).trans (.of_below (Below.refl _ _).drew), (R1.out.stay (Below.refl _ _).drew).mono (by omega), trivial⟩ ?_ ?_
  · refine ⟨?_, ?_, ?_, ?_, ?_, ?_, ?_, ?_, ?_, ?_, ?_, ?_, ?_, trivial⟩
    · exact ob_move rfl (.tmp 5) (.inl rfl) hqS hJ hD fun ρ wx _ hx _ => hx 5 rfl
    · exact ob_move rfl (.tmp 4) (.inl rfl) hqS hJ hD fun ρ wx _ hx _ => hx 4 rfl
    · exact ob_pick rfl (.tmp 11) 60 _ rfl hqS hJ hD (by simp <;> omega) (by omega) (by omega) (fun ρ wx hp => hp.1 rfl) (fun _ _ h => h)
    · refine ob_build rfl 3 (-1) 401 hqS hJ hD hS (fun ρ wx hc hx hp => ?_) (fun _ _ h => h)
      obtain ⟨z12, hz12, z12a, z12b⟩ : TI 0 59 (ρ (.tmp 12)) wx := hp.1 rfl
      refine ⟨#[.int .i64 z12, .int .i64 (-1), .int .i64 401], ?_, ?_⟩
      · unfold execOp
        simp only [List.map_toArray, List.map_cons, List.map_nil, hc, hz12]
        clear hx hp hc hz12
        go_simp
      · intro i hi
        have h : i = 0 ∨ i = 1 ∨ i = 2 := by omega
        rcases h with rfl | rfl | rfl <;> exact ⟨_, rfl, by omega, by omega⟩
    · refine ob_build rfl 6 0 2 hqS hJ hD hS (fun ρ wx hc hx hp => ?_) (fun _ _ h => h)
      refine ⟨#[.int .i64 0, .int .i64 0, .int .i64 0, .int .i64 0, .int .i64 1, .int .i64 2], ?_, ?_⟩
      · unfold execOp
        simp only [List.map_toArray, List.map_cons, List.map_nil, hc]
        clear hx hp hc
        go_simp
      · intro i hi
        have h : i = 0 ∨ i = 1 ∨ i = 2 ∨ i = 3 ∨ i = 4 ∨ i = 5 := by omega
        rcases h with rfl | rfl | rfl | rfl | rfl | rfl <;> exact ⟨_, rfl, by omega, by omega⟩
    · exact ob_move rfl (.tmp 4) (.inl rfl) hqS hJ hD fun ρ wx _ hx _ => hx 4 rfl
    · exact ob_pick rfl (.tmp 15) 6 _ rfl hqS hJ hD (by simp <;> omega) (by omega) (by omega) (fun ρ wx hp => hp.1 rfl) (fun _ _ h => h)
    · exact ob_index rfl (.tmp 14) (.tmp 16) 6 0 2 rfl hqS hJ hD (fun ρ wx hp => ⟨hp.1 rfl, hp.2.1 rfl⟩) (fun _ _ h => h)
    · exact ob_load rfl (.tmp 17) 0 2 rfl hqS hJ hD (fun ρ wx hp => hp.1 rfl) (fun _ _ h => h)
    · exact ob_index rfl (.tmp 13) (.tmp 18) 3 (-1) 401 rfl hqS hJ hD (fun ρ wx hp => ⟨hp.1 rfl, hp.2.1 rfl⟩) (fun _ _ h => h)
    · exact ob_load rfl (.tmp 19) (-1) 401 rfl hqS hJ hD (fun ρ wx hp => hp.1 rfl) (fun _ _ h => h)
    · exact ob_move rfl (.tmp 10) (.inr rfl) hqS hJ hD fun ρ wx _ hx hp => hp.1 rfl
    · exact ob_some rfl hqS hJ hD fun ρ kk wx hI hc hx hp => by
        obtain ⟨z, hz, z0, z1⟩ : TI (-1) 401 (ρ (.tmp 20)) wx := hp.1 rfl
        refine ⟨.int .i64 z, ?_, z, rfl, z0, z1⟩
        unfold execOp
        simp only [hz]
        clear hx hp hc hI hz
        go_simp
  · intro vs wx hI hF
    obtain ⟨-, -, -, -, -, -, -, -, -, -, -, h11, ⟨y, h12, y0, y1⟩, -⟩ := hF
    have B5 := Lib.hid (B1.out.trans (hI.only.below (B := q) (fun b hb => by simp at hb; omega) (by omega)))
    replace h11 : vs 11 = .int .i64 s := h11
    replace h12 : vs 12 = .int .i64 y := h12
    simp only [putAll, Act.put, List.setIfInBounds_toArray, List.set_cons_zero, List.set_cons_succ, h11, h12]
    clear hI h11 h12
    go_wp2_with fail
    refine bodyPost_ret (v := .tuple #[.int .i64 s, .int .i64 y]) (by simp [results, Try.results14, go_sem]) rfl ?_
    exact ⟨s, y, rfl, HS.out, ⟨by omega, by omega⟩, by rw [HQ.out]; exact B5.out⟩
set_option maxRecDepth 100000 in
set_option maxHeartbeats 4000000 in
theorem draw_NoiseDistance (a : Option Addr) (len cap : Nat) (zs : List Int) (w : World) (h : IsRow .u8 w a len cap zs) : Calls Try.prog 18 #[.slice a len cap] w (GotTwo 0 32768 w) := by
  have H := Lib.hid h
  clear h
  go_enter Try.func18, Try.ntmps18
  go_wp2_with fail
  refine (open_any a len cap zs _ H.out).mono ?_
  rintro e w0 ⟨rfl, b1, r1⟩
  have B0 := Lib.hid b1
  have R0 := Lib.hid r1
  clear b1 r1
  obtain ⟨q, hq⟩ : ∃ q, w.heap.size = q := ⟨_, rfl⟩
  rw [hq] at R0 B0 ⊢
  have HQ := Lib.hid hq
  clear hq
  have zq0 : q < w0.heap.size := R0.out.lt
  go_wp2_with fail
  refine (noise_draw q 0 _ R0.out (by omega)).mono ?_
  rintro e w1 ⟨s, rfl, hz, o2, r2⟩
  have B1 := Lib.hid (B0.out.trans (o2.below (B := q) (fun b hb => by simp at hb; omega) (by omega)))
  have HS := Lib.hid hz
  have R1 := Lib.hid r2
  clear o2 r2 hz R0 B0 zq0
  have zq1 : q < w1.heap.size := R1.out.lt
  go_wp2_with fail
  refine (pick_any q _ 40 _ R1.out (by omega) (by omega) (by omega)).mono ?_
  rintro e w2 ⟨K0, v0, v1, rfl, s2, r2⟩
  have B2 := Lib.hid (B1.out.trans (s2.only.below (B := q) (fun b hb => by simp at hb; omega) (by omega)))
  have R2 := Lib.hid r2
  clear s2 r2 R1 B1 zq1
  obtain ⟨K, rfl⟩ : ∃ K : Nat, K0 = K := ⟨K0.toNat, by omega⟩
  have hK : K ≤ 39 := by omega
  clear v0 v1
  have zq2 : q < w2.heap.size := R2.out.lt
  go_wp2_with fail
  go_loopw [6, 7] (fun v i wr => ∃ (z : Int) (r : Nat), v = .int .i64 z ∧ (0 ≤ z ∧ z ≤ 32768) ∧ i = .int .i64 (r : Int) ∧ r ≤ 39 ∧ wr = w2) (fun _ i _ => (intOf i).toNat)
  case atStart => exact ⟨s, K, rfl, HS.out, rfl, hK, rfl⟩
  case round =>
    obtain ⟨z, r, rfl, hz, rfl, hr, hw⟩ := hrel
    obtain rfl : w2 = wr := hw.symm
    have HZ := Lib.hid hz
    clear hz hw
    by_cases h0 : 0 < r
    · have r0 : 0 < (r : Int) := by omega
      have r1 : (r : Int) ≤ 39 := by omega
      go_wp2_with fail
      refine (spec_next z _).mono ?_; rintro e w' ⟨rfl, rfl⟩
      have HB := Lib.hid (nxT_b z)
      generalize nxT z = y at HB ⊢
      go_wp2_with fail
      go_roundw
      case rel => exact ⟨y, r - 1, rfl, by have := HB.out; omega, by go_num, by omega, trivial⟩
      case measure => simp [intOf]; omega
    · obtain rfl : r = 0 := by omega
      go_wp2_with fail
      refine (odd_any q _ 4 _ R2.out (by omega) (by omega) (by omega)).mono ?_
      rintro e w5 ⟨bb, rfl, s5, r5⟩
      have B5 := Lib.hid (B2.out.trans (s5.only.below (B := q) (fun b hb => by simp at hb; omega) (by omega)))
      have R5 := Lib.hid r5
      clear s5 r5 R2 B2
      have zq5 : q < w5.heap.size := R5.out.lt
      cases bb
      · go_wp2_with fail
        refine bodyPost_ret (v := .tuple #[.int .i64 s, .int .i64 z]) (by simp [results, Try.results18, go_sem]) rfl ?_
        exact ⟨s, z, rfl, HS.out, HZ.out, by rw [HQ.out]; exact B5.out⟩
      · go_wp2_with fail
        refine (noise_draw q _ _ R5.out (by omega)).mono ?_
        rintro e w6 ⟨y, rfl, hy, o6, r6⟩
        have B6 := Lib.hid (B5.out.trans (o6.below (B := q) (fun b hb => by simp at hb; omega) (by omega)))
        have HY := Lib.hid hy
        clear o6 r6 hy
        go_wp2_with fail
        refine bodyPost_ret (v := .tuple #[.int .i64 s, .int .i64 y]) (by simp [results, Try.results18, go_sem]) rfl ?_
        exact ⟨s, y, rfl, HS.out, HY.out, by rw [HQ.out]; exact B6.out⟩
end Go.Proofs.Ytkglocdmpfjafaa
