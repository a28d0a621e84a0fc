/- What the laws of chapter 11 draw. -/
import Derived.Test.YtpmeppknbpoibaaSprR
import Derived.Test.YtpmeppknbpoibaaGC
namespace Go.Proofs.Ytpmeppknbpoibaa
open Go.ChangeShapes Go.WideShapes Go.ChangeAt Go.RowKit
set_option linter.unusedVariables false

/-- Sprites and tiles as a law got them. -/
structure Got (w w' : World) (A : Option Addr) (n c : Nat) (S : List Spr) (fs : List Nat) (T : Option Addr) (m d : Nat) (zs : List Int) (ft : List Nat) : Prop where
  n1 : n ≤ 100
  nc : n ≤ c
  m1 : 1 ≤ m
  m4 : m ≤ 4
  md : m ≤ d
  hs : Sprs w' A n S fs
  ht : Ints w' T (64 * m) zs ft
  below : Below w.heap.size w w'
def SprGot (w : World) (e : Ending) (w' : World) : Prop := ∃ A n c S fs T m d zs ft, e = .returned (.tuple #[.slice A n c, .slice T m d]) ∧ Got w w' A n c S fs T m d zs ft
def SprGot1 (w : World) (e : Ending) (w' : World) : Prop := ∃ A n c S fs T m d zs ft, ∃ y : Int, e = .returned (.tuple #[.slice A n c, .slice T m d, .int .i64 y]) ∧ (-1 ≤ y ∧ y ≤ 16) ∧ Got w w' A n c S fs T m d zs ft
def SprGot2 (w : World) (e : Ending) (w' : World) : Prop := ∃ A n c S fs T m d zs ft, ∃ x y : Int, e = .returned (.tuple #[.slice A n c, .slice T m d, .int .i64 x, .int .i64 y]) ∧ Got w w' A n c S fs T m d zs ft
/-- Some number. -/
def TNum : Value → World → Prop := fun v _ => ∃ z : Int, v = .int .i64 z
theorem stab_tnum {S : List Nat} {D : World → Prop} : Stab (Rel S D) TNum := fun _ _ _ _ h => h
set_option maxRecDepth 100000 in
set_option maxHeartbeats 4000000 in
theorem xy_any14 (q m : Nat) (w : World) (h : Rd w q m) (hm : m ≤ 90000) : Calls Try.prog 52 #[.pointer (some ⟨q, 0, none⟩), .int .i64 14] w (fun e w' => ∃ x y : Int, e = .returned (.tuple #[.int .i64 x, .int .i64 y]) ∧ (-1 ≤ x ∧ x ≤ 32) ∧ (-1 ≤ y ∧ y ≤ 32) ∧ Only [q] w w' ∧ Rd w' q (m + 20)) := by
  have hq := h.lt
  have H := Lib.hid h
  clear h
  go_enter Try.func52, Try.ntmps52
  go_wp2_with fail
  refine (odd_any q m 14 _ H.out (by omega) (by omega) (by omega)).mono ?_
  rintro e w1 ⟨bb, rfl, s1, r1⟩
  have O1 := Lib.hid s1.only
  have R1 := Lib.hid r1
  have zq1 : q < w1.heap.size := R1.out.lt
  clear s1 r1 H
  have hqS : q ∈ [q] := by simp
  have hS1 : ∀ b ∈ [q], b < w1.heap.size := by simp; omega
  have hJ : Kept q (fun _ => True) := fun _ _ _ _ => trivial
  cases bb
  · go_wp2_with fail
    refine (pick_any q _ 32 _ R1.out (by omega) (by omega) (by omega)).mono ?_
    rintro e w2 ⟨x, x0, x1, rfl, s2, r2⟩
    have O2 := Lib.hid (O1.out.trans s2.only)
    have R2 := Lib.hid r2
    clear s2 r2 O1 R1
    go_wp2_with fail
    refine (pick_any q _ 16 _ R2.out (by omega) (by omega) (by omega)).mono ?_
    rintro e w3 ⟨y, y0, y1, rfl, s3, r3⟩
    have O3 := Lib.hid (O2.out.trans s3.only)
    have R3 := Lib.hid r3
    clear s3 r3 O2 R2
    go_wp2_with fail
    refine bodyPost_ret (v := .tuple #[.int .i64 x, .int .i64 y]) (by simp [results, Try.results52, go_sem]) rfl ?_
    exact ⟨x, y, rfl, by omega, by omega, O3.out, R3.out.mono (by omega)⟩
  · go_upto_region 2 with (fail)
    refine wp_region_typed (Cls [q] q (m + 1) w1 fun _ => True) (Rel [q] fun _ => True)
      (Ty [TL [q] 3 (-1) 32, TV (.pointer (some ⟨q, 0, none⟩)), TI 0 2, TP [q] (-1) 32, TI (-1) 32, TL [q] 3 (-1) 32, TV (.pointer (some ⟨q, 0, none⟩)), TI 0 2, TP [q] (-1) 32, TI (-1) 32, TI (-1) 32, TI (-1) 32])
      (by kernel_rfl) (by kernel_rfl) (stab_ty _ ⟨stab_tl _ _ _, stab_tv _, stab_ti _ _, stab_tp _ _, stab_ti _ _, stab_tl _ _ _, stab_tv _, stab_ti _ _, stab_tp _ _, stab_ti _ _, stab_ti _ _, stab_ti _ _, trivial⟩)
      ⟨(Only.refl _ w1).trans (.of_below (Below.refl _ _).drew), R1.out.stay (Below.refl _ _).drew, trivial⟩ ?_ ?_
    · refine ⟨?_, ?_, ?_, ?_, ?_, ?_, ?_, ?_, ?_, ?_, ?_, ?_, trivial⟩
      · refine ob_build rfl 3 (-1) 32 hqS hJ hJ hS1 (fun ρ wx hc hx hp => ?_) (fun _ _ h => h)
        refine ⟨#[.int .i64 (-1), .int .i64 32, .int .i64 3], ?_, ?_⟩
        · unfold execOp
          simp only [List.map_toArray, List.map_cons, List.map_nil, hc]
          clear hx hp hc
          go_simp
        · intro j hj
          have h : j = 0 ∨ j = 1 ∨ j = 2 := by omega
          rcases h with rfl | rfl | rfl <;> exact ⟨_, rfl, by omega, by omega⟩
      · exact ob_move rfl (.tmp 0) (.inl rfl) hqS hJ hJ fun ρ wx _ hx _ => hx 0 rfl
      · exact ob_pick rfl (.tmp 10) 3 _ rfl hqS hJ hJ (by simp; omega) (by omega) (by omega) (fun ρ wx hp => hp.1 rfl) (fun _ _ h => h)
      · exact ob_index rfl (.tmp 9) (.tmp 11) 3 (-1) 32 rfl hqS hJ hJ (fun ρ wx hp => ⟨hp.1 rfl, hp.2.1 rfl⟩) (fun _ _ h => h)
      · exact ob_load rfl (.tmp 12) (-1) 32 rfl hqS hJ hJ (fun ρ wx hp => hp.1 rfl) (fun _ _ h => h)
      · refine ob_build rfl 3 (-1) 32 hqS hJ hJ hS1 (fun ρ wx hc hx hp => ?_) (fun _ _ h => h)
        refine ⟨#[.int .i64 (-1), .int .i64 16, .int .i64 3], ?_, ?_⟩
        · unfold execOp
          simp only [List.map_toArray, List.map_cons, List.map_nil, hc]
          clear hx hp hc
          go_simp
        · intro j hj
          have h : j = 0 ∨ j = 1 ∨ j = 2 := by omega
          rcases h with rfl | rfl | rfl <;> exact ⟨_, rfl, by omega, by omega⟩
      · exact ob_move rfl (.tmp 0) (.inl rfl) hqS hJ hJ fun ρ wx _ hx _ => hx 0 rfl
      · exact ob_pick rfl (.tmp 15) 3 _ rfl hqS hJ hJ (by simp; omega) (by omega) (by omega) (fun ρ wx hp => hp.1 rfl) (fun _ _ h => h)
      · exact ob_index rfl (.tmp 14) (.tmp 16) 3 (-1) 32 rfl hqS hJ hJ (fun ρ wx hp => ⟨hp.1 rfl, hp.2.1 rfl⟩) (fun _ _ h => h)
      · exact ob_load rfl (.tmp 17) (-1) 32 rfl hqS hJ hJ (fun ρ wx hp => hp.1 rfl) (fun _ _ h => h)
      · exact ob_some rfl hqS hJ hJ fun ρ kk wx hI hc hx hp => by
          obtain ⟨z, hz, z0, z1⟩ : TI (-1) 32 (ρ (.tmp 13)) wx := hp.1 rfl
          refine ⟨.int .i64 z, ?_, z, rfl, z0, z1⟩
          unfold execOp
          simp only [hz]
          clear hx hp hc hI hz
          go_simp
      · exact ob_some rfl hqS hJ hJ fun ρ kk wx hI hc hx hp => by
          obtain ⟨z, hz, z0, z1⟩ : TI (-1) 32 (ρ (.tmp 18)) wx := hp.1 rfl
          refine ⟨.int .i64 z, ?_, z, rfl, z0, z1⟩
          unfold execOp
          simp only [hz]
          clear hx hp hc hI hz
          go_simp
    · intro vs wx hI hF
      obtain ⟨-, -, -, -, -, -, -, -, -, -, ⟨x, h10, x0, x1⟩, ⟨y, h11, y0, y1⟩, -⟩ := hF
      have O5 := Lib.hid (O1.out.trans hI.only)
      have R5 := Lib.hid hI.rd
      replace h10 : vs 10 = .int .i64 x := h10
      replace h11 : vs 11 = .int .i64 y := h11
      simp only [putAll, Act.put, List.setIfInBounds_toArray, List.set_cons_zero, List.set_cons_succ, h10, h11]
      clear hI h10 h11
      go_wp2_with fail
      refine bodyPost_ret (v := .tuple #[.int .i64 x, .int .i64 y]) (by simp [results, Try.results52, go_sem]) rfl ?_
      exact ⟨x, y, rfl, by omega, by omega, O5.out, R5.out.mono (by simp)⟩
set_option maxRecDepth 100000 in
set_option maxHeartbeats 4000000 in
theorem draw_spritesValid (a : Option Addr) (len cap : Nat) (zs0 : List Int) (w : World) (h : IsRow .u8 w a len cap zs0) : Calls Try.prog 13 #[.slice a len cap] w (SprGot w) := by
  go_enter Try.func13, Try.ntmps13
  go_wp2_with fail
  refine (open_any a len cap zs0 _ h).mono ?_
  rintro e w1 ⟨rfl, b1, r1⟩
  have B1 := Lib.hid b1
  have R1 := Lib.hid r1
  clear b1 r1 h
  obtain ⟨q, hq⟩ : ∃ q, w.heap.size = q := ⟨_, rfl⟩
  have HQ := Lib.hid hq
  rw [hq] at R1 ⊢
  have zq1 : q < w1.heap.size := R1.out.lt
  clear hq
  go_wp2_with fail
  refine (tiles_any q 0 20 _ R1.out (by omega) (by omega) (by omega)).mono ?_
  rintro e w2 ⟨T, m, d, zs, ft, rfl, m1, m4, hmd, ht, hnt, o2, r2⟩
  have R2 := Lib.hid r2
  have T2 := Lib.hid ht
  have NT := Lib.hid (fun b (hb : b ∈ ft) => (hnt.lt b hb).1)
  have B2 := Lib.hid (B1.out.trans (o2.below (B := w.heap.size) (fun b hb => by have := HQ.out; simp at hb; omega) B1.out.size))
  have zq2 : q < w2.heap.size := R2.out.lt
  clear r2 ht hnt o2 R1 B1
  go_wp2_with fail
  refine (sprites_any q (0 + 600) m 2 _ R2.out (by omega) (by omega) (by omega) (by omega) (by omega)).mono ?_
  rintro e w3 ⟨A, n, c, S, fs, rfl, n1, hnc, hs, hns, o3, r3⟩
  have R3 := Lib.hid r3
  have S3 := Lib.hid hs
  have NS := Lib.hid (fun b (hb : b ∈ fs) => (hns.lt b hb).1)
  have T3 := Lib.hid (T2.out.keep (.of_only o3 fun b hb hx => by have := NT.out b hb; simp at hx; omega))
  have B3 := Lib.hid (B2.out.trans (o3.below (B := w.heap.size) (fun b hb => by have := HQ.out; simp at hb; omega) B2.out.size))
  clear r3 hs hns o3 R2 B2 T2
  go_wp2_with fail
  exact bodyPost_ret (v := .tuple #[.slice A n c, .slice T m d]) (by simp [results, Try.results13, go_sem]) rfl ⟨A, n, c, S, fs, T, m, d, zs, ft, rfl, n1, hnc, m1, m4, hmd, S3.out, T3.out, B3.out⟩
set_option maxRecDepth 100000 in
set_option maxHeartbeats 4000000 in
theorem draw_spritesOnLine (a : Option Addr) (len cap : Nat) (zs0 : List Int) (w : World) (h : IsRow .u8 w a len cap zs0) : Calls Try.prog 17 #[.slice a len cap] w (SprGot1 w) := by
  go_enter Try.func17, Try.ntmps17
  go_wp2_with fail
  refine (open_any a len cap zs0 _ h).mono ?_
  rintro e w1 ⟨rfl, b1, r1⟩
  have B1 := Lib.hid b1
  have R1 := Lib.hid r1
  clear b1 r1 h
  obtain ⟨q, hq⟩ : ∃ q, w.heap.size = q := ⟨_, rfl⟩
  have HQ := Lib.hid hq
  rw [hq] at R1 ⊢
  have zq1 : q < w1.heap.size := R1.out.lt
  clear hq
  go_wp2_with fail
  refine (tiles_any q 0 40 _ R1.out (by omega) (by omega) (by omega)).mono ?_
  rintro e w2 ⟨T, m, d, zs, ft, rfl, m1, m4, hmd, ht, hnt, o2, r2⟩
  have R2 := Lib.hid r2
  have T2 := Lib.hid ht
  have NT := Lib.hid (fun b (hb : b ∈ ft) => (hnt.lt b hb).1)
  have B2 := Lib.hid (B1.out.trans (o2.below (B := w.heap.size) (fun b hb => by have := HQ.out; simp at hb; omega) B1.out.size))
  have zq2 : q < w2.heap.size := R2.out.lt
  clear r2 ht hnt o2 R1 B1
  go_wp2_with fail
  refine (sprites_any q (0 + 600) m 14 _ R2.out (by omega) (by omega) (by omega) (by omega) (by omega)).mono ?_
  rintro e w3 ⟨A, n, c, S, fs, rfl, n1, hnc, hs, hns, o3, r3⟩
  have R3 := Lib.hid r3
  have S3 := Lib.hid hs
  have NS := Lib.hid (fun b (hb : b ∈ fs) => (hns.lt b hb).1)
  have T3 := Lib.hid (T2.out.keep (.of_only o3 fun b hb hx => by have := NT.out b hb; simp at hx; omega))
  have B3 := Lib.hid (B2.out.trans (o3.below (B := w.heap.size) (fun b hb => by have := HQ.out; simp at hb; omega) B2.out.size))
  clear r3 hs hns o3 R2 B2 T2
  go_wp2_with fail
  refine (pick_any q _ 18 _ R3.out (by omega) (by omega) (by omega)).mono ?_
  rintro e w4 ⟨v, v0, v1, rfl, s4, r4⟩
  have S4 := Lib.hid (S3.out.keep (.of_only s4.only fun b hb hx => by have := NS.out b hb; simp at hx; omega))
  have T4 := Lib.hid (T3.out.keep (.of_only s4.only fun b hb hx => by have := NT.out b hb; simp at hx; omega))
  have B4 := Lib.hid (B3.out.trans (s4.only.below (B := w.heap.size) (fun b hb => by have := HQ.out; simp at hb; omega) B3.out.size))
  clear s4 r4 R3 S3 T3 B3
  have hw : IntKind.i64.wrap (v - 1) = v - 1 := by rw [IntKind.wrap_i64]; omega
  go_wp2_with fail
  exact bodyPost_ret (v := .tuple #[.slice A n c, .slice T m d, .int .i64 (v - 1)]) (by simp [results, Try.results17, go_sem]) rfl ⟨A, n, c, S, fs, T, m, d, zs, ft, v - 1, rfl, by omega, n1, hnc, m1, m4, hmd, S4.out, T4.out, B4.out⟩
set_option maxRecDepth 100000 in
set_option maxHeartbeats 4000000 in
theorem draw_spritesHidden (a : Option Addr) (len cap : Nat) (zs0 : List Int) (w : World) (h : IsRow .u8 w a len cap zs0) : Calls Try.prog 25 #[.slice a len cap] w (SprGot1 w) := by
  go_enter Try.func25, Try.ntmps25
  go_wp2_with fail
  refine (draw_spritesOnLine a len cap zs0 _ h).mono ?_
  rintro e w1 ⟨A, n, c, S, fs, T, m, d, zs, ft, y, rfl, hy, hg⟩
  have HG := Lib.hid hg
  clear hg h
  go_wp2_with fail
  exact bodyPost_ret (v := .tuple #[.slice A n c, .slice T m d, .int .i64 y]) (by simp [results, Try.results25, go_sem]) rfl ⟨A, n, c, S, fs, T, m, d, zs, ft, y, rfl, hy, HG.out⟩
set_option maxRecDepth 100000 in
set_option maxHeartbeats 4000000 in
theorem draw_spriteAt (a : Option Addr) (len cap : Nat) (zs0 : List Int) (w : World) (h : IsRow .u8 w a len cap zs0) : Calls Try.prog 22 #[.slice a len cap] w (SprGot2 w) := by
  go_enter Try.func22, Try.ntmps22
  go_wp2_with fail
  refine (open_any a len cap zs0 _ h).mono ?_
  rintro e w1 ⟨rfl, b1, r1⟩
  have B1 := Lib.hid b1
  have R1 := Lib.hid r1
  clear b1 r1 h
  obtain ⟨q, hq⟩ : ∃ q, w.heap.size = q := ⟨_, rfl⟩
  have HQ := Lib.hid hq
  rw [hq] at R1 ⊢
  have zq1 : q < w1.heap.size := R1.out.lt
  clear hq
  go_wp2_with fail
  refine (tiles_any q 0 40 _ R1.out (by omega) (by omega) (by omega)).mono ?_
  rintro e w2 ⟨T, m, d, zs, ft, rfl, m1, m4, hmd, ht, hnt, o2, r2⟩
  have R2 := Lib.hid r2
  have T2 := Lib.hid ht
  have NT := Lib.hid (fun b (hb : b ∈ ft) => (hnt.lt b hb).1)
  have B2 := Lib.hid (B1.out.trans (o2.below (B := w.heap.size) (fun b hb => by have := HQ.out; simp at hb; omega) B1.out.size))
  have zq2 : q < w2.heap.size := R2.out.lt
  clear r2 ht hnt o2 R1 B1
  go_wp2_with fail
  refine (sprites_any q (0 + 600) m 14 _ R2.out (by omega) (by omega) (by omega) (by omega) (by omega)).mono ?_
  rintro e w3 ⟨A, n, c, S, fs, rfl, n1, hnc, hs, hns, o3, r3⟩
  have R3 := Lib.hid r3
  have S3 := Lib.hid hs
  have NS := Lib.hid (fun b (hb : b ∈ fs) => (hns.lt b hb).1)
  have T3 := Lib.hid (T2.out.keep (.of_only o3 fun b hb hx => by have := NT.out b hb; simp at hx; omega))
  have B3 := Lib.hid (B2.out.trans (o3.below (B := w.heap.size) (fun b hb => by have := HQ.out; simp at hb; omega) B2.out.size))
  clear r3 hs hns o3 R2 B2 T2
  go_wp2_with fail
  refine (xy_any14 q _ _ R3.out (by omega)).mono ?_
  rintro e w4 ⟨x, y, rfl, _, _, o4, r4⟩
  have S4 := Lib.hid (S3.out.keep (.of_only o4 fun b hb hx => by have := NS.out b hb; simp at hx; omega))
  have T4 := Lib.hid (T3.out.keep (.of_only o4 fun b hb hx => by have := NT.out b hb; simp at hx; omega))
  have B4 := Lib.hid (B3.out.trans (o4.below (B := w.heap.size) (fun b hb => by have := HQ.out; simp at hb; omega) B3.out.size))
  have R4 := Lib.hid r4
  clear o4 r4 R3 S3 T3 B3
  by_cases hn0 : 0 < n
  · have hn1 : 0 < n := hn0
    have hn' : (0 : Int) < n := by omega
    go_wp2_with fail
    refine (pick_any q _ 2 _ R4.out (by omega) (by omega) (by omega)).mono ?_
    rintro e wr ⟨z, _, _, rfl, s5, r5⟩
    have S5 := Lib.hid (S4.out.keep (.of_only s5.only fun b hb hx => by have := NS.out b hb; simp at hx; omega))
    have T5 := Lib.hid (T4.out.keep (.of_only s5.only fun b hb hx => by have := NT.out b hb; simp at hx; omega))
    have B5 := Lib.hid (B4.out.trans (s5.only.below (B := w.heap.size) (fun b hb => by have := HQ.out; simp at hb; omega) B4.out.size))
    have RR := Lib.hid r5
    clear s5 r5 R4 S4 T4 B4
    by_cases hz : z = 0
    · subst hz
      obtain ⟨p, o, rfl, hfs, hpl, hcc⟩ := S5.out.at_ hn1
      have hpq : p ∉ [q] := by have := NS.out p (by rw [hfs]; simp); simp; omega
      have HCL : Hid (∀ wx, Only [q] wr wx → ∀ j v, (scs (S.getD 0 .zero))[j]? = some v → wx.cell? ⟨p, o + j, none⟩ = some v) := Lib.hid fun wx ho j v hv => by
        rw [World.cell?_of_block (a := ⟨p, o + j, none⟩) (ho.block p hpl hpq)]
        have := hcc 0 hn1 j v hv
        rwa [show o + (6 * 0 + j) = o + j by omega] at this
      obtain ⟨M, hM⟩ : ∃ M, M = 0 + 600 + 200 + 20 + 1 := ⟨_, rfl⟩
      have M9 : M ≤ 1000 := by omega
      rw [← hM] at RR
      clear hM hcc hpl hfs
      have hqS : q ∈ [q] := by simp
      have hJ : Kept q (fun _ => True) := fun _ _ _ _ => trivial
      go_wp2_with fail
      refine wp_region_typed (Cls [q] q M wr fun _ => True) (Rel [q] fun _ => True) (Ty [TV (.slice (some ⟨p, o, none⟩) n c), TV (.pointer (some ⟨p, o, none⟩)), TV (.pointer (some ⟨p, o, none⟩)), TV (.int .i64 (S.getD 0 .zero).x), TV (.pointer (some ⟨q, 0, none⟩)), TI 0 7, TNum, TNum])
        (by kernel_rfl) (by kernel_rfl) (stab_ty _ ⟨stab_tv _, stab_tv _, stab_tv _, stab_tv _, stab_tv _, stab_ti _ _, stab_tnum, stab_tnum, trivial⟩) ⟨(Only.refl _ wr).trans (.of_below (Below.refl _ _).drew), RR.out.stay (Below.refl _ _).drew, trivial⟩ ?_ ?_
      · refine ⟨?_, ?_, ?_, ?_, ?_, ?_, ?_, ?_, trivial⟩
        · exact ob_move rfl (.tmp 8) (.inl rfl) hqS hJ hJ fun ρ wx _ hx _ => hx 8 rfl
        · refine ob_val rfl (.pointer (some ⟨p, o, none⟩)) hqS hJ hJ fun ρ kk wx hI hc hx hp => ⟨?_, rfl⟩
          have h1 : ρ (.tmp 32) = .slice (some ⟨p, o, none⟩) n c := hp.1 rfl
          have h2 := hc (.int .i64 0)
          unfold execOp
          simp only [h1, h2]
          clear h1 h2 hx hc hI hp
          go_simp
        · refine ob_val rfl (.pointer (some ⟨p, o, none⟩)) hqS hJ hJ fun ρ kk wx hI hc hx hp => ⟨?_, rfl⟩
          have h1 : ρ (.tmp 33) = .pointer (some ⟨p, o, none⟩) := hp.1 rfl
          unfold execOp
          simp only [h1]
          clear h1 hx hc hI hp
          go_simp
        · refine ob_val rfl (.int .i64 (S.getD 0 .zero).x) hqS hJ hJ fun ρ kk wx hI hc hx hp => ⟨?_, rfl⟩
          have h1 : ρ (.tmp 34) = .pointer (some ⟨p, o, none⟩) := hp.1 rfl
          have c1 : wx.cell? ⟨p, o, none⟩ = some (.int .i64 (S.getD 0 .zero).x) := HCL.out wx hI.only 0 _ rfl
          unfold execOp
          simp only [h1]
          clear h1 hx hc hI hp
          go_simp
        · exact ob_move rfl (.tmp 6) (.inl rfl) hqS hJ hJ fun ρ wx _ hx _ => hx 6 rfl
        · exact ob_pick rfl (.tmp 36) 8 _ rfl hqS hJ hJ (by simp; omega) (by omega) (by omega) (fun ρ wx hp => hp.1 rfl) (fun _ _ h => h)
        · refine ob_some rfl hqS hJ hJ fun ρ kk wx hI hc hx hp => ?_
          have h1 : ρ (.tmp 35) = .int .i64 (S.getD 0 .zero).x := hp.1 rfl
          obtain ⟨z, h2, _, _⟩ : TI 0 7 (ρ (.tmp 37)) wx := hp.2.1 rfl
          refine ⟨.int .i64 (IntKind.i64.wrap ((S.getD 0 .zero).x + z)), ?_, _, rfl⟩
          unfold execOp
          simp only [h1, h2]
          clear h1 h2 hx hc hI hp
          go_simp
        · exact ob_move rfl (.tmp 38) (.inr rfl) hqS hJ hJ fun ρ wx _ hx hp => hp.1 rfl
      intro vs wx hI hF
      obtain ⟨-, -, -, -, -, -, -, ⟨x2, h7⟩, -⟩ := hF
      replace h7 : vs 7 = .int .i64 x2 := h7
      have OX := Lib.hid hI.only
      have RX := Lib.hid (hI.rd.mono (show _ ≤ M + 8 by simp))
      simp only [putAll, Act.put, List.setIfInBounds_toArray, List.set_cons_zero, List.set_cons_succ, h7]
      clear hI h7
      obtain ⟨wq, hwq⟩ : ∃ wq, wx = wq := ⟨_, rfl⟩
      subst hwq
      have S6 := Lib.hid (S5.out.keep (.of_only OX.out fun b hb hx => by have := NS.out b hb; simp at hx; omega))
      have T6 := Lib.hid (T5.out.keep (.of_only OX.out fun b hb hx => by have := NT.out b hb; simp at hx; omega))
      have B6 := Lib.hid (B5.out.trans (OX.out.below (B := w.heap.size) (fun b hb => by have := HQ.out; simp at hb; omega) B5.out.size))
      have HC2 : Hid (∀ wy, Only [q] wx wy → ∀ j v, (scs (S.getD 0 .zero))[j]? = some v → wy.cell? ⟨p, o + j, none⟩ = some v) := Lib.hid fun wy ho => HCL.out wy (OX.out.trans ho)
      clear HCL OX RR S5 T5 B5
      go_wp2_with fail
      refine wp_region_typed (Cls [q] q (M + 8) wx fun _ => True) (Rel [q] fun _ => True) (Ty [TV (.slice (some ⟨p, o, none⟩) n c), TV (.pointer (some ⟨p, o, none⟩)), TV (.pointer (some ⟨p, o + 1, none⟩)), TV (.int .i64 (S.getD 0 .zero).y), TV (.pointer (some ⟨q, 0, none⟩)), TI 0 7, TNum, TNum])
        (by kernel_rfl) (by kernel_rfl) (stab_ty _ ⟨stab_tv _, stab_tv _, stab_tv _, stab_tv _, stab_tv _, stab_ti _ _, stab_tnum, stab_tnum, trivial⟩) ⟨(Only.refl _ wx).trans (.of_below (Below.refl _ _).drew), RX.out.stay (Below.refl _ _).drew, trivial⟩ ?_ ?_
      · refine ⟨?_, ?_, ?_, ?_, ?_, ?_, ?_, ?_, trivial⟩
        · exact ob_move rfl (.tmp 8) (.inl rfl) hqS hJ hJ fun ρ wx _ hx _ => hx 8 rfl
        · refine ob_val rfl (.pointer (some ⟨p, o, none⟩)) hqS hJ hJ fun ρ kk wx hI hc hx hp => ⟨?_, rfl⟩
          have h1 : ρ (.tmp 39) = .slice (some ⟨p, o, none⟩) n c := hp.1 rfl
          have h2 := hc (.int .i64 0)
          unfold execOp
          simp only [h1, h2]
          clear h1 h2 hx hc hI hp
          go_simp
        · refine ob_val rfl (.pointer (some ⟨p, o + 1, none⟩)) hqS hJ hJ fun ρ kk wx hI hc hx hp => ⟨?_, rfl⟩
          have h1 : ρ (.tmp 40) = .pointer (some ⟨p, o, none⟩) := hp.1 rfl
          unfold execOp
          simp only [h1]
          clear h1 hx hc hI hp
          go_simp
        · refine ob_val rfl (.int .i64 (S.getD 0 .zero).y) hqS hJ hJ fun ρ kk wx hI hc hx hp => ⟨?_, rfl⟩
          have h1 : ρ (.tmp 41) = .pointer (some ⟨p, o + 1, none⟩) := hp.1 rfl
          have c1 : wx.cell? ⟨p, o + 1, none⟩ = some (.int .i64 (S.getD 0 .zero).y) := HC2.out wx hI.only 1 _ rfl
          unfold execOp
          simp only [h1]
          clear h1 hx hc hI hp
          go_simp
        · exact ob_move rfl (.tmp 6) (.inl rfl) hqS hJ hJ fun ρ wx _ hx _ => hx 6 rfl
        · exact ob_pick rfl (.tmp 43) 8 _ rfl hqS hJ hJ (by simp; omega) (by omega) (by omega) (fun ρ wx hp => hp.1 rfl) (fun _ _ h => h)
        · refine ob_some rfl hqS hJ hJ fun ρ kk wx hI hc hx hp => ?_
          have h1 : ρ (.tmp 42) = .int .i64 (S.getD 0 .zero).y := hp.1 rfl
          obtain ⟨z, h2, _, _⟩ : TI 0 7 (ρ (.tmp 44)) wx := hp.2.1 rfl
          refine ⟨.int .i64 (IntKind.i64.wrap ((S.getD 0 .zero).y + z)), ?_, _, rfl⟩
          unfold execOp
          simp only [h1, h2]
          clear h1 h2 hx hc hI hp
          go_simp
        · exact ob_move rfl (.tmp 45) (.inr rfl) hqS hJ hJ fun ρ wx _ hx hp => hp.1 rfl
      intro vs wz hI hF
      obtain ⟨-, -, -, -, -, -, -, ⟨y2, h7⟩, -⟩ := hF
      replace h7 : vs 7 = .int .i64 y2 := h7
      have OZ := Lib.hid hI.only
      clear RX
      simp only [putAll, Act.put, List.setIfInBounds_toArray, List.set_cons_zero, List.set_cons_succ, h7]
      clear hI h7
      have S5 := Lib.hid (S6.out.keep (.of_only OZ.out fun b hb hx => by have := NS.out b hb; simp at hx; omega))
      have T5 := Lib.hid (T6.out.keep (.of_only OZ.out fun b hb hx => by have := NT.out b hb; simp at hx; omega))
      have B5 := Lib.hid (B6.out.trans (OZ.out.below (B := w.heap.size) (fun b hb => by have := HQ.out; simp at hb; omega) B6.out.size))
      clear OZ S6 T6 B6
      go_wp2_with fail
      exact bodyPost_ret (v := .tuple #[.slice (some ⟨p, o, none⟩) n c, .slice T m d, .int .i64 x2, .int .i64 y2]) (by simp [results, Try.results22, go_sem]) rfl ⟨_, n, c, S, fs, T, m, d, zs, ft, x2, y2, rfl, n1, hnc, m1, m4, hmd, S5.out, T5.out, B5.out⟩
    · have hz' : decide (z = 0) = false := by simpa using hz
      go_wp2_with fail
      exact bodyPost_ret (v := .tuple #[.slice A n c, .slice T m d, .int .i64 x, .int .i64 y]) (by simp [results, Try.results22, go_sem]) rfl ⟨_, n, c, S, fs, T, m, d, zs, ft, x, y, rfl, n1, hnc, m1, m4, hmd, S5.out, T5.out, B5.out⟩
  · obtain rfl : n = 0 := by omega
    have S5 := S4
    have T5 := T4
    have B5 := B4
    go_wp2_with fail
    exact bodyPost_ret (v := .tuple #[.slice A 0 c, .slice T m d, .int .i64 x, .int .i64 y]) (by simp [results, Try.results22, go_sem]) rfl ⟨_, 0, c, S, fs, T, m, d, zs, ft, x, y, rfl, n1, hnc, m1, m4, hmd, S5.out, T5.out, B5.out⟩
end Go.Proofs.Ytpmeppknbpoibaa
