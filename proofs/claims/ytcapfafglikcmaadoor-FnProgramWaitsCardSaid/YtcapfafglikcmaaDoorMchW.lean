/- A machine run up to an address: the program's function and the model's. -/
import Derived.Test.YtcapfafglikcmaaDoorKK
import Derived.Test.YtcapfafglikcmaaDoorKL
namespace Go.Proofs.YtcapfafglikcmaaDoor
open Go.ChangeShapes Go.WideShapes Go.ChangeAt Go.RowKit

/-- A machine in new memory of its own, and a number. -/
def MachNew2 (X : Mach) (s : Int) (w : World) (e : Ending) (w' : World) : Prop := ∃ v, e = .returned (.tuple #[v, .int .i64 s]) ∧ MachNew X w (.returned v) w'
theorem until_stop (ad : Int) (f j : Nat) (X : Mach) (h : X.stop = true) : untilN ad f j X = (j, X) := by
  cases f with
  | zero => rfl
  | succ f => unfold untilN; rw [if_pos h]
theorem until_at (ad : Int) (f j : Nat) (X : Mach) (h : X.stop = false) (ha : (stepN X).at_ = ad) : untilN ad (f + 1) j X = (j + 1, stepN X) := by
  unfold untilN; rw [if_neg (by rw [h]; decide), if_pos ha]
theorem until_on (ad : Int) (f j : Nat) (X : Mach) (h : X.stop = false) (ha : ¬ (stepN X).at_ = ad) : untilN ad (f + 1) j X = untilN ad f (j + 1) (stepN X) := by
  rw [show untilN ad (f + 1) j X = if X.stop = true then (j, X) else if (stepN X).at_ = ad then (j + 1, stepN X) else untilN ad f (j + 1) (stepN X) from rfl, if_neg (by rw [h]; decide), if_neg ha]
theorem until_fin {X : Mach} {ad : Int} (hA : addrB ad = true) (hV : machB X = true) {U : Nat × Mach} {k : Nat} {Y : Mach} (hU : U = untilN ad 500 0 X) (h : U = (k, Y)) {UX : Mach} {US : Int} (hX : UX = untilX X ad) (hS : US = untilS X ad) : UX = Y ∧ US = (k : Int) := by
  rw [hX, hS]
  unfold untilX untilS
  rw [if_pos ⟨hA, hV⟩, if_pos ⟨hA, hV⟩, ← hU, h]
  exact ⟨rfl, rfl⟩
theorem untilX_fits (X : Mach) (ad : Int) : Fits (untilX X ad) 256 := by
  unfold untilX
  split
  · rename_i h
    have e := until_run ad X 500 0
    have e1 : (untilN ad 500 0 X).2 = runN X (untilN ad 500 0 X).1 := e.1
    have e3 : (untilN ad 500 0 X).1 ≤ 0 + 500 := e.2.1
    have e2 : (untilN ad 500 0 X).1 ≤ 500 := by omega
    rw [e1]
    exact fits_good (run_good h.2 _ e2)
  · exact fits_Z _
theorem untilS_bd (X : Mach) (ad : Int) : 0 ≤ untilS X ad ∧ untilS X ad ≤ 500 := by
  unfold untilS
  split
  · have e3 : (untilN ad 500 0 X).1 ≤ 0 + 500 := (until_run ad X 500 0).2.1
    omega
  · omega
set_option maxHeartbeats 4000000 in
theorem impl_until (A : Option Addr) (c : Nat) (R : Option Addr) (d : Nat) (B : Option Addr) (g : Nat) (n k m : Nat) (X : Mach) (ad : Int) (fa fr fb : List Nat) (w : World) (h : MHas w A n R k B m X fa fr fb) (f : Fits X 1000000000) (ho : Ops w) :
    Calls Tryd.prog 22 #[.agg #[.slice A n c, .slice R k d, .int .i64 X.mem.bank, .int .i64 X.a, .int .i64 X.at_, .bool X.carry, .slice B m g, .bool X.stop, .int .i64 X.cyc], .int .i64 ad] w (MachNew2 (untilX X ad) (untilS X ad) w) := by
  obtain ⟨U, hU⟩ : ∃ U, U = untilN ad 500 0 X := ⟨_, rfl⟩
  obtain ⟨UX, hUX⟩ : ∃ UX, UX = untilX X ad := ⟨_, rfl⟩
  obtain ⟨US, hUS⟩ : ∃ US, US = untilS X ad := ⟨_, rfl⟩
  rw [← hUX, ← hUS]
  have HUU := Lib.hid hU
  have HUX := Lib.hid hUX
  have HUS := Lib.hid hUS
  clear hU hUX hUS
  have hn := f.n h
  have hk := f.k h
  have hm := f.m h
  have H := Lib.hid h
  have HF := Lib.hid f
  have HO := Lib.hid ho
  have X0 : Hid (Box ((w.alloc (.cells #[.slice A n c, .slice R k d, .int .i64 X.mem.bank, .int .i64 X.a, .int .i64 X.at_, .bool X.carry, .slice B m g, .bool X.stop, .int .i64 X.cyc] 28)).alloc (.cells #[.slice none 0 0, .slice none 0 0, .int .i64 0, .int .i64 0, .int .i64 0, .bool false, .slice none 0 0, .bool false, .int .i64 0] 28)) w.heap.size 28 [.slice A n c, .slice R k d, .int .i64 X.mem.bank, .int .i64 X.a, .int .i64 X.at_, .bool X.carry, .slice B m g, .bool X.stop, .int .i64 X.cyc]) := (Box.new w _ _).alloc _
  have X1 : Hid (Box ((w.alloc (.cells #[.slice A n c, .slice R k d, .int .i64 X.mem.bank, .int .i64 X.a, .int .i64 X.at_, .bool X.carry, .slice B m g, .bool X.stop, .int .i64 X.cyc] 28)).alloc (.cells #[.slice none 0 0, .slice none 0 0, .int .i64 0, .int .i64 0, .int .i64 0, .bool false, .slice none 0 0, .bool false, .int .i64 0] 28)) (w.heap.size + 1) 28 [.slice none 0 0, .slice none 0 0, .int .i64 0, .int .i64 0, .int .i64 0, .bool false, .slice none 0 0, .bool false, .int .i64 0]) := Box.new_at (w.alloc _) _ _ _ (by simp)
  have B0 : Hid (Below w.heap.size w ((w.alloc (.cells #[.slice A n c, .slice R k d, .int .i64 X.mem.bank, .int .i64 X.a, .int .i64 X.at_, .bool X.carry, .slice B m g, .bool X.stop, .int .i64 X.cyc] 28)).alloc (.cells #[.slice none 0 0, .slice none 0 0, .int .i64 0, .int .i64 0, .int .i64 0, .bool false, .slice none 0 0, .bool false, .int .i64 0] 28))) := below2 w _ _
  have H0 := Lib.hid (h.below (below2 w (.cells #[.slice A n c, .slice R k d, .int .i64 X.mem.bank, .int .i64 X.a, .int .i64 X.at_, .bool X.carry, .slice B m g, .bool X.stop, .int .i64 X.cyc] 28) (.cells #[.slice none 0 0, .slice none 0 0, .int .i64 0, .int .i64 0, .int .i64 0, .bool false, .slice none 0 0, .bool false, .int .i64 0] 28)))
  clear h f ho
  go_enter Tryd.func22, Tryd.ntmps22
  go_wp2_with fail
  refine (isAddress_any _ _).mono ?_; rintro e w' ⟨rfl, rfl⟩
  rcases ha : addrB ad with _ | _
  · have HE := Lib.hid (show UX = machZ by rw [HUX.out]; unfold untilX; rw [ha]; simp)
    have HE2 := Lib.hid (show US = 0 by rw [HUS.out]; unfold untilS; rw [ha]; simp)
    clear ha
    go_wp2_with fail
    refine bodyPost_ret (v := .tuple #[.agg #[.slice none 0 0, .slice none 0 0, .int .i64 0, .int .i64 0, .int .i64 0, .bool false, .slice none 0 0, .bool false, .int .i64 0], .int .i64 0]) (by simp [results, Tryd.results22, go_sem]) rfl ?_
    refine ⟨_, by rw [HE2.out], ?_⟩
    rw [HE.out]
    exact machZ_new B0.out
  have HA := Lib.hid ha
  clear ha
  go_wp2_with fail
  refine (impl_machValid A c R d B g n k m X fa fr fb _ H0.out HF.out).mono ?_
  rintro e w1 ⟨rfl, b1⟩
  have Y0 := Lib.hid (X0.out.below b1)
  have Y1 := Lib.hid (X1.out.below b1)
  have B1 := Lib.hid (B0.out.trans (b1.mono B0.out.size))
  have H1 := Lib.hid (H0.out.below b1)
  have hz := Y1.out.lt
  clear b1 X0 X1 B0 H0
  have a0 : w1.cell? ⟨w.heap.size, 0, none⟩ = some (.slice A n c) := Y0.out.cell 0
  have a1 : w1.cell? ⟨w.heap.size, 1, none⟩ = some (.slice R k d) := Y0.out.cell 1
  have a2 : w1.cell? ⟨w.heap.size, 2, none⟩ = some (.int .i64 X.mem.bank) := Y0.out.cell 2
  have a3 : w1.cell? ⟨w.heap.size, 3, none⟩ = some (.int .i64 X.a) := Y0.out.cell 3
  have a4 : w1.cell? ⟨w.heap.size, 4, none⟩ = some (.int .i64 X.at_) := Y0.out.cell 4
  have a5 : w1.cell? ⟨w.heap.size, 5, none⟩ = some (.bool X.carry) := Y0.out.cell 5
  have a6 : w1.cell? ⟨w.heap.size, 6, none⟩ = some (.slice B m g) := Y0.out.cell 6
  have a7 : w1.cell? ⟨w.heap.size, 7, none⟩ = some (.bool X.stop) := Y0.out.cell 7
  have a8 : w1.cell? ⟨w.heap.size, 8, none⟩ = some (.int .i64 X.cyc) := Y0.out.cell 8
  have e0 : w1.cell? ⟨w.heap.size + 1, 0, none⟩ = some (.slice none 0 0) := Y1.out.cell 0
  have e1 : w1.cell? ⟨w.heap.size + 1, 1, none⟩ = some (.slice none 0 0) := Y1.out.cell 1
  have e2 : w1.cell? ⟨w.heap.size + 1, 2, none⟩ = some (.int .i64 0) := Y1.out.cell 2
  have e3 : w1.cell? ⟨w.heap.size + 1, 3, none⟩ = some (.int .i64 0) := Y1.out.cell 3
  have e4 : w1.cell? ⟨w.heap.size + 1, 4, none⟩ = some (.int .i64 0) := Y1.out.cell 4
  have e5 : w1.cell? ⟨w.heap.size + 1, 5, none⟩ = some (.bool false) := Y1.out.cell 5
  have e6 : w1.cell? ⟨w.heap.size + 1, 6, none⟩ = some (.slice none 0 0) := Y1.out.cell 6
  have e7 : w1.cell? ⟨w.heap.size + 1, 7, none⟩ = some (.bool false) := Y1.out.cell 7
  have e8 : w1.cell? ⟨w.heap.size + 1, 8, none⟩ = some (.int .i64 0) := Y1.out.cell 8
  have f0 := Y1.out.frozen 0
  have f1 := Y1.out.frozen 1
  have f2 := Y1.out.frozen 2
  have f3 := Y1.out.frozen 3
  have f4 := Y1.out.frozen 4
  have f5 := Y1.out.frozen 5
  have f6 := Y1.out.frozen 6
  have f7 := Y1.out.frozen 7
  have f8 := Y1.out.frozen 8
  rcases hv : machB X with _ | _
  · have HE := Lib.hid (show UX = machZ by rw [HUX.out]; unfold untilX; rw [hv]; simp)
    have HE2 := Lib.hid (show US = 0 by rw [HUS.out]; unfold untilS; rw [hv]; simp)
    clear hv
    go_wp2_with fail
    refine bodyPost_ret (v := .tuple #[.agg #[.slice none 0 0, .slice none 0 0, .int .i64 0, .int .i64 0, .int .i64 0, .bool false, .slice none 0 0, .bool false, .int .i64 0], .int .i64 0]) (by simp [results, Tryd.results22, go_sem, e0, e1, e2, e3, e4, e5, e6, e7, e8]) rfl ?_
    refine ⟨_, by rw [HE2.out], ?_⟩
    rw [HE.out]
    exact machZ_new (((((((((B1.out.setCell (show w.heap.size ≤ w.heap.size + 1 by omega) _).setCell (show w.heap.size ≤ w.heap.size + 1 by omega) _).setCell (show w.heap.size ≤ w.heap.size + 1 by omega) _).setCell (show w.heap.size ≤ w.heap.size + 1 by omega) _).setCell (show w.heap.size ≤ w.heap.size + 1 by omega) _).setCell (show w.heap.size ≤ w.heap.size + 1 by omega) _).setCell (show w.heap.size ≤ w.heap.size + 1 by omega) _).setCell (show w.heap.size ≤ w.heap.size + 1 by omega) _).setCell (show w.heap.size ≤ w.heap.size + 1 by omega) _)
  have HV := Lib.hid hv
  clear hv
  go_wp2_with fail
  refine (clone_mach A c R d B g n k m X fa fr fb _ H1.out HF.out).mono ?_
  rintro e w2 ⟨A2, n2, c2, R2, k2, d2, B2, m2, g2, fa2, fr2, fb2, rfl, hc, hh, hnw, b2, hown, hsole⟩
  have M2 := Lib.hid (machIn_new hc hh hnw hown hsole b2.size)
  have V1 := Lib.hid (Y1.out.below b2)
  have B2' := Lib.hid ((B1.out.trans (b2.mono B1.out.size)))
  have l1 := b2.size
  clear hc hh hnw b2 hown hsole a0 a1 a2 a3 a4 a5 a6 a7 a8 e0 e1 e2 e3 e4 e5 e6 e7 e8 f0 f1 f2 f3 f4 f5 f6 f7 f8
  go_upto_region 4 with (fail)
  go_wp2_with fail
  go_loopw [7] (fun i wr => ∃ j : Nat, j ≤ 500 ∧ i = .int .i64 j ∧ MachHere wr w2.heap.size (runN X j) w1.heap.size ∧ Box wr (w.heap.size + 1) 28 [.slice none 0 0, .slice none 0 0, .int .i64 0, .int .i64 0, .int .i64 0, .bool false, .slice none 0 0, .bool false, .int .i64 0] ∧ Below w.heap.size w wr ∧ untilN ad (500 - j) j (runN X j) = U) (fun i _ => 500 - (intOf i).toNat)
  case atStart => exact ⟨0, by omega, rfl, M2.out.here, V1.out.alloc _, B2'.out.alloc B2'.out.size _, HUU.out.symm⟩
  case round =>
    obtain ⟨j, hj, rfl, ⟨A3, c3, R3, d3, B3, g3, n3, k3, m3, fa3, fr3, fb3, hm3⟩, hb3, hbw, hun⟩ := hrel
    have M3 := Lib.hid hm3
    have Z3 := Lib.hid hb3
    have B3' := Lib.hid hbw
    have HU := Lib.hid hun
    have GR := Lib.hid (run_good HV.out j (by omega))
    have OR := Lib.hid (HO.out.below hbw)
    have e7 : wr.cell? ⟨w2.heap.size, 7, none⟩ = some (.bool (runN X j).stop) := hm3.box.cell 7
    clear hm3 hb3 hbw hun M2 V1
    rcases hs : (runN X j).stop with _ | _
    · rw [hs] at e7
      have HS := Lib.hid hs
      clear hs
      by_cases hlt : j < 500
      · have HL := Lib.hid hlt
        have h5 : (j : Int) < 500 := by omega
        have hd5 : decide ((j : Int) < 500) = true := by simpa using h5
        go_wp2_with fail
        refine (impl_step M3.out GR.out (by omega) OR.out).mono ?_
        rintro e w4 ⟨rfl, hh4, b4⟩
        obtain ⟨A3, c3, R3, d3, B3, g3, n3, k3, m3, fa3, fr3, fb3, hm4⟩ := hh4
        have M3 := Lib.hid (show MachIn w4 w2.heap.size A3 c3 R3 d3 B3 g3 n3 k3 m3 (runN X (j + 1)) fa3 fr3 fb3 w1.heap.size from hm4)
        have Z3 := Lib.hid (Z3.out.keep b4 (by omega))
        have B3' := Lib.hid (B3'.out.trans (b4.mono B1.out.size))
        have GZ := Lib.hid (run_good HV.out (j + 1) (by omega))
        obtain ⟨t, ht⟩ : ∃ t, t = (runN X (j + 1)).at_ := ⟨_, rfl⟩
        have HT := Lib.hid ht
        have t4 : w4.cell? ⟨w2.heap.size, 4, none⟩ = some (.int .i64 t) := by rw [ht]; exact M3.out.box.cell 4
        clear hm4 b4 e7 GR ht
        by_cases hat : t = ad
        · have hq : (t == ad) = true := by simp [hat]
          have HU2 := Lib.hid (show U = (j + 1, runN X (j + 1)) by
            rw [← HU.out, show 500 - j = (500 - (j + 1)) + 1 by omega]
            exact until_at ad _ j _ HS.out (by rw [← hat]; exact HT.out.symm))
          clear hat
          go_upto_region 9 with (fail)
          clear t4
          have HQ := Lib.hid (show U = (j + 1, runN X (j + 1)) from HU2.out)
          have HE1 := Lib.hid (show UX = runN X (j + 1) from (until_fin HA.out HV.out HUU.out HQ.out HUX.out HUS.out).1)
          have HE2 := Lib.hid (show US = ((j + 1 : Nat) : Int) from (until_fin HA.out HV.out HUU.out HQ.out HUX.out HUS.out).2)
          have GF := Lib.hid (fits_mono (show Fits (runN X (j + 1)) 256 from fits_good GZ.out) (show 256 ≤ 1000000000 by omega))
          obtain ⟨Y, hY⟩ : ∃ Y, Y = runN X (j + 1) := ⟨_, rfl⟩
          rw [← hY] at M3 HE1 GF
          have hl3 := Z3.out.lt
          clear hY HQ GZ
          have a0 : w4.cell? ⟨w2.heap.size, 0, none⟩ = some (.slice A3 n3 c3) := M3.out.box.cell 0
          have a1 : w4.cell? ⟨w2.heap.size, 1, none⟩ = some (.slice R3 k3 d3) := M3.out.box.cell 1
          have a2 : w4.cell? ⟨w2.heap.size, 2, none⟩ = some (.int .i64 Y.mem.bank) := M3.out.box.cell 2
          have a3 : w4.cell? ⟨w2.heap.size, 3, none⟩ = some (.int .i64 Y.a) := M3.out.box.cell 3
          have a4 : w4.cell? ⟨w2.heap.size, 4, none⟩ = some (.int .i64 Y.at_) := M3.out.box.cell 4
          have a5 : w4.cell? ⟨w2.heap.size, 5, none⟩ = some (.bool Y.carry) := M3.out.box.cell 5
          have a6 : w4.cell? ⟨w2.heap.size, 6, none⟩ = some (.slice B3 m3 g3) := M3.out.box.cell 6
          have a7 : w4.cell? ⟨w2.heap.size, 7, none⟩ = some (.bool Y.stop) := M3.out.box.cell 7
          have a8 : w4.cell? ⟨w2.heap.size, 8, none⟩ = some (.int .i64 Y.cyc) := M3.out.box.cell 8
          have e0 : w4.cell? ⟨w.heap.size + 1, 0, none⟩ = some (.slice none 0 0) := Z3.out.cell 0
          have e1 : w4.cell? ⟨w.heap.size + 1, 1, none⟩ = some (.slice none 0 0) := Z3.out.cell 1
          have e2 : w4.cell? ⟨w.heap.size + 1, 2, none⟩ = some (.int .i64 0) := Z3.out.cell 2
          have e3 : w4.cell? ⟨w.heap.size + 1, 3, none⟩ = some (.int .i64 0) := Z3.out.cell 3
          have e4 : w4.cell? ⟨w.heap.size + 1, 4, none⟩ = some (.int .i64 0) := Z3.out.cell 4
          have e5 : w4.cell? ⟨w.heap.size + 1, 5, none⟩ = some (.bool false) := Z3.out.cell 5
          have e6 : w4.cell? ⟨w.heap.size + 1, 6, none⟩ = some (.slice none 0 0) := Z3.out.cell 6
          have e7 : w4.cell? ⟨w.heap.size + 1, 7, none⟩ = some (.bool false) := Z3.out.cell 7
          have e8 : w4.cell? ⟨w.heap.size + 1, 8, none⟩ = some (.int .i64 0) := Z3.out.cell 8
          have f0 := Z3.out.frozen 0
          have f1 := Z3.out.frozen 1
          have f2 := Z3.out.frozen 2
          have f3 := Z3.out.frozen 3
          have f4 := Z3.out.frozen 4
          have f5 := Z3.out.frozen 5
          have f6 := Z3.out.frozen 6
          have f7 := Z3.out.frozen 7
          have f8 := Z3.out.frozen 8
          go_wp2_with fail
          refine bodyPost_ret (v := .tuple #[.agg #[.slice A3 n3 c3, .slice R3 k3 d3, .int .i64 Y.mem.bank, .int .i64 Y.a, .int .i64 Y.at_, .bool Y.carry, .slice B3 m3 g3, .bool Y.stop, .int .i64 Y.cyc], .int .i64 ((j + 1 : Nat) : Int)]) (by simp [results, Tryd.results22, go_sem, e0, e1, e2, e3, e4, e5, e6, e7, e8]) rfl ?_
          refine ⟨_, by rw [HE2.out], ?_⟩
          rw [HE1.out]
          refine mach_handed (w := w) (S := [w.heap.size + 1]) M3.out.cap M3.out.has M3.out.new ?_ (by intro b hb; simp at hb; omega) B1.out.size ?_
          · exact ((((((((((Only.refl _ w4).setCell (.inl (by simp)) _).setCell (.inl (by simp)) _).setCell (.inl (by simp)) _).setCell (.inl (by simp)) _).setCell (.inl (by simp)) _).setCell (.inl (by simp)) _).setCell (.inl (by simp)) _).setCell (.inl (by simp)) _).setCell (.inl (by simp)) _)
          · exact (((((((((B3'.out.setCell (show w.heap.size ≤ w.heap.size + 1 by omega) _).setCell (show w.heap.size ≤ w.heap.size + 1 by omega) _).setCell (show w.heap.size ≤ w.heap.size + 1 by omega) _).setCell (show w.heap.size ≤ w.heap.size + 1 by omega) _).setCell (show w.heap.size ≤ w.heap.size + 1 by omega) _).setCell (show w.heap.size ≤ w.heap.size + 1 by omega) _).setCell (show w.heap.size ≤ w.heap.size + 1 by omega) _).setCell (show w.heap.size ≤ w.heap.size + 1 by omega) _).setCell (show w.heap.size ≤ w.heap.size + 1 by omega) _)
        · have hq : (t == ad) = false := by simp [hat]
          have HU2 := Lib.hid (show untilN ad (500 - (j + 1)) (j + 1) (runN X (j + 1)) = U by
            rw [← HU.out, show 500 - j = (500 - (j + 1)) + 1 by omega]
            exact (until_on ad _ j _ HS.out (by rw [show (stepN (runN X j)).at_ = t from HT.out.symm]; exact hat)).symm)
          clear hat
          go_wp2_with fail
          go_roundw
          case rel => exact ⟨j + 1, by omega, by go_num, M3.out.here, Z3.out, B3'.out, HU2.out⟩
          case measure => simp [intOf]; omega
      · have HU2 := Lib.hid (show U = (j, runN X j) by rw [← HU.out, show 500 - j = 0 by omega]; rfl)
        have h5 : ¬ (j : Int) < 500 := by omega
        have hd5 : decide ((j : Int) < 500) = false := by simpa using h5
        have GZ := GR
        clear hlt GR
        go_upto_region 9 with (fail)
        clear e7
        have HQ := Lib.hid (show U = (j, runN X j) from HU2.out)
        have HE1 := Lib.hid (show UX = runN X j from (until_fin HA.out HV.out HUU.out HQ.out HUX.out HUS.out).1)
        have HE2 := Lib.hid (show US = ((j : Nat) : Int) from (until_fin HA.out HV.out HUU.out HQ.out HUX.out HUS.out).2)
        have GF := Lib.hid (fits_mono (show Fits (runN X j) 256 from fits_good GZ.out) (show 256 ≤ 1000000000 by omega))
        obtain ⟨Y, hY⟩ : ∃ Y, Y = runN X j := ⟨_, rfl⟩
        rw [← hY] at M3 HE1 GF
        have hl3 := Z3.out.lt
        clear hY HQ GZ
        have a0 : wr.cell? ⟨w2.heap.size, 0, none⟩ = some (.slice A3 n3 c3) := M3.out.box.cell 0
        have a1 : wr.cell? ⟨w2.heap.size, 1, none⟩ = some (.slice R3 k3 d3) := M3.out.box.cell 1
        have a2 : wr.cell? ⟨w2.heap.size, 2, none⟩ = some (.int .i64 Y.mem.bank) := M3.out.box.cell 2
        have a3 : wr.cell? ⟨w2.heap.size, 3, none⟩ = some (.int .i64 Y.a) := M3.out.box.cell 3
        have a4 : wr.cell? ⟨w2.heap.size, 4, none⟩ = some (.int .i64 Y.at_) := M3.out.box.cell 4
        have a5 : wr.cell? ⟨w2.heap.size, 5, none⟩ = some (.bool Y.carry) := M3.out.box.cell 5
        have a6 : wr.cell? ⟨w2.heap.size, 6, none⟩ = some (.slice B3 m3 g3) := M3.out.box.cell 6
        have a7 : wr.cell? ⟨w2.heap.size, 7, none⟩ = some (.bool Y.stop) := M3.out.box.cell 7
        have a8 : wr.cell? ⟨w2.heap.size, 8, none⟩ = some (.int .i64 Y.cyc) := M3.out.box.cell 8
        have e0 : wr.cell? ⟨w.heap.size + 1, 0, none⟩ = some (.slice none 0 0) := Z3.out.cell 0
        have e1 : wr.cell? ⟨w.heap.size + 1, 1, none⟩ = some (.slice none 0 0) := Z3.out.cell 1
        have e2 : wr.cell? ⟨w.heap.size + 1, 2, none⟩ = some (.int .i64 0) := Z3.out.cell 2
        have e3 : wr.cell? ⟨w.heap.size + 1, 3, none⟩ = some (.int .i64 0) := Z3.out.cell 3
        have e4 : wr.cell? ⟨w.heap.size + 1, 4, none⟩ = some (.int .i64 0) := Z3.out.cell 4
        have e5 : wr.cell? ⟨w.heap.size + 1, 5, none⟩ = some (.bool false) := Z3.out.cell 5
        have e6 : wr.cell? ⟨w.heap.size + 1, 6, none⟩ = some (.slice none 0 0) := Z3.out.cell 6
        have e7 : wr.cell? ⟨w.heap.size + 1, 7, none⟩ = some (.bool false) := Z3.out.cell 7
        have e8 : wr.cell? ⟨w.heap.size + 1, 8, none⟩ = some (.int .i64 0) := Z3.out.cell 8
        have f0 := Z3.out.frozen 0
        have f1 := Z3.out.frozen 1
        have f2 := Z3.out.frozen 2
        have f3 := Z3.out.frozen 3
        have f4 := Z3.out.frozen 4
        have f5 := Z3.out.frozen 5
        have f6 := Z3.out.frozen 6
        have f7 := Z3.out.frozen 7
        have f8 := Z3.out.frozen 8
        go_wp2_with fail
        refine bodyPost_ret (v := .tuple #[.agg #[.slice A3 n3 c3, .slice R3 k3 d3, .int .i64 Y.mem.bank, .int .i64 Y.a, .int .i64 Y.at_, .bool Y.carry, .slice B3 m3 g3, .bool Y.stop, .int .i64 Y.cyc], .int .i64 ((j : Nat) : Int)]) (by simp [results, Tryd.results22, go_sem, e0, e1, e2, e3, e4, e5, e6, e7, e8]) rfl ?_
        refine ⟨_, by rw [HE2.out], ?_⟩
        rw [HE1.out]
        refine mach_handed (w := w) (S := [w.heap.size + 1]) M3.out.cap M3.out.has M3.out.new ?_ (by intro b hb; simp at hb; omega) B1.out.size ?_
        · exact ((((((((((Only.refl _ wr).setCell (.inl (by simp)) _).setCell (.inl (by simp)) _).setCell (.inl (by simp)) _).setCell (.inl (by simp)) _).setCell (.inl (by simp)) _).setCell (.inl (by simp)) _).setCell (.inl (by simp)) _).setCell (.inl (by simp)) _).setCell (.inl (by simp)) _)
        · exact (((((((((B3'.out.setCell (show w.heap.size ≤ w.heap.size + 1 by omega) _).setCell (show w.heap.size ≤ w.heap.size + 1 by omega) _).setCell (show w.heap.size ≤ w.heap.size + 1 by omega) _).setCell (show w.heap.size ≤ w.heap.size + 1 by omega) _).setCell (show w.heap.size ≤ w.heap.size + 1 by omega) _).setCell (show w.heap.size ≤ w.heap.size + 1 by omega) _).setCell (show w.heap.size ≤ w.heap.size + 1 by omega) _).setCell (show w.heap.size ≤ w.heap.size + 1 by omega) _).setCell (show w.heap.size ≤ w.heap.size + 1 by omega) _)
    · rw [hs] at e7
      have HU2 := Lib.hid (show U = (j, runN X j) by rw [← HU.out]; exact until_stop ad _ j _ hs)
      have GZ := GR
      clear hs GR
      go_upto_region 9 with (fail)
      clear e7
      have HQ := Lib.hid (show U = (j, runN X j) from HU2.out)
      have HE1 := Lib.hid (show UX = runN X j from (until_fin HA.out HV.out HUU.out HQ.out HUX.out HUS.out).1)
      have HE2 := Lib.hid (show US = ((j : Nat) : Int) from (until_fin HA.out HV.out HUU.out HQ.out HUX.out HUS.out).2)
      have GF := Lib.hid (fits_mono (show Fits (runN X j) 256 from fits_good GZ.out) (show 256 ≤ 1000000000 by omega))
      obtain ⟨Y, hY⟩ : ∃ Y, Y = runN X j := ⟨_, rfl⟩
      rw [← hY] at M3 HE1 GF
      have hl3 := Z3.out.lt
      clear hY HQ GZ
      have a0 : wr.cell? ⟨w2.heap.size, 0, none⟩ = some (.slice A3 n3 c3) := M3.out.box.cell 0
      have a1 : wr.cell? ⟨w2.heap.size, 1, none⟩ = some (.slice R3 k3 d3) := M3.out.box.cell 1
      have a2 : wr.cell? ⟨w2.heap.size, 2, none⟩ = some (.int .i64 Y.mem.bank) := M3.out.box.cell 2
      have a3 : wr.cell? ⟨w2.heap.size, 3, none⟩ = some (.int .i64 Y.a) := M3.out.box.cell 3
      have a4 : wr.cell? ⟨w2.heap.size, 4, none⟩ = some (.int .i64 Y.at_) := M3.out.box.cell 4
      have a5 : wr.cell? ⟨w2.heap.size, 5, none⟩ = some (.bool Y.carry) := M3.out.box.cell 5
      have a6 : wr.cell? ⟨w2.heap.size, 6, none⟩ = some (.slice B3 m3 g3) := M3.out.box.cell 6
      have a7 : wr.cell? ⟨w2.heap.size, 7, none⟩ = some (.bool Y.stop) := M3.out.box.cell 7
      have a8 : wr.cell? ⟨w2.heap.size, 8, none⟩ = some (.int .i64 Y.cyc) := M3.out.box.cell 8
      have e0 : wr.cell? ⟨w.heap.size + 1, 0, none⟩ = some (.slice none 0 0) := Z3.out.cell 0
      have e1 : wr.cell? ⟨w.heap.size + 1, 1, none⟩ = some (.slice none 0 0) := Z3.out.cell 1
      have e2 : wr.cell? ⟨w.heap.size + 1, 2, none⟩ = some (.int .i64 0) := Z3.out.cell 2
      have e3 : wr.cell? ⟨w.heap.size + 1, 3, none⟩ = some (.int .i64 0) := Z3.out.cell 3
      have e4 : wr.cell? ⟨w.heap.size + 1, 4, none⟩ = some (.int .i64 0) := Z3.out.cell 4
      have e5 : wr.cell? ⟨w.heap.size + 1, 5, none⟩ = some (.bool false) := Z3.out.cell 5
      have e6 : wr.cell? ⟨w.heap.size + 1, 6, none⟩ = some (.slice none 0 0) := Z3.out.cell 6
      have e7 : wr.cell? ⟨w.heap.size + 1, 7, none⟩ = some (.bool false) := Z3.out.cell 7
      have e8 : wr.cell? ⟨w.heap.size + 1, 8, none⟩ = some (.int .i64 0) := Z3.out.cell 8
      have f0 := Z3.out.frozen 0
      have f1 := Z3.out.frozen 1
      have f2 := Z3.out.frozen 2
      have f3 := Z3.out.frozen 3
      have f4 := Z3.out.frozen 4
      have f5 := Z3.out.frozen 5
      have f6 := Z3.out.frozen 6
      have f7 := Z3.out.frozen 7
      have f8 := Z3.out.frozen 8
      go_wp2_with fail
      refine bodyPost_ret (v := .tuple #[.agg #[.slice A3 n3 c3, .slice R3 k3 d3, .int .i64 Y.mem.bank, .int .i64 Y.a, .int .i64 Y.at_, .bool Y.carry, .slice B3 m3 g3, .bool Y.stop, .int .i64 Y.cyc], .int .i64 ((j : Nat) : Int)]) (by simp [results, Tryd.results22, go_sem, e0, e1, e2, e3, e4, e5, e6, e7, e8]) rfl ?_
      refine ⟨_, by rw [HE2.out], ?_⟩
      rw [HE1.out]
      refine mach_handed (w := w) (S := [w.heap.size + 1]) M3.out.cap M3.out.has M3.out.new ?_ (by intro b hb; simp at hb; omega) B1.out.size ?_
      · exact ((((((((((Only.refl _ wr).setCell (.inl (by simp)) _).setCell (.inl (by simp)) _).setCell (.inl (by simp)) _).setCell (.inl (by simp)) _).setCell (.inl (by simp)) _).setCell (.inl (by simp)) _).setCell (.inl (by simp)) _).setCell (.inl (by simp)) _).setCell (.inl (by simp)) _)
      · exact (((((((((B3'.out.setCell (show w.heap.size ≤ w.heap.size + 1 by omega) _).setCell (show w.heap.size ≤ w.heap.size + 1 by omega) _).setCell (show w.heap.size ≤ w.heap.size + 1 by omega) _).setCell (show w.heap.size ≤ w.heap.size + 1 by omega) _).setCell (show w.heap.size ≤ w.heap.size + 1 by omega) _).setCell (show w.heap.size ≤ w.heap.size + 1 by omega) _).setCell (show w.heap.size ≤ w.heap.size + 1 by omega) _).setCell (show w.heap.size ≤ w.heap.size + 1 by omega) _).setCell (show w.heap.size ≤ w.heap.size + 1 by omega) _)
set_option maxHeartbeats 4000000 in
theorem spec_until (A : Option Addr) (c : Nat) (R : Option Addr) (d : Nat) (B : Option Addr) (g : Nat) (n k m : Nat) (X : Mach) (ad : Int) (fa fr fb : List Nat) (w : World) (h : MHas w A n R k B m X fa fr fb) (f : Fits X 1000000000) :
    Calls Tryd.prog 23 #[.agg #[.slice A n c, .slice R k d, .int .i64 X.mem.bank, .int .i64 X.a, .int .i64 X.at_, .bool X.carry, .slice B m g, .bool X.stop, .int .i64 X.cyc], .int .i64 ad] w (MachNew2 (untilX X ad) (untilS X ad) w) := by
  obtain ⟨U, hU⟩ : ∃ U, U = untilN ad 500 0 X := ⟨_, rfl⟩
  obtain ⟨UX, hUX⟩ : ∃ UX, UX = untilX X ad := ⟨_, rfl⟩
  obtain ⟨US, hUS⟩ : ∃ US, US = untilS X ad := ⟨_, rfl⟩
  rw [← hUX, ← hUS]
  have HUU := Lib.hid hU
  have HUX := Lib.hid hUX
  have HUS := Lib.hid hUS
  clear hU hUX hUS
  have hn := f.n h
  have hk := f.k h
  have hm := f.m h
  have H := Lib.hid h
  have HF := Lib.hid f
  have X0 : Hid (Box ((w.alloc (.cells #[.slice A n c, .slice R k d, .int .i64 X.mem.bank, .int .i64 X.a, .int .i64 X.at_, .bool X.carry, .slice B m g, .bool X.stop, .int .i64 X.cyc] 28)).alloc (.cells #[.slice none 0 0, .slice none 0 0, .int .i64 0, .int .i64 0, .int .i64 0, .bool false, .slice none 0 0, .bool false, .int .i64 0] 28)) w.heap.size 28 [.slice A n c, .slice R k d, .int .i64 X.mem.bank, .int .i64 X.a, .int .i64 X.at_, .bool X.carry, .slice B m g, .bool X.stop, .int .i64 X.cyc]) := (Box.new w _ _).alloc _
  have X1 : Hid (Box ((w.alloc (.cells #[.slice A n c, .slice R k d, .int .i64 X.mem.bank, .int .i64 X.a, .int .i64 X.at_, .bool X.carry, .slice B m g, .bool X.stop, .int .i64 X.cyc] 28)).alloc (.cells #[.slice none 0 0, .slice none 0 0, .int .i64 0, .int .i64 0, .int .i64 0, .bool false, .slice none 0 0, .bool false, .int .i64 0] 28)) (w.heap.size + 1) 28 [.slice none 0 0, .slice none 0 0, .int .i64 0, .int .i64 0, .int .i64 0, .bool false, .slice none 0 0, .bool false, .int .i64 0]) := Box.new_at (w.alloc _) _ _ _ (by simp)
  have B0 : Hid (Below w.heap.size w ((w.alloc (.cells #[.slice A n c, .slice R k d, .int .i64 X.mem.bank, .int .i64 X.a, .int .i64 X.at_, .bool X.carry, .slice B m g, .bool X.stop, .int .i64 X.cyc] 28)).alloc (.cells #[.slice none 0 0, .slice none 0 0, .int .i64 0, .int .i64 0, .int .i64 0, .bool false, .slice none 0 0, .bool false, .int .i64 0] 28))) := below2 w _ _
  have H0 := Lib.hid (h.below (below2 w (.cells #[.slice A n c, .slice R k d, .int .i64 X.mem.bank, .int .i64 X.a, .int .i64 X.at_, .bool X.carry, .slice B m g, .bool X.stop, .int .i64 X.cyc] 28) (.cells #[.slice none 0 0, .slice none 0 0, .int .i64 0, .int .i64 0, .int .i64 0, .bool false, .slice none 0 0, .bool false, .int .i64 0] 28)))
  clear h f
  go_enter Tryd.func23, Tryd.ntmps23
  go_wp2_with fail
  refine (spec_machValid A c R d B g n k m X fa fr fb _ H0.out HF.out).mono ?_
  rintro e w1 ⟨rfl, b1⟩
  have Y0 := Lib.hid (X0.out.below b1)
  have Y1 := Lib.hid (X1.out.below b1)
  have B1 := Lib.hid (B0.out.trans (b1.mono B0.out.size))
  have H1 := Lib.hid (H0.out.below b1)
  have hz := Y1.out.lt
  clear b1 X0 X1 B0 H0
  have a0 : w1.cell? ⟨w.heap.size, 0, none⟩ = some (.slice A n c) := Y0.out.cell 0
  have a1 : w1.cell? ⟨w.heap.size, 1, none⟩ = some (.slice R k d) := Y0.out.cell 1
  have a2 : w1.cell? ⟨w.heap.size, 2, none⟩ = some (.int .i64 X.mem.bank) := Y0.out.cell 2
  have a3 : w1.cell? ⟨w.heap.size, 3, none⟩ = some (.int .i64 X.a) := Y0.out.cell 3
  have a4 : w1.cell? ⟨w.heap.size, 4, none⟩ = some (.int .i64 X.at_) := Y0.out.cell 4
  have a5 : w1.cell? ⟨w.heap.size, 5, none⟩ = some (.bool X.carry) := Y0.out.cell 5
  have a6 : w1.cell? ⟨w.heap.size, 6, none⟩ = some (.slice B m g) := Y0.out.cell 6
  have a7 : w1.cell? ⟨w.heap.size, 7, none⟩ = some (.bool X.stop) := Y0.out.cell 7
  have a8 : w1.cell? ⟨w.heap.size, 8, none⟩ = some (.int .i64 X.cyc) := Y0.out.cell 8
  have e0 : w1.cell? ⟨w.heap.size + 1, 0, none⟩ = some (.slice none 0 0) := Y1.out.cell 0
  have e1 : w1.cell? ⟨w.heap.size + 1, 1, none⟩ = some (.slice none 0 0) := Y1.out.cell 1
  have e2 : w1.cell? ⟨w.heap.size + 1, 2, none⟩ = some (.int .i64 0) := Y1.out.cell 2
  have e3 : w1.cell? ⟨w.heap.size + 1, 3, none⟩ = some (.int .i64 0) := Y1.out.cell 3
  have e4 : w1.cell? ⟨w.heap.size + 1, 4, none⟩ = some (.int .i64 0) := Y1.out.cell 4
  have e5 : w1.cell? ⟨w.heap.size + 1, 5, none⟩ = some (.bool false) := Y1.out.cell 5
  have e6 : w1.cell? ⟨w.heap.size + 1, 6, none⟩ = some (.slice none 0 0) := Y1.out.cell 6
  have e7 : w1.cell? ⟨w.heap.size + 1, 7, none⟩ = some (.bool false) := Y1.out.cell 7
  have e8 : w1.cell? ⟨w.heap.size + 1, 8, none⟩ = some (.int .i64 0) := Y1.out.cell 8
  have f0 := Y1.out.frozen 0
  have f1 := Y1.out.frozen 1
  have f2 := Y1.out.frozen 2
  have f3 := Y1.out.frozen 3
  have f4 := Y1.out.frozen 4
  have f5 := Y1.out.frozen 5
  have f6 := Y1.out.frozen 6
  have f7 := Y1.out.frozen 7
  have f8 := Y1.out.frozen 8
  rcases hv : machB X with _ | _
  · have HE := Lib.hid (show UX = machZ by rw [HUX.out]; unfold untilX; rw [hv]; simp)
    have HE2 := Lib.hid (show US = 0 by rw [HUS.out]; unfold untilS; rw [hv]; simp)
    clear hv
    go_wp2_with fail
    refine bodyPost_ret (v := .tuple #[.agg #[.slice none 0 0, .slice none 0 0, .int .i64 0, .int .i64 0, .int .i64 0, .bool false, .slice none 0 0, .bool false, .int .i64 0], .int .i64 0]) (by simp [results, Tryd.results23, go_sem, e0, e1, e2, e3, e4, e5, e6, e7, e8]) rfl ?_
    refine ⟨_, by rw [HE2.out], ?_⟩
    rw [HE.out]
    exact machZ_new (((((((((B1.out.setCell (show w.heap.size ≤ w.heap.size + 1 by omega) _).setCell (show w.heap.size ≤ w.heap.size + 1 by omega) _).setCell (show w.heap.size ≤ w.heap.size + 1 by omega) _).setCell (show w.heap.size ≤ w.heap.size + 1 by omega) _).setCell (show w.heap.size ≤ w.heap.size + 1 by omega) _).setCell (show w.heap.size ≤ w.heap.size + 1 by omega) _).setCell (show w.heap.size ≤ w.heap.size + 1 by omega) _).setCell (show w.heap.size ≤ w.heap.size + 1 by omega) _).setCell (show w.heap.size ≤ w.heap.size + 1 by omega) _)
  have HV := Lib.hid hv
  clear hv
  go_wp2_with fail
  refine (l1In_any _ _ _ _).mono ?_; rintro e w' ⟨rfl, rfl⟩
  rcases ha : betB ad 0 1023 with _ | _
  · have ha' : addrB ad = false := ha
    have HE := Lib.hid (show UX = machZ by rw [HUX.out]; unfold untilX; rw [ha']; simp)
    have HE2 := Lib.hid (show US = 0 by rw [HUS.out]; unfold untilS; rw [ha']; simp)
    clear ha ha'
    go_wp2_with fail
    refine bodyPost_ret (v := .tuple #[.agg #[.slice none 0 0, .slice none 0 0, .int .i64 0, .int .i64 0, .int .i64 0, .bool false, .slice none 0 0, .bool false, .int .i64 0], .int .i64 0]) (by simp [results, Tryd.results23, go_sem, e0, e1, e2, e3, e4, e5, e6, e7, e8]) rfl ?_
    refine ⟨_, by rw [HE2.out], ?_⟩
    rw [HE.out]
    exact machZ_new (((((((((B1.out.setCell (show w.heap.size ≤ w.heap.size + 1 by omega) _).setCell (show w.heap.size ≤ w.heap.size + 1 by omega) _).setCell (show w.heap.size ≤ w.heap.size + 1 by omega) _).setCell (show w.heap.size ≤ w.heap.size + 1 by omega) _).setCell (show w.heap.size ≤ w.heap.size + 1 by omega) _).setCell (show w.heap.size ≤ w.heap.size + 1 by omega) _).setCell (show w.heap.size ≤ w.heap.size + 1 by omega) _).setCell (show w.heap.size ≤ w.heap.size + 1 by omega) _).setCell (show w.heap.size ≤ w.heap.size + 1 by omega) _)
  have HA := Lib.hid (show addrB ad = true from ha)
  clear ha
  go_wp2_with fail
  refine (copy_mach A c R d B g n k m X fa fr fb _ H1.out HF.out).mono ?_
  rintro e w2 ⟨A2, n2, c2, R2, k2, d2, B2, m2, g2, fa2, fr2, fb2, rfl, hc, hh, hnw, b2, hown, hsole⟩
  have M2 := Lib.hid (machIn_new hc hh hnw hown hsole b2.size)
  have V1 := Lib.hid (Y1.out.below b2)
  have B2' := Lib.hid ((B1.out.trans (b2.mono B1.out.size)))
  have l1 := b2.size
  clear hc hh hnw b2 hown hsole a0 a1 a2 a3 a4 a5 a6 a7 a8 e0 e1 e2 e3 e4 e5 e6 e7 e8 f0 f1 f2 f3 f4 f5 f6 f7 f8
  go_upto_region 4 with (fail)
  go_wp2_with fail
  go_loopw [7] (fun i wr => ∃ j : Nat, j ≤ 500 ∧ i = .int .i64 j ∧ MachHere wr w2.heap.size (runN X j) w1.heap.size ∧ Box wr (w.heap.size + 1) 28 [.slice none 0 0, .slice none 0 0, .int .i64 0, .int .i64 0, .int .i64 0, .bool false, .slice none 0 0, .bool false, .int .i64 0] ∧ Below w.heap.size w wr ∧ untilN ad (500 - j) j (runN X j) = U) (fun i _ => 500 - (intOf i).toNat)
  case atStart => exact ⟨0, by omega, rfl, M2.out.here, V1.out.alloc _, B2'.out.alloc B2'.out.size _, HUU.out.symm⟩
  case round =>
    obtain ⟨j, hj, rfl, ⟨A3, c3, R3, d3, B3, g3, n3, k3, m3, fa3, fr3, fb3, hm3⟩, hb3, hbw, hun⟩ := hrel
    have M3 := Lib.hid hm3
    have Z3 := Lib.hid hb3
    have B3' := Lib.hid hbw
    have HU := Lib.hid hun
    have GR := Lib.hid (run_good HV.out j (by omega))

    have e7 : wr.cell? ⟨w2.heap.size, 7, none⟩ = some (.bool (runN X j).stop) := hm3.box.cell 7
    clear hm3 hb3 hbw hun M2 V1
    rcases hs : (runN X j).stop with _ | _
    · rw [hs] at e7
      have HS := Lib.hid hs
      clear hs
      by_cases hlt : j < 500
      · have HL := Lib.hid hlt
        have h5 : (j : Int) < 500 := by omega
        have hd5 : decide ((j : Int) < 500) = true := by simpa using h5
        go_wp2_with fail
        refine (spec_step M3.out GR.out (by omega)).mono ?_
        rintro e w4 ⟨rfl, hh4, b4⟩
        obtain ⟨A3, c3, R3, d3, B3, g3, n3, k3, m3, fa3, fr3, fb3, hm4⟩ := hh4
        have M3 := Lib.hid (show MachIn w4 w2.heap.size A3 c3 R3 d3 B3 g3 n3 k3 m3 (runN X (j + 1)) fa3 fr3 fb3 w1.heap.size from hm4)
        have Z3 := Lib.hid (Z3.out.keep b4 (by omega))
        have B3' := Lib.hid (B3'.out.trans (b4.mono B1.out.size))
        have GZ := Lib.hid (run_good HV.out (j + 1) (by omega))
        obtain ⟨t, ht⟩ : ∃ t, t = (runN X (j + 1)).at_ := ⟨_, rfl⟩
        have HT := Lib.hid ht
        have t4 : w4.cell? ⟨w2.heap.size, 4, none⟩ = some (.int .i64 t) := by rw [ht]; exact M3.out.box.cell 4
        clear hm4 b4 e7 GR ht
        by_cases hat : t = ad
        · have hq : (t == ad) = true := by simp [hat]
          have HU2 := Lib.hid (show U = (j + 1, runN X (j + 1)) by
            rw [← HU.out, show 500 - j = (500 - (j + 1)) + 1 by omega]
            exact until_at ad _ j _ HS.out (by rw [← hat]; exact HT.out.symm))
          clear hat
          go_upto_region 9 with (fail)
          clear t4
          have HQ := Lib.hid (show U = (j + 1, runN X (j + 1)) from HU2.out)
          have HE1 := Lib.hid (show UX = runN X (j + 1) from (until_fin HA.out HV.out HUU.out HQ.out HUX.out HUS.out).1)
          have HE2 := Lib.hid (show US = ((j + 1 : Nat) : Int) from (until_fin HA.out HV.out HUU.out HQ.out HUX.out HUS.out).2)
          have GF := Lib.hid (fits_mono (show Fits (runN X (j + 1)) 256 from fits_good GZ.out) (show 256 ≤ 1000000000 by omega))
          obtain ⟨Y, hY⟩ : ∃ Y, Y = runN X (j + 1) := ⟨_, rfl⟩
          rw [← hY] at M3 HE1 GF
          have hl3 := Z3.out.lt
          clear hY HQ GZ
          have a0 : w4.cell? ⟨w2.heap.size, 0, none⟩ = some (.slice A3 n3 c3) := M3.out.box.cell 0
          have a1 : w4.cell? ⟨w2.heap.size, 1, none⟩ = some (.slice R3 k3 d3) := M3.out.box.cell 1
          have a2 : w4.cell? ⟨w2.heap.size, 2, none⟩ = some (.int .i64 Y.mem.bank) := M3.out.box.cell 2
          have a3 : w4.cell? ⟨w2.heap.size, 3, none⟩ = some (.int .i64 Y.a) := M3.out.box.cell 3
          have a4 : w4.cell? ⟨w2.heap.size, 4, none⟩ = some (.int .i64 Y.at_) := M3.out.box.cell 4
          have a5 : w4.cell? ⟨w2.heap.size, 5, none⟩ = some (.bool Y.carry) := M3.out.box.cell 5
          have a6 : w4.cell? ⟨w2.heap.size, 6, none⟩ = some (.slice B3 m3 g3) := M3.out.box.cell 6
          have a7 : w4.cell? ⟨w2.heap.size, 7, none⟩ = some (.bool Y.stop) := M3.out.box.cell 7
          have a8 : w4.cell? ⟨w2.heap.size, 8, none⟩ = some (.int .i64 Y.cyc) := M3.out.box.cell 8
          go_wp2_with fail
          refine (copy_mach A3 c3 R3 d3 B3 g3 n3 k3 m3 Y fa3 fr3 fb3 _ M3.out.has GF.out).mono ?_
          rintro e w5 ⟨A5, n5, c5, R5, k5, d5, B5, m5, g5, fa5, fr5, fb5, rfl, hc5, hh5, hn5, b5, _⟩
          have Z5 := Lib.hid (Z3.out.below b5)
          have B5' := Lib.hid (B3'.out.trans (b5.mono B3'.out.size))
          have HC5 := Lib.hid hc5
          have HH5 := Lib.hid hh5
          have HN5 := Lib.hid hn5
          have l5 := Z3.out.lt
          have l6 := B3'.out.size
          clear hc5 hh5 hn5 b5 a0 a1 a2 a3 a4 a5 a6 a7 a8
          have e0 : w5.cell? ⟨w.heap.size + 1, 0, none⟩ = some (.slice none 0 0) := Z5.out.cell 0
          have e1 : w5.cell? ⟨w.heap.size + 1, 1, none⟩ = some (.slice none 0 0) := Z5.out.cell 1
          have e2 : w5.cell? ⟨w.heap.size + 1, 2, none⟩ = some (.int .i64 0) := Z5.out.cell 2
          have e3 : w5.cell? ⟨w.heap.size + 1, 3, none⟩ = some (.int .i64 0) := Z5.out.cell 3
          have e4 : w5.cell? ⟨w.heap.size + 1, 4, none⟩ = some (.int .i64 0) := Z5.out.cell 4
          have e5 : w5.cell? ⟨w.heap.size + 1, 5, none⟩ = some (.bool false) := Z5.out.cell 5
          have e6 : w5.cell? ⟨w.heap.size + 1, 6, none⟩ = some (.slice none 0 0) := Z5.out.cell 6
          have e7 : w5.cell? ⟨w.heap.size + 1, 7, none⟩ = some (.bool false) := Z5.out.cell 7
          have e8 : w5.cell? ⟨w.heap.size + 1, 8, none⟩ = some (.int .i64 0) := Z5.out.cell 8
          have f0 := Z5.out.frozen 0
          have f1 := Z5.out.frozen 1
          have f2 := Z5.out.frozen 2
          have f3 := Z5.out.frozen 3
          have f4 := Z5.out.frozen 4
          have f5 := Z5.out.frozen 5
          have f6 := Z5.out.frozen 6
          have f7 := Z5.out.frozen 7
          have f8 := Z5.out.frozen 8
          go_wp2_with fail
          refine bodyPost_ret (v := .tuple #[.agg #[.slice A5 n5 c5, .slice R5 k5 d5, .int .i64 Y.mem.bank, .int .i64 Y.a, .int .i64 Y.at_, .bool Y.carry, .slice B5 m5 g5, .bool Y.stop, .int .i64 Y.cyc], .int .i64 ((j + 1 : Nat) : Int)]) (by simp [results, Tryd.results23, go_sem, e0, e1, e2, e3, e4, e5, e6, e7, e8]) rfl ?_
          refine ⟨_, by rw [HE2.out], ?_⟩
          rw [HE1.out]
          refine mach_handed (w := w) (S := [w.heap.size + 1]) (L := w4.heap.size) HC5.out HH5.out HN5.out ?_ (by intro b hb; simp at hb; omega) (by omega) ?_
          · exact ((((((((((Only.refl _ w5).setCell (.inl (by simp)) _).setCell (.inl (by simp)) _).setCell (.inl (by simp)) _).setCell (.inl (by simp)) _).setCell (.inl (by simp)) _).setCell (.inl (by simp)) _).setCell (.inl (by simp)) _).setCell (.inl (by simp)) _).setCell (.inl (by simp)) _)
          · exact (((((((((B5'.out.setCell (show w.heap.size ≤ w.heap.size + 1 by omega) _).setCell (show w.heap.size ≤ w.heap.size + 1 by omega) _).setCell (show w.heap.size ≤ w.heap.size + 1 by omega) _).setCell (show w.heap.size ≤ w.heap.size + 1 by omega) _).setCell (show w.heap.size ≤ w.heap.size + 1 by omega) _).setCell (show w.heap.size ≤ w.heap.size + 1 by omega) _).setCell (show w.heap.size ≤ w.heap.size + 1 by omega) _).setCell (show w.heap.size ≤ w.heap.size + 1 by omega) _).setCell (show w.heap.size ≤ w.heap.size + 1 by omega) _)
        · have hq : (t == ad) = false := by simp [hat]
          have HU2 := Lib.hid (show untilN ad (500 - (j + 1)) (j + 1) (runN X (j + 1)) = U by
            rw [← HU.out, show 500 - j = (500 - (j + 1)) + 1 by omega]
            exact (until_on ad _ j _ HS.out (by rw [show (stepN (runN X j)).at_ = t from HT.out.symm]; exact hat)).symm)
          clear hat
          go_wp2_with fail
          go_roundw
          case rel => exact ⟨j + 1, by omega, by go_num, M3.out.here, Z3.out, B3'.out, HU2.out⟩
          case measure => simp [intOf]; omega
      · have HU2 := Lib.hid (show U = (j, runN X j) by rw [← HU.out, show 500 - j = 0 by omega]; rfl)
        have h5 : ¬ (j : Int) < 500 := by omega
        have hd5 : decide ((j : Int) < 500) = false := by simpa using h5
        have GZ := GR
        clear hlt GR
        go_upto_region 9 with (fail)
        clear e7
        have HQ := Lib.hid (show U = (j, runN X j) from HU2.out)
        have HE1 := Lib.hid (show UX = runN X j from (until_fin HA.out HV.out HUU.out HQ.out HUX.out HUS.out).1)
        have HE2 := Lib.hid (show US = ((j : Nat) : Int) from (until_fin HA.out HV.out HUU.out HQ.out HUX.out HUS.out).2)
        have GF := Lib.hid (fits_mono (show Fits (runN X j) 256 from fits_good GZ.out) (show 256 ≤ 1000000000 by omega))
        obtain ⟨Y, hY⟩ : ∃ Y, Y = runN X j := ⟨_, rfl⟩
        rw [← hY] at M3 HE1 GF
        have hl3 := Z3.out.lt
        clear hY HQ GZ
        have a0 : wr.cell? ⟨w2.heap.size, 0, none⟩ = some (.slice A3 n3 c3) := M3.out.box.cell 0
        have a1 : wr.cell? ⟨w2.heap.size, 1, none⟩ = some (.slice R3 k3 d3) := M3.out.box.cell 1
        have a2 : wr.cell? ⟨w2.heap.size, 2, none⟩ = some (.int .i64 Y.mem.bank) := M3.out.box.cell 2
        have a3 : wr.cell? ⟨w2.heap.size, 3, none⟩ = some (.int .i64 Y.a) := M3.out.box.cell 3
        have a4 : wr.cell? ⟨w2.heap.size, 4, none⟩ = some (.int .i64 Y.at_) := M3.out.box.cell 4
        have a5 : wr.cell? ⟨w2.heap.size, 5, none⟩ = some (.bool Y.carry) := M3.out.box.cell 5
        have a6 : wr.cell? ⟨w2.heap.size, 6, none⟩ = some (.slice B3 m3 g3) := M3.out.box.cell 6
        have a7 : wr.cell? ⟨w2.heap.size, 7, none⟩ = some (.bool Y.stop) := M3.out.box.cell 7
        have a8 : wr.cell? ⟨w2.heap.size, 8, none⟩ = some (.int .i64 Y.cyc) := M3.out.box.cell 8
        go_wp2_with fail
        refine (copy_mach A3 c3 R3 d3 B3 g3 n3 k3 m3 Y fa3 fr3 fb3 _ M3.out.has GF.out).mono ?_
        rintro e w5 ⟨A5, n5, c5, R5, k5, d5, B5, m5, g5, fa5, fr5, fb5, rfl, hc5, hh5, hn5, b5, _⟩
        have Z5 := Lib.hid (Z3.out.below b5)
        have B5' := Lib.hid (B3'.out.trans (b5.mono B3'.out.size))
        have HC5 := Lib.hid hc5
        have HH5 := Lib.hid hh5
        have HN5 := Lib.hid hn5
        have l5 := Z3.out.lt
        have l6 := B3'.out.size
        clear hc5 hh5 hn5 b5 a0 a1 a2 a3 a4 a5 a6 a7 a8
        have e0 : w5.cell? ⟨w.heap.size + 1, 0, none⟩ = some (.slice none 0 0) := Z5.out.cell 0
        have e1 : w5.cell? ⟨w.heap.size + 1, 1, none⟩ = some (.slice none 0 0) := Z5.out.cell 1
        have e2 : w5.cell? ⟨w.heap.size + 1, 2, none⟩ = some (.int .i64 0) := Z5.out.cell 2
        have e3 : w5.cell? ⟨w.heap.size + 1, 3, none⟩ = some (.int .i64 0) := Z5.out.cell 3
        have e4 : w5.cell? ⟨w.heap.size + 1, 4, none⟩ = some (.int .i64 0) := Z5.out.cell 4
        have e5 : w5.cell? ⟨w.heap.size + 1, 5, none⟩ = some (.bool false) := Z5.out.cell 5
        have e6 : w5.cell? ⟨w.heap.size + 1, 6, none⟩ = some (.slice none 0 0) := Z5.out.cell 6
        have e7 : w5.cell? ⟨w.heap.size + 1, 7, none⟩ = some (.bool false) := Z5.out.cell 7
        have e8 : w5.cell? ⟨w.heap.size + 1, 8, none⟩ = some (.int .i64 0) := Z5.out.cell 8
        have f0 := Z5.out.frozen 0
        have f1 := Z5.out.frozen 1
        have f2 := Z5.out.frozen 2
        have f3 := Z5.out.frozen 3
        have f4 := Z5.out.frozen 4
        have f5 := Z5.out.frozen 5
        have f6 := Z5.out.frozen 6
        have f7 := Z5.out.frozen 7
        have f8 := Z5.out.frozen 8
        go_wp2_with fail
        refine bodyPost_ret (v := .tuple #[.agg #[.slice A5 n5 c5, .slice R5 k5 d5, .int .i64 Y.mem.bank, .int .i64 Y.a, .int .i64 Y.at_, .bool Y.carry, .slice B5 m5 g5, .bool Y.stop, .int .i64 Y.cyc], .int .i64 ((j : Nat) : Int)]) (by simp [results, Tryd.results23, go_sem, e0, e1, e2, e3, e4, e5, e6, e7, e8]) rfl ?_
        refine ⟨_, by rw [HE2.out], ?_⟩
        rw [HE1.out]
        refine mach_handed (w := w) (S := [w.heap.size + 1]) (L := wr.heap.size) HC5.out HH5.out HN5.out ?_ (by intro b hb; simp at hb; omega) (by omega) ?_
        · exact ((((((((((Only.refl _ w5).setCell (.inl (by simp)) _).setCell (.inl (by simp)) _).setCell (.inl (by simp)) _).setCell (.inl (by simp)) _).setCell (.inl (by simp)) _).setCell (.inl (by simp)) _).setCell (.inl (by simp)) _).setCell (.inl (by simp)) _).setCell (.inl (by simp)) _)
        · exact (((((((((B5'.out.setCell (show w.heap.size ≤ w.heap.size + 1 by omega) _).setCell (show w.heap.size ≤ w.heap.size + 1 by omega) _).setCell (show w.heap.size ≤ w.heap.size + 1 by omega) _).setCell (show w.heap.size ≤ w.heap.size + 1 by omega) _).setCell (show w.heap.size ≤ w.heap.size + 1 by omega) _).setCell (show w.heap.size ≤ w.heap.size + 1 by omega) _).setCell (show w.heap.size ≤ w.heap.size + 1 by omega) _).setCell (show w.heap.size ≤ w.heap.size + 1 by omega) _).setCell (show w.heap.size ≤ w.heap.size + 1 by omega) _)
    · rw [hs] at e7
      have HU2 := Lib.hid (show U = (j, runN X j) by rw [← HU.out]; exact until_stop ad _ j _ hs)
      have GZ := GR
      clear hs GR
      by_cases hlt : j < 500
      · have h5 : (j : Int) < 500 := by omega
        have hd5 : decide ((j : Int) < 500) = true := by simpa using h5
        clear hlt
        go_upto_region 9 with (fail)
        clear e7
        have HQ := Lib.hid (show U = (j, runN X j) from HU2.out)
        have HE1 := Lib.hid (show UX = runN X j from (until_fin HA.out HV.out HUU.out HQ.out HUX.out HUS.out).1)
        have HE2 := Lib.hid (show US = ((j : Nat) : Int) from (until_fin HA.out HV.out HUU.out HQ.out HUX.out HUS.out).2)
        have GF := Lib.hid (fits_mono (show Fits (runN X j) 256 from fits_good GZ.out) (show 256 ≤ 1000000000 by omega))
        obtain ⟨Y, hY⟩ : ∃ Y, Y = runN X j := ⟨_, rfl⟩
        rw [← hY] at M3 HE1 GF
        have hl3 := Z3.out.lt
        clear hY HQ GZ
        have a0 : wr.cell? ⟨w2.heap.size, 0, none⟩ = some (.slice A3 n3 c3) := M3.out.box.cell 0
        have a1 : wr.cell? ⟨w2.heap.size, 1, none⟩ = some (.slice R3 k3 d3) := M3.out.box.cell 1
        have a2 : wr.cell? ⟨w2.heap.size, 2, none⟩ = some (.int .i64 Y.mem.bank) := M3.out.box.cell 2
        have a3 : wr.cell? ⟨w2.heap.size, 3, none⟩ = some (.int .i64 Y.a) := M3.out.box.cell 3
        have a4 : wr.cell? ⟨w2.heap.size, 4, none⟩ = some (.int .i64 Y.at_) := M3.out.box.cell 4
        have a5 : wr.cell? ⟨w2.heap.size, 5, none⟩ = some (.bool Y.carry) := M3.out.box.cell 5
        have a6 : wr.cell? ⟨w2.heap.size, 6, none⟩ = some (.slice B3 m3 g3) := M3.out.box.cell 6
        have a7 : wr.cell? ⟨w2.heap.size, 7, none⟩ = some (.bool Y.stop) := M3.out.box.cell 7
        have a8 : wr.cell? ⟨w2.heap.size, 8, none⟩ = some (.int .i64 Y.cyc) := M3.out.box.cell 8
        go_wp2_with fail
        refine (copy_mach A3 c3 R3 d3 B3 g3 n3 k3 m3 Y fa3 fr3 fb3 _ M3.out.has GF.out).mono ?_
        rintro e w5 ⟨A5, n5, c5, R5, k5, d5, B5, m5, g5, fa5, fr5, fb5, rfl, hc5, hh5, hn5, b5, _⟩
        have Z5 := Lib.hid (Z3.out.below b5)
        have B5' := Lib.hid (B3'.out.trans (b5.mono B3'.out.size))
        have HC5 := Lib.hid hc5
        have HH5 := Lib.hid hh5
        have HN5 := Lib.hid hn5
        have l5 := Z3.out.lt
        have l6 := B3'.out.size
        clear hc5 hh5 hn5 b5 a0 a1 a2 a3 a4 a5 a6 a7 a8
        have e0 : w5.cell? ⟨w.heap.size + 1, 0, none⟩ = some (.slice none 0 0) := Z5.out.cell 0
        have e1 : w5.cell? ⟨w.heap.size + 1, 1, none⟩ = some (.slice none 0 0) := Z5.out.cell 1
        have e2 : w5.cell? ⟨w.heap.size + 1, 2, none⟩ = some (.int .i64 0) := Z5.out.cell 2
        have e3 : w5.cell? ⟨w.heap.size + 1, 3, none⟩ = some (.int .i64 0) := Z5.out.cell 3
        have e4 : w5.cell? ⟨w.heap.size + 1, 4, none⟩ = some (.int .i64 0) := Z5.out.cell 4
        have e5 : w5.cell? ⟨w.heap.size + 1, 5, none⟩ = some (.bool false) := Z5.out.cell 5
        have e6 : w5.cell? ⟨w.heap.size + 1, 6, none⟩ = some (.slice none 0 0) := Z5.out.cell 6
        have e7 : w5.cell? ⟨w.heap.size + 1, 7, none⟩ = some (.bool false) := Z5.out.cell 7
        have e8 : w5.cell? ⟨w.heap.size + 1, 8, none⟩ = some (.int .i64 0) := Z5.out.cell 8
        have f0 := Z5.out.frozen 0
        have f1 := Z5.out.frozen 1
        have f2 := Z5.out.frozen 2
        have f3 := Z5.out.frozen 3
        have f4 := Z5.out.frozen 4
        have f5 := Z5.out.frozen 5
        have f6 := Z5.out.frozen 6
        have f7 := Z5.out.frozen 7
        have f8 := Z5.out.frozen 8
        go_wp2_with fail
        refine bodyPost_ret (v := .tuple #[.agg #[.slice A5 n5 c5, .slice R5 k5 d5, .int .i64 Y.mem.bank, .int .i64 Y.a, .int .i64 Y.at_, .bool Y.carry, .slice B5 m5 g5, .bool Y.stop, .int .i64 Y.cyc], .int .i64 ((j : Nat) : Int)]) (by simp [results, Tryd.results23, go_sem, e0, e1, e2, e3, e4, e5, e6, e7, e8]) rfl ?_
        refine ⟨_, by rw [HE2.out], ?_⟩
        rw [HE1.out]
        refine mach_handed (w := w) (S := [w.heap.size + 1]) (L := wr.heap.size) HC5.out HH5.out HN5.out ?_ (by intro b hb; simp at hb; omega) (by omega) ?_
        · exact ((((((((((Only.refl _ w5).setCell (.inl (by simp)) _).setCell (.inl (by simp)) _).setCell (.inl (by simp)) _).setCell (.inl (by simp)) _).setCell (.inl (by simp)) _).setCell (.inl (by simp)) _).setCell (.inl (by simp)) _).setCell (.inl (by simp)) _).setCell (.inl (by simp)) _)
        · exact (((((((((B5'.out.setCell (show w.heap.size ≤ w.heap.size + 1 by omega) _).setCell (show w.heap.size ≤ w.heap.size + 1 by omega) _).setCell (show w.heap.size ≤ w.heap.size + 1 by omega) _).setCell (show w.heap.size ≤ w.heap.size + 1 by omega) _).setCell (show w.heap.size ≤ w.heap.size + 1 by omega) _).setCell (show w.heap.size ≤ w.heap.size + 1 by omega) _).setCell (show w.heap.size ≤ w.heap.size + 1 by omega) _).setCell (show w.heap.size ≤ w.heap.size + 1 by omega) _).setCell (show w.heap.size ≤ w.heap.size + 1 by omega) _)
      · have h5 : ¬ (j : Int) < 500 := by omega
        have hd5 : decide ((j : Int) < 500) = false := by simpa using h5
        clear hlt
        go_upto_region 9 with (fail)
        clear e7
        have HQ := Lib.hid (show U = (j, runN X j) from HU2.out)
        have HE1 := Lib.hid (show UX = runN X j from (until_fin HA.out HV.out HUU.out HQ.out HUX.out HUS.out).1)
        have HE2 := Lib.hid (show US = ((j : Nat) : Int) from (until_fin HA.out HV.out HUU.out HQ.out HUX.out HUS.out).2)
        have GF := Lib.hid (fits_mono (show Fits (runN X j) 256 from fits_good GZ.out) (show 256 ≤ 1000000000 by omega))
        obtain ⟨Y, hY⟩ : ∃ Y, Y = runN X j := ⟨_, rfl⟩
        rw [← hY] at M3 HE1 GF
        have hl3 := Z3.out.lt
        clear hY HQ GZ
        have a0 : wr.cell? ⟨w2.heap.size, 0, none⟩ = some (.slice A3 n3 c3) := M3.out.box.cell 0
        have a1 : wr.cell? ⟨w2.heap.size, 1, none⟩ = some (.slice R3 k3 d3) := M3.out.box.cell 1
        have a2 : wr.cell? ⟨w2.heap.size, 2, none⟩ = some (.int .i64 Y.mem.bank) := M3.out.box.cell 2
        have a3 : wr.cell? ⟨w2.heap.size, 3, none⟩ = some (.int .i64 Y.a) := M3.out.box.cell 3
        have a4 : wr.cell? ⟨w2.heap.size, 4, none⟩ = some (.int .i64 Y.at_) := M3.out.box.cell 4
        have a5 : wr.cell? ⟨w2.heap.size, 5, none⟩ = some (.bool Y.carry) := M3.out.box.cell 5
        have a6 : wr.cell? ⟨w2.heap.size, 6, none⟩ = some (.slice B3 m3 g3) := M3.out.box.cell 6
        have a7 : wr.cell? ⟨w2.heap.size, 7, none⟩ = some (.bool Y.stop) := M3.out.box.cell 7
        have a8 : wr.cell? ⟨w2.heap.size, 8, none⟩ = some (.int .i64 Y.cyc) := M3.out.box.cell 8
        go_wp2_with fail
        refine (copy_mach A3 c3 R3 d3 B3 g3 n3 k3 m3 Y fa3 fr3 fb3 _ M3.out.has GF.out).mono ?_
        rintro e w5 ⟨A5, n5, c5, R5, k5, d5, B5, m5, g5, fa5, fr5, fb5, rfl, hc5, hh5, hn5, b5, _⟩
        have Z5 := Lib.hid (Z3.out.below b5)
        have B5' := Lib.hid (B3'.out.trans (b5.mono B3'.out.size))
        have HC5 := Lib.hid hc5
        have HH5 := Lib.hid hh5
        have HN5 := Lib.hid hn5
        have l5 := Z3.out.lt
        have l6 := B3'.out.size
        clear hc5 hh5 hn5 b5 a0 a1 a2 a3 a4 a5 a6 a7 a8
        have e0 : w5.cell? ⟨w.heap.size + 1, 0, none⟩ = some (.slice none 0 0) := Z5.out.cell 0
        have e1 : w5.cell? ⟨w.heap.size + 1, 1, none⟩ = some (.slice none 0 0) := Z5.out.cell 1
        have e2 : w5.cell? ⟨w.heap.size + 1, 2, none⟩ = some (.int .i64 0) := Z5.out.cell 2
        have e3 : w5.cell? ⟨w.heap.size + 1, 3, none⟩ = some (.int .i64 0) := Z5.out.cell 3
        have e4 : w5.cell? ⟨w.heap.size + 1, 4, none⟩ = some (.int .i64 0) := Z5.out.cell 4
        have e5 : w5.cell? ⟨w.heap.size + 1, 5, none⟩ = some (.bool false) := Z5.out.cell 5
        have e6 : w5.cell? ⟨w.heap.size + 1, 6, none⟩ = some (.slice none 0 0) := Z5.out.cell 6
        have e7 : w5.cell? ⟨w.heap.size + 1, 7, none⟩ = some (.bool false) := Z5.out.cell 7
        have e8 : w5.cell? ⟨w.heap.size + 1, 8, none⟩ = some (.int .i64 0) := Z5.out.cell 8
        have f0 := Z5.out.frozen 0
        have f1 := Z5.out.frozen 1
        have f2 := Z5.out.frozen 2
        have f3 := Z5.out.frozen 3
        have f4 := Z5.out.frozen 4
        have f5 := Z5.out.frozen 5
        have f6 := Z5.out.frozen 6
        have f7 := Z5.out.frozen 7
        have f8 := Z5.out.frozen 8
        go_wp2_with fail
        refine bodyPost_ret (v := .tuple #[.agg #[.slice A5 n5 c5, .slice R5 k5 d5, .int .i64 Y.mem.bank, .int .i64 Y.a, .int .i64 Y.at_, .bool Y.carry, .slice B5 m5 g5, .bool Y.stop, .int .i64 Y.cyc], .int .i64 ((j : Nat) : Int)]) (by simp [results, Tryd.results23, go_sem, e0, e1, e2, e3, e4, e5, e6, e7, e8]) rfl ?_
        refine ⟨_, by rw [HE2.out], ?_⟩
        rw [HE1.out]
        refine mach_handed (w := w) (S := [w.heap.size + 1]) (L := wr.heap.size) HC5.out HH5.out HN5.out ?_ (by intro b hb; simp at hb; omega) (by omega) ?_
        · exact ((((((((((Only.refl _ w5).setCell (.inl (by simp)) _).setCell (.inl (by simp)) _).setCell (.inl (by simp)) _).setCell (.inl (by simp)) _).setCell (.inl (by simp)) _).setCell (.inl (by simp)) _).setCell (.inl (by simp)) _).setCell (.inl (by simp)) _).setCell (.inl (by simp)) _)
        · exact (((((((((B5'.out.setCell (show w.heap.size ≤ w.heap.size + 1 by omega) _).setCell (show w.heap.size ≤ w.heap.size + 1 by omega) _).setCell (show w.heap.size ≤ w.heap.size + 1 by omega) _).setCell (show w.heap.size ≤ w.heap.size + 1 by omega) _).setCell (show w.heap.size ≤ w.heap.size + 1 by omega) _).setCell (show w.heap.size ≤ w.heap.size + 1 by omega) _).setCell (show w.heap.size ≤ w.heap.size + 1 by omega) _).setCell (show w.heap.size ≤ w.heap.size + 1 by omega) _).setCell (show w.heap.size ≤ w.heap.size + 1 by omega) _)
end Go.Proofs.YtcapfafglikcmaaDoor
