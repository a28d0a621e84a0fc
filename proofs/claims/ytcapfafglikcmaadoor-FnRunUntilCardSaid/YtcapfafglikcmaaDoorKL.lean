import Derived.Test.YtcapfafglikcmaaDoorMchJ
import Derived.Test.YtcapfafglikcmaaDoorMchD1
import Derived.Test.YtcapfafglikcmaaDoorMchD2
import Derived.Test.YtcapfafglikcmaaDoorMchD3
import Derived.Test.YtcapfafglikcmaaDoorMchD4
import Derived.Deep.DeepCutAuto
import Derived.Test.YtcapfafglikcmaaDoorMchB
import Derived.Test.YtcapfafglikcmaaDoorKH

section
/- One step of the model's machine. -/
namespace Go.Proofs.YtcapfafglikcmaaDoor
open Go.ChangeShapes Go.WideShapes Go.ChangeAt Go.RowKit

theorem decV_s (op arg : Int) : decV (some (op, arg)) = .tuple #[.agg #[.int .i64 op, .int .i64 arg], .int .i64 (lenN op), .bool true] := rfl
theorem decV_n : decV none = .tuple #[.agg #[.int .i64 0, .int .i64 0], .int .i64 0, .bool false] := rfl
theorem sgo_all {q : Nat} {A : Option Addr} {c : Nat} {R : Option Addr} {d : Nat} {B : Option Addr} {g n k m : Nat} {X : Mach} {fa fr fb : List Nat} {L : Nat} {w : World} {C : Int} (op arg : Int) (h : MachIn w q A c R d B g n k m X fa fr fb L) (gd : GoodX X C) (p0 : 0 ≤ op) (p1 : op ≤ 15) (r0 : 0 ≤ arg) (r1 : arg ≤ 1023) (ho : op = 0 ∨ 10 ≤ op) :
    Calls Tryd.prog 70 #[.pointer (some ⟨q, 0, none⟩), .agg #[.int .i64 op, .int .i64 arg]] w (Did q (doN X op arg) L w) := by
  obtain rfl | rfl | rfl | rfl | rfl | rfl | rfl : op = 0 ∨ op = 10 ∨ op = 11 ∨ op = 12 ∨ op = 13 ∨ op = 14 ∨ op = 15 := by omega
  · rw [doN_0]; exact sgo_wait arg h gd r0 r1
  · rw [doN_10]; exact sgo_jump arg h gd r0 r1
  · rw [doN_11]; exact sgo_zero arg h gd r0 r1
  · rw [doN_12]; exact sgo_carry arg h gd r0 r1
  · rw [doN_13]; exact sgo_call arg h gd r0 r1
  · rw [doN_14]; exact sgo_return arg h gd r0 r1
  · rw [doN_15]; exact sgo_stop arg h gd r0 r1
set_option maxHeartbeats 4000000 in
set_option maxRecDepth 100000 in
theorem sdo_rest {q : Nat} {A : Option Addr} {c : Nat} {R : Option Addr} {d : Nat} {B : Option Addr} {g n k m : Nat} {X : Mach} {fa fr fb : List Nat} {L : Nat} {w : World} {C : Int} (op arg : Int) (h : MachIn w q A c R d B g n k m X fa fr fb L) (gd : GoodX X C) (p0 : 0 ≤ op) (p1 : op ≤ 15) (r0 : 0 ≤ arg) (r1 : arg ≤ 1023) (ho : op = 0 ∨ 10 ≤ op) :
    Calls Tryd.prog 48 #[.pointer (some ⟨q, 0, none⟩), .agg #[.int .i64 op, .int .i64 arg]] w (Did q (doN X op arg) L w) := by
  have q1 : (op == 1) = false := by simp; omega
  have q2 : (op == 2) = false := by simp; omega
  have q3 : (op == 3) = false := by simp; omega
  have q4 : (op == 4) = false := by simp; omega
  have q5 : (op == 5) = false := by simp; omega
  have q6 : (op == 6) = false := by simp; omega
  have q7 : (op == 7) = false := by simp; omega
  have q8 : (op == 8) = false := by simp; omega
  have q9 : (op == 9) = false := by simp; omega
  have HH := Lib.hid (show 0 ≤ op ∧ op ≤ 15 ∧ 0 ≤ arg ∧ arg ≤ 1023 ∧ (op = 0 ∨ 10 ≤ op) from ⟨p0, p1, r0, r1, ho⟩)
  clear p0 p1 r0 r1 ho
  have hL := h.lt
  have HG := Lib.hid gd
  have m0 := h.below (below1 w (.cells #[.int .i64 op, .int .i64 arg] 61))
  have ZW0 := Lib.hid (Box.new w #[.int .i64 op, .int .i64 arg] 61)
  have B00 := Lib.hid ((below1 w (.cells #[.int .i64 op, .int .i64 arg] 61)).mono hL)
  have M0 := Lib.hid m0
  have s0 : Hid ((w.alloc (.cells #[.int .i64 op, .int .i64 arg] 61)).heap.size = w.heap.size + 1) := by show _ = _; simp
  clear h gd m0
  go_enter Tryd.func48, Tryd.ntmps48
  go_upto_region 1 with (fail)
  obtain ⟨W, hW⟩ : ∃ W, W = w.alloc (.cells #[.int .i64 op, .int .i64 arg] 61) := ⟨_, rfl⟩
  rw [← hW] at M0 ZW0 B00 s0
  rw [← hW]
  clear hW
  have z0 : W.cell? ⟨w.heap.size, 0, none⟩ = some (.int .i64 op) := ZW0.out.cell 0
  have z1 : W.cell? ⟨w.heap.size, 1, none⟩ = some (.int .i64 arg) := ZW0.out.cell 1
  have MD : Hid (MachIn W.drew q A c R d B g n k m X fa fr fb L) := M0.out.below (w' := W.drew) ((Below.refl _ _).drew)
  have ZD : Hid (Box W.drew w.heap.size 61 [.int .i64 op, .int .i64 arg]) := ZW0.out
  have lW : L ≤ W.heap.size := M0.out.lt
  go_wp2_with fail
  refine (sgo_all op arg M0.out HG.out HH.out.1 HH.out.2.1 HH.out.2.2.1 HH.out.2.2.2.1 HH.out.2.2.2.2).mono ?_
  rintro e w2 ⟨rfl, hh, b2⟩
  have H2 := Lib.hid hh
  have B2 := Lib.hid b2
  clear hh b2
  go_wp2_with fail
  go_end0
  exact ⟨rfl, H2.out, B00.out.trans B2.out⟩
theorem sdo_all {q : Nat} {A : Option Addr} {c : Nat} {R : Option Addr} {d : Nat} {B : Option Addr} {g n k m : Nat} {X : Mach} {fa fr fb : List Nat} {L : Nat} {w : World} {C : Int} (op arg : Int) (h : MachIn w q A c R d B g n k m X fa fr fb L) (gd : GoodX X C) (p0 : 0 ≤ op) (p1 : op ≤ 15) (r0 : 0 ≤ arg) (r1 : arg ≤ 1023) :
    Calls Tryd.prog 48 #[.pointer (some ⟨q, 0, none⟩), .agg #[.int .i64 op, .int .i64 arg]] w (Did q (doN X op arg) L w) := by
  by_cases ho : op = 0 ∨ 10 ≤ op
  · exact sdo_rest op arg h gd p0 p1 r0 r1 ho
  · obtain rfl | rfl | rfl | rfl | rfl | rfl | rfl | rfl | rfl : op = 1 ∨ op = 2 ∨ op = 3 ∨ op = 4 ∨ op = 5 ∨ op = 6 ∨ op = 7 ∨ op = 8 ∨ op = 9 := by omega
    · rw [doN_1]; exact sdo_set arg h gd r0 r1
    · rw [doN_2]; exact sdo_load arg h gd r0 r1
    · rw [doN_3]; exact sdo_store arg h gd r0 r1
    · rw [doN_4]; exact sdo_add arg h gd r0 r1
    · rw [doN_5]; exact sdo_sub arg h gd r0 r1
    · rw [doN_6]; exact sdo_and arg h gd r0 r1
    · rw [doN_7]; exact sdo_xor arg h gd r0 r1
    · rw [doN_8]; exact sdo_left arg h gd r0 r1
    · rw [doN_9]; exact sdo_right arg h gd r0 r1
set_option maxHeartbeats 4000000 in
theorem spec_step {q : Nat} {A : Option Addr} {c : Nat} {R : Option Addr} {d : Nat} {B : Option Addr} {g n k m : Nat} {X : Mach} {fa fr fb : List Nat} {L : Nat} {w : World} {C : Int} (h : MachIn w q A c R d B g n k m X fa fr fb L) (gd : GoodX X C) (hC : C ≤ 2000000000) :
    Calls Tryd.prog 29 #[.pointer (some ⟨q, 0, none⟩)] w (Did q (stepN X) L w) := by
  have H := Lib.hid h
  have HG := Lib.hid gd
  have e7 : w.cell? ⟨q, 7, none⟩ = some (.bool X.stop) := h.box.cell 7
  by_cases hs : X.stop = true
  · have HE := Lib.hid (show stepN X = X by unfold stepN; rw [if_pos hs])
    rw [hs] at e7
    clear h gd hs
    go_enter Tryd.func29, Tryd.ntmps29
    go_wp2
    go_end0
    exact ⟨rfl, by rw [HE.out]; exact H.out.here, Below.refl _ _⟩
  · rw [show X.stop = false by simpa using hs] at e7
    have HN := Lib.hid hs
    obtain ⟨T, hT⟩ := Int.eq_ofNat_of_zero_le gd.t0
    have t1 : T < 1024 := by have := gd.t1; omega
    have HT := Lib.hid hT
    have lw : L ≤ w.heap.size := h.lt
    have hw := h.box.lt
    clear h gd hs hT
    go_enter Tryd.func29, Tryd.ntmps29
    go_wp2_with fail
    refine (fetch_any H.out HG.out).mono ?_
    rintro e w1 ⟨rfl, b1⟩
    have B1 := Lib.hid (show Below L w w1 from b1.mono lw)
    have M1 := Lib.hid (H.out.below b1)
    have hs1 := b1.size
    clear b1 e7
    rcases hd : fetchN X with _ | ⟨op, arg⟩
    · have HE : Hid (stepN X = { X with stop := true }) := by
        refine Lib.hid ?_
        unfold stepN
        rw [if_neg HN.out, hd]
      rw [decV_n]
      have M1a := Lib.hid (M1.out.below (below1 w1 (.cells #[.int .i64 0, .int .i64 0] 61)))
      have B1a := Lib.hid (B1.out.alloc (Nat.le_trans lw hs1) (.cells #[.int .i64 0, .int .i64 0] 61))
      have e7 : w1.cell? ⟨q, 7, none⟩ = some (.bool X.stop) := M1.out.box.cell 7
      have e7a : (w1.alloc (.cells #[.int .i64 0, .int .i64 0] 61)).cell? ⟨q, 7, none⟩ = some (.bool X.stop) := M1a.out.box.cell 7
      have f7 := M1.out.box.frozen 7
      have f7a := M1a.out.box.frozen 7
      clear hd
      go_wp2_with fail
      go_end0
      exact ⟨rfl, by rw [HE.out]; exact (M1a.out.store 7 (.bool true) { X with stop := true } rfl rfl rfl rfl).here, B1a.out.trans (M1a.out.stored 7 _)⟩
    · have HE : Hid (stepN X = doN (moveN X op) op arg) := by
        refine Lib.hid ?_
        unfold stepN
        rw [if_neg HN.out, hd]
      obtain ⟨hop, l1, p0, p1, r0, r1, r2⟩ := dec_fit hd
      have l3 := (lenN_bd op).2
      rw [decV_s]
      clear hop r2 hd
      obtain ⟨cy, hcy⟩ : ∃ cy, cy = X.cyc := ⟨_, rfl⟩
      have c0 : 0 ≤ cy := by rw [hcy]; exact HG.out.c0
      have c1 : cy ≤ 2000000000 := by have := HG.out.c1; omega
      obtain ⟨Lq, hL⟩ : ∃ Lq, Lq = lenN op := ⟨_, rfl⟩
      obtain ⟨W, hW⟩ : ∃ W, W = w1.alloc (.cells #[.int .i64 op, .int .i64 arg] 61) := ⟨_, rfl⟩
      have HW : Hid (MachIn W q A c R d B g n k m X fa fr fb L) := by rw [hW]; exact Lib.hid (M1.out.below (below1 w1 _))
      have HB : Hid (Box W w1.heap.size 61 [.int .i64 op, .int .i64 arg]) := by rw [hW]; exact Lib.hid (Box.new w1 _ _)
      have BL : Hid (Below L w W) := by rw [hW]; exact Lib.hid (B1.out.alloc (Nat.le_trans lw hs1) _)
      have e4 : W.cell? ⟨q, 4, none⟩ = some (.int .i64 (T : Int)) := by rw [← HT.out]; exact HW.out.box.cell 4
      have e8 : W.cell? ⟨q, 8, none⟩ = some (.int .i64 cy) := by rw [hcy]; exact HW.out.box.cell 8
      have f4 := HW.out.box.frozen 4
      have f8 := HW.out.box.frozen 8
      have GY := Lib.hid (good_move HG.out op)
      have MY : Hid (MachIn ((W.setCell ⟨q, 4, none⟩ (.int .i64 (((T : Int) + Lq) % 1024))).setCell ⟨q, 8, none⟩ (.int .i64 (cy + Lq))) q A c R d B g n k m (moveN X op) fa fr fb L) := by
        refine Lib.hid ?_
        have m1 := HW.out.store 4 (.int .i64 (((T : Int) + Lq) % 1024)) { X with at_ := ((T : Int) + Lq) % 1024 } rfl rfl rfl rfl
        exact m1.store 8 (.int .i64 (cy + Lq)) (moveN X op) (by rw [hL, hcy]; unfold moveN; rw [HT.out]; rfl) rfl rfl rfl
      have BY : Hid (Below L W ((W.setCell ⟨q, 4, none⟩ (.int .i64 (((T : Int) + Lq) % 1024))).setCell ⟨q, 8, none⟩ (.int .i64 (cy + Lq)))) := ((Below.refl L W).setCell H.out.lo _).setCell H.out.lo _
      have qb : w1.heap.size ≠ q := by have := H.out.box.lt; omega
      have ZY : Hid (Box ((W.setCell ⟨q, 4, none⟩ (.int .i64 (((T : Int) + Lq) % 1024))).setCell ⟨q, 8, none⟩ (.int .i64 (cy + Lq))) w1.heap.size 61 [.int .i64 op, .int .i64 arg]) := (HB.out.far qb _).far qb _
      have htm : ((T : Int) + Lq).tmod 1024 = ((T : Int) + Lq) % 1024 := Int.tmod_eq_emod_of_nonneg (by omega)
      rw [← hL] at l1 l3
      rw [← hL]
      clear hcy
      generalize moveN X op = Y at GY MY HE
      clear hL
      go_upto_region 4 with (fail)
      rw [← hW]
      clear hW
      go_upto_region 6 with (fail)
      obtain ⟨V, hV⟩ : ∃ V, V = (W.setCell ⟨q, 4, none⟩ (.int .i64 (((T : Int) + Lq) % 1024))).setCell ⟨q, 8, none⟩ (.int .i64 (cy + Lq)) := ⟨_, rfl⟩
      rw [← hV] at MY BY ZY
      rw [← hV]
      clear hV e4 e8 f4 f8
      have z0 : V.cell? ⟨w1.heap.size, 0, none⟩ = some (.int .i64 op) := ZY.out.cell 0
      have z1 : V.cell? ⟨w1.heap.size, 1, none⟩ = some (.int .i64 arg) := ZY.out.cell 1
      have BX : Hid (Below L w V) := BL.out.trans BY.out
      clear HW HB BL HG HT HN
      go_wp2_with fail
      refine (sdo_all op arg MY.out GY.out p0 p1 r0 r1).mono ?_
      rintro e w4 ⟨rfl, hh, b4⟩
      have HH := Lib.hid hh
      have B4 := Lib.hid b4
      clear hh b4
      go_wp2_with fail
      go_end0
      exact ⟨rfl, by rw [HE.out]; exact HH.out, BX.out.trans B4.out⟩
end Go.Proofs.YtcapfafglikcmaaDoor
end

section
/- Several steps: the model's functions. -/
namespace Go.Proofs.YtcapfafglikcmaaDoor
open Go.ChangeShapes Go.WideShapes Go.ChangeAt Go.RowKit

set_option maxHeartbeats 1000000 in
theorem spec_run (A : Option Addr) (c : Nat) (R : Option Addr) (d : Nat) (B : Option Addr) (g : Nat) (n k m : Nat) (X : Mach) (s : Int) (fa fr fb : List Nat) (w : World) (h : MHas w A n R k B m X fa fr fb) (f : Fits X 1000000000) :
    Calls Tryd.prog 20 #[.agg #[.slice A n c, .slice R k d, .int .i64 X.mem.bank, .int .i64 X.a, .int .i64 X.at_, .bool X.carry, .slice B m g, .bool X.stop, .int .i64 X.cyc], .int .i64 s] w (MachNew (runX X s) w) := by
  have hn := f.n h
  have hk := f.k h
  have hm := f.m h
  have H := Lib.hid h
  have HF := Lib.hid f
  have X0 : Hid (Box ((w.alloc (.cells #[.slice A n c, .slice R k d, .int .i64 X.mem.bank, .int .i64 X.a, .int .i64 X.at_, .bool X.carry, .slice B m g, .bool X.stop, .int .i64 X.cyc] 28)).alloc (.cells #[.slice none 0 0, .slice none 0 0, .int .i64 0, .int .i64 0, .int .i64 0, .bool false, .slice none 0 0, .bool false, .int .i64 0] 28)) w.heap.size 28 [.slice A n c, .slice R k d, .int .i64 X.mem.bank, .int .i64 X.a, .int .i64 X.at_, .bool X.carry, .slice B m g, .bool X.stop, .int .i64 X.cyc]) := (Box.new w _ _).alloc _
  have X1 : Hid (Box ((w.alloc (.cells #[.slice A n c, .slice R k d, .int .i64 X.mem.bank, .int .i64 X.a, .int .i64 X.at_, .bool X.carry, .slice B m g, .bool X.stop, .int .i64 X.cyc] 28)).alloc (.cells #[.slice none 0 0, .slice none 0 0, .int .i64 0, .int .i64 0, .int .i64 0, .bool false, .slice none 0 0, .bool false, .int .i64 0] 28)) (w.heap.size + 1) 28 [.slice none 0 0, .slice none 0 0, .int .i64 0, .int .i64 0, .int .i64 0, .bool false, .slice none 0 0, .bool false, .int .i64 0]) := Box.new_at (w.alloc _) _ _ _ (by simp)
  have B0 : Hid (Below w.heap.size w ((w.alloc (.cells #[.slice A n c, .slice R k d, .int .i64 X.mem.bank, .int .i64 X.a, .int .i64 X.at_, .bool X.carry, .slice B m g, .bool X.stop, .int .i64 X.cyc] 28)).alloc (.cells #[.slice none 0 0, .slice none 0 0, .int .i64 0, .int .i64 0, .int .i64 0, .bool false, .slice none 0 0, .bool false, .int .i64 0] 28))) := below2 w _ _
  have H0 := Lib.hid (h.below (below2 w (.cells #[.slice A n c, .slice R k d, .int .i64 X.mem.bank, .int .i64 X.a, .int .i64 X.at_, .bool X.carry, .slice B m g, .bool X.stop, .int .i64 X.cyc] 28) (.cells #[.slice none 0 0, .slice none 0 0, .int .i64 0, .int .i64 0, .int .i64 0, .bool false, .slice none 0 0, .bool false, .int .i64 0] 28)))
  clear h f
  go_enter Tryd.func20, Tryd.ntmps20
  go_wp2_with fail
  refine (spec_machValid A c R d B g n k m X fa fr fb _ H0.out HF.out).mono ?_
  rintro e w1 ⟨rfl, b1⟩
  have Y0 := Lib.hid (X0.out.below b1)
  have Y1 := Lib.hid (X1.out.below b1)
  have B1 := Lib.hid (B0.out.trans (b1.mono B0.out.size))
  have H1 := Lib.hid (H0.out.below b1)
  have hz := Y1.out.lt
  clear b1 X0 X1 B0 H0
  have a0 : w1.cell? ⟨w.heap.size, 0, none⟩ = some (.slice A n c) := Y0.out.cell 0
  have a1 : w1.cell? ⟨w.heap.size, 1, none⟩ = some (.slice R k d) := Y0.out.cell 1
  have a2 : w1.cell? ⟨w.heap.size, 2, none⟩ = some (.int .i64 X.mem.bank) := Y0.out.cell 2
  have a3 : w1.cell? ⟨w.heap.size, 3, none⟩ = some (.int .i64 X.a) := Y0.out.cell 3
  have a4 : w1.cell? ⟨w.heap.size, 4, none⟩ = some (.int .i64 X.at_) := Y0.out.cell 4
  have a5 : w1.cell? ⟨w.heap.size, 5, none⟩ = some (.bool X.carry) := Y0.out.cell 5
  have a6 : w1.cell? ⟨w.heap.size, 6, none⟩ = some (.slice B m g) := Y0.out.cell 6
  have a7 : w1.cell? ⟨w.heap.size, 7, none⟩ = some (.bool X.stop) := Y0.out.cell 7
  have a8 : w1.cell? ⟨w.heap.size, 8, none⟩ = some (.int .i64 X.cyc) := Y0.out.cell 8
  have e0 : w1.cell? ⟨w.heap.size + 1, 0, none⟩ = some (.slice none 0 0) := Y1.out.cell 0
  have e1 : w1.cell? ⟨w.heap.size + 1, 1, none⟩ = some (.slice none 0 0) := Y1.out.cell 1
  have e2 : w1.cell? ⟨w.heap.size + 1, 2, none⟩ = some (.int .i64 0) := Y1.out.cell 2
  have e3 : w1.cell? ⟨w.heap.size + 1, 3, none⟩ = some (.int .i64 0) := Y1.out.cell 3
  have e4 : w1.cell? ⟨w.heap.size + 1, 4, none⟩ = some (.int .i64 0) := Y1.out.cell 4
  have e5 : w1.cell? ⟨w.heap.size + 1, 5, none⟩ = some (.bool false) := Y1.out.cell 5
  have e6 : w1.cell? ⟨w.heap.size + 1, 6, none⟩ = some (.slice none 0 0) := Y1.out.cell 6
  have e7 : w1.cell? ⟨w.heap.size + 1, 7, none⟩ = some (.bool false) := Y1.out.cell 7
  have e8 : w1.cell? ⟨w.heap.size + 1, 8, none⟩ = some (.int .i64 0) := Y1.out.cell 8
  have f0 := Y1.out.frozen 0
  have f1 := Y1.out.frozen 1
  have f2 := Y1.out.frozen 2
  have f3 := Y1.out.frozen 3
  have f4 := Y1.out.frozen 4
  have f5 := Y1.out.frozen 5
  have f6 := Y1.out.frozen 6
  have f7 := Y1.out.frozen 7
  have f8 := Y1.out.frozen 8
  rcases hv : machB X with _ | _
  · have HE := Lib.hid (show runX X s = machZ by unfold runX; rw [hv]; simp)
    clear hv
    go_wp2_with fail
    refine bodyPost_ret (v := .agg #[.slice none 0 0, .slice none 0 0, .int .i64 0, .int .i64 0, .int .i64 0, .bool false, .slice none 0 0, .bool false, .int .i64 0]) (by simp [results, Tryd.results20, go_sem, e0, e1, e2, e3, e4, e5, e6, e7, e8]) rfl ?_
    rw [HE.out]
    exact machZ_new (((((((((B1.out.setCell (show w.heap.size ≤ w.heap.size + 1 by omega) _).setCell (show w.heap.size ≤ w.heap.size + 1 by omega) _).setCell (show w.heap.size ≤ w.heap.size + 1 by omega) _).setCell (show w.heap.size ≤ w.heap.size + 1 by omega) _).setCell (show w.heap.size ≤ w.heap.size + 1 by omega) _).setCell (show w.heap.size ≤ w.heap.size + 1 by omega) _).setCell (show w.heap.size ≤ w.heap.size + 1 by omega) _).setCell (show w.heap.size ≤ w.heap.size + 1 by omega) _).setCell (show w.heap.size ≤ w.heap.size + 1 by omega) _)
  · have HV := Lib.hid hv
    clear hv
    go_wp2_with fail
    refine (l1In_any _ _ _ _).mono ?_; rintro e w' ⟨rfl, rfl⟩
    rcases hs : betB s 0 500 with _ | _
    · have HE := Lib.hid (show runX X s = machZ by unfold runX; rw [show stepsB s = false from hs]; simp)
      clear hs
      go_wp2_with fail
      refine bodyPost_ret (v := .agg #[.slice none 0 0, .slice none 0 0, .int .i64 0, .int .i64 0, .int .i64 0, .bool false, .slice none 0 0, .bool false, .int .i64 0]) (by simp [results, Tryd.results20, go_sem, e0, e1, e2, e3, e4, e5, e6, e7, e8]) rfl ?_
      rw [HE.out]
      exact machZ_new (((((((((B1.out.setCell (show w.heap.size ≤ w.heap.size + 1 by omega) _).setCell (show w.heap.size ≤ w.heap.size + 1 by omega) _).setCell (show w.heap.size ≤ w.heap.size + 1 by omega) _).setCell (show w.heap.size ≤ w.heap.size + 1 by omega) _).setCell (show w.heap.size ≤ w.heap.size + 1 by omega) _).setCell (show w.heap.size ≤ w.heap.size + 1 by omega) _).setCell (show w.heap.size ≤ w.heap.size + 1 by omega) _).setCell (show w.heap.size ≤ w.heap.size + 1 by omega) _).setCell (show w.heap.size ≤ w.heap.size + 1 by omega) _)
    · have HE := Lib.hid (show runX X s = runN X s.toNat by unfold runX; rw [show stepsB s = true from hs, HV.out, if_pos ⟨rfl, rfl⟩])
      obtain ⟨s0, s5⟩ : 0 ≤ s ∧ s ≤ 500 := by simpa [betB] using hs
      clear hs
      obtain ⟨S, rfl⟩ := Int.eq_ofNat_of_zero_le s0
      have s5 : S ≤ 500 := by omega
      go_wp2_with fail
      refine (copy_mach A c R d B g n k m X fa fr fb _ H1.out HF.out).mono ?_
      rintro e w2 ⟨A2, n2, c2, R2, k2, d2, B2, m2, g2, fa2, fr2, fb2, rfl, hc, hh, hnw, b2, hown, hsole⟩
      have M2 := Lib.hid (machIn_new hc hh hnw hown hsole b2.size)
      have V1 := Lib.hid (Y1.out.below b2)
      have B2' := Lib.hid ((B1.out.trans (b2.mono B1.out.size)))
      have l1 := b2.size
      clear hc hh hnw b2 hown hsole a0 a1 a2 a3 a4 a5 a6 a7 a8 e0 e1 e2 e3 e4 e5 e6 e7 e8 f0 f1 f2 f3 f4 f5 f6 f7 f8
      go_upto_region 4 with (fail)
      go_wp2_with fail
      go_loopw [6] (fun i wr => ∃ j : Nat, j ≤ S ∧ i = .int .i64 j ∧ MachHere wr w2.heap.size (runN X j) w1.heap.size ∧ Box wr (w.heap.size + 1) 28 [.slice none 0 0, .slice none 0 0, .int .i64 0, .int .i64 0, .int .i64 0, .bool false, .slice none 0 0, .bool false, .int .i64 0] ∧ Below w.heap.size w wr) (fun i _ => S - (intOf i).toNat)
      case atStart => exact ⟨0, by omega, rfl, M2.out.here, V1.out.alloc _, B2'.out.alloc B2'.out.size _⟩
      case round =>
        obtain ⟨j, hj, rfl, ⟨A3, c3, R3, d3, B3, g3, n3, k3, m3, fa3, fr3, fb3, hm3⟩, hb3, hbw⟩ := hrel
        have M3 := Lib.hid hm3
        have Z3 := Lib.hid hb3
        have B3' := Lib.hid hbw
        have GR := Lib.hid (run_good HV.out j (by omega))
        clear hm3 hb3 hbw M2 V1
        by_cases hlt : j < S
        · go_wp2_with fail
          refine (spec_step M3.out GR.out (by omega)).mono ?_
          rintro e w4 ⟨rfl, hh4, b4⟩
          have HH := Lib.hid hh4
          have B4 := Lib.hid b4
          clear hh4 b4
          go_wp2_with fail
          go_roundw
          case rel => exact ⟨j + 1, by omega, by go_num, HH.out, Z3.out.keep B4.out (by omega), B3'.out.trans (B4.out.mono B1.out.size)⟩
          case measure => simp [intOf]; omega
        · obtain rfl : j = S := by omega
          have HE2 := Lib.hid (show runX X (j : Int) = runN X j from HE.out)
          have GF := Lib.hid (fits_mono (fits_good GR.out) (show 256 ≤ 1000000000 by omega))
          obtain ⟨Y, hY⟩ : ∃ Y, Y = runN X j := ⟨_, rfl⟩
          rw [← hY] at M3 HE2 GF
          clear GR hY HE
          have a0 : wr.cell? ⟨w2.heap.size, 0, none⟩ = some (.slice A3 n3 c3) := M3.out.box.cell 0
          have a1 : wr.cell? ⟨w2.heap.size, 1, none⟩ = some (.slice R3 k3 d3) := M3.out.box.cell 1
          have a2 : wr.cell? ⟨w2.heap.size, 2, none⟩ = some (.int .i64 Y.mem.bank) := M3.out.box.cell 2
          have a3 : wr.cell? ⟨w2.heap.size, 3, none⟩ = some (.int .i64 Y.a) := M3.out.box.cell 3
          have a4 : wr.cell? ⟨w2.heap.size, 4, none⟩ = some (.int .i64 Y.at_) := M3.out.box.cell 4
          have a5 : wr.cell? ⟨w2.heap.size, 5, none⟩ = some (.bool Y.carry) := M3.out.box.cell 5
          have a6 : wr.cell? ⟨w2.heap.size, 6, none⟩ = some (.slice B3 m3 g3) := M3.out.box.cell 6
          have a7 : wr.cell? ⟨w2.heap.size, 7, none⟩ = some (.bool Y.stop) := M3.out.box.cell 7
          have a8 : wr.cell? ⟨w2.heap.size, 8, none⟩ = some (.int .i64 Y.cyc) := M3.out.box.cell 8
          go_wp2_with fail
          refine (copy_mach A3 c3 R3 d3 B3 g3 n3 k3 m3 Y fa3 fr3 fb3 _ M3.out.has GF.out).mono ?_
          rintro e w5 ⟨A5, n5, c5, R5, k5, d5, B5, m5, g5, fa5, fr5, fb5, rfl, hc5, hh5, hn5, b5, _⟩
          have Z5 := Lib.hid (Z3.out.below b5)
          have B5' := Lib.hid (B3'.out.trans (b5.mono B3'.out.size))
          have HC5 := Lib.hid hc5
          have HH5 := Lib.hid hh5
          have HN5 := Lib.hid hn5
          have l5 := Z3.out.lt
          have l6 := B3'.out.size
          clear hc5 hh5 hn5 b5 a0 a1 a2 a3 a4 a5 a6 a7 a8
          have e0 : w5.cell? ⟨w.heap.size + 1, 0, none⟩ = some (.slice none 0 0) := Z5.out.cell 0
          have e1 : w5.cell? ⟨w.heap.size + 1, 1, none⟩ = some (.slice none 0 0) := Z5.out.cell 1
          have e2 : w5.cell? ⟨w.heap.size + 1, 2, none⟩ = some (.int .i64 0) := Z5.out.cell 2
          have e3 : w5.cell? ⟨w.heap.size + 1, 3, none⟩ = some (.int .i64 0) := Z5.out.cell 3
          have e4 : w5.cell? ⟨w.heap.size + 1, 4, none⟩ = some (.int .i64 0) := Z5.out.cell 4
          have e5 : w5.cell? ⟨w.heap.size + 1, 5, none⟩ = some (.bool false) := Z5.out.cell 5
          have e6 : w5.cell? ⟨w.heap.size + 1, 6, none⟩ = some (.slice none 0 0) := Z5.out.cell 6
          have e7 : w5.cell? ⟨w.heap.size + 1, 7, none⟩ = some (.bool false) := Z5.out.cell 7
          have e8 : w5.cell? ⟨w.heap.size + 1, 8, none⟩ = some (.int .i64 0) := Z5.out.cell 8
          have f0 := Z5.out.frozen 0
          have f1 := Z5.out.frozen 1
          have f2 := Z5.out.frozen 2
          have f3 := Z5.out.frozen 3
          have f4 := Z5.out.frozen 4
          have f5 := Z5.out.frozen 5
          have f6 := Z5.out.frozen 6
          have f7 := Z5.out.frozen 7
          have f8 := Z5.out.frozen 8
          go_wp2_with fail
          refine bodyPost_ret (v := .agg #[.slice A5 n5 c5, .slice R5 k5 d5, .int .i64 Y.mem.bank, .int .i64 Y.a, .int .i64 Y.at_, .bool Y.carry, .slice B5 m5 g5, .bool Y.stop, .int .i64 Y.cyc]) (by simp [results, Tryd.results20, go_sem, e0, e1, e2, e3, e4, e5, e6, e7, e8]) rfl ?_
          rw [HE2.out]
          refine mach_handed (w := w) (S := [w.heap.size + 1]) (L := wr.heap.size) HC5.out HH5.out HN5.out ?_ (by intro b hb; simp at hb; omega) (by omega) ?_
          · exact ((((((((((Only.refl _ w5).setCell (.inl (by simp)) _).setCell (.inl (by simp)) _).setCell (.inl (by simp)) _).setCell (.inl (by simp)) _).setCell (.inl (by simp)) _).setCell (.inl (by simp)) _).setCell (.inl (by simp)) _).setCell (.inl (by simp)) _).setCell (.inl (by simp)) _)
          · exact (((((((((B5'.out.setCell (show w.heap.size ≤ w.heap.size + 1 by omega) _).setCell (show w.heap.size ≤ w.heap.size + 1 by omega) _).setCell (show w.heap.size ≤ w.heap.size + 1 by omega) _).setCell (show w.heap.size ≤ w.heap.size + 1 by omega) _).setCell (show w.heap.size ≤ w.heap.size + 1 by omega) _).setCell (show w.heap.size ≤ w.heap.size + 1 by omega) _).setCell (show w.heap.size ≤ w.heap.size + 1 by omega) _).setCell (show w.heap.size ≤ w.heap.size + 1 by omega) _).setCell (show w.heap.size ≤ w.heap.size + 1 by omega) _)
set_option maxHeartbeats 1000000 in
theorem spec_stepM (A : Option Addr) (c : Nat) (R : Option Addr) (d : Nat) (B : Option Addr) (g : Nat) (n k m : Nat) (X : Mach) (fa fr fb : List Nat) (w : World) (h : MHas w A n R k B m X fa fr fb) (f : Fits X 1000000000) :
    Calls Tryd.prog 10 #[.agg #[.slice A n c, .slice R k d, .int .i64 X.mem.bank, .int .i64 X.a, .int .i64 X.at_, .bool X.carry, .slice B m g, .bool X.stop, .int .i64 X.cyc]] w (MachNew (runX X 1) w) := by
  have hn := f.n h
  have hk := f.k h
  have hm := f.m h
  have H := Lib.hid h
  have HF := Lib.hid f
  have X0 : Hid (Box ((w.alloc (.cells #[.slice A n c, .slice R k d, .int .i64 X.mem.bank, .int .i64 X.a, .int .i64 X.at_, .bool X.carry, .slice B m g, .bool X.stop, .int .i64 X.cyc] 28)).alloc (.cells #[.slice none 0 0, .slice none 0 0, .int .i64 0, .int .i64 0, .int .i64 0, .bool false, .slice none 0 0, .bool false, .int .i64 0] 28)) w.heap.size 28 [.slice A n c, .slice R k d, .int .i64 X.mem.bank, .int .i64 X.a, .int .i64 X.at_, .bool X.carry, .slice B m g, .bool X.stop, .int .i64 X.cyc]) := (Box.new w _ _).alloc _
  have X1 : Hid (Box ((w.alloc (.cells #[.slice A n c, .slice R k d, .int .i64 X.mem.bank, .int .i64 X.a, .int .i64 X.at_, .bool X.carry, .slice B m g, .bool X.stop, .int .i64 X.cyc] 28)).alloc (.cells #[.slice none 0 0, .slice none 0 0, .int .i64 0, .int .i64 0, .int .i64 0, .bool false, .slice none 0 0, .bool false, .int .i64 0] 28)) (w.heap.size + 1) 28 [.slice none 0 0, .slice none 0 0, .int .i64 0, .int .i64 0, .int .i64 0, .bool false, .slice none 0 0, .bool false, .int .i64 0]) := Box.new_at (w.alloc _) _ _ _ (by simp)
  have B0 : Hid (Below w.heap.size w ((w.alloc (.cells #[.slice A n c, .slice R k d, .int .i64 X.mem.bank, .int .i64 X.a, .int .i64 X.at_, .bool X.carry, .slice B m g, .bool X.stop, .int .i64 X.cyc] 28)).alloc (.cells #[.slice none 0 0, .slice none 0 0, .int .i64 0, .int .i64 0, .int .i64 0, .bool false, .slice none 0 0, .bool false, .int .i64 0] 28))) := below2 w _ _
  have H0 := Lib.hid (h.below (below2 w (.cells #[.slice A n c, .slice R k d, .int .i64 X.mem.bank, .int .i64 X.a, .int .i64 X.at_, .bool X.carry, .slice B m g, .bool X.stop, .int .i64 X.cyc] 28) (.cells #[.slice none 0 0, .slice none 0 0, .int .i64 0, .int .i64 0, .int .i64 0, .bool false, .slice none 0 0, .bool false, .int .i64 0] 28)))
  clear h f
  go_enter Tryd.func10, Tryd.ntmps10
  go_wp2_with fail
  refine (spec_machValid A c R d B g n k m X fa fr fb _ H0.out HF.out).mono ?_
  rintro e w1 ⟨rfl, b1⟩
  have Y0 := Lib.hid (X0.out.below b1)
  have Y1 := Lib.hid (X1.out.below b1)
  have B1 := Lib.hid (B0.out.trans (b1.mono B0.out.size))
  have H1 := Lib.hid (H0.out.below b1)
  have hz := Y1.out.lt
  clear b1 X0 X1 B0 H0
  have a0 : w1.cell? ⟨w.heap.size, 0, none⟩ = some (.slice A n c) := Y0.out.cell 0
  have a1 : w1.cell? ⟨w.heap.size, 1, none⟩ = some (.slice R k d) := Y0.out.cell 1
  have a2 : w1.cell? ⟨w.heap.size, 2, none⟩ = some (.int .i64 X.mem.bank) := Y0.out.cell 2
  have a3 : w1.cell? ⟨w.heap.size, 3, none⟩ = some (.int .i64 X.a) := Y0.out.cell 3
  have a4 : w1.cell? ⟨w.heap.size, 4, none⟩ = some (.int .i64 X.at_) := Y0.out.cell 4
  have a5 : w1.cell? ⟨w.heap.size, 5, none⟩ = some (.bool X.carry) := Y0.out.cell 5
  have a6 : w1.cell? ⟨w.heap.size, 6, none⟩ = some (.slice B m g) := Y0.out.cell 6
  have a7 : w1.cell? ⟨w.heap.size, 7, none⟩ = some (.bool X.stop) := Y0.out.cell 7
  have a8 : w1.cell? ⟨w.heap.size, 8, none⟩ = some (.int .i64 X.cyc) := Y0.out.cell 8
  have e0 : w1.cell? ⟨w.heap.size + 1, 0, none⟩ = some (.slice none 0 0) := Y1.out.cell 0
  have e1 : w1.cell? ⟨w.heap.size + 1, 1, none⟩ = some (.slice none 0 0) := Y1.out.cell 1
  have e2 : w1.cell? ⟨w.heap.size + 1, 2, none⟩ = some (.int .i64 0) := Y1.out.cell 2
  have e3 : w1.cell? ⟨w.heap.size + 1, 3, none⟩ = some (.int .i64 0) := Y1.out.cell 3
  have e4 : w1.cell? ⟨w.heap.size + 1, 4, none⟩ = some (.int .i64 0) := Y1.out.cell 4
  have e5 : w1.cell? ⟨w.heap.size + 1, 5, none⟩ = some (.bool false) := Y1.out.cell 5
  have e6 : w1.cell? ⟨w.heap.size + 1, 6, none⟩ = some (.slice none 0 0) := Y1.out.cell 6
  have e7 : w1.cell? ⟨w.heap.size + 1, 7, none⟩ = some (.bool false) := Y1.out.cell 7
  have e8 : w1.cell? ⟨w.heap.size + 1, 8, none⟩ = some (.int .i64 0) := Y1.out.cell 8
  have f0 := Y1.out.frozen 0
  have f1 := Y1.out.frozen 1
  have f2 := Y1.out.frozen 2
  have f3 := Y1.out.frozen 3
  have f4 := Y1.out.frozen 4
  have f5 := Y1.out.frozen 5
  have f6 := Y1.out.frozen 6
  have f7 := Y1.out.frozen 7
  have f8 := Y1.out.frozen 8
  rcases hv : machB X with _ | _
  · have HE := Lib.hid (show runX X 1 = machZ by unfold runX; rw [hv]; simp)
    clear hv
    go_wp2_with fail
    refine bodyPost_ret (v := .agg #[.slice none 0 0, .slice none 0 0, .int .i64 0, .int .i64 0, .int .i64 0, .bool false, .slice none 0 0, .bool false, .int .i64 0]) (by simp [results, Tryd.results10, go_sem, e0, e1, e2, e3, e4, e5, e6, e7, e8]) rfl ?_
    rw [HE.out]
    exact machZ_new (((((((((B1.out.setCell (show w.heap.size ≤ w.heap.size + 1 by omega) _).setCell (show w.heap.size ≤ w.heap.size + 1 by omega) _).setCell (show w.heap.size ≤ w.heap.size + 1 by omega) _).setCell (show w.heap.size ≤ w.heap.size + 1 by omega) _).setCell (show w.heap.size ≤ w.heap.size + 1 by omega) _).setCell (show w.heap.size ≤ w.heap.size + 1 by omega) _).setCell (show w.heap.size ≤ w.heap.size + 1 by omega) _).setCell (show w.heap.size ≤ w.heap.size + 1 by omega) _).setCell (show w.heap.size ≤ w.heap.size + 1 by omega) _)
  · have HE := Lib.hid (show runX X 1 = stepN X by unfold runX; rw [hv, if_pos ⟨rfl, rfl⟩]; rfl)
    have HG := Lib.hid (goodX_of hv)
    clear hv
    go_wp2_with fail
    refine (copy_mach A c R d B g n k m X fa fr fb _ H1.out HF.out).mono ?_
    rintro e w2 ⟨A2, n2, c2, R2, k2, d2, B2, m2, g2, fa2, fr2, fb2, rfl, hc, hh, hnw, b2, hown, hsole⟩
    have M2 := Lib.hid (machIn_new hc hh hnw hown hsole b2.size)
    have V1 := Lib.hid (Y1.out.below b2)
    have B2' := Lib.hid ((B1.out.trans (b2.mono B1.out.size)))
    have l1 := b2.size
    clear hc hh hnw b2 hown hsole a0 a1 a2 a3 a4 a5 a6 a7 a8 e0 e1 e2 e3 e4 e5 e6 e7 e8 f0 f1 f2 f3 f4 f5 f6 f7 f8
    have V1a := Lib.hid (V1.out.alloc (.cells #[.slice A2 n2 c2, .slice R2 k2 d2, .int .i64 X.mem.bank, .int .i64 X.a, .int .i64 X.at_, .bool X.carry, .slice B2 m2 g2, .bool X.stop, .int .i64 X.cyc] 28))
    have B2a := Lib.hid (B2'.out.alloc B2'.out.size (.cells #[.slice A2 n2 c2, .slice R2 k2 d2, .int .i64 X.mem.bank, .int .i64 X.a, .int .i64 X.at_, .bool X.carry, .slice B2 m2 g2, .bool X.stop, .int .i64 X.cyc] 28))
    go_wp2_with fail
    refine (spec_step M2.out HG.out (by omega)).mono ?_
    rintro e w4 ⟨rfl, hh4, b4⟩
    obtain ⟨A3, c3, R3, d3, B3, g3, n3, k3, m3, fa3, fr3, fb3, hm3⟩ := hh4
    have M3 := Lib.hid hm3
    have Z3 := Lib.hid (V1a.out.keep b4 (by omega))
    have B3' := Lib.hid (B2a.out.trans (b4.mono B1.out.size))
    have GF := Lib.hid (fits_mono (fits_good (good_step HG.out)) (show 256 ≤ 1000000000 by omega))
    clear hm3 b4 M2 V1
    obtain ⟨Y, hY⟩ : ∃ Y, Y = stepN X := ⟨_, rfl⟩
    rw [← hY] at M3 HE GF
    clear hY
    have a0 : w4.cell? ⟨w2.heap.size, 0, none⟩ = some (.slice A3 n3 c3) := M3.out.box.cell 0
    have a1 : w4.cell? ⟨w2.heap.size, 1, none⟩ = some (.slice R3 k3 d3) := M3.out.box.cell 1
    have a2 : w4.cell? ⟨w2.heap.size, 2, none⟩ = some (.int .i64 Y.mem.bank) := M3.out.box.cell 2
    have a3 : w4.cell? ⟨w2.heap.size, 3, none⟩ = some (.int .i64 Y.a) := M3.out.box.cell 3
    have a4 : w4.cell? ⟨w2.heap.size, 4, none⟩ = some (.int .i64 Y.at_) := M3.out.box.cell 4
    have a5 : w4.cell? ⟨w2.heap.size, 5, none⟩ = some (.bool Y.carry) := M3.out.box.cell 5
    have a6 : w4.cell? ⟨w2.heap.size, 6, none⟩ = some (.slice B3 m3 g3) := M3.out.box.cell 6
    have a7 : w4.cell? ⟨w2.heap.size, 7, none⟩ = some (.bool Y.stop) := M3.out.box.cell 7
    have a8 : w4.cell? ⟨w2.heap.size, 8, none⟩ = some (.int .i64 Y.cyc) := M3.out.box.cell 8
    go_wp2_with fail
    refine (copy_mach A3 c3 R3 d3 B3 g3 n3 k3 m3 Y fa3 fr3 fb3 _ M3.out.has GF.out).mono ?_
    rintro e w5 ⟨A5, n5, c5, R5, k5, d5, B5, m5, g5, fa5, fr5, fb5, rfl, hc5, hh5, hn5, b5, _⟩
    have Z5 := Lib.hid (Z3.out.below b5)
    have B5' := Lib.hid (B3'.out.trans (b5.mono B3'.out.size))
    have HC5 := Lib.hid hc5
    have HH5 := Lib.hid hh5
    have HN5 := Lib.hid hn5
    have l5 := Z3.out.lt
    have l6 := B3'.out.size
    clear hc5 hh5 hn5 b5 a0 a1 a2 a3 a4 a5 a6 a7 a8
    have e0 : w5.cell? ⟨w.heap.size + 1, 0, none⟩ = some (.slice none 0 0) := Z5.out.cell 0
    have e1 : w5.cell? ⟨w.heap.size + 1, 1, none⟩ = some (.slice none 0 0) := Z5.out.cell 1
    have e2 : w5.cell? ⟨w.heap.size + 1, 2, none⟩ = some (.int .i64 0) := Z5.out.cell 2
    have e3 : w5.cell? ⟨w.heap.size + 1, 3, none⟩ = some (.int .i64 0) := Z5.out.cell 3
    have e4 : w5.cell? ⟨w.heap.size + 1, 4, none⟩ = some (.int .i64 0) := Z5.out.cell 4
    have e5 : w5.cell? ⟨w.heap.size + 1, 5, none⟩ = some (.bool false) := Z5.out.cell 5
    have e6 : w5.cell? ⟨w.heap.size + 1, 6, none⟩ = some (.slice none 0 0) := Z5.out.cell 6
    have e7 : w5.cell? ⟨w.heap.size + 1, 7, none⟩ = some (.bool false) := Z5.out.cell 7
    have e8 : w5.cell? ⟨w.heap.size + 1, 8, none⟩ = some (.int .i64 0) := Z5.out.cell 8
    have f0 := Z5.out.frozen 0
    have f1 := Z5.out.frozen 1
    have f2 := Z5.out.frozen 2
    have f3 := Z5.out.frozen 3
    have f4 := Z5.out.frozen 4
    have f5 := Z5.out.frozen 5
    have f6 := Z5.out.frozen 6
    have f7 := Z5.out.frozen 7
    have f8 := Z5.out.frozen 8
    go_wp2_with fail
    refine bodyPost_ret (v := .agg #[.slice A5 n5 c5, .slice R5 k5 d5, .int .i64 Y.mem.bank, .int .i64 Y.a, .int .i64 Y.at_, .bool Y.carry, .slice B5 m5 g5, .bool Y.stop, .int .i64 Y.cyc]) (by simp [results, Tryd.results10, go_sem, e0, e1, e2, e3, e4, e5, e6, e7, e8]) rfl ?_
    rw [HE.out]
    refine mach_handed (w := w) (S := [w.heap.size + 1]) (L := w4.heap.size) HC5.out HH5.out HN5.out ?_ (by intro b hb; simp at hb; omega) (by omega) ?_
    · exact ((((((((((Only.refl _ w5).setCell (.inl (by simp)) _).setCell (.inl (by simp)) _).setCell (.inl (by simp)) _).setCell (.inl (by simp)) _).setCell (.inl (by simp)) _).setCell (.inl (by simp)) _).setCell (.inl (by simp)) _).setCell (.inl (by simp)) _).setCell (.inl (by simp)) _)
    · exact (((((((((B5'.out.setCell (show w.heap.size ≤ w.heap.size + 1 by omega) _).setCell (show w.heap.size ≤ w.heap.size + 1 by omega) _).setCell (show w.heap.size ≤ w.heap.size + 1 by omega) _).setCell (show w.heap.size ≤ w.heap.size + 1 by omega) _).setCell (show w.heap.size ≤ w.heap.size + 1 by omega) _).setCell (show w.heap.size ≤ w.heap.size + 1 by omega) _).setCell (show w.heap.size ≤ w.heap.size + 1 by omega) _).setCell (show w.heap.size ≤ w.heap.size + 1 by omega) _).setCell (show w.heap.size ≤ w.heap.size + 1 by omega) _)
end Go.Proofs.YtcapfafglikcmaaDoor
end
