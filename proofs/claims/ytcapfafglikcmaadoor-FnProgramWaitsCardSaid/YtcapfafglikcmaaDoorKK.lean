import Derived.Test.YtcapfafglikcmaaDoorMchR
import Derived.Deep.DeepCutAuto
import Derived.Test.YtcapfafglikcmaaDoorMchB
import Derived.Test.YtcapfafglikcmaaDoorKH

section
/- One step of the program's machine: the walk. -/
namespace Go.Proofs.YtcapfafglikcmaaDoor
open Go.ChangeShapes Go.WideShapes Go.ChangeAt Go.RowKit

theorem decV_some (op arg : Int) : decV (some (op, arg)) = .tuple #[.agg #[.int .i64 op, .int .i64 arg], .int .i64 (lenN op), .bool true] := rfl
theorem decV_none : decV none = .tuple #[.agg #[.int .i64 0, .int .i64 0], .int .i64 0, .bool false] := rfl
theorem enters {f : FuncId} {fn : Func} (hf : Tryd.prog.funcs[f]? = some fn) (hn : (fn.name == "runtime.NumGoroutine") = false) (hb : fn.body.isNone = false) (args : Array Value) (w : World) : (callFunc f args).run Tryd.prog w = .ok (.enter f args) w := by
  have h1 : fn.name ≠ "runtime.NumGoroutine" := by simpa using hn
  have h2 : fn.body ≠ none := by intro e; rw [e] at hb; cases hb
  simp [callFunc, go_sem, hf, h1, h2]
theorem act_all (q : Nat) (A : Option Addr) (c : Nat) (R : Option Addr) (d : Nat) (B : Option Addr) (g n k m : Nat) (Y : Mach) (fa fr fb : List Nat) (L : Nat) (op arg C : Int) (GY : GoodX Y C) (p0 : 0 ≤ op) (p1 : op ≤ 15) (r0 : 0 ≤ arg) (r1 : arg ≤ 1023) :
    ∃ f, (∀ args w, (callFunc f args).run Tryd.prog w = .ok (.enter f args) w) ∧ (∀ w, Calls Tryd.prog 59 #[.int .i64 op] w (Acts f w)) ∧ ∀ w, MachIn w q A c R d B g n k m Y fa fr fb L → Calls Tryd.prog f #[.pointer (some ⟨q, 0, none⟩), .int .i64 arg] w (Did q (doN Y op arg) L w) := by
  obtain rfl | rfl | rfl | rfl | rfl | rfl | rfl | rfl | rfl | rfl | rfl | rfl | rfl | rfl | rfl | rfl : op = 0 ∨ op = 1 ∨ op = 2 ∨ op = 3 ∨ op = 4 ∨ op = 5 ∨ op = 6 ∨ op = 7 ∨ op = 8 ∨ op = 9 ∨ op = 10 ∨ op = 11 ∨ op = 12 ∨ op = 13 ∨ op = 14 ∨ op = 15 := by omega
  · exact ⟨_, enters Tryd.func81 (by kernel_rfl) (by kernel_rfl), act_0, fun w h => by rw [doN_0]; exact do_wait arg h⟩
  · exact ⟨_, enters Tryd.func82 (by kernel_rfl) (by kernel_rfl), act_1, fun w h => by rw [doN_1]; exact do_set arg h⟩
  · exact ⟨_, enters Tryd.func83 (by kernel_rfl) (by kernel_rfl), act_2, fun w h => by rw [doN_2]; exact do_load arg h GY.mem r0 r1⟩
  · exact ⟨_, enters Tryd.func84 (by kernel_rfl) (by kernel_rfl), act_3, fun w h => by rw [doN_3]; exact do_store arg h GY.mem r0 r1 GY.a0 GY.a1⟩
  · exact ⟨_, enters Tryd.func85 (by kernel_rfl) (by kernel_rfl), act_4, fun w h => by rw [doN_4]; exact do_add arg h GY.mem r0 r1 GY.a0 GY.a1⟩
  · exact ⟨_, enters Tryd.func86 (by kernel_rfl) (by kernel_rfl), act_5, fun w h => by rw [doN_5]; exact do_sub arg h GY.mem r0 r1 GY.a0 GY.a1⟩
  · exact ⟨_, enters Tryd.func87 (by kernel_rfl) (by kernel_rfl), act_6, fun w h => by rw [doN_6]; exact do_and arg h GY.mem r0 r1⟩
  · exact ⟨_, enters Tryd.func88 (by kernel_rfl) (by kernel_rfl), act_7, fun w h => by rw [doN_7]; exact do_xor arg h GY.mem r0 r1⟩
  · exact ⟨_, enters Tryd.func89 (by kernel_rfl) (by kernel_rfl), act_8, fun w h => by rw [doN_8]; exact do_left arg h GY.a0 GY.a1⟩
  · exact ⟨_, enters Tryd.func90 (by kernel_rfl) (by kernel_rfl), act_9, fun w h => by rw [doN_9]; exact do_right arg h GY.a0 GY.a1⟩
  · exact ⟨_, enters Tryd.func91 (by kernel_rfl) (by kernel_rfl), act_10, fun w h => by rw [doN_10]; exact do_jump arg h⟩
  · exact ⟨_, enters Tryd.func92 (by kernel_rfl) (by kernel_rfl), act_11, fun w h => by rw [doN_11]; exact do_zero arg h⟩
  · exact ⟨_, enters Tryd.func93 (by kernel_rfl) (by kernel_rfl), act_12, fun w h => by rw [doN_12]; exact do_carry arg h⟩
  · exact ⟨_, enters Tryd.func94 (by kernel_rfl) (by kernel_rfl), act_13, fun w h => by rw [doN_13]; exact do_call arg h GY.len⟩
  · exact ⟨_, enters Tryd.func95 (by kernel_rfl) (by kernel_rfl), act_14, fun w h => by rw [doN_14]; exact do_return arg h GY.len⟩
  · exact ⟨_, enters Tryd.func96 (by kernel_rfl) (by kernel_rfl), act_15, fun w h => by rw [doN_15]; exact do_stop arg h⟩
set_option maxHeartbeats 4000000 in
theorem impl_step {q : Nat} {A : Option Addr} {c : Nat} {R : Option Addr} {d : Nat} {B : Option Addr} {g n k m : Nat} {X : Mach} {fa fr fb : List Nat} {L : Nat} {w : World} {C : Int} (h : MachIn w q A c R d B g n k m X fa fr fb L) (gd : GoodX X C) (hC : C ≤ 2000000000) (ho : Ops w) :
    Calls Tryd.prog 41 #[.pointer (some ⟨q, 0, none⟩)] w (Did q (stepN X) L w) := by
  have H := Lib.hid h
  have HO := Lib.hid ho
  have HG := Lib.hid gd
  have e7 : w.cell? ⟨q, 7, none⟩ = some (.bool X.stop) := h.box.cell 7
  by_cases hs : X.stop = true
  · have HE := Lib.hid (show stepN X = X by unfold stepN; rw [if_pos hs])
    rw [hs] at e7
    clear h ho gd hs
    go_enter Tryd.func41, Tryd.ntmps41
    go_wp2
    go_end0
    exact ⟨rfl, by rw [HE.out]; exact H.out.here, Below.refl _ _⟩
  · rw [show X.stop = false by simpa using hs] at e7
    have HN := Lib.hid hs
    obtain ⟨T, hT⟩ := Int.eq_ofNat_of_zero_le gd.t0
    have t1 : T < 1024 := by have := gd.t1; omega
    have e0 : w.cell? ⟨q, 0, none⟩ = some (.slice A n c) := h.box.cell 0
    have e1 : w.cell? ⟨q, 1, none⟩ = some (.slice R k d) := h.box.cell 1
    have e2 : w.cell? ⟨q, 2, none⟩ = some (.int .i64 X.mem.bank) := h.box.cell 2
    have e4 : w.cell? ⟨q, 4, none⟩ = some (.int .i64 (T : Int)) := by rw [← hT]; exact h.box.cell 4
    have HT := Lib.hid hT
    have HF := Lib.hid (show fetchN X = decN (bytesN X.mem T) 0 by unfold fetchN; rw [hT]; rfl)
    obtain ⟨O, G, Lq, ok, hdv⟩ : ∃ O G Lq ok, decV (decN (bytesN X.mem T) 0) = .tuple #[.agg #[.int .i64 O, .int .i64 G], .int .i64 Lq, .bool ok] := by
      rcases decN (bytesN X.mem T) 0 with _ | ⟨op, arg⟩
      · exact ⟨_, _, _, _, decV_none⟩
      · exact ⟨_, _, _, _, decV_some op arg⟩
    have HDV := Lib.hid hdv
    have hw := h.box.lt
    have P1 := Lib.hid (h.below (w' := w.drew) ((Below.refl _ _).drew))
    have P2 := Lib.hid (h.below (w' := (w.alloc (.cells #[.int .i64 0, .int .i64 0] 61)).drew) ((below1 w _).drew))
    have Q1 : Hid (Ops w.drew) := ho.below ((Below.refl _ _).drew)
    have Q2 : Hid (Ops (w.alloc (.cells #[.int .i64 0, .int .i64 0] 61)).drew) := ho.below ((below1 w _).drew)
    have Z2 : Hid (Box (w.alloc (.cells #[.int .i64 0, .int .i64 0] 61)).drew w.heap.size 61 [.int .i64 0, .int .i64 0]) := Box.new w _ _
    have B1 : Hid (Below w.heap.size w w.drew) := (Below.refl _ _).drew
    have B2 : Hid (Below w.heap.size w (w.alloc (.cells #[.int .i64 0, .int .i64 0] 61)).drew) := (below1 w _).drew
    clear h ho gd hs hT hdv
    go_enter Tryd.func41, Tryd.ntmps41
    go_upto_region 1 with (fail)
    go_cut [2, 3, 4] (fun t2 t3 t4 wx => ∃ bo W, W = wx ∧ t2 = .pointer (some ⟨bo, 0, none⟩) ∧ t3 = .int .i64 Lq ∧ t4 = .bool ok ∧ Box W bo 61 [.int .i64 O, .int .i64 G] ∧ Below w.heap.size w W ∧ w.heap.size ≤ bo)
    case first =>
      go_region_law (first
        | (go_simp; go_at_call 57; (first
            | (refine (impl_bytesAt A n c R k d X.mem fa fr T _ P1.out.has.ram P1.out.has.rom HG.out.mem t1).mono ?_; rintro e w1 ⟨Ab, cb, fpb, rfl, hcb, ib, nb, b1⟩; have BB1 := Lib.hid (B1.out.trans (b1.mono B1.out.size)); have OP1 := Lib.hid (Q1.out.below b1); have IB1 := Lib.hid ib; have OP1a := Lib.hid ((Q1.out.below b1).below (below1 w1 (.cells #[.int .i64 0, .int .i64 0] 61))); have IB1a := Lib.hid (ib.below (below1 w1 (.cells #[.int .i64 0, .int .i64 0] 61))); have ZB := Lib.hid (Box.new w1 #[.int .i64 0, .int .i64 0] 61); have BB1a := Lib.hid (BB1.out.alloc BB1.out.size (.cells #[.int .i64 0, .int .i64 0] 61)); have s1 := BB1.out.size; clear ib nb b1)
            | (refine (impl_bytesAt A n c R k d X.mem fa fr T _ P2.out.has.ram P2.out.has.rom HG.out.mem t1).mono ?_; rintro e w1 ⟨Ab, cb, fpb, rfl, hcb, ib, nb, b1⟩; have BB1 := Lib.hid (B2.out.trans (b1.mono B2.out.size)); have OP1 := Lib.hid (Q2.out.below b1); have IB1 := Lib.hid ib; have ZA := Lib.hid (Z2.out.below b1); clear ib nb b1)))
        | (go_simp; go_at_call 56; (first
            | (refine (impl_dec Ab 3 cb (bytesN X.mem T) fpb 0 _ OP1.out IB1.out (by omega) hcb).mono ?_; rintro e w2 ⟨rfl, b2⟩; rw [HDV.out]; have BB2 := Lib.hid (BB1.out.trans (b2.mono BB1.out.size)); have s2 := BB2.out.size; first | (have YY : Hid (Box w2 w.heap.size 61 [.int .i64 0, .int .i64 0]) := ZA.out.below b2; have y0 : w2.cell? ⟨w.heap.size, 0, none⟩ = some (.int .i64 0) := YY.out.cell 0; have y1 : w2.cell? ⟨w.heap.size, 1, none⟩ = some (.int .i64 0) := YY.out.cell 1; have y2 := YY.out.frozen 0; have y3 := YY.out.frozen 1; clear b2) | clear b2)
            | (refine (impl_dec Ab 3 cb (bytesN X.mem T) fpb 0 _ OP1a.out IB1a.out (by omega) hcb).mono ?_; rintro e w2 ⟨rfl, b2⟩; rw [HDV.out]; have BB2 := Lib.hid (BB1a.out.trans (b2.mono BB1a.out.size)); have s2 := BB2.out.size; have YY : Hid (Box w2 w1.heap.size 61 [.int .i64 0, .int .i64 0]) := ZB.out.below b2; have y0 : w2.cell? ⟨w1.heap.size, 0, none⟩ = some (.int .i64 0) := YY.out.cell 0; have y1 : w2.cell? ⟨w1.heap.size, 1, none⟩ = some (.int .i64 0) := YY.out.cell 1; have y2 := YY.out.frozen 0; have y3 := YY.out.frozen 1; clear b2))))
      all_goals
        go_wp2_with fail
        go_meet
        case rel =>
          first
            | exact ⟨_, _, rfl, rfl, rfl, rfl, (YY.out.set 0 (.int .i64 O)).set 1 (.int .i64 G), (BB2.out.setCell (by first | exact Nat.le_refl _ | exact s1) _).setCell (by first | exact Nat.le_refl _ | exact s1) _, by first | exact Nat.le_refl _ | exact s1⟩
            | exact ⟨_, _, rfl, rfl, rfl, rfl, Box.new w2 #[.int .i64 O, .int .i64 G] 61, BB2.out.alloc s2 _, s2⟩
            | exact ⟨_, _, rfl, rfl, rfl, rfl, ((Box.new w2 #[.int .i64 0, .int .i64 0] 61).set 0 (.int .i64 O)).set 1 (.int .i64 G), ((BB2.out.alloc s2 _).setCell s2 _).setCell s2 _, s2⟩
    case rest =>
      obtain ⟨bo, W, rfl, rfl, rfl, rfl, hbo, hbw, hlo⟩ := hcut
      have HB := Lib.hid hbo
      have BW := Lib.hid hbw
      have HW := Lib.hid (H.out.below hbw)
      have lw : L ≤ w.heap.size := H.out.lt
      clear hbo hbw P1 P2 Q1 Q2 Z2 B1 B2 e0 e1 e2 e4 e7
      have BL := Lib.hid (show Below L w W from BW.out.mono lw)
      rcases hd : decN (bytesN X.mem T) 0 with _ | ⟨op, arg⟩
      · have HE : Hid (stepN X = { X with stop := true }) := by
          refine Lib.hid ?_
          unfold stepN
          rw [if_neg HN.out, HF.out, hd]
        rw [hd, decV_none] at HDV
        have hv := HDV.out
        injection hv with hv
        obtain ⟨⟨rfl, rfl⟩, rfl, rfl⟩ : (0 = O ∧ 0 = G) ∧ 0 = Lq ∧ ok = false := by simpa using hv
        have e7 : W.cell? ⟨q, 7, none⟩ = some (.bool X.stop) := HW.out.box.cell 7
        have f7 := HW.out.box.frozen 7
        clear hv hd HDV HF
        go_wp2_with fail
        go_end0
        exact ⟨rfl, by rw [HE.out]; exact (HW.out.store 7 (.bool true) { X with stop := true } rfl rfl rfl rfl).here, BL.out.trans (HW.out.stored 7 _)⟩
      · have HE : Hid (stepN X = doN (moveN X op) op arg) := by
          refine Lib.hid ?_
          unfold stepN
          rw [if_neg HN.out, HF.out, hd]
        obtain ⟨hop, l1, p0, p1, r0, r1, r2⟩ := dec_fit hd
        clear hop r2
        have l3 := (lenN_bd op).2
        rw [hd, decV_some] at HDV
        have hv := HDV.out
        injection hv with hv
        obtain ⟨⟨rfl, rfl⟩, rfl, rfl⟩ : (op = O ∧ arg = G) ∧ lenN op = Lq ∧ ok = true := by simpa using hv
        obtain ⟨cy, hcy⟩ : ∃ cy, cy = X.cyc := ⟨_, rfl⟩
        have c0 : 0 ≤ cy := by rw [hcy]; exact HG.out.c0
        have c1 : cy ≤ 2000000000 := by have := HG.out.c1; omega
        have e4 : W.cell? ⟨q, 4, none⟩ = some (.int .i64 (T : Int)) := by rw [← HT.out]; exact HW.out.box.cell 4
        have e8 : W.cell? ⟨q, 8, none⟩ = some (.int .i64 cy) := by rw [hcy]; exact HW.out.box.cell 8
        have f4 := HW.out.box.frozen 4
        have f8 := HW.out.box.frozen 8
        obtain ⟨Lq, hL⟩ : ∃ Lq, Lq = lenN op := ⟨_, rfl⟩
        have GY := Lib.hid (good_move HG.out op)
        have MY : Hid (MachIn ((W.setCell ⟨q, 4, none⟩ (.int .i64 (((T : Int) + Lq) % 1024))).setCell ⟨q, 8, none⟩ (.int .i64 (cy + Lq))) q A c R d B g n k m (moveN X op) fa fr fb L) := by
          refine Lib.hid ?_
          have m1 := HW.out.store 4 (.int .i64 (((T : Int) + Lq) % 1024)) { X with at_ := ((T : Int) + Lq) % 1024 } rfl rfl rfl rfl
          exact m1.store 8 (.int .i64 (cy + Lq)) (moveN X op) (by rw [hL, hcy]; unfold moveN; rw [HT.out]; rfl) rfl rfl rfl
        have BY : Hid (Below L W ((W.setCell ⟨q, 4, none⟩ (.int .i64 (((T : Int) + Lq) % 1024))).setCell ⟨q, 8, none⟩ (.int .i64 (cy + Lq)))) := ((Below.refl L W).setCell H.out.lo _).setCell H.out.lo _
        have qb : bo ≠ q := by have := H.out.box.lt; omega
        have ZY : Hid (Box ((W.setCell ⟨q, 4, none⟩ (.int .i64 (((T : Int) + Lq) % 1024))).setCell ⟨q, 8, none⟩ (.int .i64 (cy + Lq))) bo 61 [.int .i64 op, .int .i64 arg]) := (HB.out.far qb _).far qb _
        rw [← hL] at l1 l3
        rw [← hL]
        clear hv hd HDV HF hcy
        generalize moveN X op = Y at GY MY HE
        obtain ⟨C3, hC3⟩ : ∃ C3, C3 = C + 3 := ⟨_, rfl⟩
        rw [← hC3] at GY
        clear hL
        go_upto_region 6 with (first | (go_at_call 58; refine (wrap_any _ _ (by omega)).mono ?_; rintro e w' ⟨rfl, rfl⟩))
        obtain ⟨V, hV⟩ : ∃ V, V = (W.setCell ⟨q, 4, none⟩ (.int .i64 (((T : Int) + Lq) % 1024))).setCell ⟨q, 8, none⟩ (.int .i64 (cy + Lq)) := ⟨_, rfl⟩
        rw [← hV] at MY BY ZY
        rw [← hV]
        clear hV e4 e8 f4 f8
        have MV := Lib.hid (MY.out.below (w' := V.drew) ((Below.refl _ _).drew))
        have BV : Hid (Below L V V.drew) := (Below.refl _ _).drew
        have ly : L ≤ V.heap.size := MY.out.lt
        have z0 : V.cell? ⟨bo, 0, none⟩ = some (.int .i64 op) := ZY.out.cell 0
        have z1 : V.cell? ⟨bo, 1, none⟩ = some (.int .i64 arg) := ZY.out.cell 1
        have ZV : Hid (Box V.drew bo 61 [.int .i64 op, .int .i64 arg]) := ZY.out
        have BX : Hid (Below L w V) := BL.out.trans BY.out
        clear MY BY ZY HW HB BW BL HG HT HN
        obtain ⟨f, hf0, hf1, hf2⟩ := act_all q A c R d B g n k m Y fa fr fb L op arg C3 GY.out p0 p1 r0 r1
        have HA := Lib.hid hf1
        have HD := Lib.hid hf2
        clear hf1 hf2 p0 p1 r0 r1
        go_region_law (first
          | (go_simp; go_at_call 59; refine (HA.out _).mono ?_; rintro e w3 ⟨rfl, b3⟩; have M3 := Lib.hid (MV.out.below b3); have B3 : Hid (Below L V w3) := BV.out.trans (b3.mono ly); have y1 : w3.cell? ⟨bo, 1, none⟩ = some (.int .i64 arg) := (ZV.out.below b3).cell 1; clear b3)
          | (go_simp; refine (HD.out _ M3.out).mono ?_; rintro e w4 ⟨rfl, hh, b4⟩; have HH := Lib.hid hh; have B4 := Lib.hid b4; clear hh b4))
        all_goals
          go_wp2
          go_end0
          exact ⟨rfl, by rw [HE.out]; exact HH.out, (BX.out.trans B3.out).trans B4.out⟩
end Go.Proofs.YtcapfafglikcmaaDoor
end

section
/- Several steps: the program's functions. -/
namespace Go.Proofs.YtcapfafglikcmaaDoor
open Go.ChangeShapes Go.WideShapes Go.ChangeAt Go.RowKit

set_option maxHeartbeats 1000000 in
theorem impl_run (A : Option Addr) (c : Nat) (R : Option Addr) (d : Nat) (B : Option Addr) (g : Nat) (n k m : Nat) (X : Mach) (s : Int) (fa fr fb : List Nat) (w : World) (h : MHas w A n R k B m X fa fr fb) (f : Fits X 1000000000) (ho : Ops w) :
    Calls Tryd.prog 19 #[.agg #[.slice A n c, .slice R k d, .int .i64 X.mem.bank, .int .i64 X.a, .int .i64 X.at_, .bool X.carry, .slice B m g, .bool X.stop, .int .i64 X.cyc], .int .i64 s] w (MachNew (runX X s) w) := by
  have hn := f.n h
  have hk := f.k h
  have hm := f.m h
  have H := Lib.hid h
  have HF := Lib.hid f
  have HO := Lib.hid ho
  have X0 : Hid (Box ((w.alloc (.cells #[.slice A n c, .slice R k d, .int .i64 X.mem.bank, .int .i64 X.a, .int .i64 X.at_, .bool X.carry, .slice B m g, .bool X.stop, .int .i64 X.cyc] 28)).alloc (.cells #[.slice none 0 0, .slice none 0 0, .int .i64 0, .int .i64 0, .int .i64 0, .bool false, .slice none 0 0, .bool false, .int .i64 0] 28)) w.heap.size 28 [.slice A n c, .slice R k d, .int .i64 X.mem.bank, .int .i64 X.a, .int .i64 X.at_, .bool X.carry, .slice B m g, .bool X.stop, .int .i64 X.cyc]) := (Box.new w _ _).alloc _
  have X1 : Hid (Box ((w.alloc (.cells #[.slice A n c, .slice R k d, .int .i64 X.mem.bank, .int .i64 X.a, .int .i64 X.at_, .bool X.carry, .slice B m g, .bool X.stop, .int .i64 X.cyc] 28)).alloc (.cells #[.slice none 0 0, .slice none 0 0, .int .i64 0, .int .i64 0, .int .i64 0, .bool false, .slice none 0 0, .bool false, .int .i64 0] 28)) (w.heap.size + 1) 28 [.slice none 0 0, .slice none 0 0, .int .i64 0, .int .i64 0, .int .i64 0, .bool false, .slice none 0 0, .bool false, .int .i64 0]) := Box.new_at (w.alloc _) _ _ _ (by simp)
  have B0 : Hid (Below w.heap.size w ((w.alloc (.cells #[.slice A n c, .slice R k d, .int .i64 X.mem.bank, .int .i64 X.a, .int .i64 X.at_, .bool X.carry, .slice B m g, .bool X.stop, .int .i64 X.cyc] 28)).alloc (.cells #[.slice none 0 0, .slice none 0 0, .int .i64 0, .int .i64 0, .int .i64 0, .bool false, .slice none 0 0, .bool false, .int .i64 0] 28))) := below2 w _ _
  have H0 := Lib.hid (h.below (below2 w (.cells #[.slice A n c, .slice R k d, .int .i64 X.mem.bank, .int .i64 X.a, .int .i64 X.at_, .bool X.carry, .slice B m g, .bool X.stop, .int .i64 X.cyc] 28) (.cells #[.slice none 0 0, .slice none 0 0, .int .i64 0, .int .i64 0, .int .i64 0, .bool false, .slice none 0 0, .bool false, .int .i64 0] 28)))
  clear h f ho
  by_cases hs0 : s < 0
  · have HE := Lib.hid (show runX X s = machZ by unfold runX; rw [if_neg (fun e => by have := e.1; simp [stepsB] at this; omega)])
    have z1 : decide (s < 0) = true := by simpa using hs0
    go_enter Tryd.func19, Tryd.ntmps19
    go_wp2_with fail
    refine bodyPost_ret (v := .agg #[.slice none 0 0, .slice none 0 0, .int .i64 0, .int .i64 0, .int .i64 0, .bool false, .slice none 0 0, .bool false, .int .i64 0]) (by simp [results, Tryd.results19, go_sem]) rfl ?_
    rw [HE.out]
    exact machZ_new B0.out
  · by_cases hs5 : 500 < s
    · have HE := Lib.hid (show runX X s = machZ by unfold runX; rw [if_neg (fun e => by have := e.1; simp [stepsB] at this; omega)])
      have z1 : decide (s < 0) = false := by simpa using hs0
      go_enter Tryd.func19, Tryd.ntmps19
      go_wp2_with fail
      refine bodyPost_ret (v := .agg #[.slice none 0 0, .slice none 0 0, .int .i64 0, .int .i64 0, .int .i64 0, .bool false, .slice none 0 0, .bool false, .int .i64 0]) (by simp [results, Tryd.results19, go_sem]) rfl ?_
      rw [HE.out]
      exact machZ_new B0.out
    · obtain ⟨S, rfl⟩ := Int.eq_ofNat_of_zero_le (show 0 ≤ s by omega)
      have z1 : decide ((S : Int) < 0) = false := by simp
      have z2 : decide ((500 : Int) < (S : Int)) = false := by simpa using hs5
      have s5 : S ≤ 500 := by omega
      go_enter Tryd.func19, Tryd.ntmps19
      go_wp2_with fail
      refine (impl_machValid A c R d B g n k m X fa fr fb _ H0.out HF.out).mono ?_
      rintro e w1 ⟨rfl, b1⟩
      have Y0 := Lib.hid (X0.out.below b1)
      have Y1 := Lib.hid (X1.out.below b1)
      have B1 := Lib.hid (B0.out.trans (b1.mono B0.out.size))
      have H1 := Lib.hid (H0.out.below b1)
      have hz := Y1.out.lt
      clear b1 X0 X1 B0 H0
      have a0 : w1.cell? ⟨w.heap.size, 0, none⟩ = some (.slice A n c) := Y0.out.cell 0
      have a1 : w1.cell? ⟨w.heap.size, 1, none⟩ = some (.slice R k d) := Y0.out.cell 1
      have a2 : w1.cell? ⟨w.heap.size, 2, none⟩ = some (.int .i64 X.mem.bank) := Y0.out.cell 2
      have a3 : w1.cell? ⟨w.heap.size, 3, none⟩ = some (.int .i64 X.a) := Y0.out.cell 3
      have a4 : w1.cell? ⟨w.heap.size, 4, none⟩ = some (.int .i64 X.at_) := Y0.out.cell 4
      have a5 : w1.cell? ⟨w.heap.size, 5, none⟩ = some (.bool X.carry) := Y0.out.cell 5
      have a6 : w1.cell? ⟨w.heap.size, 6, none⟩ = some (.slice B m g) := Y0.out.cell 6
      have a7 : w1.cell? ⟨w.heap.size, 7, none⟩ = some (.bool X.stop) := Y0.out.cell 7
      have a8 : w1.cell? ⟨w.heap.size, 8, none⟩ = some (.int .i64 X.cyc) := Y0.out.cell 8
      have e0 : w1.cell? ⟨w.heap.size + 1, 0, none⟩ = some (.slice none 0 0) := Y1.out.cell 0
      have e1 : w1.cell? ⟨w.heap.size + 1, 1, none⟩ = some (.slice none 0 0) := Y1.out.cell 1
      have e2 : w1.cell? ⟨w.heap.size + 1, 2, none⟩ = some (.int .i64 0) := Y1.out.cell 2
      have e3 : w1.cell? ⟨w.heap.size + 1, 3, none⟩ = some (.int .i64 0) := Y1.out.cell 3
      have e4 : w1.cell? ⟨w.heap.size + 1, 4, none⟩ = some (.int .i64 0) := Y1.out.cell 4
      have e5 : w1.cell? ⟨w.heap.size + 1, 5, none⟩ = some (.bool false) := Y1.out.cell 5
      have e6 : w1.cell? ⟨w.heap.size + 1, 6, none⟩ = some (.slice none 0 0) := Y1.out.cell 6
      have e7 : w1.cell? ⟨w.heap.size + 1, 7, none⟩ = some (.bool false) := Y1.out.cell 7
      have e8 : w1.cell? ⟨w.heap.size + 1, 8, none⟩ = some (.int .i64 0) := Y1.out.cell 8
      have f0 := Y1.out.frozen 0
      have f1 := Y1.out.frozen 1
      have f2 := Y1.out.frozen 2
      have f3 := Y1.out.frozen 3
      have f4 := Y1.out.frozen 4
      have f5 := Y1.out.frozen 5
      have f6 := Y1.out.frozen 6
      have f7 := Y1.out.frozen 7
      have f8 := Y1.out.frozen 8
      rcases hv : machB X with _ | _
      · have HE := Lib.hid (show runX X S = machZ by unfold runX; rw [hv]; simp)
        clear hv
        go_wp2_with fail
        refine bodyPost_ret (v := .agg #[.slice none 0 0, .slice none 0 0, .int .i64 0, .int .i64 0, .int .i64 0, .bool false, .slice none 0 0, .bool false, .int .i64 0]) (by simp [results, Tryd.results19, go_sem, e0, e1, e2, e3, e4, e5, e6, e7, e8]) rfl ?_
        rw [HE.out]
        exact machZ_new (((((((((B1.out.setCell (show w.heap.size ≤ w.heap.size + 1 by omega) _).setCell (show w.heap.size ≤ w.heap.size + 1 by omega) _).setCell (show w.heap.size ≤ w.heap.size + 1 by omega) _).setCell (show w.heap.size ≤ w.heap.size + 1 by omega) _).setCell (show w.heap.size ≤ w.heap.size + 1 by omega) _).setCell (show w.heap.size ≤ w.heap.size + 1 by omega) _).setCell (show w.heap.size ≤ w.heap.size + 1 by omega) _).setCell (show w.heap.size ≤ w.heap.size + 1 by omega) _).setCell (show w.heap.size ≤ w.heap.size + 1 by omega) _)
      · have HE := Lib.hid (show runX X S = runN X S by unfold runX; rw [hv, if_pos ⟨by simp [stepsB]; omega, rfl⟩]; rfl)
        have HV := Lib.hid hv
        clear hv
        go_wp2_with fail
        refine (clone_mach A c R d B g n k m X fa fr fb _ H1.out HF.out).mono ?_
        rintro e w2 ⟨A2, n2, c2, R2, k2, d2, B2, m2, g2, fa2, fr2, fb2, rfl, hc, hh, hnw, b2, hown, hsole⟩
        have M2 := Lib.hid (machIn_new hc hh hnw hown hsole b2.size)
        have V1 := Lib.hid (Y1.out.below b2)
        have B2' := Lib.hid ((B1.out.trans (b2.mono B1.out.size)))
        have l1 := b2.size
        clear hc hh hnw b2 hown hsole a0 a1 a2 a3 a4 a5 a6 a7 a8 e0 e1 e2 e3 e4 e5 e6 e7 e8 f0 f1 f2 f3 f4 f5 f6 f7 f8
        go_upto_region 4 with (fail)
        go_wp2_with fail
        go_loopw [21] (fun i wr => ∃ j : Nat, j ≤ S ∧ i = .int .i64 j ∧ MachHere wr w2.heap.size (runN X j) w1.heap.size ∧ Box wr (w.heap.size + 1) 28 [.slice none 0 0, .slice none 0 0, .int .i64 0, .int .i64 0, .int .i64 0, .bool false, .slice none 0 0, .bool false, .int .i64 0] ∧ Below w.heap.size w wr) (fun i _ => S - (intOf i).toNat)
        case atStart => exact ⟨0, by omega, rfl, M2.out.here, V1.out.alloc _, B2'.out.alloc B2'.out.size _⟩
        case round =>
          obtain ⟨j, hj, rfl, ⟨A3, c3, R3, d3, B3, g3, n3, k3, m3, fa3, fr3, fb3, hm3⟩, hb3, hbw⟩ := hrel
          have M3 := Lib.hid hm3
          have Z3 := Lib.hid hb3
          have B3' := Lib.hid hbw
          have GR := Lib.hid (run_good HV.out j (by omega))
          have OR := Lib.hid (HO.out.below hbw)
          clear hm3 hb3 hbw M2 V1
          by_cases hlt : j < S
          · go_wp2_with fail
            refine (impl_step M3.out GR.out (by omega) OR.out).mono ?_
            rintro e w4 ⟨rfl, hh4, b4⟩
            have HH := Lib.hid hh4
            have B4 := Lib.hid b4
            clear hh4 b4
            go_wp2_with fail
            go_roundw
            case rel => exact ⟨j + 1, by omega, by go_num, HH.out, Z3.out.keep B4.out (by omega), B3'.out.trans (B4.out.mono B1.out.size)⟩
            case measure => simp [intOf]; omega
          · obtain rfl : j = S := by omega
            obtain ⟨Y, hY⟩ : ∃ Y, Y = runN X j := ⟨_, rfl⟩
            rw [← hY] at M3 HE
            clear GR OR hY
            have a0 : wr.cell? ⟨w2.heap.size, 0, none⟩ = some (.slice A3 n3 c3) := M3.out.box.cell 0
            have a1 : wr.cell? ⟨w2.heap.size, 1, none⟩ = some (.slice R3 k3 d3) := M3.out.box.cell 1
            have a2 : wr.cell? ⟨w2.heap.size, 2, none⟩ = some (.int .i64 Y.mem.bank) := M3.out.box.cell 2
            have a3 : wr.cell? ⟨w2.heap.size, 3, none⟩ = some (.int .i64 Y.a) := M3.out.box.cell 3
            have a4 : wr.cell? ⟨w2.heap.size, 4, none⟩ = some (.int .i64 Y.at_) := M3.out.box.cell 4
            have a5 : wr.cell? ⟨w2.heap.size, 5, none⟩ = some (.bool Y.carry) := M3.out.box.cell 5
            have a6 : wr.cell? ⟨w2.heap.size, 6, none⟩ = some (.slice B3 m3 g3) := M3.out.box.cell 6
            have a7 : wr.cell? ⟨w2.heap.size, 7, none⟩ = some (.bool Y.stop) := M3.out.box.cell 7
            have a8 : wr.cell? ⟨w2.heap.size, 8, none⟩ = some (.int .i64 Y.cyc) := M3.out.box.cell 8
            have e0 : wr.cell? ⟨w.heap.size + 1, 0, none⟩ = some (.slice none 0 0) := Z3.out.cell 0
            have e1 : wr.cell? ⟨w.heap.size + 1, 1, none⟩ = some (.slice none 0 0) := Z3.out.cell 1
            have e2 : wr.cell? ⟨w.heap.size + 1, 2, none⟩ = some (.int .i64 0) := Z3.out.cell 2
            have e3 : wr.cell? ⟨w.heap.size + 1, 3, none⟩ = some (.int .i64 0) := Z3.out.cell 3
            have e4 : wr.cell? ⟨w.heap.size + 1, 4, none⟩ = some (.int .i64 0) := Z3.out.cell 4
            have e5 : wr.cell? ⟨w.heap.size + 1, 5, none⟩ = some (.bool false) := Z3.out.cell 5
            have e6 : wr.cell? ⟨w.heap.size + 1, 6, none⟩ = some (.slice none 0 0) := Z3.out.cell 6
            have e7 : wr.cell? ⟨w.heap.size + 1, 7, none⟩ = some (.bool false) := Z3.out.cell 7
            have e8 : wr.cell? ⟨w.heap.size + 1, 8, none⟩ = some (.int .i64 0) := Z3.out.cell 8
            have f0 := Z3.out.frozen 0
            have f1 := Z3.out.frozen 1
            have f2 := Z3.out.frozen 2
            have f3 := Z3.out.frozen 3
            have f4 := Z3.out.frozen 4
            have f5 := Z3.out.frozen 5
            have f6 := Z3.out.frozen 6
            have f7 := Z3.out.frozen 7
            have f8 := Z3.out.frozen 8
            go_wp2_with fail
            refine bodyPost_ret (v := .agg #[.slice A3 n3 c3, .slice R3 k3 d3, .int .i64 Y.mem.bank, .int .i64 Y.a, .int .i64 Y.at_, .bool Y.carry, .slice B3 m3 g3, .bool Y.stop, .int .i64 Y.cyc]) (by simp [results, Tryd.results19, go_sem, e0, e1, e2, e3, e4, e5, e6, e7, e8]) rfl ?_
            rw [HE.out]
            refine mach_handed (S := [w.heap.size + 1]) M3.out.cap M3.out.has M3.out.new ?_ (by intro b hb; simp at hb; omega) B1.out.size ?_
            · exact ((((((((((Only.refl _ wr).setCell (.inl (by simp)) _).setCell (.inl (by simp)) _).setCell (.inl (by simp)) _).setCell (.inl (by simp)) _).setCell (.inl (by simp)) _).setCell (.inl (by simp)) _).setCell (.inl (by simp)) _).setCell (.inl (by simp)) _).setCell (.inl (by simp)) _)
            · exact (((((((((B3'.out.setCell (show w.heap.size ≤ w.heap.size + 1 by omega) _).setCell (show w.heap.size ≤ w.heap.size + 1 by omega) _).setCell (show w.heap.size ≤ w.heap.size + 1 by omega) _).setCell (show w.heap.size ≤ w.heap.size + 1 by omega) _).setCell (show w.heap.size ≤ w.heap.size + 1 by omega) _).setCell (show w.heap.size ≤ w.heap.size + 1 by omega) _).setCell (show w.heap.size ≤ w.heap.size + 1 by omega) _).setCell (show w.heap.size ≤ w.heap.size + 1 by omega) _).setCell (show w.heap.size ≤ w.heap.size + 1 by omega) _)
theorem impl_stepM (A : Option Addr) (c : Nat) (R : Option Addr) (d : Nat) (B : Option Addr) (g : Nat) (n k m : Nat) (X : Mach) (fa fr fb : List Nat) (w : World) (h : MHas w A n R k B m X fa fr fb) (f : Fits X 1000000000) (ho : Ops w) :
    Calls Tryd.prog 8 #[.agg #[.slice A n c, .slice R k d, .int .i64 X.mem.bank, .int .i64 X.a, .int .i64 X.at_, .bool X.carry, .slice B m g, .bool X.stop, .int .i64 X.cyc]] w (MachNew (runX X 1) w) := by
  have hn := f.n h
  have hk := f.k h
  have hm := f.m h
  have H := Lib.hid h
  have HF := Lib.hid f
  have HO := Lib.hid ho
  have X0 : Hid (Box ((w.alloc (.cells #[.slice A n c, .slice R k d, .int .i64 X.mem.bank, .int .i64 X.a, .int .i64 X.at_, .bool X.carry, .slice B m g, .bool X.stop, .int .i64 X.cyc] 28)).alloc (.cells #[.slice none 0 0, .slice none 0 0, .int .i64 0, .int .i64 0, .int .i64 0, .bool false, .slice none 0 0, .bool false, .int .i64 0] 28)) w.heap.size 28 [.slice A n c, .slice R k d, .int .i64 X.mem.bank, .int .i64 X.a, .int .i64 X.at_, .bool X.carry, .slice B m g, .bool X.stop, .int .i64 X.cyc]) := (Box.new w _ _).alloc _
  have X1 : Hid (Box ((w.alloc (.cells #[.slice A n c, .slice R k d, .int .i64 X.mem.bank, .int .i64 X.a, .int .i64 X.at_, .bool X.carry, .slice B m g, .bool X.stop, .int .i64 X.cyc] 28)).alloc (.cells #[.slice none 0 0, .slice none 0 0, .int .i64 0, .int .i64 0, .int .i64 0, .bool false, .slice none 0 0, .bool false, .int .i64 0] 28)) (w.heap.size + 1) 28 [.slice none 0 0, .slice none 0 0, .int .i64 0, .int .i64 0, .int .i64 0, .bool false, .slice none 0 0, .bool false, .int .i64 0]) := Box.new_at (w.alloc _) _ _ _ (by simp)
  have B0 : Hid (Below w.heap.size w ((w.alloc (.cells #[.slice A n c, .slice R k d, .int .i64 X.mem.bank, .int .i64 X.a, .int .i64 X.at_, .bool X.carry, .slice B m g, .bool X.stop, .int .i64 X.cyc] 28)).alloc (.cells #[.slice none 0 0, .slice none 0 0, .int .i64 0, .int .i64 0, .int .i64 0, .bool false, .slice none 0 0, .bool false, .int .i64 0] 28))) := below2 w _ _
  have H0 := Lib.hid (h.below (below2 w (.cells #[.slice A n c, .slice R k d, .int .i64 X.mem.bank, .int .i64 X.a, .int .i64 X.at_, .bool X.carry, .slice B m g, .bool X.stop, .int .i64 X.cyc] 28) (.cells #[.slice none 0 0, .slice none 0 0, .int .i64 0, .int .i64 0, .int .i64 0, .bool false, .slice none 0 0, .bool false, .int .i64 0] 28)))
  clear h f ho
  have O0 := Lib.hid (HO.out.below B0.out)
  go_enter Tryd.func8, Tryd.ntmps8
  go_wp2_with fail
  refine (impl_run A c R d B g n k m X 1 fa fr fb _ H0.out HF.out O0.out).mono ?_
  rintro e w1 ⟨A3, n3, c3, R3, k3, d3, B3, m3, g3, fa3, fr3, fb3, rfl, hc, hh, hn1, b1⟩
  have Z3 := Lib.hid (X1.out.below b1)
  have B1 := Lib.hid (B0.out.trans (b1.mono B0.out.size))
  have HC := Lib.hid hc
  have HH := Lib.hid hh
  have N1 := Lib.hid (show New (w.heap.size + 1 + 1) w1 (fa3 ++ fr3 ++ fb3) by simpa using hn1)
  clear hc hh hn1 b1
  obtain ⟨Y, hY⟩ : ∃ Y, runX X 1 = Y := ⟨_, rfl⟩
  rw [hY] at HH ⊢
  have HY := Lib.hid hY
  clear hY
  have e0 : w1.cell? ⟨w.heap.size + 1, 0, none⟩ = some (.slice none 0 0) := Z3.out.cell 0
  have e1 : w1.cell? ⟨w.heap.size + 1, 1, none⟩ = some (.slice none 0 0) := Z3.out.cell 1
  have e2 : w1.cell? ⟨w.heap.size + 1, 2, none⟩ = some (.int .i64 0) := Z3.out.cell 2
  have e3 : w1.cell? ⟨w.heap.size + 1, 3, none⟩ = some (.int .i64 0) := Z3.out.cell 3
  have e4 : w1.cell? ⟨w.heap.size + 1, 4, none⟩ = some (.int .i64 0) := Z3.out.cell 4
  have e5 : w1.cell? ⟨w.heap.size + 1, 5, none⟩ = some (.bool false) := Z3.out.cell 5
  have e6 : w1.cell? ⟨w.heap.size + 1, 6, none⟩ = some (.slice none 0 0) := Z3.out.cell 6
  have e7 : w1.cell? ⟨w.heap.size + 1, 7, none⟩ = some (.bool false) := Z3.out.cell 7
  have e8 : w1.cell? ⟨w.heap.size + 1, 8, none⟩ = some (.int .i64 0) := Z3.out.cell 8
  have f0 := Z3.out.frozen 0
  have f1 := Z3.out.frozen 1
  have f2 := Z3.out.frozen 2
  have f3 := Z3.out.frozen 3
  have f4 := Z3.out.frozen 4
  have f5 := Z3.out.frozen 5
  have f6 := Z3.out.frozen 6
  have f7 := Z3.out.frozen 7
  have f8 := Z3.out.frozen 8
  go_wp2_with fail
  refine bodyPost_ret (v := .agg #[.slice A3 n3 c3, .slice R3 k3 d3, .int .i64 Y.mem.bank, .int .i64 Y.a, .int .i64 Y.at_, .bool Y.carry, .slice B3 m3 g3, .bool Y.stop, .int .i64 Y.cyc]) (by simp [results, Tryd.results8, go_sem, e0, e1, e2, e3, e4, e5, e6, e7, e8]) rfl ?_
  rw [HY.out]
  refine mach_handed (w := w) (S := [w.heap.size + 1]) (L := w.heap.size + 1 + 1) HC.out HH.out N1.out ?_ (by intro b hb; simp at hb; omega) (by omega) ?_
  · exact ((((((((((Only.refl _ w1).setCell (.inl (by simp)) _).setCell (.inl (by simp)) _).setCell (.inl (by simp)) _).setCell (.inl (by simp)) _).setCell (.inl (by simp)) _).setCell (.inl (by simp)) _).setCell (.inl (by simp)) _).setCell (.inl (by simp)) _).setCell (.inl (by simp)) _)
  · exact (((((((((B1.out.setCell (show w.heap.size ≤ w.heap.size + 1 by omega) _).setCell (show w.heap.size ≤ w.heap.size + 1 by omega) _).setCell (show w.heap.size ≤ w.heap.size + 1 by omega) _).setCell (show w.heap.size ≤ w.heap.size + 1 by omega) _).setCell (show w.heap.size ≤ w.heap.size + 1 by omega) _).setCell (show w.heap.size ≤ w.heap.size + 1 by omega) _).setCell (show w.heap.size ≤ w.heap.size + 1 by omega) _).setCell (show w.heap.size ≤ w.heap.size + 1 by omega) _).setCell (show w.heap.size ≤ w.heap.size + 1 by omega) _)
end Go.Proofs.YtcapfafglikcmaaDoor
end
