/- What the model's instructions do to a machine in place. -/
import Derived.Test.YtcapfafglikcmaaDoorKM
import Derived.Test.YtcapfafglikcmaaDoorByteF
namespace Go.Proofs.YtcapfafglikcmaaDoor
open Go.ChangeShapes Go.WideShapes Go.ChangeAt Go.RowKit

set_option maxHeartbeats 4000000 in
set_option maxRecDepth 100000 in
theorem sdo_store {q : Nat} {A : Option Addr} {c : Nat} {R : Option Addr} {d : Nat} {B : Option Addr} {g n k m : Nat} {X : Mach} {fa fr fb : List Nat} {L : Nat} {w : World} {C : Int} (arg : Int) (h : MachIn w q A c R d B g n k m X fa fr fb L) (gd : GoodX X C) (r0 : 0 ≤ arg) (r1 : arg ≤ 1023) :
    Calls Tryd.prog 48 #[.pointer (some ⟨q, 0, none⟩), .agg #[.int .i64 3, .int .i64 arg]] w (Did q { X with mem := writeN X.mem arg.toNat X.a } L w) := by
  obtain ⟨p, rfl⟩ := Int.eq_ofNat_of_zero_le r0
  have hL := h.lt
  have HG := Lib.hid gd
  have m0 := h.below (below1 w (.cells #[.int .i64 3, .int .i64 (p : Int)] 61))
  have ZW0 := Lib.hid (Box.new w #[.int .i64 3, .int .i64 (p : Int)] 61)
  have B00 := Lib.hid ((below1 w (.cells #[.int .i64 3, .int .i64 (p : Int)] 61)).mono hL)
  have M0 := Lib.hid m0
  have s0 : Hid ((w.alloc (.cells #[.int .i64 3, .int .i64 (p : Int)] 61)).heap.size = w.heap.size + 1) := by show _ = _; simp
  clear h gd m0
  go_enter Tryd.func48, Tryd.ntmps48
  go_upto_region 1 with (fail)
  obtain ⟨W, hW⟩ : ∃ W, W = w.alloc (.cells #[.int .i64 3, .int .i64 (p : Int)] 61) := ⟨_, rfl⟩
  rw [← hW] at M0 ZW0 B00 s0
  rw [← hW]
  clear hW
  have z0 : W.cell? ⟨w.heap.size, 0, none⟩ = some (.int .i64 3) := ZW0.out.cell 0
  have z1 : W.cell? ⟨w.heap.size, 1, none⟩ = some (.int .i64 (p : Int)) := ZW0.out.cell 1
  have MD : Hid (MachIn W.drew q A c R d B g n k m X fa fr fb L) := M0.out.below (w' := W.drew) ((Below.refl _ _).drew)
  have ZD : Hid (Box W.drew w.heap.size 61 [.int .i64 3, .int .i64 (p : Int)]) := ZW0.out
  have lW : L ≤ W.heap.size := M0.out.lt
  have e3 : W.cell? ⟨q, 3, none⟩ = some (.int .i64 X.a) := M0.out.box.cell 3
  go_wp2_with fail
  go_region_law (first
    | (go_simp; go_at_call 65; refine (cel_l2Write q _ _ A n c R k d X.mem fa fr L p X.a _ MD.out.cel HG.out.mem (by omega) HG.out.a0 HG.out.a1).mono ?_; rintro e w1 ⟨rfl, m1, o1⟩; have P1 := Lib.hid (MD.out.put m1 o1); clear m1 o1))
  all_goals (go_wp2; go_end0; exact ⟨rfl, P1.out.1.here, B00.out.trans (((Below.refl L W).drew).trans P1.out.2)⟩)
set_option maxHeartbeats 4000000 in
set_option maxRecDepth 100000 in
theorem sdo_xor {q : Nat} {A : Option Addr} {c : Nat} {R : Option Addr} {d : Nat} {B : Option Addr} {g n k m : Nat} {X : Mach} {fa fr fb : List Nat} {L : Nat} {w : World} {C : Int} (arg : Int) (h : MachIn w q A c R d B g n k m X fa fr fb L) (gd : GoodX X C) (r0 : 0 ≤ arg) (r1 : arg ≤ 1023) :
    Calls Tryd.prog 48 #[.pointer (some ⟨q, 0, none⟩), .agg #[.int .i64 7, .int .i64 arg]] w (Did q { X with a := xorN X.a (readN X.mem arg.toNat) } L w) := by
  obtain ⟨p, rfl⟩ := Int.eq_ofNat_of_zero_le r0
  have hL := h.lt
  have HG := Lib.hid gd
  have m0 := h.below (below1 w (.cells #[.int .i64 7, .int .i64 (p : Int)] 61))
  have ZW0 := Lib.hid (Box.new w #[.int .i64 7, .int .i64 (p : Int)] 61)
  have B00 := Lib.hid ((below1 w (.cells #[.int .i64 7, .int .i64 (p : Int)] 61)).mono hL)
  have M0 := Lib.hid m0
  have s0 : Hid ((w.alloc (.cells #[.int .i64 7, .int .i64 (p : Int)] 61)).heap.size = w.heap.size + 1) := by show _ = _; simp
  clear h gd m0
  go_enter Tryd.func48, Tryd.ntmps48
  go_upto_region 1 with (fail)
  obtain ⟨W, hW⟩ : ∃ W, W = w.alloc (.cells #[.int .i64 7, .int .i64 (p : Int)] 61) := ⟨_, rfl⟩
  rw [← hW] at M0 ZW0 B00 s0
  rw [← hW]
  clear hW
  have z0 : W.cell? ⟨w.heap.size, 0, none⟩ = some (.int .i64 7) := ZW0.out.cell 0
  have z1 : W.cell? ⟨w.heap.size, 1, none⟩ = some (.int .i64 (p : Int)) := ZW0.out.cell 1
  have MD : Hid (MachIn W.drew q A c R d B g n k m X fa fr fb L) := M0.out.below (w' := W.drew) ((Below.refl _ _).drew)
  have ZD : Hid (Box W.drew w.heap.size 61 [.int .i64 7, .int .i64 (p : Int)]) := ZW0.out
  have lW : L ≤ W.heap.size := M0.out.lt
  have e0 : W.cell? ⟨q, 0, none⟩ = some (.slice A n c) := M0.out.box.cell 0
  have e1 : W.cell? ⟨q, 1, none⟩ = some (.slice R k d) := M0.out.box.cell 1
  have e2 : W.cell? ⟨q, 2, none⟩ = some (.int .i64 X.mem.bank) := M0.out.box.cell 2
  have e3 : W.cell? ⟨q, 3, none⟩ = some (.int .i64 X.a) := M0.out.box.cell 3
  have f3 := M0.out.box.frozen 3
  go_wp2_with fail
  go_region_law (first
    | (go_simp; go_at_call 62; refine (l2Read_any A n c R k d X.mem fa fr p _ MD.out.has.ram MD.out.has.rom HG.out.mem (by omega)).mono ?_; rintro e w1 ⟨rfl, b1⟩; have H1 := Lib.hid (MD.out.below b1); have B1 : Hid (Below L w w1) := B00.out.trans (((Below.refl L W).drew).trans (b1.mono lW)); have x3 : w1.cell? ⟨q, 3, none⟩ = some (.int .i64 X.a) := H1.out.box.cell 3; have x5 : w1.cell? ⟨q, 5, none⟩ = some (.bool X.carry) := H1.out.box.cell 5; have y3 := H1.out.box.frozen 3; have y5 := H1.out.box.frozen 5; have zz : w1.cell? ⟨w.heap.size, 1, none⟩ = some (.int .i64 (p : Int)) := (ZD.out.below b1).cell 1; clear b1))
  all_goals (go_wp2; go_end0; exact ⟨rfl, (H1.out.store 3 (.int .i64 (xorN X.a (readN X.mem p))) { X with a := xorN X.a (readN X.mem p) } rfl rfl rfl rfl).here, B1.out.trans (H1.out.stored 3 _)⟩)
set_option maxHeartbeats 4000000 in
set_option maxRecDepth 100000 in
theorem sdo_left {q : Nat} {A : Option Addr} {c : Nat} {R : Option Addr} {d : Nat} {B : Option Addr} {g n k m : Nat} {X : Mach} {fa fr fb : List Nat} {L : Nat} {w : World} {C : Int} (arg : Int) (h : MachIn w q A c R d B g n k m X fa fr fb L) (gd : GoodX X C) (r0 : 0 ≤ arg) (r1 : arg ≤ 1023) :
    Calls Tryd.prog 48 #[.pointer (some ⟨q, 0, none⟩), .agg #[.int .i64 8, .int .i64 arg]] w (Did q { X with a := rolN X.a X.carry, carry := rolC X.a } L w) := by
  have _u := r0
  have _v := r1
  clear _u _v
  have hL := h.lt
  have HG := Lib.hid gd
  have m0 := h.below (below1 w (.cells #[.int .i64 8, .int .i64 arg] 61))
  have ZW0 := Lib.hid (Box.new w #[.int .i64 8, .int .i64 arg] 61)
  have B00 := Lib.hid ((below1 w (.cells #[.int .i64 8, .int .i64 arg] 61)).mono hL)
  have M0 := Lib.hid m0
  have s0 : Hid ((w.alloc (.cells #[.int .i64 8, .int .i64 arg] 61)).heap.size = w.heap.size + 1) := by show _ = _; simp
  clear h gd m0
  go_enter Tryd.func48, Tryd.ntmps48
  go_upto_region 1 with (fail)
  obtain ⟨W, hW⟩ : ∃ W, W = w.alloc (.cells #[.int .i64 8, .int .i64 arg] 61) := ⟨_, rfl⟩
  rw [← hW] at M0 ZW0 B00 s0
  rw [← hW]
  clear hW
  have z0 : W.cell? ⟨w.heap.size, 0, none⟩ = some (.int .i64 8) := ZW0.out.cell 0
  have z1 : W.cell? ⟨w.heap.size, 1, none⟩ = some (.int .i64 arg) := ZW0.out.cell 1
  have MD : Hid (MachIn W.drew q A c R d B g n k m X fa fr fb L) := M0.out.below (w' := W.drew) ((Below.refl _ _).drew)
  have ZD : Hid (Box W.drew w.heap.size 61 [.int .i64 8, .int .i64 arg]) := ZW0.out
  have lW : L ≤ W.heap.size := M0.out.lt
  have e3 : W.cell? ⟨q, 3, none⟩ = some (.int .i64 X.a) := M0.out.box.cell 3
  have e5 : W.cell? ⟨q, 5, none⟩ = some (.bool X.carry) := M0.out.box.cell 5
  have f3 := M0.out.box.frozen 3
  have f5 := M0.out.box.frozen 5
  go_wp2_with fail
  go_region_law (first
    | (go_simp; go_at_call 68; refine (spec_rol X.a X.carry _ HG.out.a0 HG.out.a1).mono ?_; rintro e w2 ⟨rfl, b2⟩; have H2 := Lib.hid (MD.out.below b2); have B2 : Hid (Below L w w2) := B00.out.trans (((Below.refl L W).drew).trans (b2.mono lW)); have x3' : w2.cell? ⟨q, 3, none⟩ = some (.int .i64 X.a) := H2.out.box.cell 3; have x5' : w2.cell? ⟨q, 5, none⟩ = some (.bool X.carry) := H2.out.box.cell 5; have y3' := H2.out.box.frozen 3; have y5' := H2.out.box.frozen 5; clear b2))
  all_goals (go_wp2; go_end0; exact ⟨rfl, ((H2.out.store 3 (.int .i64 (rolN X.a X.carry)) { X with a := rolN X.a X.carry } rfl rfl rfl rfl).store 5 (.bool (rolC X.a)) { X with a := rolN X.a X.carry, carry := rolC X.a } rfl rfl rfl rfl).here, (B2.out.trans (H2.out.stored 3 _)).trans ((H2.out.store 3 (.int .i64 (rolN X.a X.carry)) { X with a := rolN X.a X.carry } rfl rfl rfl rfl).stored 5 _)⟩)
end Go.Proofs.YtcapfafglikcmaaDoor
