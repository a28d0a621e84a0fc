/- What the program's instructions do to a machine in place. -/
import Derived.Test.YtcapfafglikcmaaDoorKG
import Derived.Test.YtcapfafglikcmaaDoorByteF
import Derived.Test.YtcapfafglikcmaaDoorMemS
import Derived.Deep.RegionLaw
namespace Go.Proofs.YtcapfafglikcmaaDoor
open Go.ChangeShapes Go.WideShapes Go.ChangeAt Go.RowKit

theorem do_wait {q : Nat} {A : Option Addr} {c : Nat} {R : Option Addr} {d : Nat} {B : Option Addr} {g n k m : Nat} {X : Mach} {fa fr fb : List Nat} {L : Nat} {w : World} (arg : Int) (h : MachIn w q A c R d B g n k m X fa fr fb L) :
    Calls Tryd.prog 81 #[.pointer (some ⟨q, 0, none⟩), .int .i64 arg] w (Did q X L w) := by
  have H := Lib.hid h
  clear h
  go_enter Tryd.func81, Tryd.ntmps81
  go_wp2
  go_end0
  exact ⟨rfl, H.out.here, Below.refl _ _⟩
theorem do_set {q : Nat} {A : Option Addr} {c : Nat} {R : Option Addr} {d : Nat} {B : Option Addr} {g n k m : Nat} {X : Mach} {fa fr fb : List Nat} {L : Nat} {w : World} (arg : Int) (h : MachIn w q A c R d B g n k m X fa fr fb L) :
    Calls Tryd.prog 82 #[.pointer (some ⟨q, 0, none⟩), .int .i64 arg] w (Did q { X with a := arg } L w) := by
  have H := Lib.hid h
  have e3 : w.cell? ⟨q, 3, none⟩ = some (.int .i64 X.a) := h.box.cell 3
  have f3 := h.box.frozen 3
  clear h
  go_enter Tryd.func82, Tryd.ntmps82
  go_wp2
  go_end0
  exact ⟨rfl, (H.out.store 3 (.int .i64 arg) { X with a := arg } rfl rfl rfl rfl).here, H.out.stored 3 _⟩
theorem do_jump {q : Nat} {A : Option Addr} {c : Nat} {R : Option Addr} {d : Nat} {B : Option Addr} {g n k m : Nat} {X : Mach} {fa fr fb : List Nat} {L : Nat} {w : World} (arg : Int) (h : MachIn w q A c R d B g n k m X fa fr fb L) :
    Calls Tryd.prog 91 #[.pointer (some ⟨q, 0, none⟩), .int .i64 arg] w (Did q { X with at_ := arg } L w) := by
  have H := Lib.hid h
  have e4 : w.cell? ⟨q, 4, none⟩ = some (.int .i64 X.at_) := h.box.cell 4
  have f4 := h.box.frozen 4
  clear h
  go_enter Tryd.func91, Tryd.ntmps91
  go_wp2
  go_end0
  exact ⟨rfl, (H.out.store 4 (.int .i64 arg) { X with at_ := arg } rfl rfl rfl rfl).here, H.out.stored 4 _⟩
theorem do_stop {q : Nat} {A : Option Addr} {c : Nat} {R : Option Addr} {d : Nat} {B : Option Addr} {g n k m : Nat} {X : Mach} {fa fr fb : List Nat} {L : Nat} {w : World} (arg : Int) (h : MachIn w q A c R d B g n k m X fa fr fb L) :
    Calls Tryd.prog 96 #[.pointer (some ⟨q, 0, none⟩), .int .i64 arg] w (Did q { X with stop := true } L w) := by
  have H := Lib.hid h
  have e7 : w.cell? ⟨q, 7, none⟩ = some (.bool X.stop) := h.box.cell 7
  have f7 := h.box.frozen 7
  clear h
  go_enter Tryd.func96, Tryd.ntmps96
  go_wp2
  go_end0
  exact ⟨rfl, (H.out.store 7 (.bool true) { X with stop := true } rfl rfl rfl rfl).here, H.out.stored 7 _⟩
theorem do_load {q : Nat} {A : Option Addr} {c : Nat} {R : Option Addr} {d : Nat} {B : Option Addr} {g n k m : Nat} {X : Mach} {fa fr fb : List Nat} {L : Nat} {w : World} (arg : Int) (h : MachIn w q A c R d B g n k m X fa fr fb L) (gd : Good X.mem) (r0 : 0 ≤ arg) (r1 : arg ≤ 1023) :
    Calls Tryd.prog 83 #[.pointer (some ⟨q, 0, none⟩), .int .i64 arg] w (Did q { X with a := readN X.mem arg.toNat } L w) := by
  have H := Lib.hid h
  obtain ⟨p, rfl⟩ := Int.eq_ofNat_of_zero_le r0
  have e0 : w.cell? ⟨q, 0, none⟩ = some (.slice A n c) := h.box.cell 0
  have e1 : w.cell? ⟨q, 1, none⟩ = some (.slice R k d) := h.box.cell 1
  have e2 : w.cell? ⟨q, 2, none⟩ = some (.int .i64 X.mem.bank) := h.box.cell 2
  have e3 : w.cell? ⟨q, 3, none⟩ = some (.int .i64 X.a) := h.box.cell 3
  have f3 := h.box.frozen 3
  have HG := Lib.hid gd
  clear h gd
  go_enter Tryd.func83, Tryd.ntmps83
  go_wp2_with fail
  refine (readAt_any A n c R k d X.mem fa fr p _ H.out.has.ram H.out.has.rom HG.out (by omega)).mono ?_
  rintro e w1 ⟨rfl, b1⟩
  have H1 := Lib.hid (H.out.below b1)
  have B1 := Lib.hid (b1.mono H.out.lt)
  clear b1
  have x3 : w1.cell? ⟨q, 3, none⟩ = some (.int .i64 X.a) := H1.out.box.cell 3
  have y3 := H1.out.box.frozen 3
  clear e0 e1 e2 e3 f3
  go_wp2_with fail
  go_end0
  exact ⟨rfl, (H1.out.store 3 (.int .i64 (readN X.mem p)) { X with a := readN X.mem p } rfl rfl rfl rfl).here, B1.out.trans (H1.out.stored 3 _)⟩
theorem do_store {q : Nat} {A : Option Addr} {c : Nat} {R : Option Addr} {d : Nat} {B : Option Addr} {g n k m : Nat} {X : Mach} {fa fr fb : List Nat} {L : Nat} {w : World} (arg : Int) (h : MachIn w q A c R d B g n k m X fa fr fb L) (gd : Good X.mem) (r0 : 0 ≤ arg) (r1 : arg ≤ 1023) (a0 : 0 ≤ X.a) (a1 : X.a ≤ 255) :
    Calls Tryd.prog 84 #[.pointer (some ⟨q, 0, none⟩), .int .i64 arg] w (Did q { X with mem := writeN X.mem arg.toNat X.a } L w) := by
  have H := Lib.hid h
  obtain ⟨p, rfl⟩ := Int.eq_ofNat_of_zero_le r0
  have e3 : w.cell? ⟨q, 3, none⟩ = some (.int .i64 X.a) := h.box.cell 3
  have HG := Lib.hid gd
  have HD : Hid (MachIn w.drew q A c R d B g n k m X fa fr fb L) := H.out.below (w' := w.drew) ((Below.refl _ _).drew)
  have hL := h.lt
  clear h gd
  go_enter Tryd.func84, Tryd.ntmps84
  go_wp2_with fail
  go_region_law (first
    | (go_simp; go_at_call 102; refine (cel_writeAt q _ _ A n c R k d X.mem fa fr L p X.a _ HD.out.cel HG.out (by omega) a0 a1).mono ?_; rintro e w1 ⟨rfl, m1, o1⟩; have P1 := Lib.hid (HD.out.put m1 o1); clear m1 o1))
  all_goals (go_wp2; go_end0; exact ⟨rfl, P1.out.1.here, ((Below.refl L w).drew).trans P1.out.2⟩)
theorem do_and {q : Nat} {A : Option Addr} {c : Nat} {R : Option Addr} {d : Nat} {B : Option Addr} {g n k m : Nat} {X : Mach} {fa fr fb : List Nat} {L : Nat} {w : World} (arg : Int) (h : MachIn w q A c R d B g n k m X fa fr fb L) (gd : Good X.mem) (r0 : 0 ≤ arg) (r1 : arg ≤ 1023) :
    Calls Tryd.prog 87 #[.pointer (some ⟨q, 0, none⟩), .int .i64 arg] w (Did q { X with a := andN X.a (readN X.mem arg.toNat) } L w) := by
  have H := Lib.hid h
  obtain ⟨p, rfl⟩ := Int.eq_ofNat_of_zero_le r0
  have e0 : w.cell? ⟨q, 0, none⟩ = some (.slice A n c) := h.box.cell 0
  have e1 : w.cell? ⟨q, 1, none⟩ = some (.slice R k d) := h.box.cell 1
  have e2 : w.cell? ⟨q, 2, none⟩ = some (.int .i64 X.mem.bank) := h.box.cell 2
  have e3 : w.cell? ⟨q, 3, none⟩ = some (.int .i64 X.a) := h.box.cell 3
  have f3 := h.box.frozen 3
  have HG := Lib.hid gd
  have HD : Hid (MachIn w.drew q A c R d B g n k m X fa fr fb L) := H.out.below (w' := w.drew) ((Below.refl _ _).drew)
  have hL := h.lt
  clear h gd
  go_enter Tryd.func87, Tryd.ntmps87
  go_wp2_with fail
  go_region_law (first
    | (go_simp; go_at_call 38; refine (readAt_any A n c R k d X.mem fa fr p _ HD.out.has.ram HD.out.has.rom HG.out (by omega)).mono ?_; rintro e w1 ⟨rfl, b1⟩; have H1 := Lib.hid (HD.out.below b1); have B1 : Hid (Below L w w1) := ((Below.refl L w).drew).trans (b1.mono hL); have x3 : w1.cell? ⟨q, 3, none⟩ = some (.int .i64 X.a) := H1.out.box.cell 3; have x5 : w1.cell? ⟨q, 5, none⟩ = some (.bool X.carry) := H1.out.box.cell 5; have y3 := H1.out.box.frozen 3; have y5 := H1.out.box.frozen 5; clear b1))
  all_goals (go_wp2; go_end0; exact ⟨rfl, (H1.out.store 3 (.int .i64 (andN X.a (readN X.mem p))) { X with a := andN X.a (readN X.mem p) } rfl rfl rfl rfl).here, B1.out.trans (H1.out.stored 3 _)⟩)
theorem do_xor {q : Nat} {A : Option Addr} {c : Nat} {R : Option Addr} {d : Nat} {B : Option Addr} {g n k m : Nat} {X : Mach} {fa fr fb : List Nat} {L : Nat} {w : World} (arg : Int) (h : MachIn w q A c R d B g n k m X fa fr fb L) (gd : Good X.mem) (r0 : 0 ≤ arg) (r1 : arg ≤ 1023) :
    Calls Tryd.prog 88 #[.pointer (some ⟨q, 0, none⟩), .int .i64 arg] w (Did q { X with a := xorN X.a (readN X.mem arg.toNat) } L w) := by
  have H := Lib.hid h
  obtain ⟨p, rfl⟩ := Int.eq_ofNat_of_zero_le r0
  have e0 : w.cell? ⟨q, 0, none⟩ = some (.slice A n c) := h.box.cell 0
  have e1 : w.cell? ⟨q, 1, none⟩ = some (.slice R k d) := h.box.cell 1
  have e2 : w.cell? ⟨q, 2, none⟩ = some (.int .i64 X.mem.bank) := h.box.cell 2
  have e3 : w.cell? ⟨q, 3, none⟩ = some (.int .i64 X.a) := h.box.cell 3
  have f3 := h.box.frozen 3
  have HG := Lib.hid gd
  have HD : Hid (MachIn w.drew q A c R d B g n k m X fa fr fb L) := H.out.below (w' := w.drew) ((Below.refl _ _).drew)
  have hL := h.lt
  clear h gd
  go_enter Tryd.func88, Tryd.ntmps88
  go_wp2_with fail
  go_region_law (first
    | (go_simp; go_at_call 38; refine (readAt_any A n c R k d X.mem fa fr p _ HD.out.has.ram HD.out.has.rom HG.out (by omega)).mono ?_; rintro e w1 ⟨rfl, b1⟩; have H1 := Lib.hid (HD.out.below b1); have B1 : Hid (Below L w w1) := ((Below.refl L w).drew).trans (b1.mono hL); have x3 : w1.cell? ⟨q, 3, none⟩ = some (.int .i64 X.a) := H1.out.box.cell 3; have x5 : w1.cell? ⟨q, 5, none⟩ = some (.bool X.carry) := H1.out.box.cell 5; have y3 := H1.out.box.frozen 3; have y5 := H1.out.box.frozen 5; clear b1))
  all_goals (go_wp2; go_end0; exact ⟨rfl, (H1.out.store 3 (.int .i64 (xorN X.a (readN X.mem p))) { X with a := xorN X.a (readN X.mem p) } rfl rfl rfl rfl).here, B1.out.trans (H1.out.stored 3 _)⟩)
theorem do_left {q : Nat} {A : Option Addr} {c : Nat} {R : Option Addr} {d : Nat} {B : Option Addr} {g n k m : Nat} {X : Mach} {fa fr fb : List Nat} {L : Nat} {w : World} (arg : Int) (h : MachIn w q A c R d B g n k m X fa fr fb L) (a0 : 0 ≤ X.a) (a1 : X.a ≤ 255) :
    Calls Tryd.prog 89 #[.pointer (some ⟨q, 0, none⟩), .int .i64 arg] w (Did q { X with a := rolN X.a X.carry, carry := rolC X.a } L w) := by
  have H := Lib.hid h
  have e3 : w.cell? ⟨q, 3, none⟩ = some (.int .i64 X.a) := h.box.cell 3
  have e5 : w.cell? ⟨q, 5, none⟩ = some (.bool X.carry) := h.box.cell 5
  have f3 := h.box.frozen 3
  have f5 := h.box.frozen 5
  have HD : Hid (MachIn w.drew q A c R d B g n k m X fa fr fb L) := H.out.below (w' := w.drew) ((Below.refl _ _).drew)
  have hL := h.lt
  clear h
  go_enter Tryd.func89, Tryd.ntmps89
  go_wp2_with fail
  go_region_law (first
    | (go_simp; go_at_call 105; refine (impl_rol X.a X.carry _ a0 a1).mono ?_; rintro e w1 ⟨rfl, b1⟩; have H1 := Lib.hid (HD.out.below b1); have B1 : Hid (Below L w w1) := ((Below.refl L w).drew).trans (b1.mono hL); have x3 : w1.cell? ⟨q, 3, none⟩ = some (.int .i64 X.a) := H1.out.box.cell 3; have x5 : w1.cell? ⟨q, 5, none⟩ = some (.bool X.carry) := H1.out.box.cell 5; have y3 := H1.out.box.frozen 3; have y5 := H1.out.box.frozen 5; clear b1))
  all_goals (go_wp2; go_end0; first | exact ⟨rfl, ((H1.out.store 3 (.int .i64 (rolN X.a X.carry)) { X with a := rolN X.a X.carry } rfl rfl rfl rfl).store 5 (.bool (rolC X.a)) { X with a := rolN X.a X.carry, carry := rolC X.a } rfl rfl rfl rfl).here, (B1.out.trans (H1.out.stored 3 _)).trans ((H1.out.store 3 (.int .i64 (rolN X.a X.carry)) { X with a := rolN X.a X.carry } rfl rfl rfl rfl).stored 5 _)⟩ | exact ⟨rfl, ((H1.out.store 5 (.bool (rolC X.a)) { X with carry := rolC X.a } rfl rfl rfl rfl).store 3 (.int .i64 (rolN X.a X.carry)) { X with a := rolN X.a X.carry, carry := rolC X.a } rfl rfl rfl rfl).here, (B1.out.trans (H1.out.stored 5 _)).trans ((H1.out.store 5 (.bool (rolC X.a)) { X with carry := rolC X.a } rfl rfl rfl rfl).stored 3 _)⟩)
theorem do_right {q : Nat} {A : Option Addr} {c : Nat} {R : Option Addr} {d : Nat} {B : Option Addr} {g n k m : Nat} {X : Mach} {fa fr fb : List Nat} {L : Nat} {w : World} (arg : Int) (h : MachIn w q A c R d B g n k m X fa fr fb L) (a0 : 0 ≤ X.a) (a1 : X.a ≤ 255) :
    Calls Tryd.prog 90 #[.pointer (some ⟨q, 0, none⟩), .int .i64 arg] w (Did q { X with a := rorN X.a X.carry, carry := rorC X.a } L w) := by
  have H := Lib.hid h
  have e3 : w.cell? ⟨q, 3, none⟩ = some (.int .i64 X.a) := h.box.cell 3
  have e5 : w.cell? ⟨q, 5, none⟩ = some (.bool X.carry) := h.box.cell 5
  have f3 := h.box.frozen 3
  have f5 := h.box.frozen 5
  have HD : Hid (MachIn w.drew q A c R d B g n k m X fa fr fb L) := H.out.below (w' := w.drew) ((Below.refl _ _).drew)
  have hL := h.lt
  clear h
  go_enter Tryd.func90, Tryd.ntmps90
  go_wp2_with fail
  go_region_law (first
    | (go_simp; go_at_call 106; refine (impl_ror X.a X.carry _ a0 a1).mono ?_; rintro e w1 ⟨rfl, b1⟩; have H1 := Lib.hid (HD.out.below b1); have B1 : Hid (Below L w w1) := ((Below.refl L w).drew).trans (b1.mono hL); have x3 : w1.cell? ⟨q, 3, none⟩ = some (.int .i64 X.a) := H1.out.box.cell 3; have x5 : w1.cell? ⟨q, 5, none⟩ = some (.bool X.carry) := H1.out.box.cell 5; have y3 := H1.out.box.frozen 3; have y5 := H1.out.box.frozen 5; clear b1))
  all_goals (go_wp2; go_end0; first | exact ⟨rfl, ((H1.out.store 3 (.int .i64 (rorN X.a X.carry)) { X with a := rorN X.a X.carry } rfl rfl rfl rfl).store 5 (.bool (rorC X.a)) { X with a := rorN X.a X.carry, carry := rorC X.a } rfl rfl rfl rfl).here, (B1.out.trans (H1.out.stored 3 _)).trans ((H1.out.store 3 (.int .i64 (rorN X.a X.carry)) { X with a := rorN X.a X.carry } rfl rfl rfl rfl).stored 5 _)⟩ | exact ⟨rfl, ((H1.out.store 5 (.bool (rorC X.a)) { X with carry := rorC X.a } rfl rfl rfl rfl).store 3 (.int .i64 (rorN X.a X.carry)) { X with a := rorN X.a X.carry, carry := rorC X.a } rfl rfl rfl rfl).here, (B1.out.trans (H1.out.stored 5 _)).trans ((H1.out.store 5 (.bool (rorC X.a)) { X with carry := rorC X.a } rfl rfl rfl rfl).stored 3 _)⟩)
set_option maxHeartbeats 2000000 in
theorem do_add {q : Nat} {A : Option Addr} {c : Nat} {R : Option Addr} {d : Nat} {B : Option Addr} {g n k m : Nat} {X : Mach} {fa fr fb : List Nat} {L : Nat} {w : World} (arg : Int) (h : MachIn w q A c R d B g n k m X fa fr fb L) (gd : Good X.mem) (r0 : 0 ≤ arg) (r1 : arg ≤ 1023) (a0 : 0 ≤ X.a) (a1 : X.a ≤ 255) :
    Calls Tryd.prog 85 #[.pointer (some ⟨q, 0, none⟩), .int .i64 arg] w (Did q { X with a := addN X.a (readN X.mem arg.toNat) X.carry, carry := addC X.a (readN X.mem arg.toNat) X.carry } L w) := by
  have H := Lib.hid h
  obtain ⟨p, rfl⟩ := Int.eq_ofNat_of_zero_le r0
  have e0 : w.cell? ⟨q, 0, none⟩ = some (.slice A n c) := h.box.cell 0
  have e1 : w.cell? ⟨q, 1, none⟩ = some (.slice R k d) := h.box.cell 1
  have e2 : w.cell? ⟨q, 2, none⟩ = some (.int .i64 X.mem.bank) := h.box.cell 2
  have e3 : w.cell? ⟨q, 3, none⟩ = some (.int .i64 X.a) := h.box.cell 3
  have f3 := h.box.frozen 3
  have e5 : w.cell? ⟨q, 5, none⟩ = some (.bool X.carry) := h.box.cell 5
  have f5 := h.box.frozen 5
  have HG := Lib.hid gd
  obtain ⟨rb0, rb1⟩ := readN_byte gd p (by omega)
  have HD : Hid (MachIn w.drew q A c R d B g n k m X fa fr fb L) := H.out.below (w' := w.drew) ((Below.refl _ _).drew)
  have hL := h.lt
  clear h gd
  go_enter Tryd.func85, Tryd.ntmps85
  go_wp2_with fail
  go_region_law (first
    | (go_simp; go_at_call 103; refine (impl_add X.a (readN X.mem p) X.carry _ a0 a1 rb0 rb1).mono ?_; rintro e w2 ⟨rfl, b2⟩; have H2 := Lib.hid (H1.out.below b2); have B2 : Hid (Below L w w2) := B1.out.trans (b2.mono H1.out.lt); have x3 : w2.cell? ⟨q, 3, none⟩ = some (.int .i64 X.a) := H2.out.box.cell 3; have x5 : w2.cell? ⟨q, 5, none⟩ = some (.bool X.carry) := H2.out.box.cell 5; have y3 := H2.out.box.frozen 3; have y5 := H2.out.box.frozen 5; clear b2)
    | (go_simp; go_at_call 38; refine (readAt_any A n c R k d X.mem fa fr p _ HD.out.has.ram HD.out.has.rom HG.out (by omega)).mono ?_; rintro e w1 ⟨rfl, b1⟩; have H1 := Lib.hid (HD.out.below b1); have B1 : Hid (Below L w w1) := ((Below.refl L w).drew).trans (b1.mono hL); have x3 : w1.cell? ⟨q, 3, none⟩ = some (.int .i64 X.a) := H1.out.box.cell 3; have x5 : w1.cell? ⟨q, 5, none⟩ = some (.bool X.carry) := H1.out.box.cell 5; have y3 := H1.out.box.frozen 3; have y5 := H1.out.box.frozen 5; clear b1))
  all_goals (go_wp2; go_end0; first | exact ⟨rfl, ((H2.out.store 3 (.int .i64 (addN X.a (readN X.mem p) X.carry)) { X with a := addN X.a (readN X.mem p) X.carry } rfl rfl rfl rfl).store 5 (.bool (addC X.a (readN X.mem p) X.carry)) { X with a := addN X.a (readN X.mem p) X.carry, carry := addC X.a (readN X.mem p) X.carry } rfl rfl rfl rfl).here, (B2.out.trans (H2.out.stored 3 _)).trans ((H2.out.store 3 (.int .i64 (addN X.a (readN X.mem p) X.carry)) { X with a := addN X.a (readN X.mem p) X.carry } rfl rfl rfl rfl).stored 5 _)⟩ | exact ⟨rfl, ((H2.out.store 5 (.bool (addC X.a (readN X.mem p) X.carry)) { X with carry := addC X.a (readN X.mem p) X.carry } rfl rfl rfl rfl).store 3 (.int .i64 (addN X.a (readN X.mem p) X.carry)) { X with a := addN X.a (readN X.mem p) X.carry, carry := addC X.a (readN X.mem p) X.carry } rfl rfl rfl rfl).here, (B2.out.trans (H2.out.stored 5 _)).trans ((H2.out.store 5 (.bool (addC X.a (readN X.mem p) X.carry)) { X with carry := addC X.a (readN X.mem p) X.carry } rfl rfl rfl rfl).stored 3 _)⟩)
set_option maxHeartbeats 2000000 in
theorem do_sub {q : Nat} {A : Option Addr} {c : Nat} {R : Option Addr} {d : Nat} {B : Option Addr} {g n k m : Nat} {X : Mach} {fa fr fb : List Nat} {L : Nat} {w : World} (arg : Int) (h : MachIn w q A c R d B g n k m X fa fr fb L) (gd : Good X.mem) (r0 : 0 ≤ arg) (r1 : arg ≤ 1023) (a0 : 0 ≤ X.a) (a1 : X.a ≤ 255) :
    Calls Tryd.prog 86 #[.pointer (some ⟨q, 0, none⟩), .int .i64 arg] w (Did q { X with a := subN X.a (readN X.mem arg.toNat) X.carry, carry := subC X.a (readN X.mem arg.toNat) X.carry } L w) := by
  have H := Lib.hid h
  obtain ⟨p, rfl⟩ := Int.eq_ofNat_of_zero_le r0
  have e0 : w.cell? ⟨q, 0, none⟩ = some (.slice A n c) := h.box.cell 0
  have e1 : w.cell? ⟨q, 1, none⟩ = some (.slice R k d) := h.box.cell 1
  have e2 : w.cell? ⟨q, 2, none⟩ = some (.int .i64 X.mem.bank) := h.box.cell 2
  have e3 : w.cell? ⟨q, 3, none⟩ = some (.int .i64 X.a) := h.box.cell 3
  have f3 := h.box.frozen 3
  have e5 : w.cell? ⟨q, 5, none⟩ = some (.bool X.carry) := h.box.cell 5
  have f5 := h.box.frozen 5
  have HG := Lib.hid gd
  obtain ⟨rb0, rb1⟩ := readN_byte gd p (by omega)
  have HD : Hid (MachIn w.drew q A c R d B g n k m X fa fr fb L) := H.out.below (w' := w.drew) ((Below.refl _ _).drew)
  have hL := h.lt
  clear h gd
  go_enter Tryd.func86, Tryd.ntmps86
  go_wp2_with fail
  go_region_law (first
    | (go_simp; go_at_call 104; refine (impl_sub X.a (readN X.mem p) X.carry _ a0 a1 rb0 rb1).mono ?_; rintro e w2 ⟨rfl, b2⟩; have H2 := Lib.hid (H1.out.below b2); have B2 : Hid (Below L w w2) := B1.out.trans (b2.mono H1.out.lt); have x3 : w2.cell? ⟨q, 3, none⟩ = some (.int .i64 X.a) := H2.out.box.cell 3; have x5 : w2.cell? ⟨q, 5, none⟩ = some (.bool X.carry) := H2.out.box.cell 5; have y3 := H2.out.box.frozen 3; have y5 := H2.out.box.frozen 5; clear b2)
    | (go_simp; go_at_call 38; refine (readAt_any A n c R k d X.mem fa fr p _ HD.out.has.ram HD.out.has.rom HG.out (by omega)).mono ?_; rintro e w1 ⟨rfl, b1⟩; have H1 := Lib.hid (HD.out.below b1); have B1 : Hid (Below L w w1) := ((Below.refl L w).drew).trans (b1.mono hL); have x3 : w1.cell? ⟨q, 3, none⟩ = some (.int .i64 X.a) := H1.out.box.cell 3; have x5 : w1.cell? ⟨q, 5, none⟩ = some (.bool X.carry) := H1.out.box.cell 5; have y3 := H1.out.box.frozen 3; have y5 := H1.out.box.frozen 5; clear b1))
  all_goals (go_wp2; go_end0; first | exact ⟨rfl, ((H2.out.store 3 (.int .i64 (subN X.a (readN X.mem p) X.carry)) { X with a := subN X.a (readN X.mem p) X.carry } rfl rfl rfl rfl).store 5 (.bool (subC X.a (readN X.mem p) X.carry)) { X with a := subN X.a (readN X.mem p) X.carry, carry := subC X.a (readN X.mem p) X.carry } rfl rfl rfl rfl).here, (B2.out.trans (H2.out.stored 3 _)).trans ((H2.out.store 3 (.int .i64 (subN X.a (readN X.mem p) X.carry)) { X with a := subN X.a (readN X.mem p) X.carry } rfl rfl rfl rfl).stored 5 _)⟩ | exact ⟨rfl, ((H2.out.store 5 (.bool (subC X.a (readN X.mem p) X.carry)) { X with carry := subC X.a (readN X.mem p) X.carry } rfl rfl rfl rfl).store 3 (.int .i64 (subN X.a (readN X.mem p) X.carry)) { X with a := subN X.a (readN X.mem p) X.carry, carry := subC X.a (readN X.mem p) X.carry } rfl rfl rfl rfl).here, (B2.out.trans (H2.out.stored 5 _)).trans ((H2.out.store 5 (.bool (subC X.a (readN X.mem p) X.carry)) { X with carry := subC X.a (readN X.mem p) X.carry } rfl rfl rfl rfl).stored 3 _)⟩)
theorem do_zero {q : Nat} {A : Option Addr} {c : Nat} {R : Option Addr} {d : Nat} {B : Option Addr} {g n k m : Nat} {X : Mach} {fa fr fb : List Nat} {L : Nat} {w : World} (arg : Int) (h : MachIn w q A c R d B g n k m X fa fr fb L) :
    Calls Tryd.prog 92 #[.pointer (some ⟨q, 0, none⟩), .int .i64 arg] w (Did q (if X.a = 0 then { X with at_ := arg } else X) L w) := by
  have H := Lib.hid h
  have e3 : w.cell? ⟨q, 3, none⟩ = some (.int .i64 X.a) := h.box.cell 3
  have e4 : w.cell? ⟨q, 4, none⟩ = some (.int .i64 X.at_) := h.box.cell 4
  have f4 := h.box.frozen 4
  clear h
  by_cases hz : X.a = 0
  · rw [if_pos hz]
    have hq : (X.a == 0) = true := by simp [hz]
    go_enter Tryd.func92, Tryd.ntmps92
    go_wp2
    go_end0
    exact ⟨rfl, (H.out.store 4 (.int .i64 arg) { X with at_ := arg } rfl rfl rfl rfl).here, H.out.stored 4 _⟩
  · rw [if_neg hz]
    have hq : (X.a == 0) = false := by simp [hz]
    go_enter Tryd.func92, Tryd.ntmps92
    go_wp2
    go_end0
    exact ⟨rfl, H.out.here, Below.refl _ _⟩
theorem do_carry {q : Nat} {A : Option Addr} {c : Nat} {R : Option Addr} {d : Nat} {B : Option Addr} {g n k m : Nat} {X : Mach} {fa fr fb : List Nat} {L : Nat} {w : World} (arg : Int) (h : MachIn w q A c R d B g n k m X fa fr fb L) :
    Calls Tryd.prog 93 #[.pointer (some ⟨q, 0, none⟩), .int .i64 arg] w (Did q (if X.carry = true then { X with at_ := arg } else X) L w) := by
  have H := Lib.hid h
  have e4 : w.cell? ⟨q, 4, none⟩ = some (.int .i64 X.at_) := h.box.cell 4
  have e5 : w.cell? ⟨q, 5, none⟩ = some (.bool X.carry) := h.box.cell 5
  have f4 := h.box.frozen 4
  clear h
  by_cases hz : X.carry = true
  · rw [if_pos hz]
    rw [hz] at e5
    go_enter Tryd.func93, Tryd.ntmps93
    go_wp2
    go_end0
    exact ⟨rfl, (H.out.store 4 (.int .i64 arg) { X with at_ := arg } rfl rfl rfl rfl).here, H.out.stored 4 _⟩
  · rw [if_neg hz]
    rw [show X.carry = false by simpa using hz] at e5
    go_enter Tryd.func93, Tryd.ntmps93
    go_wp2
    go_end0
    exact ⟨rfl, H.out.here, Below.refl _ _⟩
theorem do_call {q : Nat} {A : Option Addr} {c : Nat} {R : Option Addr} {d : Nat} {B : Option Addr} {g n k m : Nat} {X : Mach} {fa fr fb : List Nat} {L : Nat} {w : World} (arg : Int) (h : MachIn w q A c R d B g n k m X fa fr fb L) (hb8 : X.back.length ≤ 8) :
    Calls Tryd.prog 94 #[.pointer (some ⟨q, 0, none⟩), .int .i64 arg] w (Did q (if X.back.length = 8 then { X with stop := true } else { X with back := X.back ++ [X.at_], at_ := arg }) L w) := by
  have H := Lib.hid h
  have e4 : w.cell? ⟨q, 4, none⟩ = some (.int .i64 X.at_) := h.box.cell 4
  have e6 : w.cell? ⟨q, 6, none⟩ = some (.slice B m g) := h.box.cell 6
  have e7 : w.cell? ⟨q, 7, none⟩ = some (.bool X.stop) := h.box.cell 7
  have f4 := h.box.frozen 4
  have f6 := h.box.frozen 6
  have f7 := h.box.frozen 7
  have HL := Lib.hid h.has.back.1
  have HB := Lib.hid hb8
  clear h hb8
  by_cases hz : m = 8
  · rw [if_pos (by have := HL.out; omega)]
    subst hz
    go_enter Tryd.func94, Tryd.ntmps94
    go_wp2
    go_end0
    exact ⟨rfl, (H.out.store 7 (.bool true) { X with stop := true } rfl rfl rfl rfl).here, H.out.stored 7 _⟩
  · rw [if_neg (by have := HL.out; omega)]
    have hq : ((m : Int) == 8) = false := by simp; omega
    clear hz
    have HD : Hid (MachIn w.drew q A c R d B g n k m X fa fr fb L) := H.out.below (w' := w.drew) ((Below.refl _ _).drew)
    have hL := H.out.lt
    have hw := H.out.box.lt
    have m8 : m ≤ 8 := by have := HL.out; have := HB.out; omega
    have BA : Hid (Below w.heap.size w (w.alloc (.cells #[.int .i64 X.at_] 3)).drew) := (below1 w _).drew
    have EO : Hid ((w.alloc (.cells #[.int .i64 X.at_] 3)).drew.ownsRow L 3 1 (.slice B m g) m (iv X.back)) := own_keep H.out.own BA.out
    have EI : Hid (Ints (w.alloc (.cells #[.int .i64 X.at_] 3)).drew (some ⟨w.heap.size, 0, none⟩) 1 [X.at_] [w.heap.size]) := ints_one (show Box (w.alloc (.cells #[.int .i64 X.at_] 3)).drew w.heap.size 3 [.int .i64 X.at_] from Box.new w #[.int .i64 X.at_] 3)
    go_enter Tryd.func94, Tryd.ntmps94
    go_wp2_with fail
    go_region_law (first
      | ((with_reducible refine step_append_ints ?_ (.tmp 17) (.tmp 22) ?_ L (.slice B m g) m X.back ?_ EO.out (some ⟨w.heap.size, 0, none⟩) 1 1 [X.at_] [w.heap.size] ?_ EI.out ?_ (Nat.le_trans hL BA.out.size) ?_); rfl; rfl; rfl; rfl; omega; intro v1 w1 own1 gr1 at1; obtain ⟨B1, g1, _, rfl, _⟩ := own_ints own1; have O1 : Hid (Only (Value.slice B m g).ownBlock.toList w w1) := (Only.of_below BA.out).trans (grown_only gr1 fun b hb => by rw [hb]; simp); have qo : q ∉ (Value.slice B m g).ownBlock.toList := fun hq => (H.out.sole q (by simpa using hq)).1 rfl; have X1 := Lib.hid (H.out.box.only O1.out qo); have y4 : w1.cell? ⟨q, 4, none⟩ = some (.int .i64 X.at_) := X1.out.cell 4; have y6 : w1.cell? ⟨q, 6, none⟩ = some (.slice B m g) := X1.out.cell 6; have z4 := X1.out.frozen 4; have z6 := X1.out.frozen 6; have OW := Lib.hid own1; have AT := Lib.hid at1; clear own1 gr1 at1 qo))
    all_goals
      go_wp2
      go_end0
      obtain ⟨⟨_, _, _, _, _, _, _, _, _, _, _, _, H2⟩, b2⟩ := H.out.rest (xs := X.back ++ [X.at_]) OW.out O1.out (fun b hb => by simpa using hb) (fun b hb => by
        rcases AT.out with e | e
        · rw [e] at hb; exact .inl hb
        · rw [e] at hb; injection hb with hb; have := BA.out.size; exact .inr (by omega))
      exact ⟨rfl, (H2.store 4 (.int .i64 arg) { X with back := X.back ++ [X.at_], at_ := arg } rfl rfl rfl rfl).here, b2.trans (H2.stored 4 _)⟩
theorem do_return {q : Nat} {A : Option Addr} {c : Nat} {R : Option Addr} {d : Nat} {B : Option Addr} {g n k m : Nat} {X : Mach} {fa fr fb : List Nat} {L : Nat} {w : World} (arg : Int) (h : MachIn w q A c R d B g n k m X fa fr fb L) (hb8 : X.back.length ≤ 8) :
    Calls Tryd.prog 95 #[.pointer (some ⟨q, 0, none⟩), .int .i64 arg] w (Did q (if X.back.length = 0 then { X with stop := true } else { X with at_ := X.back.getD (X.back.length - 1) 0, back := X.back.take (X.back.length - 1) }) L w) := by
  have H := Lib.hid h
  have e4 : w.cell? ⟨q, 4, none⟩ = some (.int .i64 X.at_) := h.box.cell 4
  have e6 : w.cell? ⟨q, 6, none⟩ = some (.slice B m g) := h.box.cell 6
  have e7 : w.cell? ⟨q, 7, none⟩ = some (.bool X.stop) := h.box.cell 7
  have f4 := h.box.frozen 4
  have f6 := h.box.frozen 6
  have f7 := h.box.frozen 7
  have HL := Lib.hid h.has.back.1
  have HB := Lib.hid hb8
  clear h hb8
  by_cases hz : m = 0
  · rw [if_pos (by have := HL.out; omega)]
    subst hz
    go_enter Tryd.func95, Tryd.ntmps95
    go_wp2
    go_end0
    exact ⟨rfl, (H.out.store 7 (.bool true) { X with stop := true } rfl rfl rfl rfl).here, H.out.stored 7 _⟩
  · rw [if_neg (by have := HL.out; omega)]
    obtain ⟨j, rfl⟩ : ∃ j, m = j + 1 := ⟨m - 1, by omega⟩
    rw [show X.back.length - 1 = j by have := HL.out; omega]
    obtain ⟨b, o, rfl, _, hb, hc⟩ := H.out.has.back.at_ (by omega)
    have cj := hc j (by omega)
    have jg : j ≤ g := by have := H.out.cap.2.2; omega
    have j8 : j ≤ 8 := by have := HL.out; have := HB.out; omega
    clear e7 f7 hc hz
    go_enter Tryd.func95, Tryd.ntmps95
    go_wp2_with fail
    go_end0
    have H1 := H.out.store 4 (.int .i64 (X.back.getD j 0)) { X with at_ := X.back.getD j 0 } rfl rfl rfl rfl
    obtain ⟨h2, b2⟩ := H1.rest (xs := X.back.take j) (S := []) (own_take H1.own j (by omega)) (Only.refl _ _) (by simp) (fun b hb => .inl hb)
    exact ⟨rfl, h2, (H.out.stored 4 _).trans b2⟩
end Go.Proofs.YtcapfafglikcmaaDoor
