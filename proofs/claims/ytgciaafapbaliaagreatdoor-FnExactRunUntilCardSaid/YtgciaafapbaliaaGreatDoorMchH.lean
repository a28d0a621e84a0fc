/- What the model's instructions do to a machine in place: those that change the address. -/
import Derived.Test.YtgciaafapbaliaaGreatDoorMchG
import Derived.Test.YtgciaafapbaliaaGreatDoorByteF
namespace Go.Proofs.YtgciaafapbaliaaGreatDoor
open Go.ChangeShapes Go.WideShapes Go.ChangeAt Go.RowKit

set_option maxHeartbeats 4000000 in
set_option maxRecDepth 100000 in
theorem sgo_wait {q : Nat} {A : Option Addr} {c : Nat} {R : Option Addr} {d : Nat} {B : Option Addr} {g n k m : Nat} {X : Mach} {fa fr fb : List Nat} {L : Nat} {w : World} {C : Int} (arg : Int) (h : MachIn w q A c R d B g n k m X fa fr fb L) (gd : GoodX X C) (r0 : 0 ≤ arg) (r1 : arg ≤ 1023) :
    Calls Tryz.prog 63 #[.pointer (some ⟨q, 0, none⟩), .agg #[.int .i64 0, .int .i64 arg]] w (Did q X L w) := by
  have _u := r0
  have _v := r1
  clear _u _v
  have hL := h.lt
  have HG := Lib.hid gd
  have m0 := h.below (below1 w (.cells #[.int .i64 0, .int .i64 arg] 57))
  have ZW0 := Lib.hid (Box.new w #[.int .i64 0, .int .i64 arg] 57)
  have B00 := Lib.hid ((below1 w (.cells #[.int .i64 0, .int .i64 arg] 57)).mono hL)
  have M0 := Lib.hid m0
  have s0 : Hid ((w.alloc (.cells #[.int .i64 0, .int .i64 arg] 57)).heap.size = w.heap.size + 1) := by show _ = _; simp
  clear h gd m0
  go_enter Tryz.func63, Tryz.ntmps63
  go_upto_region 1 with (fail)
  obtain ⟨W, hW⟩ : ∃ W, W = w.alloc (.cells #[.int .i64 0, .int .i64 arg] 57) := ⟨_, rfl⟩
  rw [← hW] at M0 ZW0 B00 s0
  rw [← hW]
  clear hW
  have z0 : W.cell? ⟨w.heap.size, 0, none⟩ = some (.int .i64 0) := ZW0.out.cell 0
  have z1 : W.cell? ⟨w.heap.size, 1, none⟩ = some (.int .i64 arg) := ZW0.out.cell 1
  have MD : Hid (MachIn W.drew q A c R d B g n k m X fa fr fb L) := M0.out.below (w' := W.drew) ((Below.refl _ _).drew)
  have ZD : Hid (Box W.drew w.heap.size 57 [.int .i64 0, .int .i64 arg]) := ZW0.out
  have lW : L ≤ W.heap.size := M0.out.lt
  have e3 : W.cell? ⟨q, 3, none⟩ = some (.int .i64 X.a) := M0.out.box.cell 3
  have e5 : W.cell? ⟨q, 5, none⟩ = some (.bool X.carry) := M0.out.box.cell 5
  have e6 : W.cell? ⟨q, 6, none⟩ = some (.slice B m g) := M0.out.box.cell 6
  go_wp2
  go_end0
  exact ⟨rfl, M0.out.here, B00.out⟩
set_option maxHeartbeats 4000000 in
set_option maxRecDepth 100000 in
theorem sgo_jump {q : Nat} {A : Option Addr} {c : Nat} {R : Option Addr} {d : Nat} {B : Option Addr} {g n k m : Nat} {X : Mach} {fa fr fb : List Nat} {L : Nat} {w : World} {C : Int} (arg : Int) (h : MachIn w q A c R d B g n k m X fa fr fb L) (gd : GoodX X C) (r0 : 0 ≤ arg) (r1 : arg ≤ 1023) :
    Calls Tryz.prog 63 #[.pointer (some ⟨q, 0, none⟩), .agg #[.int .i64 10, .int .i64 arg]] w (Did q { X with at_ := arg } L w) := by
  have _u := r0
  have _v := r1
  clear _u _v
  have hL := h.lt
  have HG := Lib.hid gd
  have m0 := h.below (below1 w (.cells #[.int .i64 10, .int .i64 arg] 57))
  have ZW0 := Lib.hid (Box.new w #[.int .i64 10, .int .i64 arg] 57)
  have B00 := Lib.hid ((below1 w (.cells #[.int .i64 10, .int .i64 arg] 57)).mono hL)
  have M0 := Lib.hid m0
  have s0 : Hid ((w.alloc (.cells #[.int .i64 10, .int .i64 arg] 57)).heap.size = w.heap.size + 1) := by show _ = _; simp
  clear h gd m0
  go_enter Tryz.func63, Tryz.ntmps63
  go_upto_region 1 with (fail)
  obtain ⟨W, hW⟩ : ∃ W, W = w.alloc (.cells #[.int .i64 10, .int .i64 arg] 57) := ⟨_, rfl⟩
  rw [← hW] at M0 ZW0 B00 s0
  rw [← hW]
  clear hW
  have z0 : W.cell? ⟨w.heap.size, 0, none⟩ = some (.int .i64 10) := ZW0.out.cell 0
  have z1 : W.cell? ⟨w.heap.size, 1, none⟩ = some (.int .i64 arg) := ZW0.out.cell 1
  have MD : Hid (MachIn W.drew q A c R d B g n k m X fa fr fb L) := M0.out.below (w' := W.drew) ((Below.refl _ _).drew)
  have ZD : Hid (Box W.drew w.heap.size 57 [.int .i64 10, .int .i64 arg]) := ZW0.out
  have lW : L ≤ W.heap.size := M0.out.lt
  have e3 : W.cell? ⟨q, 3, none⟩ = some (.int .i64 X.a) := M0.out.box.cell 3
  have e4 : W.cell? ⟨q, 4, none⟩ = some (.int .i64 X.at_) := M0.out.box.cell 4
  have e5 : W.cell? ⟨q, 5, none⟩ = some (.bool X.carry) := M0.out.box.cell 5
  have e6 : W.cell? ⟨q, 6, none⟩ = some (.slice B m g) := M0.out.box.cell 6
  have f4 := M0.out.box.frozen 4
  go_wp2
  go_end0
  exact ⟨rfl, (M0.out.store 4 (.int .i64 arg) { X with at_ := arg } rfl rfl rfl rfl).here, B00.out.trans (M0.out.stored 4 _)⟩
set_option maxHeartbeats 4000000 in
set_option maxRecDepth 100000 in
theorem sgo_zero {q : Nat} {A : Option Addr} {c : Nat} {R : Option Addr} {d : Nat} {B : Option Addr} {g n k m : Nat} {X : Mach} {fa fr fb : List Nat} {L : Nat} {w : World} {C : Int} (arg : Int) (h : MachIn w q A c R d B g n k m X fa fr fb L) (gd : GoodX X C) (r0 : 0 ≤ arg) (r1 : arg ≤ 1023) :
    Calls Tryz.prog 63 #[.pointer (some ⟨q, 0, none⟩), .agg #[.int .i64 11, .int .i64 arg]] w (Did q (if X.a = 0 then { X with at_ := arg } else X) L w) := by
  have _u := r0
  have _v := r1
  clear _u _v
  by_cases hz : X.a = 0
  · rw [if_pos hz]
    have hq : (X.a == 0) = true := by simp [hz]
    clear hz
    have hL := h.lt
    have HG := Lib.hid gd
    have m0 := h.below (below1 w (.cells #[.int .i64 11, .int .i64 arg] 57))
    have ZW0 := Lib.hid (Box.new w #[.int .i64 11, .int .i64 arg] 57)
    have B00 := Lib.hid ((below1 w (.cells #[.int .i64 11, .int .i64 arg] 57)).mono hL)
    have M0 := Lib.hid m0
    have s0 : Hid ((w.alloc (.cells #[.int .i64 11, .int .i64 arg] 57)).heap.size = w.heap.size + 1) := by show _ = _; simp
    clear h gd m0
    go_enter Tryz.func63, Tryz.ntmps63
    go_upto_region 1 with (fail)
    obtain ⟨W, hW⟩ : ∃ W, W = w.alloc (.cells #[.int .i64 11, .int .i64 arg] 57) := ⟨_, rfl⟩
    rw [← hW] at M0 ZW0 B00 s0
    rw [← hW]
    clear hW
    have z0 : W.cell? ⟨w.heap.size, 0, none⟩ = some (.int .i64 11) := ZW0.out.cell 0
    have z1 : W.cell? ⟨w.heap.size, 1, none⟩ = some (.int .i64 arg) := ZW0.out.cell 1
    have MD : Hid (MachIn W.drew q A c R d B g n k m X fa fr fb L) := M0.out.below (w' := W.drew) ((Below.refl _ _).drew)
    have ZD : Hid (Box W.drew w.heap.size 57 [.int .i64 11, .int .i64 arg]) := ZW0.out
    have lW : L ≤ W.heap.size := M0.out.lt
    have e3 : W.cell? ⟨q, 3, none⟩ = some (.int .i64 X.a) := M0.out.box.cell 3
    have e4 : W.cell? ⟨q, 4, none⟩ = some (.int .i64 X.at_) := M0.out.box.cell 4
    have e5 : W.cell? ⟨q, 5, none⟩ = some (.bool X.carry) := M0.out.box.cell 5
    have e6 : W.cell? ⟨q, 6, none⟩ = some (.slice B m g) := M0.out.box.cell 6
    have f4 := M0.out.box.frozen 4
    go_wp2
    go_end0
    exact ⟨rfl, (M0.out.store 4 (.int .i64 arg) { X with at_ := arg } rfl rfl rfl rfl).here, B00.out.trans (M0.out.stored 4 _)⟩
  · rw [if_neg hz]
    have hq : (X.a == 0) = false := by simp [hz]
    clear hz
    have hL := h.lt
    have HG := Lib.hid gd
    have m0 := h.below (below1 w (.cells #[.int .i64 11, .int .i64 arg] 57))
    have ZW0 := Lib.hid (Box.new w #[.int .i64 11, .int .i64 arg] 57)
    have B00 := Lib.hid ((below1 w (.cells #[.int .i64 11, .int .i64 arg] 57)).mono hL)
    have M0 := Lib.hid m0
    have s0 : Hid ((w.alloc (.cells #[.int .i64 11, .int .i64 arg] 57)).heap.size = w.heap.size + 1) := by show _ = _; simp
    clear h gd m0
    go_enter Tryz.func63, Tryz.ntmps63
    go_upto_region 1 with (fail)
    obtain ⟨W, hW⟩ : ∃ W, W = w.alloc (.cells #[.int .i64 11, .int .i64 arg] 57) := ⟨_, rfl⟩
    rw [← hW] at M0 ZW0 B00 s0
    rw [← hW]
    clear hW
    have z0 : W.cell? ⟨w.heap.size, 0, none⟩ = some (.int .i64 11) := ZW0.out.cell 0
    have z1 : W.cell? ⟨w.heap.size, 1, none⟩ = some (.int .i64 arg) := ZW0.out.cell 1
    have MD : Hid (MachIn W.drew q A c R d B g n k m X fa fr fb L) := M0.out.below (w' := W.drew) ((Below.refl _ _).drew)
    have ZD : Hid (Box W.drew w.heap.size 57 [.int .i64 11, .int .i64 arg]) := ZW0.out
    have lW : L ≤ W.heap.size := M0.out.lt
    have e3 : W.cell? ⟨q, 3, none⟩ = some (.int .i64 X.a) := M0.out.box.cell 3
    have e4 : W.cell? ⟨q, 4, none⟩ = some (.int .i64 X.at_) := M0.out.box.cell 4
    have e5 : W.cell? ⟨q, 5, none⟩ = some (.bool X.carry) := M0.out.box.cell 5
    have e6 : W.cell? ⟨q, 6, none⟩ = some (.slice B m g) := M0.out.box.cell 6
    have f4 := M0.out.box.frozen 4
    go_wp2
    go_end0
    exact ⟨rfl, M0.out.here, B00.out⟩
set_option maxHeartbeats 4000000 in
set_option maxRecDepth 100000 in
theorem sgo_carry {q : Nat} {A : Option Addr} {c : Nat} {R : Option Addr} {d : Nat} {B : Option Addr} {g n k m : Nat} {X : Mach} {fa fr fb : List Nat} {L : Nat} {w : World} {C : Int} (arg : Int) (h : MachIn w q A c R d B g n k m X fa fr fb L) (gd : GoodX X C) (r0 : 0 ≤ arg) (r1 : arg ≤ 1023) :
    Calls Tryz.prog 63 #[.pointer (some ⟨q, 0, none⟩), .agg #[.int .i64 12, .int .i64 arg]] w (Did q (if X.carry = true then { X with at_ := arg } else X) L w) := by
  have _u := r0
  have _v := r1
  clear _u _v
  by_cases hz : X.carry = true
  · rw [if_pos hz]
    have HZ := Lib.hid hz
    clear hz
    have hL := h.lt
    have HG := Lib.hid gd
    have m0 := h.below (below1 w (.cells #[.int .i64 12, .int .i64 arg] 57))
    have ZW0 := Lib.hid (Box.new w #[.int .i64 12, .int .i64 arg] 57)
    have B00 := Lib.hid ((below1 w (.cells #[.int .i64 12, .int .i64 arg] 57)).mono hL)
    have M0 := Lib.hid m0
    have s0 : Hid ((w.alloc (.cells #[.int .i64 12, .int .i64 arg] 57)).heap.size = w.heap.size + 1) := by show _ = _; simp
    clear h gd m0
    go_enter Tryz.func63, Tryz.ntmps63
    go_upto_region 1 with (fail)
    obtain ⟨W, hW⟩ : ∃ W, W = w.alloc (.cells #[.int .i64 12, .int .i64 arg] 57) := ⟨_, rfl⟩
    rw [← hW] at M0 ZW0 B00 s0
    rw [← hW]
    clear hW
    have z0 : W.cell? ⟨w.heap.size, 0, none⟩ = some (.int .i64 12) := ZW0.out.cell 0
    have z1 : W.cell? ⟨w.heap.size, 1, none⟩ = some (.int .i64 arg) := ZW0.out.cell 1
    have MD : Hid (MachIn W.drew q A c R d B g n k m X fa fr fb L) := M0.out.below (w' := W.drew) ((Below.refl _ _).drew)
    have ZD : Hid (Box W.drew w.heap.size 57 [.int .i64 12, .int .i64 arg]) := ZW0.out
    have lW : L ≤ W.heap.size := M0.out.lt
    have e3 : W.cell? ⟨q, 3, none⟩ = some (.int .i64 X.a) := M0.out.box.cell 3
    have e4 : W.cell? ⟨q, 4, none⟩ = some (.int .i64 X.at_) := M0.out.box.cell 4
    have e6 : W.cell? ⟨q, 6, none⟩ = some (.slice B m g) := M0.out.box.cell 6
    have f4 := M0.out.box.frozen 4
    have e5 : W.cell? ⟨q, 5, none⟩ = some (.bool true) := (M0.out.box.cell 5).trans (by rw [HZ.out]; rfl)
    go_wp2
    go_end0
    exact ⟨rfl, (M0.out.store 4 (.int .i64 arg) { X with at_ := arg } rfl rfl rfl rfl).here, B00.out.trans (M0.out.stored 4 _)⟩
  · rw [if_neg hz]
    have HZ := Lib.hid (show X.carry = false by simpa using hz)
    clear hz
    have hL := h.lt
    have HG := Lib.hid gd
    have m0 := h.below (below1 w (.cells #[.int .i64 12, .int .i64 arg] 57))
    have ZW0 := Lib.hid (Box.new w #[.int .i64 12, .int .i64 arg] 57)
    have B00 := Lib.hid ((below1 w (.cells #[.int .i64 12, .int .i64 arg] 57)).mono hL)
    have M0 := Lib.hid m0
    have s0 : Hid ((w.alloc (.cells #[.int .i64 12, .int .i64 arg] 57)).heap.size = w.heap.size + 1) := by show _ = _; simp
    clear h gd m0
    go_enter Tryz.func63, Tryz.ntmps63
    go_upto_region 1 with (fail)
    obtain ⟨W, hW⟩ : ∃ W, W = w.alloc (.cells #[.int .i64 12, .int .i64 arg] 57) := ⟨_, rfl⟩
    rw [← hW] at M0 ZW0 B00 s0
    rw [← hW]
    clear hW
    have z0 : W.cell? ⟨w.heap.size, 0, none⟩ = some (.int .i64 12) := ZW0.out.cell 0
    have z1 : W.cell? ⟨w.heap.size, 1, none⟩ = some (.int .i64 arg) := ZW0.out.cell 1
    have MD : Hid (MachIn W.drew q A c R d B g n k m X fa fr fb L) := M0.out.below (w' := W.drew) ((Below.refl _ _).drew)
    have ZD : Hid (Box W.drew w.heap.size 57 [.int .i64 12, .int .i64 arg]) := ZW0.out
    have lW : L ≤ W.heap.size := M0.out.lt
    have e3 : W.cell? ⟨q, 3, none⟩ = some (.int .i64 X.a) := M0.out.box.cell 3
    have e4 : W.cell? ⟨q, 4, none⟩ = some (.int .i64 X.at_) := M0.out.box.cell 4
    have e6 : W.cell? ⟨q, 6, none⟩ = some (.slice B m g) := M0.out.box.cell 6
    have f4 := M0.out.box.frozen 4
    have e5 : W.cell? ⟨q, 5, none⟩ = some (.bool false) := (M0.out.box.cell 5).trans (by rw [HZ.out]; rfl)
    go_wp2
    go_end0
    exact ⟨rfl, M0.out.here, B00.out⟩
set_option maxHeartbeats 4000000 in
set_option maxRecDepth 100000 in
theorem sgo_stop {q : Nat} {A : Option Addr} {c : Nat} {R : Option Addr} {d : Nat} {B : Option Addr} {g n k m : Nat} {X : Mach} {fa fr fb : List Nat} {L : Nat} {w : World} {C : Int} (arg : Int) (h : MachIn w q A c R d B g n k m X fa fr fb L) (gd : GoodX X C) (r0 : 0 ≤ arg) (r1 : arg ≤ 1023) :
    Calls Tryz.prog 63 #[.pointer (some ⟨q, 0, none⟩), .agg #[.int .i64 15, .int .i64 arg]] w (Did q { X with stop := true } L w) := by
  have _u := r0
  have _v := r1
  clear _u _v
  have hL := h.lt
  have HG := Lib.hid gd
  have m0 := h.below (below1 w (.cells #[.int .i64 15, .int .i64 arg] 57))
  have ZW0 := Lib.hid (Box.new w #[.int .i64 15, .int .i64 arg] 57)
  have B00 := Lib.hid ((below1 w (.cells #[.int .i64 15, .int .i64 arg] 57)).mono hL)
  have M0 := Lib.hid m0
  have s0 : Hid ((w.alloc (.cells #[.int .i64 15, .int .i64 arg] 57)).heap.size = w.heap.size + 1) := by show _ = _; simp
  clear h gd m0
  go_enter Tryz.func63, Tryz.ntmps63
  go_upto_region 1 with (fail)
  obtain ⟨W, hW⟩ : ∃ W, W = w.alloc (.cells #[.int .i64 15, .int .i64 arg] 57) := ⟨_, rfl⟩
  rw [← hW] at M0 ZW0 B00 s0
  rw [← hW]
  clear hW
  have z0 : W.cell? ⟨w.heap.size, 0, none⟩ = some (.int .i64 15) := ZW0.out.cell 0
  have z1 : W.cell? ⟨w.heap.size, 1, none⟩ = some (.int .i64 arg) := ZW0.out.cell 1
  have MD : Hid (MachIn W.drew q A c R d B g n k m X fa fr fb L) := M0.out.below (w' := W.drew) ((Below.refl _ _).drew)
  have ZD : Hid (Box W.drew w.heap.size 57 [.int .i64 15, .int .i64 arg]) := ZW0.out
  have lW : L ≤ W.heap.size := M0.out.lt
  have e3 : W.cell? ⟨q, 3, none⟩ = some (.int .i64 X.a) := M0.out.box.cell 3
  have e5 : W.cell? ⟨q, 5, none⟩ = some (.bool X.carry) := M0.out.box.cell 5
  have e6 : W.cell? ⟨q, 6, none⟩ = some (.slice B m g) := M0.out.box.cell 6
  have e7 : W.cell? ⟨q, 7, none⟩ = some (.bool X.stop) := M0.out.box.cell 7
  have f7 := M0.out.box.frozen 7
  go_wp2
  go_end0
  exact ⟨rfl, (M0.out.store 7 (.bool true) { X with stop := true } rfl rfl rfl rfl).here, B00.out.trans (M0.out.stored 7 _)⟩
end Go.Proofs.YtgciaafapbaliaaGreatDoor
