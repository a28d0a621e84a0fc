/- What the model's instructions do to a machine in place: calls and returns. -/
import Derived.Test.YtcapfafglikcmaaDoorKM
import Derived.Test.YtcapfafglikcmaaDoorKH
import Derived.Test.YtcapfafglikcmaaDoorByteF
namespace Go.Proofs.YtcapfafglikcmaaDoor
open Go.ChangeShapes Go.WideShapes Go.ChangeAt Go.RowKit

set_option maxHeartbeats 4000000 in
set_option maxRecDepth 100000 in
theorem sgo_call {q : Nat} {A : Option Addr} {c : Nat} {R : Option Addr} {d : Nat} {B : Option Addr} {g n k m : Nat} {X : Mach} {fa fr fb : List Nat} {L : Nat} {w : World} {C : Int} (arg : Int) (h : MachIn w q A c R d B g n k m X fa fr fb L) (gd : GoodX X C) (r0 : 0 ≤ arg) (r1 : arg ≤ 1023) :
    Calls Tryd.prog 70 #[.pointer (some ⟨q, 0, none⟩), .agg #[.int .i64 13, .int .i64 arg]] w (Did q (if X.back.length = 8 then { X with stop := true } else { X with back := X.back ++ [X.at_], at_ := arg }) L w) := by
  have _u := r0
  have _v := r1
  clear _u _v
  have HL := Lib.hid h.has.back.1
  have h8 : X.back.length ≤ 8 := gd.len
  have H8 := Lib.hid h8
  clear h8
  by_cases hz : m = 8
  · rw [if_pos (by have := HL.out; omega)]
    have HZ := Lib.hid hz
    clear hz
    have hL := h.lt
    have HG := Lib.hid gd
    have m0 := h.below (below1 w (.cells #[.int .i64 13, .int .i64 arg] 61))
    have ZW0 := Lib.hid (Box.new w #[.int .i64 13, .int .i64 arg] 61)
    have B00 := Lib.hid ((below1 w (.cells #[.int .i64 13, .int .i64 arg] 61)).mono hL)
    have M0 := Lib.hid m0
    have s0 : Hid ((w.alloc (.cells #[.int .i64 13, .int .i64 arg] 61)).heap.size = w.heap.size + 1) := by show _ = _; simp
    clear h gd m0
    go_enter Tryd.func70, Tryd.ntmps70
    go_upto_region 1 with (fail)
    obtain ⟨W, hW⟩ : ∃ W, W = w.alloc (.cells #[.int .i64 13, .int .i64 arg] 61) := ⟨_, rfl⟩
    rw [← hW] at M0 ZW0 B00 s0
    rw [← hW]
    clear hW
    have z0 : W.cell? ⟨w.heap.size, 0, none⟩ = some (.int .i64 13) := ZW0.out.cell 0
    have z1 : W.cell? ⟨w.heap.size, 1, none⟩ = some (.int .i64 arg) := ZW0.out.cell 1
    have MD : Hid (MachIn W.drew q A c R d B g n k m X fa fr fb L) := M0.out.below (w' := W.drew) ((Below.refl _ _).drew)
    have ZD : Hid (Box W.drew w.heap.size 61 [.int .i64 13, .int .i64 arg]) := ZW0.out
    have lW : L ≤ W.heap.size := M0.out.lt
    have e3 : W.cell? ⟨q, 3, none⟩ = some (.int .i64 X.a) := M0.out.box.cell 3
    have e4 : W.cell? ⟨q, 4, none⟩ = some (.int .i64 X.at_) := M0.out.box.cell 4
    have e5 : W.cell? ⟨q, 5, none⟩ = some (.bool X.carry) := M0.out.box.cell 5
    have e7 : W.cell? ⟨q, 7, none⟩ = some (.bool X.stop) := M0.out.box.cell 7
    have f7 := M0.out.box.frozen 7
    have e6 : W.cell? ⟨q, 6, none⟩ = some (.slice B 8 g) := by rw [← HZ.out]; exact M0.out.box.cell 6
    go_wp2
    go_end0
    exact ⟨rfl, (M0.out.store 7 (.bool true) { X with stop := true } rfl rfl rfl rfl).here, B00.out.trans (M0.out.stored 7 _)⟩
  · rw [if_neg (by have := HL.out; omega)]
    have hq : ((m : Int) == 8) = false := by simp; omega
    have m8 : m ≤ 8 := by have := HL.out; have := H8.out; omega
    clear hz
    have hL := h.lt
    have HG := Lib.hid gd
    have m0 := h.below (below1 w (.cells #[.int .i64 13, .int .i64 arg] 61))
    have ZW0 := Lib.hid (Box.new w #[.int .i64 13, .int .i64 arg] 61)
    have B00 := Lib.hid ((below1 w (.cells #[.int .i64 13, .int .i64 arg] 61)).mono hL)
    have M0 := Lib.hid m0
    have s0 : Hid ((w.alloc (.cells #[.int .i64 13, .int .i64 arg] 61)).heap.size = w.heap.size + 1) := by show _ = _; simp
    clear h gd m0
    go_enter Tryd.func70, Tryd.ntmps70
    go_upto_region 1 with (fail)
    obtain ⟨W, hW⟩ : ∃ W, W = w.alloc (.cells #[.int .i64 13, .int .i64 arg] 61) := ⟨_, rfl⟩
    rw [← hW] at M0 ZW0 B00 s0
    rw [← hW]
    clear hW
    have z0 : W.cell? ⟨w.heap.size, 0, none⟩ = some (.int .i64 13) := ZW0.out.cell 0
    have z1 : W.cell? ⟨w.heap.size, 1, none⟩ = some (.int .i64 arg) := ZW0.out.cell 1
    have MD : Hid (MachIn W.drew q A c R d B g n k m X fa fr fb L) := M0.out.below (w' := W.drew) ((Below.refl _ _).drew)
    have ZD : Hid (Box W.drew w.heap.size 61 [.int .i64 13, .int .i64 arg]) := ZW0.out
    have lW : L ≤ W.heap.size := M0.out.lt
    have e3 : W.cell? ⟨q, 3, none⟩ = some (.int .i64 X.a) := M0.out.box.cell 3
    have e4 : W.cell? ⟨q, 4, none⟩ = some (.int .i64 X.at_) := M0.out.box.cell 4
    have e5 : W.cell? ⟨q, 5, none⟩ = some (.bool X.carry) := M0.out.box.cell 5
    have e6 : W.cell? ⟨q, 6, none⟩ = some (.slice B m g) := M0.out.box.cell 6
    have e7 : W.cell? ⟨q, 7, none⟩ = some (.bool X.stop) := M0.out.box.cell 7
    have f4 := M0.out.box.frozen 4
    have f6 := M0.out.box.frozen 6
    have qW := M0.out.box.lt
    have X0 := Lib.hid M0.out.box
    have E1 : Hid ((W.alloc (.cells #[] 3)).drew.ownsRow W.heap.size 3 1 (.slice (some ⟨W.heap.size, 0, none⟩) 0 0) 0 (iv [])) := (own_empty W 3 W.heap.size (Nat.le_refl _)).drew
    have E2 : Hid (((W.alloc (.cells #[.int .i64 X.at_] 3)).alloc (.cells #[] 3)).drew.ownsRow W.heap.size 3 1 (.slice (some ⟨W.heap.size + 1, 0, none⟩) 0 0) 0 (iv [])) := own_empty_after W 3 _
    have E3 : Hid (((W.alloc (.cells #[] 3)).alloc (.cells #[.int .i64 X.at_] 3)).drew.ownsRow W.heap.size 3 1 (.slice (some ⟨W.heap.size, 0, none⟩) 0 0) 0 (iv [])) := own_empty_then W 3 _
    have Q1 : Hid (Below W.heap.size W (W.alloc (.cells #[] 3)).drew) := (below1 W _).drew
    have Q2 : Hid (Below W.heap.size W ((W.alloc (.cells #[.int .i64 X.at_] 3)).alloc (.cells #[] 3)).drew) := (below2 W _ _).drew
    have Q3 : Hid (Below W.heap.size W ((W.alloc (.cells #[] 3)).alloc (.cells #[.int .i64 X.at_] 3)).drew) := (below2 W _ _).drew
    have J1 := Lib.hid (M0.out.has.back.below Q1.out)
    have J2 := Lib.hid (M0.out.has.back.below Q2.out)
    have J3 := Lib.hid (M0.out.has.back.below Q3.out)
    have K2 : Hid (Box ((W.alloc (.cells #[.int .i64 X.at_] 3)).alloc (.cells #[] 3)).drew W.heap.size 3 [.int .i64 X.at_]) := (Box.new W #[.int .i64 X.at_] 3).alloc _
    have K3 : Hid (Box ((W.alloc (.cells #[] 3)).alloc (.cells #[.int .i64 X.at_] 3)).drew (W.heap.size + 1) 3 [.int .i64 X.at_]) := Box.new_at (W.alloc _) #[.int .i64 X.at_] 3 _ (by simp)
    go_wp2_with fail
    go_region_law (first
      | ((with_reducible refine step_append_ints ?_ (.tmp 66) (.tmp 70) ?_ W.heap.size (.slice (some ⟨W.heap.size, 0, none⟩) 0 0) 0 [] ?_ E1.out B m g X.back fb ?_ J1.out ?_ Q1.out.size ?_); rfl; rfl; rfl; rfl; omega; intro v1 w1 own1 gr1 at1; have b1 : Hid (Below W.heap.size W w1) := Q1.out.trans (below_grown (Below.refl W.heap.size _) gr1 Q1.out.size (fun b hb => by have h : some (W.heap.size) = some b := hb; injection h; omega)); have O1 : Hid (w1.ownsRow W.heap.size 3 1 v1 m (iv X.back)) := by { simp only [Nat.zero_add, List.nil_append] at own1; exact Lib.hid own1 }; have Y1 := Lib.hid (X0.out.keep b1.out qW); have q4 : w1.cell? ⟨q, 4, none⟩ = some (.int .i64 X.at_) := Y1.out.cell 4; have OA := Lib.hid (own_keep O1.out (below1 w1 (.cells #[.int .i64 X.at_] 3))); have IA : Hid (Ints (w1.alloc (.cells #[.int .i64 X.at_] 3)) (some ⟨w1.heap.size, 0, none⟩) 1 [X.at_] [w1.heap.size]) := ints_one (Box.new w1 #[.int .i64 X.at_] 3); have bA := Lib.hid (b1.out.alloc b1.out.size (.cells #[.int .i64 X.at_] 3)); clear own1 gr1 at1)
      | ((with_reducible refine step_append_ints ?_ (.tmp 66) (.tmp 70) ?_ W.heap.size (.slice (some ⟨W.heap.size + 1, 0, none⟩) 0 0) 0 [] ?_ E2.out B m g X.back fb ?_ J2.out ?_ Q2.out.size ?_); rfl; rfl; rfl; rfl; omega; intro v1 w1 own1 gr1 at1; have b1 : Hid (Below W.heap.size W w1) := Q2.out.trans (below_grown (Below.refl W.heap.size _) gr1 Q2.out.size (fun b hb => by have h : some (W.heap.size + 1) = some b := hb; injection h; omega)); have O1 : Hid (w1.ownsRow W.heap.size 3 1 v1 m (iv X.back)) := by { simp only [Nat.zero_add, List.nil_append] at own1; exact Lib.hid own1 }; have Y1 := Lib.hid (X0.out.keep b1.out qW); have q4 : w1.cell? ⟨q, 4, none⟩ = some (.int .i64 X.at_) := Y1.out.cell 4; have IB : Hid (Ints w1 (some ⟨W.heap.size, 0, none⟩) 1 [X.at_] [W.heap.size]) := ints_one (K2.out.keep (below_grown (Below.refl (W.heap.size + 1) _) gr1 (by simp) (fun b hb => by have h : some (W.heap.size + 1) = some b := hb; injection h; omega)) (by omega)); clear own1 gr1 at1)
      | ((with_reducible refine step_append_ints ?_ (.tmp 66) (.tmp 70) ?_ W.heap.size (.slice (some ⟨W.heap.size, 0, none⟩) 0 0) 0 [] ?_ E3.out B m g X.back fb ?_ J3.out ?_ Q3.out.size ?_); rfl; rfl; rfl; rfl; omega; intro v1 w1 own1 gr1 at1; have b1 : Hid (Below W.heap.size W w1) := Q3.out.trans (below_grown (Below.refl W.heap.size _) gr1 Q3.out.size (fun b hb => by have h : some (W.heap.size) = some b := hb; injection h; omega)); have O1 : Hid (w1.ownsRow W.heap.size 3 1 v1 m (iv X.back)) := by { simp only [Nat.zero_add, List.nil_append] at own1; exact Lib.hid own1 }; have Y1 := Lib.hid (X0.out.keep b1.out qW); have q4 : w1.cell? ⟨q, 4, none⟩ = some (.int .i64 X.at_) := Y1.out.cell 4; have IC : Hid (Ints w1 (some ⟨W.heap.size + 1, 0, none⟩) 1 [X.at_] [W.heap.size + 1]) := ints_one (K3.out.only (grown_only gr1 (S := [W.heap.size]) (fun b hb => by have h : some W.heap.size = some b := hb; injection h with h; simp [h])) (by simp)); clear own1 gr1 at1)
      | ((with_reducible refine step_append_ints ?_ (.tmp 71) (.tmp 76) ?_ W.heap.size v1 m X.back ?_ OA.out (some ⟨w1.heap.size, 0, none⟩) 1 1 [X.at_] [w1.heap.size] ?_ IA.out ?_ bA.out.size ?_); rfl; rfl; rfl; rfl; omega; intro v2 w2 own2 gr2 at2; have b2 : Hid (Below W.heap.size W w2) := bA.out.trans (below_grown (Below.refl W.heap.size _) gr2 bA.out.size (fun b hb => (own_lt OA.out b hb).1)); obtain ⟨B1, g1, _, rfl, _⟩ := own_ints own2; have OW := Lib.hid own2; have X1 := Lib.hid (X0.out.keep b2.out qW); have y4 : w2.cell? ⟨q, 4, none⟩ = some (.int .i64 X.at_) := X1.out.cell 4; have y6 : w2.cell? ⟨q, 6, none⟩ = some (.slice B m g) := X1.out.cell 6; have g4 := X1.out.frozen 4; have g6 := X1.out.frozen 6; have zz : w2.cell? ⟨w.heap.size, 1, none⟩ = some (.int .i64 arg) := (ZW0.out.keep b2.out (by have := s0.out; omega)).cell 1; clear own2 gr2 at2)
      | ((with_reducible refine step_append_ints ?_ (.tmp 71) (.tmp 76) ?_ W.heap.size v1 m X.back ?_ O1.out (some ⟨W.heap.size, 0, none⟩) 1 1 [X.at_] [W.heap.size] ?_ IB.out ?_ b1.out.size ?_); rfl; rfl; rfl; rfl; omega; intro v2 w2 own2 gr2 at2; have b2 : Hid (Below W.heap.size W w2) := b1.out.trans (below_grown (Below.refl W.heap.size _) gr2 b1.out.size (fun b hb => (own_lt O1.out b hb).1)); obtain ⟨B1, g1, _, rfl, _⟩ := own_ints own2; have OW := Lib.hid own2; have X1 := Lib.hid (X0.out.keep b2.out qW); have y4 : w2.cell? ⟨q, 4, none⟩ = some (.int .i64 X.at_) := X1.out.cell 4; have y6 : w2.cell? ⟨q, 6, none⟩ = some (.slice B m g) := X1.out.cell 6; have g4 := X1.out.frozen 4; have g6 := X1.out.frozen 6; have zz : w2.cell? ⟨w.heap.size, 1, none⟩ = some (.int .i64 arg) := (ZW0.out.keep b2.out (by have := s0.out; omega)).cell 1; clear own2 gr2 at2)
      | ((with_reducible refine step_append_ints ?_ (.tmp 71) (.tmp 76) ?_ W.heap.size v1 m X.back ?_ O1.out (some ⟨W.heap.size + 1, 0, none⟩) 1 1 [X.at_] [W.heap.size + 1] ?_ IC.out ?_ b1.out.size ?_); rfl; rfl; rfl; rfl; omega; intro v2 w2 own2 gr2 at2; have b2 : Hid (Below W.heap.size W w2) := b1.out.trans (below_grown (Below.refl W.heap.size _) gr2 b1.out.size (fun b hb => (own_lt O1.out b hb).1)); obtain ⟨B1, g1, _, rfl, _⟩ := own_ints own2; have OW := Lib.hid own2; have X1 := Lib.hid (X0.out.keep b2.out qW); have y4 : w2.cell? ⟨q, 4, none⟩ = some (.int .i64 X.at_) := X1.out.cell 4; have y6 : w2.cell? ⟨q, 6, none⟩ = some (.slice B m g) := X1.out.cell 6; have g4 := X1.out.frozen 4; have g6 := X1.out.frozen 6; have zz : w2.cell? ⟨w.heap.size, 1, none⟩ = some (.int .i64 arg) := (ZW0.out.keep b2.out (by have := s0.out; omega)).cell 1; clear own2 gr2 at2))
    all_goals
      go_wp2
      go_end0
      obtain ⟨⟨_, _, _, _, _, _, _, _, _, _, _, _, H2⟩, b3⟩ := M0.out.rest (S := []) (xs := X.back ++ [X.at_]) (own_mono OW.out lW) (.of_below b2.out) (by simp) (fun b hb => .inr (own_lt OW.out b hb).1)
      exact ⟨rfl, (H2.store 4 (.int .i64 arg) { X with back := X.back ++ [X.at_], at_ := arg } rfl rfl rfl rfl).here, (B00.out.trans b3).trans (H2.stored 4 _)⟩
set_option maxHeartbeats 4000000 in
set_option maxRecDepth 100000 in
theorem sgo_return {q : Nat} {A : Option Addr} {c : Nat} {R : Option Addr} {d : Nat} {B : Option Addr} {g n k m : Nat} {X : Mach} {fa fr fb : List Nat} {L : Nat} {w : World} {C : Int} (arg : Int) (h : MachIn w q A c R d B g n k m X fa fr fb L) (gd : GoodX X C) (r0 : 0 ≤ arg) (r1 : arg ≤ 1023) :
    Calls Tryd.prog 70 #[.pointer (some ⟨q, 0, none⟩), .agg #[.int .i64 14, .int .i64 arg]] w (Did q (if X.back.length = 0 then { X with stop := true } else { X with at_ := X.back.getD (X.back.length - 1) 0, back := X.back.take (X.back.length - 1) }) L w) := by
  have _u := r0
  have _v := r1
  clear _u _v
  have HL := Lib.hid h.has.back.1
  have h8 : X.back.length ≤ 8 := gd.len
  have H8 := Lib.hid h8
  clear h8
  by_cases hz : m = 0
  · rw [if_pos (by have := HL.out; omega)]
    have HZ := Lib.hid hz
    clear hz
    have hL := h.lt
    have HG := Lib.hid gd
    have m0 := h.below (below1 w (.cells #[.int .i64 14, .int .i64 arg] 61))
    have ZW0 := Lib.hid (Box.new w #[.int .i64 14, .int .i64 arg] 61)
    have B00 := Lib.hid ((below1 w (.cells #[.int .i64 14, .int .i64 arg] 61)).mono hL)
    have M0 := Lib.hid m0
    have s0 : Hid ((w.alloc (.cells #[.int .i64 14, .int .i64 arg] 61)).heap.size = w.heap.size + 1) := by show _ = _; simp
    clear h gd m0
    go_enter Tryd.func70, Tryd.ntmps70
    go_upto_region 1 with (fail)
    obtain ⟨W, hW⟩ : ∃ W, W = w.alloc (.cells #[.int .i64 14, .int .i64 arg] 61) := ⟨_, rfl⟩
    rw [← hW] at M0 ZW0 B00 s0
    rw [← hW]
    clear hW
    have z0 : W.cell? ⟨w.heap.size, 0, none⟩ = some (.int .i64 14) := ZW0.out.cell 0
    have z1 : W.cell? ⟨w.heap.size, 1, none⟩ = some (.int .i64 arg) := ZW0.out.cell 1
    have MD : Hid (MachIn W.drew q A c R d B g n k m X fa fr fb L) := M0.out.below (w' := W.drew) ((Below.refl _ _).drew)
    have ZD : Hid (Box W.drew w.heap.size 61 [.int .i64 14, .int .i64 arg]) := ZW0.out
    have lW : L ≤ W.heap.size := M0.out.lt
    have e3 : W.cell? ⟨q, 3, none⟩ = some (.int .i64 X.a) := M0.out.box.cell 3
    have e4 : W.cell? ⟨q, 4, none⟩ = some (.int .i64 X.at_) := M0.out.box.cell 4
    have e5 : W.cell? ⟨q, 5, none⟩ = some (.bool X.carry) := M0.out.box.cell 5
    have e7 : W.cell? ⟨q, 7, none⟩ = some (.bool X.stop) := M0.out.box.cell 7
    have f7 := M0.out.box.frozen 7
    have e6 : W.cell? ⟨q, 6, none⟩ = some (.slice B 0 g) := by rw [← HZ.out]; exact M0.out.box.cell 6
    go_wp2
    go_end0
    exact ⟨rfl, (M0.out.store 7 (.bool true) { X with stop := true } rfl rfl rfl rfl).here, B00.out.trans (M0.out.stored 7 _)⟩
  · rw [if_neg (by have := HL.out; omega)]
    obtain ⟨j, rfl⟩ : ∃ j, m = j + 1 := ⟨m - 1, by omega⟩
    rw [show X.back.length - 1 = j by have := HL.out; omega]
    have jg : j + 1 ≤ g := h.cap.2.2
    have j8 : j ≤ 8 := by have := HL.out; have := H8.out; omega
    obtain ⟨b, o, rfl, _, hb, hc⟩ := (h.has.back.below (below1 w (.cells #[.int .i64 14, .int .i64 arg] 61))).at_ (by omega)
    have cj0 := Lib.hid (hc j (by omega))
    have hq0 : (((j + 1 : Nat) : Int) == 0) = false := by simp; omega
    clear hz hc hb
    have hL := h.lt
    have HG := Lib.hid gd
    have m0 := h.below (below1 w (.cells #[.int .i64 14, .int .i64 arg] 61))
    have ZW0 := Lib.hid (Box.new w #[.int .i64 14, .int .i64 arg] 61)
    have B00 := Lib.hid ((below1 w (.cells #[.int .i64 14, .int .i64 arg] 61)).mono hL)
    have M0 := Lib.hid m0
    have s0 : Hid ((w.alloc (.cells #[.int .i64 14, .int .i64 arg] 61)).heap.size = w.heap.size + 1) := by show _ = _; simp
    clear h gd m0
    go_enter Tryd.func70, Tryd.ntmps70
    go_upto_region 1 with (fail)
    obtain ⟨W, hW⟩ : ∃ W, W = w.alloc (.cells #[.int .i64 14, .int .i64 arg] 61) := ⟨_, rfl⟩
    rw [← hW] at M0 ZW0 B00 s0 cj0
    rw [← hW]
    clear hW
    have z0 : W.cell? ⟨w.heap.size, 0, none⟩ = some (.int .i64 14) := ZW0.out.cell 0
    have z1 : W.cell? ⟨w.heap.size, 1, none⟩ = some (.int .i64 arg) := ZW0.out.cell 1
    have MD : Hid (MachIn W.drew q A c R d (some ⟨b, o, none⟩) g n k (j + 1) X fa fr fb L) := M0.out.below (w' := W.drew) ((Below.refl _ _).drew)
    have ZD : Hid (Box W.drew w.heap.size 61 [.int .i64 14, .int .i64 arg]) := ZW0.out
    have lW : L ≤ W.heap.size := M0.out.lt
    have e3 : W.cell? ⟨q, 3, none⟩ = some (.int .i64 X.a) := M0.out.box.cell 3
    have e4 : W.cell? ⟨q, 4, none⟩ = some (.int .i64 X.at_) := M0.out.box.cell 4
    have e5 : W.cell? ⟨q, 5, none⟩ = some (.bool X.carry) := M0.out.box.cell 5
    have e6 : W.cell? ⟨q, 6, none⟩ = some (.slice (some ⟨b, o, none⟩) (j + 1) g) := M0.out.box.cell 6
    have e7 : W.cell? ⟨q, 7, none⟩ = some (.bool X.stop) := M0.out.box.cell 7
    have f4 := M0.out.box.frozen 4
    have cj := cj0.out
    obtain ⟨x, hx⟩ : ∃ x, x = X.back.getD j 0 := ⟨_, rfl⟩
    rw [← hx] at cj
    have HX := Lib.hid hx
    have hjj : (j : Int) < (j : Int) + 1 := by omega
    have hwj : IntKind.i64.wrap (j : Int) = (j : Int) := by rw [IntKind.wrap_i64]; omega
    clear hx cj0
    go_wp2_with fail
    go_region_law (fail)
    all_goals
      go_wp2_with fail
      obtain ⟨V, hV⟩ : ∃ V, V = W.drew.setCell ⟨q, 4, none⟩ (.int .i64 x) := ⟨_, rfl⟩
      have MV : Hid (MachIn V q A c R d (some ⟨b, o, none⟩) g n k (j + 1) { X with at_ := x } fa fr fb L) := by rw [hV]; exact Lib.hid (MD.out.store 4 (.int .i64 x) { X with at_ := x } rfl rfl rfl rfl)
      have BV : Hid (Below L W V) := by rw [hV]; exact Lib.hid (((Below.refl L W).drew).trans (MD.out.stored 4 _))
      first | rw [← hV] | rw [show (W.setCell ⟨q, 4, none⟩ (.int .i64 x)).drew = V by rw [hV]; rfl] | rw [show W.setCell ⟨q, 4, none⟩ (.int .i64 x) = V by rw [hV]; rfl]
      clear hV
      obtain ⟨fq, hI⟩ := MV.out.has.back.take j (by omega)
      have HI := Lib.hid hI
      have lV : L ≤ V.heap.size := MV.out.lt
      have qV := MV.out.box.lt
      have E1 : Hid ((V.alloc (.cells #[] 3)).drew.ownsRow V.heap.size 3 1 (.slice (some ⟨V.heap.size, 0, none⟩) 0 0) 0 (iv [])) := (own_empty V 3 V.heap.size (Nat.le_refl _)).drew
      have Q1 : Hid (Below V.heap.size V (V.alloc (.cells #[] 3)).drew) := (below1 V _).drew
      have J1 := Lib.hid (HI.out.below Q1.out)
      have v6 : V.cell? ⟨q, 6, none⟩ = some (.slice (some ⟨b, o, none⟩) (j + 1) g) := MV.out.box.cell 6
      have jg' : j ≤ g := by omega
      clear hI
      go_region_law (first
        | ((with_reducible refine step_append_ints ?_ (.tmp 105) (.tmp 116) ?_ V.heap.size (.slice (some ⟨V.heap.size, 0, none⟩) 0 0) 0 [] ?_ E1.out (some ⟨b, o, none⟩) j g (X.back.take j) fq ?_ J1.out ?_ Q1.out.size ?_); rfl; rfl; rfl; rfl; omega; intro v1 w1 own1 gr1 at1; have b1 : Hid (Below V.heap.size V w1) := Q1.out.trans (below_grown (Below.refl V.heap.size _) gr1 Q1.out.size (fun b hb => by have h : some V.heap.size = some b := hb; injection h; omega)); have O1 : Hid (w1.ownsRow V.heap.size 3 1 v1 j (iv (X.back.take j))) := by { simp only [Nat.zero_add, List.nil_append] at own1; exact Lib.hid own1 }; obtain ⟨B1, g1, _, rfl, _⟩ := own_ints O1.out; have X1 := Lib.hid (MV.out.box.keep b1.out qV); have y6 : w1.cell? ⟨q, 6, none⟩ = some (.slice (some ⟨b, o, none⟩) (j + 1) g) := X1.out.cell 6; have g6 := X1.out.frozen 6; clear own1 gr1 at1))
      all_goals
        go_wp2
        go_end0
        obtain ⟨h2, b3⟩ := MV.out.rest (S := []) (xs := X.back.take j) (own_mono O1.out lV) (.of_below b1.out) (by simp) (fun b hb => .inr (own_lt O1.out b hb).1)
        exact ⟨rfl, by rw [show X.back[j]?.getD 0 = x from HX.out.symm]; exact h2, (B00.out.trans BV.out).trans b3⟩
end Go.Proofs.YtcapfafglikcmaaDoor
