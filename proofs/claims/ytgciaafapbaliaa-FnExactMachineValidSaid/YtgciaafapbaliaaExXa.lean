/- The exact law of MachineValid, walked: it returns true, and changes no memory that was there. -/
import Derived.Test.YtgciaafapbaliaaMchV
import Derived.Test.YtgciaafapbaliaaMchB
import Derived.Deep.RegionHeld3
namespace Go.Proofs.Ytgciaafapbaliaa
open Go.ChangeShapes Go.WideShapes Go.ChangeAt Go.RowKit

theorem walk_FnExactMachineValid (A : Option Addr) (c : Nat) (R : Option Addr) (d : Nat) (B : Option Addr) (g : Nat) (n k m : Nat) (X : Mach) (w : World) (h : InMach w A n R k B m X) :
    Calls Try.prog 5 #[.agg #[.slice A n c, .slice R k d, .int .i64 X.mem.bank, .int .i64 X.a, .int .i64 X.at_, .bool X.carry, .slice B m g, .bool X.stop, .int .i64 X.cyc]] w fun e w' => e = .returned (.bool true) ∧ Below w.heap.size w w' := by
  obtain ⟨hf, fa, fr, fb, hh⟩ := h
  have HH := Lib.hid hh
  have HF := Lib.hid hf
  clear hh hf
  go_enter Try.func5, Try.ntmps5
  go_wp2_with fail
  refine (sz_mach A c R d B g n k m X fa fr fb 1048576 _ (HH.out.below (below1 w _)) HF.out (by omega) (by omega)).mono ?_
  rintro e w1 ⟨sv, rfl, b1, hv⟩
  have X1 : Hid (Box w1 w.heap.size 40 [.slice A n c, .slice R k d, .int .i64 X.mem.bank, .int .i64 X.a, .int .i64 X.at_, .bool X.carry, .slice B m g, .bool X.stop, .int .i64 X.cyc]) := (Box.new w _ _).below b1
  have B1 : Hid (Below w.heap.size w w1) := (below1 w _).trans (b1.mono (by simp))
  have HV := Lib.hid hv
  clear b1 hv
  by_cases v0 : sv < 0
  · go_wp2_with fail
    go_ret
    exact ⟨rfl, B1.out⟩
  · have FS := Lib.hid (fits_sz HH.out (by omega) (show sv = 1048576 - n - k - sumLen X.mem.rom - m by
      rcases HV.out with h | h
      · omega
      · exact h.2))
    have SF := Lib.hid (fits_mono FS.out.1 (show 1048576 ≤ 1000000000 by omega))
    have sl : sumLen X.mem.rom ≤ 1048576 := FS.out.2
    have sn : n ≤ 1048576 := FS.out.1.n HH.out
    have sk : k ≤ 1048576 := FS.out.1.k HH.out
    have sm : m ≤ 1048576 := FS.out.1.m HH.out
    clear HV HF
    have c0 : w1.cell? ⟨w.heap.size, 0, none⟩ = some (.slice A n c) := X1.out.cell 0
    have c1 : w1.cell? ⟨w.heap.size, 1, none⟩ = some (.slice R k d) := X1.out.cell 1
    have c2 : w1.cell? ⟨w.heap.size, 2, none⟩ = some (.int .i64 X.mem.bank) := X1.out.cell 2
    have c3 : w1.cell? ⟨w.heap.size, 3, none⟩ = some (.int .i64 X.a) := X1.out.cell 3
    have c4 : w1.cell? ⟨w.heap.size, 4, none⟩ = some (.int .i64 X.at_) := X1.out.cell 4
    have c5 : w1.cell? ⟨w.heap.size, 5, none⟩ = some (.bool X.carry) := X1.out.cell 5
    have c6 : w1.cell? ⟨w.heap.size, 6, none⟩ = some (.slice B m g) := X1.out.cell 6
    have c7 : w1.cell? ⟨w.heap.size, 7, none⟩ = some (.bool X.stop) := X1.out.cell 7
    have c8 : w1.cell? ⟨w.heap.size, 8, none⟩ = some (.int .i64 X.cyc) := X1.out.cell 8
    go_wp2_with fail
    refine (to_mach A c R d B g n k m X fa fr fb _ (HH.out.below B1.out) SF.out).mono ?_
    rintro e w2 ⟨Ap, np, cp, Rp, kp, dp, Bp, mp, gp, fap, frp, fbp, rfl, hcp, hhp, nwp, bp⟩
    obtain rfl : n = np := by have := hhp.ram.1; have := HH.out.ram.1; omega
    obtain rfl : k = kp := by have := hhp.rom.len; have := HH.out.rom.len; omega
    obtain rfl : m = mp := by have := hhp.back.1; have := HH.out.back.1; omega
    have X2 := Lib.hid (X1.out.below bp)
    have B2 := Lib.hid (B1.out.trans (bp.mono B1.out.size))
    have Hp := Lib.hid hhp
    clear hhp nwp bp hcp c0 c1 c2 c3 c4 c5 c6 c7 c8
    go_wp2_with fail
    refine (spec_machValid Ap cp Rp dp Bp gp n k m X fap frp fbp _ Hp.out SF.out).mono ?_
    rintro e w3 ⟨rfl, b3⟩
    have X3 := Lib.hid (X2.out.below b3)
    have B3 := Lib.hid (B2.out.trans (b3.mono B2.out.size))
    clear b3
    have c0 : w3.cell? ⟨w.heap.size, 0, none⟩ = some (.slice A n c) := X3.out.cell 0
    have c1 : w3.cell? ⟨w.heap.size, 1, none⟩ = some (.slice R k d) := X3.out.cell 1
    have c2 : w3.cell? ⟨w.heap.size, 2, none⟩ = some (.int .i64 X.mem.bank) := X3.out.cell 2
    have c3 : w3.cell? ⟨w.heap.size, 3, none⟩ = some (.int .i64 X.a) := X3.out.cell 3
    have c4 : w3.cell? ⟨w.heap.size, 4, none⟩ = some (.int .i64 X.at_) := X3.out.cell 4
    have c5 : w3.cell? ⟨w.heap.size, 5, none⟩ = some (.bool X.carry) := X3.out.cell 5
    have c6 : w3.cell? ⟨w.heap.size, 6, none⟩ = some (.slice B m g) := X3.out.cell 6
    have c7 : w3.cell? ⟨w.heap.size, 7, none⟩ = some (.bool X.stop) := X3.out.cell 7
    have c8 : w3.cell? ⟨w.heap.size, 8, none⟩ = some (.int .i64 X.cyc) := X3.out.cell 8
    go_wp2_with fail
    refine (to_mach A c R d B g n k m X fa fr fb _ (HH.out.below B3.out) SF.out).mono ?_
    rintro e w4 ⟨Aq, nq, cq, Rq, kq, dq, Bq, mq, gq, faq, frq, fbq, rfl, hcq, hhq, nwq, bq⟩
    obtain rfl : n = nq := by have := hhq.ram.1; have := HH.out.ram.1; omega
    obtain rfl : k = kq := by have := hhq.rom.len; have := HH.out.rom.len; omega
    obtain rfl : m = mq := by have := hhq.back.1; have := HH.out.back.1; omega
    have X4 := Lib.hid (X3.out.below bq)
    have B4 := Lib.hid (B3.out.trans (bq.mono B3.out.size))
    have Hq := Lib.hid hhq
    clear hhq nwq bq hcq c0 c1 c2 c3 c4 c5 c6 c7 c8
    have Y4 := Lib.hid (Box.new w4 #[.slice Aq n cq, .slice Rq k dq, .int .i64 X.mem.bank, .int .i64 X.a, .int .i64 X.at_, .bool X.carry, .slice Bq m gq, .bool X.stop, .int .i64 X.cyc] 28)
    have X4a := Lib.hid (X4.out.alloc (.cells #[.slice Aq n cq, .slice Rq k dq, .int .i64 X.mem.bank, .int .i64 X.a, .int .i64 X.at_, .bool X.carry, .slice Bq m gq, .bool X.stop, .int .i64 X.cyc] 28))
    have B4a := Lib.hid (B4.out.alloc B4.out.size (.cells #[.slice Aq n cq, .slice Rq k dq, .int .i64 X.mem.bank, .int .i64 X.a, .int .i64 X.at_, .bool X.carry, .slice Bq m gq, .bool X.stop, .int .i64 X.cyc] 28))
    have Hqa := Lib.hid (Hq.out.below (below1 w4 (.cells #[.slice Aq n cq, .slice Rq k dq, .int .i64 X.mem.bank, .int .i64 X.a, .int .i64 X.at_, .bool X.carry, .slice Bq m gq, .bool X.stop, .int .i64 X.cyc] 28)))
    go_wp2_with fail
    refine (impl_machValid Aq cq Rq dq Bq gq n k m X faq frq fbq _ Hqa.out SF.out).mono ?_
    rintro e w5 ⟨rfl, b5⟩
    have X5 := Lib.hid (X4a.out.below b5)
    have Y5 : Hid (Box w5 w4.heap.size 28 [.slice Aq n cq, .slice Rq k dq, .int .i64 X.mem.bank, .int .i64 X.a, .int .i64 X.at_, .bool X.carry, .slice Bq m gq, .bool X.stop, .int .i64 X.cyc]) := Y4.out.below b5
    have B5 := Lib.hid (B4a.out.trans (b5.mono B4a.out.size))
    have H5 := Lib.hid (Hqa.out.below b5)
    clear b5
    generalize machB X = vb
    go_wp2_with fail
    have c0 : w5.cell? ⟨w.heap.size, 0, none⟩ = some (.slice A n c) := X5.out.cell 0
    have c1 : w5.cell? ⟨w.heap.size, 1, none⟩ = some (.slice R k d) := X5.out.cell 1
    have c2 : w5.cell? ⟨w.heap.size, 2, none⟩ = some (.int .i64 X.mem.bank) := X5.out.cell 2
    have c3 : w5.cell? ⟨w.heap.size, 3, none⟩ = some (.int .i64 X.a) := X5.out.cell 3
    have c4 : w5.cell? ⟨w.heap.size, 4, none⟩ = some (.int .i64 X.at_) := X5.out.cell 4
    have c5 : w5.cell? ⟨w.heap.size, 5, none⟩ = some (.bool X.carry) := X5.out.cell 5
    have c6 : w5.cell? ⟨w.heap.size, 6, none⟩ = some (.slice B m g) := X5.out.cell 6
    have c7 : w5.cell? ⟨w.heap.size, 7, none⟩ = some (.bool X.stop) := X5.out.cell 7
    have c8 : w5.cell? ⟨w.heap.size, 8, none⟩ = some (.int .i64 X.cyc) := X5.out.cell 8
    have d0 : w5.cell? ⟨w4.heap.size, 0, none⟩ = some (.slice Aq n cq) := Y5.out.cell 0
    have d1 : w5.cell? ⟨w4.heap.size, 1, none⟩ = some (.slice Rq k dq) := Y5.out.cell 1
    have d2 : w5.cell? ⟨w4.heap.size, 2, none⟩ = some (.int .i64 X.mem.bank) := Y5.out.cell 2
    have d3 : w5.cell? ⟨w4.heap.size, 3, none⟩ = some (.int .i64 X.a) := Y5.out.cell 3
    have d4 : w5.cell? ⟨w4.heap.size, 4, none⟩ = some (.int .i64 X.at_) := Y5.out.cell 4
    have d5 : w5.cell? ⟨w4.heap.size, 5, none⟩ = some (.bool X.carry) := Y5.out.cell 5
    have d6 : w5.cell? ⟨w4.heap.size, 6, none⟩ = some (.slice Bq m gq) := Y5.out.cell 6
    have d7 : w5.cell? ⟨w4.heap.size, 7, none⟩ = some (.bool X.stop) := Y5.out.cell 7
    have d8 : w5.cell? ⟨w4.heap.size, 8, none⟩ = some (.int .i64 X.cyc) := Y5.out.cell 8
    have X5d : Hid (Box w5.drew w.heap.size 40 [.slice A n c, .slice R k d, .int .i64 X.mem.bank, .int .i64 X.a, .int .i64 X.at_, .bool X.carry, .slice B m g, .bool X.stop, .int .i64 X.cyc]) := X5.out
    have Y5d : Hid (Box w5.drew w4.heap.size 28 [.slice Aq n cq, .slice Rq k dq, .int .i64 X.mem.bank, .int .i64 X.a, .int .i64 X.at_, .bool X.carry, .slice Bq m gq, .bool X.stop, .int .i64 X.cyc]) := Y5.out
    have H5d := Lib.hid (HH.out.below B5.out.drew)
    have H5e : Hid (MHas w5.drew Aq n Rq k Bq m X faq frq fbq) := H5.out.below (Below.refl _ _).drew
    go_region_held3 (fun w' => w'.cell? ⟨w.heap.size, 0, none⟩ = some (.slice A n c) ∧ w'.cell? ⟨w.heap.size, 1, none⟩ = some (.slice R k d) ∧ w'.cell? ⟨w.heap.size, 2, none⟩ = some (.int .i64 X.mem.bank) ∧ w'.cell? ⟨w.heap.size, 3, none⟩ = some (.int .i64 X.a) ∧ w'.cell? ⟨w.heap.size, 4, none⟩ = some (.int .i64 X.at_) ∧ w'.cell? ⟨w.heap.size, 5, none⟩ = some (.bool X.carry) ∧ w'.cell? ⟨w.heap.size, 6, none⟩ = some (.slice B m g) ∧ w'.cell? ⟨w.heap.size, 7, none⟩ = some (.bool X.stop) ∧ w'.cell? ⟨w.heap.size, 8, none⟩ = some (.int .i64 X.cyc) ∧ w'.cell? ⟨w4.heap.size, 0, none⟩ = some (.slice Aq n cq) ∧ w'.cell? ⟨w4.heap.size, 1, none⟩ = some (.slice Rq k dq) ∧ w'.cell? ⟨w4.heap.size, 2, none⟩ = some (.int .i64 X.mem.bank) ∧ w'.cell? ⟨w4.heap.size, 3, none⟩ = some (.int .i64 X.a) ∧ w'.cell? ⟨w4.heap.size, 4, none⟩ = some (.int .i64 X.at_) ∧ w'.cell? ⟨w4.heap.size, 5, none⟩ = some (.bool X.carry) ∧ w'.cell? ⟨w4.heap.size, 6, none⟩ = some (.slice Bq m gq) ∧ w'.cell? ⟨w4.heap.size, 7, none⟩ = some (.bool X.stop) ∧ w'.cell? ⟨w4.heap.size, 8, none⟩ = some (.int .i64 X.cyc))
      (first
        | (with_reducible exact K6.out)
        | (with_reducible exact K7.out)
        | go_keep)
      (first
        | (go_at_call 18; refine (to_mach A c R d B g n k m X fa fr fb _ H5d.out SF.out).mono ?_; rintro e w6 ⟨Ar, nr, cr, Rr, kr, dr, Br, mr, gr, far, frr, fbr, rfl, hcr, hhr, nwr, b6⟩; obtain rfl : n = nr := by { have := hhr.ram.1; have := HH.out.ram.1; omega }; obtain rfl : k = kr := by { have := hhr.rom.len; have := HH.out.rom.len; omega }; obtain rfl : m = mr := by { have := hhr.back.1; have := HH.out.back.1; omega }; have X6 := Lib.hid (X5d.out.below b6); have Y6 := Lib.hid (Y5d.out.below b6); have K6 : Hid (w6.cell? ⟨w.heap.size, 0, none⟩ = some (.slice A n c) ∧ w6.cell? ⟨w.heap.size, 1, none⟩ = some (.slice R k d) ∧ w6.cell? ⟨w.heap.size, 2, none⟩ = some (.int .i64 X.mem.bank) ∧ w6.cell? ⟨w.heap.size, 3, none⟩ = some (.int .i64 X.a) ∧ w6.cell? ⟨w.heap.size, 4, none⟩ = some (.int .i64 X.at_) ∧ w6.cell? ⟨w.heap.size, 5, none⟩ = some (.bool X.carry) ∧ w6.cell? ⟨w.heap.size, 6, none⟩ = some (.slice B m g) ∧ w6.cell? ⟨w.heap.size, 7, none⟩ = some (.bool X.stop) ∧ w6.cell? ⟨w.heap.size, 8, none⟩ = some (.int .i64 X.cyc) ∧ w6.cell? ⟨w4.heap.size, 0, none⟩ = some (.slice Aq n cq) ∧ w6.cell? ⟨w4.heap.size, 1, none⟩ = some (.slice Rq k dq) ∧ w6.cell? ⟨w4.heap.size, 2, none⟩ = some (.int .i64 X.mem.bank) ∧ w6.cell? ⟨w4.heap.size, 3, none⟩ = some (.int .i64 X.a) ∧ w6.cell? ⟨w4.heap.size, 4, none⟩ = some (.int .i64 X.at_) ∧ w6.cell? ⟨w4.heap.size, 5, none⟩ = some (.bool X.carry) ∧ w6.cell? ⟨w4.heap.size, 6, none⟩ = some (.slice Bq m gq) ∧ w6.cell? ⟨w4.heap.size, 7, none⟩ = some (.bool X.stop) ∧ w6.cell? ⟨w4.heap.size, 8, none⟩ = some (.int .i64 X.cyc)) := ⟨X6.out.cell 0, X6.out.cell 1, X6.out.cell 2, X6.out.cell 3, X6.out.cell 4, X6.out.cell 5, X6.out.cell 6, X6.out.cell 7, X6.out.cell 8, Y6.out.cell 0, Y6.out.cell 1, Y6.out.cell 2, Y6.out.cell 3, Y6.out.cell 4, Y6.out.cell 5, Y6.out.cell 6, Y6.out.cell 7, Y6.out.cell 8⟩; have H6 := Lib.hid (H5e.out.below b6); have Hr := Lib.hid hhr; have B6 := Lib.hid (B5.out.drew.trans (b6.mono B5.out.size)); clear hcr hhr nwr b6)
        | (go_at_call 19; refine (eq_mach Aq cq Rq dq Bq gq Ar cr Rr dr Br gr n k m X faq frq fbq far frr fbr _ H6.out Hr.out SF.out).mono ?_; rintro e w7 ⟨rfl, b7⟩; have X7 := Lib.hid (X6.out.below b7); have Y7 := Lib.hid (Y6.out.below b7); have K7 : Hid (w7.cell? ⟨w.heap.size, 0, none⟩ = some (.slice A n c) ∧ w7.cell? ⟨w.heap.size, 1, none⟩ = some (.slice R k d) ∧ w7.cell? ⟨w.heap.size, 2, none⟩ = some (.int .i64 X.mem.bank) ∧ w7.cell? ⟨w.heap.size, 3, none⟩ = some (.int .i64 X.a) ∧ w7.cell? ⟨w.heap.size, 4, none⟩ = some (.int .i64 X.at_) ∧ w7.cell? ⟨w.heap.size, 5, none⟩ = some (.bool X.carry) ∧ w7.cell? ⟨w.heap.size, 6, none⟩ = some (.slice B m g) ∧ w7.cell? ⟨w.heap.size, 7, none⟩ = some (.bool X.stop) ∧ w7.cell? ⟨w.heap.size, 8, none⟩ = some (.int .i64 X.cyc) ∧ w7.cell? ⟨w4.heap.size, 0, none⟩ = some (.slice Aq n cq) ∧ w7.cell? ⟨w4.heap.size, 1, none⟩ = some (.slice Rq k dq) ∧ w7.cell? ⟨w4.heap.size, 2, none⟩ = some (.int .i64 X.mem.bank) ∧ w7.cell? ⟨w4.heap.size, 3, none⟩ = some (.int .i64 X.a) ∧ w7.cell? ⟨w4.heap.size, 4, none⟩ = some (.int .i64 X.at_) ∧ w7.cell? ⟨w4.heap.size, 5, none⟩ = some (.bool X.carry) ∧ w7.cell? ⟨w4.heap.size, 6, none⟩ = some (.slice Bq m gq) ∧ w7.cell? ⟨w4.heap.size, 7, none⟩ = some (.bool X.stop) ∧ w7.cell? ⟨w4.heap.size, 8, none⟩ = some (.int .i64 X.cyc)) := ⟨X7.out.cell 0, X7.out.cell 1, X7.out.cell 2, X7.out.cell 3, X7.out.cell 4, X7.out.cell 5, X7.out.cell 6, X7.out.cell 7, X7.out.cell 8, Y7.out.cell 0, Y7.out.cell 1, Y7.out.cell 2, Y7.out.cell 3, Y7.out.cell 4, Y7.out.cell 5, Y7.out.cell 6, Y7.out.cell 7, Y7.out.cell 8⟩; have B7 := Lib.hid (B6.out.trans (b7.mono B6.out.size)); clear b7))
    go_wp2
    go_ret
    exact ⟨rfl, B7.out⟩
end Go.Proofs.Ytgciaafapbaliaa
