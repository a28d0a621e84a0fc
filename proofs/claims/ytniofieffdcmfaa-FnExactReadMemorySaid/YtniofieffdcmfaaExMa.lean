/- The exact laws of chapter 2, walked: each returns true, and changes no memory that was there. -/
import Derived.Test.YtniofieffdcmfaaOpenM
import Derived.Test.YtniofieffdcmfaaMemV
import Derived.Deep.RegionHeld3
namespace Go.Proofs.Ytniofieffdcmfaa
open Go.ChangeShapes Go.WideShapes Go.ChangeAt Go.RowKit

theorem walk_FnExactMemoryValid (A : Option Addr) (n c : Nat) (R : Option Addr) (k d : Nat) (M : Mem) (w : World) (h : InMem w A n R k M) :
    Calls Try.prog 10 #[.agg #[.slice A n c, .slice R k d, .int .i64 M.bank]] w fun e w' => e = .returned (.bool true) ∧ Below w.heap.size w w' := by
  obtain ⟨hn, ⟨fa, hi⟩, hk, hs, fr, hg⟩ := h
  have HI := Lib.hid hi
  have HG := Lib.hid hg
  have HS := Lib.hid hs
  clear hi hg hs
  go_enter Try.func10, Try.ntmps10
  go_wp2_with fail
  refine (sz_mem A n c R k d M fr 1048576 _ (HG.out.below (below1 w _)) hn hk HS.out (by omega) (by omega)).mono ?_
  rintro e w1 ⟨sv, rfl, b1, hv⟩
  have X1 : Hid (Box w1 w.heap.size 46 [.slice A n c, .slice R k d, .int .i64 M.bank]) := (Box.new w _ _).below b1
  have B1 : Hid (Below w.heap.size w w1) := (below1 w _).trans (b1.mono (by simp))
  have HV := Lib.hid hv
  clear b1 hv
  by_cases v0 : sv < 0
  · go_wp2_with fail
    go_ret
    exact ⟨rfl, B1.out⟩
  · have sz : sv = 1048576 - n - k - sumLen M.rom := by
      rcases HV.out with h | h
      · omega
      · exact h.2
    have sn : n ≤ 1000000 + 48576 := by omega
    have sk : k ≤ 1000000 + 48576 := by omega
    have sl : sumLen M.rom ≤ 1000000 + 48576 := by omega
    have SR := Lib.hid (show ∀ i, (M.rom.getD i []).length ≤ 1000000000 from fun i => by have := sumLen_row M.rom i; omega)
    clear sz HV HS hn hk
    have c0 : w1.cell? ⟨w.heap.size, 0, none⟩ = some (.slice A n c) := X1.out.cell 0
    have c1 : w1.cell? ⟨w.heap.size, 1, none⟩ = some (.slice R k d) := X1.out.cell 1
    have c2 : w1.cell? ⟨w.heap.size, 2, none⟩ = some (.int .i64 M.bank) := X1.out.cell 2
    go_wp2_with fail
    refine (to_mem A n c R k d M fa fr _ (HI.out.below B1.out) (HG.out.below B1.out) (by omega) (by omega) SR.out).mono ?_
    rintro e w2 ⟨Ap, np, cp, Rp, kp, dp, fp, gp, rfl, hcp, hdp, ip, g'p, nwp, bp⟩
    obtain rfl : n = np := by have := ip.1; have := HI.out.1; omega
    obtain rfl : k = kp := by have := g'p.len; have := HG.out.len; omega
    have X2 := Lib.hid (X1.out.below bp)
    have B2 := Lib.hid (B1.out.trans (bp.mono B1.out.size))
    have Ip := Lib.hid ip
    have Gp := Lib.hid g'p
    have Np := Lib.hid nwp
    clear ip g'p nwp c0 c1 c2
    have Bp := Lib.hid bp
    clear bp
    go_wp2_with fail
    refine (spec_valid Ap n cp Rp k dp M fp gp _ Ip.out Gp.out (by omega) (by omega) SR.out).mono ?_
    rintro e w3 ⟨rfl, b3⟩
    have X3 := Lib.hid (X2.out.below b3)
    have B3 := Lib.hid (B2.out.trans (b3.mono B2.out.size))
    clear b3
    have c0 : w3.cell? ⟨w.heap.size, 0, none⟩ = some (.slice A n c) := X3.out.cell 0
    have c1 : w3.cell? ⟨w.heap.size, 1, none⟩ = some (.slice R k d) := X3.out.cell 1
    have c2 : w3.cell? ⟨w.heap.size, 2, none⟩ = some (.int .i64 M.bank) := X3.out.cell 2
    go_wp2_with fail
    refine (to_mem A n c R k d M fa fr _ (HI.out.below B3.out) (HG.out.below B3.out) (by omega) (by omega) SR.out).mono ?_
    rintro e w4 ⟨Aq, nq, cq, Rq, kq, dq, fq, gq, rfl, hcq, hdq, iq, g'q, nwq, bq⟩
    obtain rfl : n = nq := by have := iq.1; have := HI.out.1; omega
    obtain rfl : k = kq := by have := g'q.len; have := HG.out.len; omega
    have X4 := Lib.hid (X3.out.below bq)
    have B4 := Lib.hid (B3.out.trans (bq.mono B3.out.size))
    have Iq := Lib.hid iq
    have Gq := Lib.hid g'q
    have Nq := Lib.hid nwq
    clear iq g'q nwq c0 c1 c2
    have Bq := Lib.hid bq
    clear bq
    have Y4 := Lib.hid (Box.new w4 #[.slice Aq n cq, .slice Rq k dq, .int .i64 M.bank] 26)
    have X4a := Lib.hid (X4.out.alloc (.cells #[.slice Aq n cq, .slice Rq k dq, .int .i64 M.bank] 26))
    have B4a := Lib.hid (B4.out.alloc B4.out.size (.cells #[.slice Aq n cq, .slice Rq k dq, .int .i64 M.bank] 26))
    have Iqa := Lib.hid (Iq.out.below (below1 w4 (.cells #[.slice Aq n cq, .slice Rq k dq, .int .i64 M.bank] 26)))
    have Gqa := Lib.hid (Gq.out.below (below1 w4 (.cells #[.slice Aq n cq, .slice Rq k dq, .int .i64 M.bank] 26)))
    go_wp2_with fail
    refine (impl_valid Aq n cq Rq k dq M fq gq _ Iqa.out Gqa.out (by omega) (by omega) SR.out).mono ?_
    rintro e w5 ⟨rfl, b5⟩
    have X5 := Lib.hid (X4a.out.below b5)
    have Y5 : Hid (Box w5 w4.heap.size 26 [.slice Aq n cq, .slice Rq k dq, .int .i64 M.bank]) := Y4.out.below b5
    have B5 := Lib.hid (B4a.out.trans (b5.mono B4a.out.size))
    have I5 := Lib.hid (Iqa.out.below b5)
    have G5 := Lib.hid (Gqa.out.below b5)
    clear b5
    generalize validB M = vb
    go_wp2_with fail
    have c0 : w5.cell? ⟨w.heap.size, 0, none⟩ = some (.slice A n c) := X5.out.cell 0
    have c1 : w5.cell? ⟨w.heap.size, 1, none⟩ = some (.slice R k d) := X5.out.cell 1
    have c2 : w5.cell? ⟨w.heap.size, 2, none⟩ = some (.int .i64 M.bank) := X5.out.cell 2
    have d0 : w5.cell? ⟨w4.heap.size, 0, none⟩ = some (.slice Aq n cq) := Y5.out.cell 0
    have d1 : w5.cell? ⟨w4.heap.size, 1, none⟩ = some (.slice Rq k dq) := Y5.out.cell 1
    have d2 : w5.cell? ⟨w4.heap.size, 2, none⟩ = some (.int .i64 M.bank) := Y5.out.cell 2
    have X5d : Hid (Box w5.drew w.heap.size 46 [.slice A n c, .slice R k d, .int .i64 M.bank]) := X5.out
    have Y5d : Hid (Box w5.drew w4.heap.size 26 [.slice Aq n cq, .slice Rq k dq, .int .i64 M.bank]) := Y5.out
    have I5d := Lib.hid (HI.out.below B5.out.drew)
    have G5d := Lib.hid (HG.out.below B5.out.drew)
    go_region_held3 (fun w' => w'.cell? ⟨w.heap.size, 0, none⟩ = some (.slice A n c) ∧ w'.cell? ⟨w.heap.size, 1, none⟩ = some (.slice R k d) ∧ w'.cell? ⟨w.heap.size, 2, none⟩ = some (.int .i64 M.bank) ∧ w'.cell? ⟨w4.heap.size, 0, none⟩ = some (.slice Aq n cq) ∧ w'.cell? ⟨w4.heap.size, 1, none⟩ = some (.slice Rq k dq) ∧ w'.cell? ⟨w4.heap.size, 2, none⟩ = some (.int .i64 M.bank))
      (first
        | (with_reducible exact K6.out)
        | (with_reducible exact K7.out)
        | go_keep)
      (first
        | (go_at_call 36; refine (to_mem A n c R k d M fa fr _ I5d.out G5d.out (by omega) (by omega) SR.out).mono ?_; rintro e w6 ⟨Ar, nr, cr, Rr, kr, dr, fr', gr, rfl, hcr, hdr, ir, gr', nwr, b6⟩; obtain rfl : n = nr := by { have := ir.1; have := HI.out.1; omega }; obtain rfl : k = kr := by { have := gr'.len; have := HG.out.len; omega }; have X6 := Lib.hid (X5d.out.below b6); have Y6 := Lib.hid (Y5d.out.below b6); have K6 : Hid (w6.cell? ⟨w.heap.size, 0, none⟩ = some (.slice A n c) ∧ w6.cell? ⟨w.heap.size, 1, none⟩ = some (.slice R k d) ∧ w6.cell? ⟨w.heap.size, 2, none⟩ = some (.int .i64 M.bank) ∧ w6.cell? ⟨w4.heap.size, 0, none⟩ = some (.slice Aq n cq) ∧ w6.cell? ⟨w4.heap.size, 1, none⟩ = some (.slice Rq k dq) ∧ w6.cell? ⟨w4.heap.size, 2, none⟩ = some (.int .i64 M.bank)) := ⟨X6.out.cell 0, X6.out.cell 1, X6.out.cell 2, Y6.out.cell 0, Y6.out.cell 1, Y6.out.cell 2⟩; have I6 := Lib.hid (show Ints w6 Aq n M.ram fq from (show Ints w5.drew Aq n M.ram fq from I5.out).below b6); have G6 := Lib.hid (show Grid w6 Rq k M.rom gq from (show Grid w5.drew Rq k M.rom gq from G5.out).below b6); have Ir := Lib.hid ir; have Gr := Lib.hid gr'; have B6 := Lib.hid (B5.out.drew.trans (b6.mono B5.out.size)); clear ir gr' nwr b6)
        | (go_at_call 37; refine (eq_mem Aq Ar n cq cr Rq Rr k dq dr M fq gq fr' gr _ I6.out Ir.out G6.out Gr.out (by omega) (by omega) SR.out).mono ?_; rintro e w7 ⟨rfl, b7⟩; have X7 := Lib.hid (X6.out.below b7); have Y7 := Lib.hid (Y6.out.below b7); have K7 : Hid (w7.cell? ⟨w.heap.size, 0, none⟩ = some (.slice A n c) ∧ w7.cell? ⟨w.heap.size, 1, none⟩ = some (.slice R k d) ∧ w7.cell? ⟨w.heap.size, 2, none⟩ = some (.int .i64 M.bank) ∧ w7.cell? ⟨w4.heap.size, 0, none⟩ = some (.slice Aq n cq) ∧ w7.cell? ⟨w4.heap.size, 1, none⟩ = some (.slice Rq k dq) ∧ w7.cell? ⟨w4.heap.size, 2, none⟩ = some (.int .i64 M.bank)) := ⟨X7.out.cell 0, X7.out.cell 1, X7.out.cell 2, Y7.out.cell 0, Y7.out.cell 1, Y7.out.cell 2⟩; have B7 := Lib.hid (B6.out.trans (b7.mono B6.out.size)); clear b7))
    go_wp2
    go_ret
    exact ⟨rfl, B7.out⟩
theorem walk_FnExactReadMemory (A : Option Addr) (n c : Nat) (R : Option Addr) (k d : Nat) (M : Mem) (at_ : Int) (w : World) (h : InMem w A n R k M) :
    Calls Try.prog 12 #[.agg #[.slice A n c, .slice R k d, .int .i64 M.bank], .int .i64 at_] w fun e w' => e = .returned (.bool true) ∧ Below w.heap.size w w' := by
  obtain ⟨hn, ⟨fa, hi⟩, hk, hs, fr, hg⟩ := h
  have HI := Lib.hid hi
  have HG := Lib.hid hg
  have HS := Lib.hid hs
  clear hi hg hs
  go_enter Try.func12, Try.ntmps12
  go_wp2_with fail
  refine (sz_mem A n c R k d M fr 1048576 _ (HG.out.below (below1 w _)) hn hk HS.out (by omega) (by omega)).mono ?_
  rintro e w1 ⟨sv, rfl, b1, hv⟩
  have X1 : Hid (Box w1 w.heap.size 46 [.slice A n c, .slice R k d, .int .i64 M.bank]) := (Box.new w _ _).below b1
  have B1 : Hid (Below w.heap.size w w1) := (below1 w _).trans (b1.mono (by simp))
  have HV := Lib.hid hv
  clear b1 hv
  by_cases v0 : sv < 0
  · go_wp2_with fail
    go_ret
    exact ⟨rfl, B1.out⟩
  · have sz : sv = 1048576 - n - k - sumLen M.rom := by
      rcases HV.out with h | h
      · omega
      · exact h.2
    have sn : n ≤ 1000000 + 48576 := by omega
    have sk : k ≤ 1000000 + 48576 := by omega
    have sl : sumLen M.rom ≤ 1000000 + 48576 := by omega
    have SR := Lib.hid (show ∀ i, (M.rom.getD i []).length ≤ 1000000000 from fun i => by have := sumLen_row M.rom i; omega)
    clear sz HV HS hn hk
    have c0 : w1.cell? ⟨w.heap.size, 0, none⟩ = some (.slice A n c) := X1.out.cell 0
    have c1 : w1.cell? ⟨w.heap.size, 1, none⟩ = some (.slice R k d) := X1.out.cell 1
    have c2 : w1.cell? ⟨w.heap.size, 2, none⟩ = some (.int .i64 M.bank) := X1.out.cell 2
    go_wp2_with fail
    refine (to_mem A n c R k d M fa fr _ (HI.out.below B1.out) (HG.out.below B1.out) (by omega) (by omega) SR.out).mono ?_
    rintro e w2 ⟨Ap, np, cp, Rp, kp, dp, fp, gp, rfl, hcp, hdp, ip, g'p, nwp, bp⟩
    obtain rfl : n = np := by have := ip.1; have := HI.out.1; omega
    obtain rfl : k = kp := by have := g'p.len; have := HG.out.len; omega
    have X2 := Lib.hid (X1.out.below bp)
    have B2 := Lib.hid (B1.out.trans (bp.mono B1.out.size))
    have Ip := Lib.hid ip
    have Gp := Lib.hid g'p
    have Np := Lib.hid nwp
    clear ip g'p nwp c0 c1 c2
    have Bp := Lib.hid bp
    clear bp
    go_wp2_with fail
    refine (spec_read Ap n cp Rp k dp M fp gp at_ _ Ip.out Gp.out (by omega) (by omega) SR.out).mono ?_
    rintro e w3 ⟨rfl, b3⟩
    have X3 := Lib.hid (X2.out.below b3)
    have B3 := Lib.hid (B2.out.trans (b3.mono B2.out.size))
    clear b3
    have c0 : w3.cell? ⟨w.heap.size, 0, none⟩ = some (.slice A n c) := X3.out.cell 0
    have c1 : w3.cell? ⟨w.heap.size, 1, none⟩ = some (.slice R k d) := X3.out.cell 1
    have c2 : w3.cell? ⟨w.heap.size, 2, none⟩ = some (.int .i64 M.bank) := X3.out.cell 2
    go_wp2_with fail
    refine (to_mem A n c R k d M fa fr _ (HI.out.below B3.out) (HG.out.below B3.out) (by omega) (by omega) SR.out).mono ?_
    rintro e w4 ⟨Aq, nq, cq, Rq, kq, dq, fq, gq, rfl, hcq, hdq, iq, g'q, nwq, bq⟩
    obtain rfl : n = nq := by have := iq.1; have := HI.out.1; omega
    obtain rfl : k = kq := by have := g'q.len; have := HG.out.len; omega
    have X4 := Lib.hid (X3.out.below bq)
    have B4 := Lib.hid (B3.out.trans (bq.mono B3.out.size))
    have Iq := Lib.hid iq
    have Gq := Lib.hid g'q
    have Nq := Lib.hid nwq
    clear iq g'q nwq c0 c1 c2
    have Bq := Lib.hid bq
    clear bq
    have Y4 := Lib.hid (Box.new w4 #[.slice Aq n cq, .slice Rq k dq, .int .i64 M.bank] 26)
    have X4a := Lib.hid (X4.out.alloc (.cells #[.slice Aq n cq, .slice Rq k dq, .int .i64 M.bank] 26))
    have B4a := Lib.hid (B4.out.alloc B4.out.size (.cells #[.slice Aq n cq, .slice Rq k dq, .int .i64 M.bank] 26))
    have Iqa := Lib.hid (Iq.out.below (below1 w4 (.cells #[.slice Aq n cq, .slice Rq k dq, .int .i64 M.bank] 26)))
    have Gqa := Lib.hid (Gq.out.below (below1 w4 (.cells #[.slice Aq n cq, .slice Rq k dq, .int .i64 M.bank] 26)))
    go_wp2_with fail
    refine (impl_read Aq n cq Rq k dq M fq gq at_ _ Iqa.out Gqa.out (by omega) (by omega) SR.out).mono ?_
    rintro e w5 ⟨rfl, b5⟩
    have X5 := Lib.hid (X4a.out.below b5)
    have Y5 : Hid (Box w5 w4.heap.size 26 [.slice Aq n cq, .slice Rq k dq, .int .i64 M.bank]) := Y4.out.below b5
    have B5 := Lib.hid (B4a.out.trans (b5.mono B4a.out.size))
    have I5 := Lib.hid (Iqa.out.below b5)
    have G5 := Lib.hid (Gqa.out.below b5)
    clear b5
    generalize readM M at_ = rv
    go_wp2_with fail
    have c0 : w5.cell? ⟨w.heap.size, 0, none⟩ = some (.slice A n c) := X5.out.cell 0
    have c1 : w5.cell? ⟨w.heap.size, 1, none⟩ = some (.slice R k d) := X5.out.cell 1
    have c2 : w5.cell? ⟨w.heap.size, 2, none⟩ = some (.int .i64 M.bank) := X5.out.cell 2
    have d0 : w5.cell? ⟨w4.heap.size, 0, none⟩ = some (.slice Aq n cq) := Y5.out.cell 0
    have d1 : w5.cell? ⟨w4.heap.size, 1, none⟩ = some (.slice Rq k dq) := Y5.out.cell 1
    have d2 : w5.cell? ⟨w4.heap.size, 2, none⟩ = some (.int .i64 M.bank) := Y5.out.cell 2
    have X5d : Hid (Box w5.drew w.heap.size 46 [.slice A n c, .slice R k d, .int .i64 M.bank]) := X5.out
    have Y5d : Hid (Box w5.drew w4.heap.size 26 [.slice Aq n cq, .slice Rq k dq, .int .i64 M.bank]) := Y5.out
    have I5d := Lib.hid (HI.out.below B5.out.drew)
    have G5d := Lib.hid (HG.out.below B5.out.drew)
    go_region_held3 (fun w' => w'.cell? ⟨w.heap.size, 0, none⟩ = some (.slice A n c) ∧ w'.cell? ⟨w.heap.size, 1, none⟩ = some (.slice R k d) ∧ w'.cell? ⟨w.heap.size, 2, none⟩ = some (.int .i64 M.bank) ∧ w'.cell? ⟨w4.heap.size, 0, none⟩ = some (.slice Aq n cq) ∧ w'.cell? ⟨w4.heap.size, 1, none⟩ = some (.slice Rq k dq) ∧ w'.cell? ⟨w4.heap.size, 2, none⟩ = some (.int .i64 M.bank))
      (first
        | (with_reducible exact K6.out)
        | (with_reducible exact K7.out)
        | go_keep)
      (first
        | (go_at_call 36; refine (to_mem A n c R k d M fa fr _ I5d.out G5d.out (by omega) (by omega) SR.out).mono ?_; rintro e w6 ⟨Ar, nr, cr, Rr, kr, dr, fr', gr, rfl, hcr, hdr, ir, gr', nwr, b6⟩; obtain rfl : n = nr := by { have := ir.1; have := HI.out.1; omega }; obtain rfl : k = kr := by { have := gr'.len; have := HG.out.len; omega }; have X6 := Lib.hid (X5d.out.below b6); have Y6 := Lib.hid (Y5d.out.below b6); have K6 : Hid (w6.cell? ⟨w.heap.size, 0, none⟩ = some (.slice A n c) ∧ w6.cell? ⟨w.heap.size, 1, none⟩ = some (.slice R k d) ∧ w6.cell? ⟨w.heap.size, 2, none⟩ = some (.int .i64 M.bank) ∧ w6.cell? ⟨w4.heap.size, 0, none⟩ = some (.slice Aq n cq) ∧ w6.cell? ⟨w4.heap.size, 1, none⟩ = some (.slice Rq k dq) ∧ w6.cell? ⟨w4.heap.size, 2, none⟩ = some (.int .i64 M.bank)) := ⟨X6.out.cell 0, X6.out.cell 1, X6.out.cell 2, Y6.out.cell 0, Y6.out.cell 1, Y6.out.cell 2⟩; have I6 := Lib.hid (show Ints w6 Aq n M.ram fq from (show Ints w5.drew Aq n M.ram fq from I5.out).below b6); have G6 := Lib.hid (show Grid w6 Rq k M.rom gq from (show Grid w5.drew Rq k M.rom gq from G5.out).below b6); have Ir := Lib.hid ir; have Gr := Lib.hid gr'; have B6 := Lib.hid (B5.out.drew.trans (b6.mono B5.out.size)); clear ir gr' nwr b6)
        | (go_at_call 37; refine (eq_mem Aq Ar n cq cr Rq Rr k dq dr M fq gq fr' gr _ I6.out Ir.out G6.out Gr.out (by omega) (by omega) SR.out).mono ?_; rintro e w7 ⟨rfl, b7⟩; have X7 := Lib.hid (X6.out.below b7); have Y7 := Lib.hid (Y6.out.below b7); have K7 : Hid (w7.cell? ⟨w.heap.size, 0, none⟩ = some (.slice A n c) ∧ w7.cell? ⟨w.heap.size, 1, none⟩ = some (.slice R k d) ∧ w7.cell? ⟨w.heap.size, 2, none⟩ = some (.int .i64 M.bank) ∧ w7.cell? ⟨w4.heap.size, 0, none⟩ = some (.slice Aq n cq) ∧ w7.cell? ⟨w4.heap.size, 1, none⟩ = some (.slice Rq k dq) ∧ w7.cell? ⟨w4.heap.size, 2, none⟩ = some (.int .i64 M.bank)) := ⟨X7.out.cell 0, X7.out.cell 1, X7.out.cell 2, Y7.out.cell 0, Y7.out.cell 1, Y7.out.cell 2⟩; have B7 := Lib.hid (B6.out.trans (b7.mono B6.out.size)); clear b7))
    go_wp2
    go_ret
    exact ⟨rfl, B7.out⟩
end Go.Proofs.Ytniofieffdcmfaa
