/- The exact laws of chapter 2, walked: each returns true, and changes no memory that was there. -/
import Derived.Test.YtbcibgfjdenheaaBoxed
import Derived.Test.YtbcibgfjdenheaaMemZ
namespace Go.Proofs.Ytbcibgfjdenheaa
open Go.ChangeShapes Go.WideShapes Go.ChangeAt Go.RowKit

set_option maxHeartbeats 2000000 in
theorem walk_FnExactCopyMemory (A : Option Addr) (n c : Nat) (R : Option Addr) (k d : Nat) (M : Mem) (f t m : Int) (w : World) (h : InMem w A n R k M) :
    Calls Try.prog 6 #[.agg #[.slice A n c, .slice R k d, .int .i64 M.bank], .int .i64 f, .int .i64 t, .int .i64 m] w fun e w' => e = .returned (.bool true) ∧ Below w.heap.size w w' := by
  obtain ⟨hn, ⟨fa, hi⟩, hk, hs, fr, hg⟩ := h
  have HI := Lib.hid hi
  have HG := Lib.hid hg
  have HS := Lib.hid hs
  clear hi hg hs
  go_enter Try.func6, Try.ntmps6
  go_wp2_with fail
  refine (sz_mem A n c R k d M fr 1048576 _ (HG.out.below (below1 w _)) hn hk HS.out (by omega) (by omega)).mono ?_
  rintro e w1 ⟨sv, rfl, b1, hv⟩
  have X1 : Hid (Box w1 w.heap.size 39 [.slice A n c, .slice R k d, .int .i64 M.bank]) := (Box.new w _ _).below b1
  have B1 : Hid (Below w.heap.size w w1) := (below1 w _).trans (b1.mono (by simp))
  have HV := Lib.hid hv
  clear b1 hv
  by_cases v0 : sv < 0
  · go_wp2_with fail
    go_ret
    exact ⟨rfl, B1.out⟩
  · have sz : sv = 1048576 - n - k - sumLen M.rom := by
      rcases HV.out with h | h
      · omega
      · exact h.2
    have sn : n ≤ 1000000 + 48576 := by omega
    have sk : k ≤ 1000000 + 48576 := by omega
    have sl : sumLen M.rom ≤ 1000000 + 48576 := by omega
    have SR := Lib.hid (show ∀ i, (M.rom.getD i []).length ≤ 1000000000 from fun i => by have := sumLen_row M.rom i; omega)
    clear sz HV HS hn hk
    have PS := Lib.hid (small_copy M f t m)
    have PR := Lib.hid (show ∀ i, (((copyM M f t m)).rom.getD i []).length ≤ 1000000000 from fun i => by have := PS.out.row i; omega)
    have pl : sumLen ((copyM M f t m)).rom ≤ 1000000 := sum_small PS.out (by omega)
    have c0 : w1.cell? ⟨w.heap.size, 0, none⟩ = some (.slice A n c) := X1.out.cell 0
    have c1 : w1.cell? ⟨w.heap.size, 1, none⟩ = some (.slice R k d) := X1.out.cell 1
    have c2 : w1.cell? ⟨w.heap.size, 2, none⟩ = some (.int .i64 M.bank) := X1.out.cell 2
    go_wp2_with fail
    refine (to_mem A n c R k d M fa fr _ (HI.out.below B1.out) (HG.out.below B1.out) (by omega) (by omega) SR.out).mono ?_
    rintro e w2 ⟨Ap, np, cp, Rp, kp, dp, fp, gp, rfl, hcp, hdp, ip, g'p, nwp, bp⟩
    obtain rfl : n = np := by have := ip.1; have := HI.out.1; omega
    obtain rfl : k = kp := by have := g'p.len; have := HG.out.len; omega
    have X2 := Lib.hid (X1.out.below bp)
    have B2 := Lib.hid (B1.out.trans (bp.mono B1.out.size))
    have z2 : w.heap.size < w2.heap.size := X2.out.lt
    clear c0 c1 c2
    go_wp2_with fail
    refine (spec_copy Ap n cp Rp k dp M fp gp f t m _ ip g'p (by omega) (by omega) SR.out).mono ?_
    rintro e w3 ⟨As, ns, cs, Rs, ks, ds, fs, gs, rfl, hcs, hds, is, g's, nws, b3⟩
    have n256 : ns ≤ 256 := by have := is.1; have := PS.out.ram; omega
    have k256 : ks ≤ 256 := by have := g's.len; have := PS.out.rom; omega
    have X3 := Lib.hid (X2.out.below b3)
    have B3 := Lib.hid (B2.out.trans (b3.mono B2.out.size))
    have z3 : w.heap.size < w3.heap.size := X3.out.lt
    have Ls := Lib.hid is.1
    have Ms := Lib.hid g's.len
    have Zs3 : Hid (MB (w3.alloc (.cells #[.slice As ns cs, .slice Rs ks ds, .int .i64 ((copyM M f t m)).bank] 26)) w3.heap.size As ns cs Rs ks ds (copyM M f t m) fs gs w2.heap.size w3.heap.size) := MB.new_ is g's nws
    have y3 : w2.heap.size ≤ w3.heap.size := b3.size
    have X3a := Lib.hid (X3.out.alloc (.cells #[.slice As ns cs, .slice Rs ks ds, .int .i64 ((copyM M f t m)).bank] 26))
    have B3a := Lib.hid (B3.out.alloc B3.out.size (.cells #[.slice As ns cs, .slice Rs ks ds, .int .i64 ((copyM M f t m)).bank] 26))
    have s3 : Hid ((w3.alloc (.cells #[.slice As ns cs, .slice Rs ks ds, .int .i64 ((copyM M f t m)).bank] 26)).heap.size = w3.heap.size + 1) := by show _ = _; simp
    clear ip g'p nwp bp is g's nws b3
    have c0 : w3.cell? ⟨w.heap.size, 0, none⟩ = some (.slice A n c) := X3.out.cell 0
    have c1 : w3.cell? ⟨w.heap.size, 1, none⟩ = some (.slice R k d) := X3.out.cell 1
    have c2 : w3.cell? ⟨w.heap.size, 2, none⟩ = some (.int .i64 M.bank) := X3.out.cell 2
    go_wp2_with fail
    refine (to_mem A n c R k d M fa fr _ (HI.out.below B3a.out) (HG.out.below B3a.out) (by omega) (by omega) SR.out).mono ?_
    rintro e w4 ⟨Aq, nq, cq, Rq, kq, dq, fq, gq, rfl, hcq, hdq, iq, g'q, nwq, bq⟩
    obtain rfl : n = nq := by have := iq.1; have := HI.out.1; omega
    obtain rfl : k = kq := by have := g'q.len; have := HG.out.len; omega
    have X4 := Lib.hid (X3a.out.below bq)
    have B4 := Lib.hid (B3a.out.trans (bq.mono B3a.out.size))
    have z4 : w.heap.size < w4.heap.size := X4.out.lt
    clear c0 c1 c2
    have Zs4 := Lib.hid ((Zs3.out.below bq).below (below1 w4 (.cells #[.slice Aq n cq, .slice Rq k dq, .int .i64 (M).bank] 26)))
    have Zq4 : Hid (MB (w4.alloc (.cells #[.slice Aq n cq, .slice Rq k dq, .int .i64 (M).bank] 26)) w4.heap.size Aq n cq Rq k dq M fq gq (w3.alloc (.cells #[.slice As ns cs, .slice Rs ks ds, .int .i64 ((copyM M f t m)).bank] 26)).heap.size w4.heap.size) := MB.new_ iq g'q nwq
    have y4 : (w3.alloc (.cells #[.slice As ns cs, .slice Rs ks ds, .int .i64 ((copyM M f t m)).bank] 26)).heap.size ≤ w4.heap.size := bq.size
    have X4a := Lib.hid (X4.out.alloc (.cells #[.slice Aq n cq, .slice Rq k dq, .int .i64 (M).bank] 26))
    have B4a := Lib.hid (B4.out.alloc B4.out.size (.cells #[.slice Aq n cq, .slice Rq k dq, .int .i64 (M).bank] 26))
    have s4 : Hid ((w4.alloc (.cells #[.slice Aq n cq, .slice Rq k dq, .int .i64 (M).bank] 26)).heap.size = w4.heap.size + 1) := by show _ = _; simp
    clear iq g'q nwq bq
    go_wp2_with fail
    refine (impl_copy Aq n cq Rq k dq M fq gq f t m _ Zq4.out.ram Zq4.out.rom (by omega) (by omega) SR.out).mono ?_
    rintro e w5 ⟨Ag, ng, cg, Rg, kg, dg, fg, gg, rfl, hcg, hdg, ig, g'g, nwg, bg⟩
    obtain rfl : ns = ng := by have := ig.1; have := Ls.out; omega
    obtain rfl : ks = kg := by have := g'g.len; have := Ms.out; omega
    have Zs5 := Lib.hid (Zs4.out.below bg)
    have Zq5 := Lib.hid ((Zq4.out.below bg).below (below1 w5 (.cells #[.slice Ag ns cg, .slice Rg ks dg, .int .i64 ((copyM M f t m)).bank] 26)))
    have Zg5 : Hid (MB (w5.alloc (.cells #[.slice Ag ns cg, .slice Rg ks dg, .int .i64 ((copyM M f t m)).bank] 26)) w5.heap.size Ag ns cg Rg ks dg (copyM M f t m) fg gg (w4.alloc (.cells #[.slice Aq n cq, .slice Rq k dq, .int .i64 (M).bank] 26)).heap.size w5.heap.size) := MB.new_ ig g'g nwg
    have y5 : (w4.alloc (.cells #[.slice Aq n cq, .slice Rq k dq, .int .i64 (M).bank] 26)).heap.size ≤ w5.heap.size := bg.size
    have X5 := Lib.hid (X4a.out.below bg)
    have X5a := Lib.hid (X5.out.alloc (.cells #[.slice Ag ns cg, .slice Rg ks dg, .int .i64 ((copyM M f t m)).bank] 26))
    have B5 := Lib.hid (B4a.out.trans (bg.mono B4a.out.size))
    have B5a := Lib.hid (B5.out.alloc B5.out.size (.cells #[.slice Ag ns cg, .slice Rg ks dg, .int .i64 ((copyM M f t m)).bank] 26))
    have Zs5a := Lib.hid (Zs5.out.below (below1 w5 (.cells #[.slice Ag ns cg, .slice Rg ks dg, .int .i64 ((copyM M f t m)).bank] 26)))
    have zz : w3.heap.size < w5.heap.size := Zs5.out.box.lt
    clear ig g'g nwg bg
    have c0 : w5.cell? ⟨w3.heap.size, 0, none⟩ = some (.slice As ns cs) := Zs5.out.box.cell 0
    have c1 : w5.cell? ⟨w3.heap.size, 1, none⟩ = some (.slice Rs ks ds) := Zs5.out.box.cell 1
    have c2 : w5.cell? ⟨w3.heap.size, 2, none⟩ = some (.int .i64 ((copyM M f t m)).bank) := Zs5.out.box.cell 2
    go_wp2_with fail
    refine (eq_mem Ag As ns cg cs Rg Rs ks dg ds (copyM M f t m) fg gg fs gs _ Zg5.out.ram Zs5a.out.ram Zg5.out.rom Zs5a.out.rom (by omega) (by omega) PR.out).mono ?_
    rintro e w6 ⟨rfl, b6⟩
    have X6 := Lib.hid (X5a.out.below b6)
    have B6 := Lib.hid (B5a.out.trans (b6.mono B5a.out.size))
    have Zs6 := Lib.hid (Zs5a.out.below b6)
    have Zq6 := Lib.hid (Zq5.out.below b6)
    have Zg6 := Lib.hid (Zg5.out.below b6)
    clear b6 c0 c1 c2
    have c0 : w6.cell? ⟨w.heap.size, 0, none⟩ = some (.slice A n c) := X6.out.cell 0
    have c1 : w6.cell? ⟨w.heap.size, 1, none⟩ = some (.slice R k d) := X6.out.cell 1
    have c2 : w6.cell? ⟨w.heap.size, 2, none⟩ = some (.int .i64 M.bank) := X6.out.cell 2
    have d0 : w6.cell? ⟨w4.heap.size, 0, none⟩ = some (.slice Aq n cq) := Zq6.out.box.cell 0
    have d1 : w6.cell? ⟨w4.heap.size, 1, none⟩ = some (.slice Rq k dq) := Zq6.out.box.cell 1
    have d2 : w6.cell? ⟨w4.heap.size, 2, none⟩ = some (.int .i64 (M).bank) := Zq6.out.box.cell 2
    go_wp2_with fail
    have dr : Below w6.heap.size w6 w6.drew := (Below.refl _ _).drew
    have X6d := Lib.hid (X6.out.below dr)
    have Zs6d := Lib.hid (Zs6.out.below dr)
    have Zq6d := Lib.hid (Zq6.out.below dr)
    have Zg6d := Lib.hid (Zg6.out.below dr)
    have B6d := Lib.hid B6.out.drew
    clear dr
    go_region_held3 (fun w' => w'.cell? ⟨w.heap.size, 0, none⟩ = some (.slice A n c) ∧ w'.cell? ⟨w.heap.size, 1, none⟩ = some (.slice R k d) ∧ w'.cell? ⟨w.heap.size, 2, none⟩ = some (.int .i64 M.bank) ∧ w'.cell? ⟨w4.heap.size, 0, none⟩ = some (.slice Aq n cq) ∧ w'.cell? ⟨w4.heap.size, 1, none⟩ = some (.slice Rq k dq) ∧ w'.cell? ⟨w4.heap.size, 2, none⟩ = some (.int .i64 M.bank))
      (first
        | (with_reducible exact K7.out)
        | (with_reducible exact K8.out)
        | go_keep)
      (first
        | (go_at_call 19; refine (to_mem A n c R k d M fa fr _ (HI.out.below B6d.out) (HG.out.below B6d.out) (by omega) (by omega) SR.out).mono ?_; rintro e w7 ⟨Ar, nr, cr, Rr, kr, dr, fr', gr, rfl, hcr, hdr, ir, gr', nwr, b7⟩; obtain rfl : n = nr := by { have := ir.1; have := HI.out.1; omega }; obtain rfl : k = kr := by { have := gr'.len; have := HG.out.len; omega }; have X7 := Lib.hid (X6d.out.below b7); have Zs7 := Lib.hid (Zs6d.out.below b7); have Zq7 := Lib.hid (Zq6d.out.below b7); have Zg7 := Lib.hid (Zg6d.out.below b7); have B7 := Lib.hid (B6d.out.trans (b7.mono B6d.out.size)); have K7 : Hid (w7.cell? ⟨w.heap.size, 0, none⟩ = some (.slice A n c) ∧ w7.cell? ⟨w.heap.size, 1, none⟩ = some (.slice R k d) ∧ w7.cell? ⟨w.heap.size, 2, none⟩ = some (.int .i64 M.bank) ∧ w7.cell? ⟨w4.heap.size, 0, none⟩ = some (.slice Aq n cq) ∧ w7.cell? ⟨w4.heap.size, 1, none⟩ = some (.slice Rq k dq) ∧ w7.cell? ⟨w4.heap.size, 2, none⟩ = some (.int .i64 M.bank)) := ⟨X7.out.cell 0, X7.out.cell 1, X7.out.cell 2, Zq7.out.box.cell 0, Zq7.out.box.cell 1, Zq7.out.box.cell 2⟩; have Ir := Lib.hid ir; have Gr := Lib.hid gr'; clear ir gr' nwr b7)
        | (go_at_call 20; refine (eq_mem Aq Ar n cq cr Rq Rr k dq dr M fq gq fr' gr _ Zq7.out.ram Ir.out Zq7.out.rom Gr.out (by omega) (by omega) SR.out).mono ?_; rintro e w8 ⟨rfl, b8⟩; have X8 := Lib.hid (X7.out.below b8); have Zs8 := Lib.hid (Zs7.out.below b8); have Zq8 := Lib.hid (Zq7.out.below b8); have Zg8 := Lib.hid (Zg7.out.below b8); have B8 := Lib.hid (B7.out.trans (b8.mono B7.out.size)); have K8 : Hid (w8.cell? ⟨w.heap.size, 0, none⟩ = some (.slice A n c) ∧ w8.cell? ⟨w.heap.size, 1, none⟩ = some (.slice R k d) ∧ w8.cell? ⟨w.heap.size, 2, none⟩ = some (.int .i64 M.bank) ∧ w8.cell? ⟨w4.heap.size, 0, none⟩ = some (.slice Aq n cq) ∧ w8.cell? ⟨w4.heap.size, 1, none⟩ = some (.slice Rq k dq) ∧ w8.cell? ⟨w4.heap.size, 2, none⟩ = some (.int .i64 M.bank)) := ⟨X8.out.cell 0, X8.out.cell 1, X8.out.cell 2, Zq8.out.box.cell 0, Zq8.out.box.cell 1, Zq8.out.box.cell 2⟩; clear b8))
    clear c0 c1 c2 d0 d1 d2
    have c0 : w8.cell? ⟨w4.heap.size, 0, none⟩ = some (.slice Aq n cq) := Zq8.out.box.cell 0
    have c1 : w8.cell? ⟨w4.heap.size, 1, none⟩ = some (.slice Rq k dq) := Zq8.out.box.cell 1
    have c2 : w8.cell? ⟨w4.heap.size, 2, none⟩ = some (.int .i64 (M).bank) := Zq8.out.box.cell 2
    go_wp2_with fail
    refine (mark_mem Aq n cq Rq k dq M.bank 1 M fq gq _ _ Zq8.out.ram Zq8.out.rom Zq8.out.new (by omega) (by omega) (by omega) (by omega) (by omega)).mono ?_
    rintro e w9 ⟨rs9, rfl, o9, i9, g9, m9, l9⟩
    have Zs9 := Lib.hid (Zs8.out.only o9 Zq8.out.span (.inl (by have := s3.out; omega)) y3)
    have Zg9 := Lib.hid (Zg8.out.only o9 Zq8.out.span (.inr (by have := s4.out; omega)) y5)
    have X9 := Lib.hid (X8.out.only o9 (fun hx => by have := Zq8.out.span _ hx; have := s3.out; omega))
    have B9 := Lib.hid (B8.out.trans (o9.below (fun b hb => by have := Zq8.out.span _ hb; have := s3.out; omega) B8.out.size))
    clear o9 i9 g9 m9 l9 c0 c1 c2
    obtain ⟨K9, hK9⟩ : ∃ K9 : Int, K9 = 1 + (n : Int) + (sumLen M.rom : Int) := ⟨_, rfl⟩
    rw [← hK9]
    have hk9 : decide (K9 < 0) = false := by simp; omega
    clear hK9
    have c0 : w9.cell? ⟨w3.heap.size, 0, none⟩ = some (.slice As ns cs) := Zs9.out.box.cell 0
    have c1 : w9.cell? ⟨w3.heap.size, 1, none⟩ = some (.slice Rs ks ds) := Zs9.out.box.cell 1
    have c2 : w9.cell? ⟨w3.heap.size, 2, none⟩ = some (.int .i64 ((copyM M f t m)).bank) := Zs9.out.box.cell 2
    have d0 : w9.cell? ⟨w5.heap.size, 0, none⟩ = some (.slice Ag ns cg) := Zg9.out.box.cell 0
    have d1 : w9.cell? ⟨w5.heap.size, 1, none⟩ = some (.slice Rg ks dg) := Zg9.out.box.cell 1
    have d2 : w9.cell? ⟨w5.heap.size, 2, none⟩ = some (.int .i64 ((copyM M f t m)).bank) := Zg9.out.box.cell 2
    go_wp2_with fail
    refine (eq_mem Ag As ns cg cs Rg Rs ks dg ds (copyM M f t m) fg gg fs gs _ Zg9.out.ram Zs9.out.ram Zg9.out.rom Zs9.out.rom (by omega) (by omega) PR.out).mono ?_
    rintro e w10 ⟨rfl, b10⟩
    have X10 := Lib.hid (X9.out.below b10)
    have B10 := Lib.hid (B9.out.trans (b10.mono B9.out.size))
    have Zs10 := Lib.hid (Zs9.out.below b10)
    have Zg10 := Lib.hid (Zg9.out.below b10)
    clear b10 c0 c1 c2 d0 d1 d2 hk9
    have c0 : w10.cell? ⟨w5.heap.size, 0, none⟩ = some (.slice Ag ns cg) := Zg10.out.box.cell 0
    have c1 : w10.cell? ⟨w5.heap.size, 1, none⟩ = some (.slice Rg ks dg) := Zg10.out.box.cell 1
    have c2 : w10.cell? ⟨w5.heap.size, 2, none⟩ = some (.int .i64 ((copyM M f t m)).bank) := Zg10.out.box.cell 2
    go_wp2_with fail
    refine (mark_mem Ag ns cg Rg ks dg ((copyM M f t m)).bank 1 (copyM M f t m) fg gg _ _ Zg10.out.ram Zg10.out.rom Zg10.out.new (by omega) (by omega) (by omega) (by omega) (by omega)).mono ?_
    rintro e w11 ⟨rs11, rfl, o11, i11, g11, m11, l11⟩
    have Zs11 := Lib.hid (Zs10.out.only o11 Zg10.out.span (.inl (by have := s3.out; have := s4.out; omega)) y3)
    have X11 := Lib.hid (X10.out.only o11 (fun hx => by have := Zg10.out.span _ hx; have := s3.out; have := s4.out; omega))
    have B11 := Lib.hid (B10.out.trans (o11.below (fun b hb => by have := Zg10.out.span _ hb; have := s3.out; have := s4.out; omega) B10.out.size))
    have Y11 := Lib.hid (Zg10.out.box.only o11 (fun hx => by have := Zg10.out.span _ hx; omega))
    have I11 := Lib.hid i11
    have G11 := Lib.hid g11
    have M11 := Lib.hid m11
    have E11 := Lib.hid (sumLen_same l11)
    have L11 : sumLen rs11 ≤ 1000000 := by have := E11.out; omega
    clear o11 i11 g11 m11 l11 c0 c1 c2
    have c0 : w11.cell? ⟨w5.heap.size, 0, none⟩ = some (.slice Ag ns cg) := Y11.out.cell 0
    have c1 : w11.cell? ⟨w5.heap.size, 1, none⟩ = some (.slice Rg ks dg) := Y11.out.cell 1
    have c2 : w11.cell? ⟨w5.heap.size, 2, none⟩ = some (.int .i64 ((copyM M f t m)).bank) := Y11.out.cell 2
    go_wp2_with fail
    refine (held_mem Ag ns cg Rg ks dg ((copyM M f t m)).bank 1 rs11 fg gg _ I11.out G11.out M11.out (by omega) (by omega) (by omega) (by omega) (by omega)).mono ?_
    rintro e w12 ⟨rfl, b12⟩
    rw [E11.out]
    have X12 := Lib.hid (X11.out.below b12)
    have B12 := Lib.hid (B11.out.trans (b12.mono B11.out.size))
    have Y12 := Lib.hid (Y11.out.below b12)
    have Zs12 := Lib.hid (Zs11.out.below b12)
    have I12 := Lib.hid (I11.out.below b12)
    have G12 := Lib.hid (G11.out.below b12)
    clear b12 c0 c1 c2
    obtain ⟨KK, hKK⟩ : ∃ KK : Int, KK = 1 + (ns : Int) + (sumLen ((copyM M f t m)).rom : Int) := ⟨_, rfl⟩
    have HKK := Lib.hid hKK
    rw [← hKK]
    have k0 : 0 ≤ KK := by omega
    have k1 : decide (KK < 0) = false := by simp; omega
    clear hKK
    have c0 : w12.cell? ⟨w.heap.size, 0, none⟩ = some (.slice A n c) := X12.out.cell 0
    have c1 : w12.cell? ⟨w.heap.size, 1, none⟩ = some (.slice R k d) := X12.out.cell 1
    have c2 : w12.cell? ⟨w.heap.size, 2, none⟩ = some (.int .i64 M.bank) := X12.out.cell 2
    go_wp2_with fail
    refine (to_mem A n c R k d M fa fr _ (HI.out.below B12.out) (HG.out.below B12.out) (by omega) (by omega) SR.out).mono ?_
    rintro e w13 ⟨At, nt, ct, Rt, kt, dt, ft, gt, rfl, hct, hdt, it, g't, nwt, bt⟩
    obtain rfl : n = nt := by have := it.1; have := HI.out.1; omega
    obtain rfl : k = kt := by have := g't.len; have := HG.out.len; omega
    have X13 := Lib.hid (X12.out.below bt)
    have B13 := Lib.hid (B12.out.trans (bt.mono B12.out.size))
    have z13 : w.heap.size < w13.heap.size := X13.out.lt
    clear c0 c1 c2
    have Y13 := Lib.hid (Y12.out.below bt)
    have Zs13 := Lib.hid (Zs12.out.below bt)
    have I13 := Lib.hid (I12.out.below bt)
    have G13 := Lib.hid (G12.out.below bt)
    have It := Lib.hid it
    have Gt := Lib.hid g't
    clear it g't nwt bt
    go_wp2_with fail
    refine (impl_copy At n ct Rt k dt M ft gt f t m _ It.out Gt.out (by omega) (by omega) SR.out).mono ?_
    rintro e w14 ⟨Ah, nh, ch, Rh, kh, dh, fh, gh, rfl, hch, hdh, ih, g'h, nwh, bh⟩
    obtain rfl : ns = nh := by have := ih.1; have := Ls.out; omega
    obtain rfl : ks = kh := by have := g'h.len; have := Ms.out; omega
    have Y14 := Lib.hid ((Y13.out.below bh).alloc (.cells #[.slice Ah ns ch, .slice Rh ks dh, .int .i64 ((copyM M f t m)).bank] 26))
    have Zs14 := Lib.hid (Zs13.out.below bh)
    have Zs14a := Lib.hid (Zs14.out.below (below1 w14 (.cells #[.slice Ah ns ch, .slice Rh ks dh, .int .i64 ((copyM M f t m)).bank] 26)))
    have I14 := Lib.hid ((I13.out.below bh).below (below1 w14 (.cells #[.slice Ah ns ch, .slice Rh ks dh, .int .i64 ((copyM M f t m)).bank] 26)))
    have G14 := Lib.hid ((G13.out.below bh).below (below1 w14 (.cells #[.slice Ah ns ch, .slice Rh ks dh, .int .i64 ((copyM M f t m)).bank] 26)))
    have Ih := Lib.hid (ih.below (below1 w14 (.cells #[.slice Ah ns ch, .slice Rh ks dh, .int .i64 ((copyM M f t m)).bank] 26)))
    have Gh := Lib.hid (g'h.below (below1 w14 (.cells #[.slice Ah ns ch, .slice Rh ks dh, .int .i64 ((copyM M f t m)).bank] 26)))
    have B14 := Lib.hid (B13.out.trans (bh.mono B13.out.size))
    have B14a := Lib.hid (B14.out.alloc B14.out.size (.cells #[.slice Ah ns ch, .slice Rh ks dh, .int .i64 ((copyM M f t m)).bank] 26))
    have zh : w3.heap.size < w14.heap.size := Zs14.out.box.lt
    clear ih g'h nwh bh
    have c0 : w14.cell? ⟨w3.heap.size, 0, none⟩ = some (.slice As ns cs) := Zs14.out.box.cell 0
    have c1 : w14.cell? ⟨w3.heap.size, 1, none⟩ = some (.slice Rs ks ds) := Zs14.out.box.cell 1
    have c2 : w14.cell? ⟨w3.heap.size, 2, none⟩ = some (.int .i64 ((copyM M f t m)).bank) := Zs14.out.box.cell 2
    go_wp2_with fail
    refine (eq_mem Ah As ns ch cs Rh Rs ks dh ds (copyM M f t m) fh gh fs gs _ Ih.out Zs14a.out.ram Gh.out Zs14a.out.rom (by omega) (by omega) PR.out).mono ?_
    rintro e w15 ⟨rfl, b15⟩
    have B15 := Lib.hid (B14a.out.trans (b15.mono B14a.out.size))
    have Y15 := Lib.hid (Y14.out.below b15)
    have I15 := Lib.hid (I14.out.below b15)
    have G15 := Lib.hid (G14.out.below b15)
    clear b15 c0 c1 c2
    have c0 : w15.cell? ⟨w5.heap.size, 0, none⟩ = some (.slice Ag ns cg) := Y15.out.cell 0
    have c1 : w15.cell? ⟨w5.heap.size, 1, none⟩ = some (.slice Rg ks dg) := Y15.out.cell 1
    have c2 : w15.cell? ⟨w5.heap.size, 2, none⟩ = some (.int .i64 ((copyM M f t m)).bank) := Y15.out.cell 2
    go_wp2_with fail
    refine (held_mem Ag ns cg Rg ks dg ((copyM M f t m)).bank 1 rs11 fg gg _ I15.out G15.out M11.out (by omega) (by omega) (by omega) (by omega) (by omega)).mono ?_
    rintro e w16 ⟨rfl, b16⟩
    rw [E11.out, ← HKK.out]
    have B16 := Lib.hid (B15.out.trans (b16.mono B15.out.size))
    clear b16 c0 c1 c2
    go_wp2_with fail
    go_ret
    exact ⟨rfl, B16.out⟩
end Go.Proofs.Ytbcibgfjdenheaa
