/- The exact law of NewMachine, walked: it returns true, and changes no memory that was there. -/
import Derived.Test.YtgciaafapbaliaaMchV
import Derived.Test.YtgciaafapbaliaaMchN
import Derived.Deep.RegionHeld3
namespace Go.Proofs.Ytgciaafapbaliaa
open Go.ChangeShapes Go.WideShapes Go.ChangeAt Go.RowKit

set_option maxHeartbeats 4000000 in
theorem walk_FnExactNewMachine (R : Option Addr) (k d : Nat) (rs : List (List Int)) (w : World) (h : InRows w R k rs) :
    Calls Try.prog 6 #[.slice R k d] w fun e w' => e = .returned (.bool true) ∧ Below w.heap.size w w' := by
  obtain ⟨P, hP⟩ : ∃ P : Mach, P = newX rs := ⟨_, rfl⟩
  have HP := Lib.hid hP
  have PS : Hid (Fits P 256) := by rw [hP]; exact Lib.hid (newX_fits rs)
  clear hP
  obtain ⟨hk, hs, fr, hg⟩ := h
  have HG := Lib.hid hg
  have HS := Lib.hid hs
  clear hg hs
  go_enter Try.func6, Try.ntmps6
  go_wp2_with fail
  refine (sz_rows R k d 1048576 rs fr _ HG.out hk HS.out (by omega) (by omega)).mono ?_
  rintro e w1 ⟨sv, rfl, rfl, hv⟩
  have HV := Lib.hid hv
  clear hv
  by_cases v0 : sv < 0
  · go_wp2_with fail
    go_ret
    exact ⟨rfl, Below.refl _ _⟩
  · have sz : sv = 1048576 - k - sumLen rs := by
      rcases HV.out with h | h
      · omega
      · exact h.2
    have sk : k ≤ 1000000 + 48576 := by omega
    have sl : sumLen rs ≤ 1000000 + 48576 := by omega
    have SR := Lib.hid (show ∀ i, (rs.getD i []).length ≤ 1000000000 from fun i => by have := sumLen_row rs i; omega)
    have B1 : Hid (Below w.heap.size w w) := Below.refl _ _
    clear sz HV HS hk
    have pl : sumLen P.mem.rom ≤ 1000000 := fits_sum PS.out
    have PF := Lib.hid (fits_mono PS.out (show 256 ≤ 1000000000 by omega))
    go_wp2_with fail
    refine (to_rows R k d rs fr _ (HG.out.below B1.out) (by omega) SR.out).mono ?_
    rintro e w2 ⟨Rp, dp, fp, rfl, hdp, gp', nwp, bp⟩
    have B2 := Lib.hid (B1.out.trans (bp.mono B1.out.size))
    have Gp := Lib.hid gp'
    clear gp' nwp bp hdp
    go_wp2_with fail
    refine (spec_newMach Rp k dp rs fp _ Gp.out (by omega) SR.out).mono ?_
    rw [← HP.out]
    rintro e w3 ⟨As, ns, cs, Rs, ks, ds, Bs, ms, gs, fas, frs, fbs, rfl, hcs, hhs, nws, bs⟩
    have n256 : ns ≤ 256 := PS.out.n hhs
    have k256 : ks ≤ 256 := PS.out.k hhs
    have m256 : ms ≤ 256 := PS.out.m hhs
    have B3 := Lib.hid (B2.out.trans (bs.mono B2.out.size))
    have Ls := Lib.hid hhs.ram.1
    have Ms := Lib.hid hhs.rom.len
    have Os := Lib.hid hhs.back.1
    have z3 : w.heap.size ≤ w3.heap.size := B3.out.size
    have Zs3 := Lib.hid (XB.new_ (w := w2) (c := cs) (d := ds) (g := gs) hhs nws)
    have y3 : w2.heap.size ≤ w3.heap.size := bs.size
    have B3a := Lib.hid (B3.out.alloc B3.out.size (.cells #[.slice As ns cs, .slice Rs ks ds, .int .i64 P.mem.bank, .int .i64 P.a, .int .i64 P.at_, .bool P.carry, .slice Bs ms gs, .bool P.stop, .int .i64 P.cyc] 28))
    have s3 : Hid ((w3.alloc (.cells #[.slice As ns cs, .slice Rs ks ds, .int .i64 P.mem.bank, .int .i64 P.a, .int .i64 P.at_, .bool P.carry, .slice Bs ms gs, .bool P.stop, .int .i64 P.cyc] 28)).heap.size = w3.heap.size + 1) := by show _ = _; simp
    clear hcs hhs nws bs
    go_wp2_with fail
    refine (to_rows R k d rs fr _ (HG.out.below B3a.out) (by omega) SR.out).mono ?_
    rintro e w4 ⟨Rq, dq, fq, rfl, hdq, gq', nwq, bq⟩
    have B4 := Lib.hid (B3a.out.trans (bq.mono B3a.out.size))
    have Zs4 := Lib.hid (Zs3.out.below bq)
    have Gq4 := Lib.hid gq'
    have Nq4 := Lib.hid nwq
    have SQ : Hid (∀ b ∈ fq, w3.heap.size + 1 ≤ b ∧ b < w4.heap.size) := fun b hb => by have := nwq.lt b hb; have := s3.out; omega
    have y4 : (w3.alloc (.cells #[.slice As ns cs, .slice Rs ks ds, .int .i64 P.mem.bank, .int .i64 P.a, .int .i64 P.at_, .bool P.carry, .slice Bs ms gs, .bool P.stop, .int .i64 P.cyc] 28)).heap.size ≤ w4.heap.size := bq.size
    clear gq' nwq bq hdq
    go_wp2_with fail
    refine (impl_newMach Rq k dq rs fq _ Gq4.out (by omega) SR.out).mono ?_
    rw [← HP.out]
    rintro e w5 ⟨Ag, ng, cg, Rg, kg, dg, Bg, mg, gg, fag, frg, fbg, rfl, hcg, hhg, nwg, bg⟩
    obtain rfl : ns = ng := by have := hhg.ram.1; have := Ls.out; omega
    obtain rfl : ks = kg := by have := hhg.rom.len; have := Ms.out; omega
    obtain rfl : ms = mg := by have := hhg.back.1; have := Os.out; omega
    have Zs5 := Lib.hid (Zs4.out.below bg)
    have Gq5 := Lib.hid ((Gq4.out.below bg).below (below1 w5 (.cells #[.slice Ag ns cg, .slice Rg ks dg, .int .i64 P.mem.bank, .int .i64 P.a, .int .i64 P.at_, .bool P.carry, .slice Bg ms gg, .bool P.stop, .int .i64 P.cyc] 28)))
    have Nq5 := Lib.hid ((Nq4.out.keep (.of_below bg)).keep (.of_below (below1 w5 (.cells #[.slice Ag ns cg, .slice Rg ks dg, .int .i64 P.mem.bank, .int .i64 P.a, .int .i64 P.at_, .bool P.carry, .slice Bg ms gg, .bool P.stop, .int .i64 P.cyc] 28))))
    have Zg5 := Lib.hid (XB.new_ (w := w4) (c := cg) (d := dg) (g := gg) hhg nwg)
    have y5 : w4.heap.size ≤ w5.heap.size := bg.size
    have B5 := Lib.hid (B4.out.trans (bg.mono B4.out.size))
    have B5a := Lib.hid (B5.out.alloc B5.out.size (.cells #[.slice Ag ns cg, .slice Rg ks dg, .int .i64 P.mem.bank, .int .i64 P.a, .int .i64 P.at_, .bool P.carry, .slice Bg ms gg, .bool P.stop, .int .i64 P.cyc] 28))
    have Zs5a := Lib.hid (Zs5.out.below (below1 w5 (.cells #[.slice Ag ns cg, .slice Rg ks dg, .int .i64 P.mem.bank, .int .i64 P.a, .int .i64 P.at_, .bool P.carry, .slice Bg ms gg, .bool P.stop, .int .i64 P.cyc] 28)))
    have zz : w3.heap.size < w5.heap.size := Zs5.out.box.lt
    clear hcg hhg nwg bg
    have c0 : w5.cell? ⟨w3.heap.size, 0, none⟩ = some (.slice As ns cs) := Zs5.out.box.cell 0
    have c1 : w5.cell? ⟨w3.heap.size, 1, none⟩ = some (.slice Rs ks ds) := Zs5.out.box.cell 1
    have c2 : w5.cell? ⟨w3.heap.size, 2, none⟩ = some (.int .i64 P.mem.bank) := Zs5.out.box.cell 2
    have c3 : w5.cell? ⟨w3.heap.size, 3, none⟩ = some (.int .i64 P.a) := Zs5.out.box.cell 3
    have c4 : w5.cell? ⟨w3.heap.size, 4, none⟩ = some (.int .i64 P.at_) := Zs5.out.box.cell 4
    have c5 : w5.cell? ⟨w3.heap.size, 5, none⟩ = some (.bool P.carry) := Zs5.out.box.cell 5
    have c6 : w5.cell? ⟨w3.heap.size, 6, none⟩ = some (.slice Bs ms gs) := Zs5.out.box.cell 6
    have c7 : w5.cell? ⟨w3.heap.size, 7, none⟩ = some (.bool P.stop) := Zs5.out.box.cell 7
    have c8 : w5.cell? ⟨w3.heap.size, 8, none⟩ = some (.int .i64 P.cyc) := Zs5.out.box.cell 8
    go_wp2_with fail
    refine (eq_mach Ag cg Rg dg Bg gg As cs Rs ds Bs gs ns ks ms P fag frg fbg fas frs fbs _ Zg5.out.has Zs5a.out.has PF.out).mono ?_
    rintro e w6 ⟨rfl, b6⟩
    have B6 := Lib.hid (B5a.out.trans (b6.mono B5a.out.size))
    have Zs6 := Lib.hid (Zs5a.out.below b6)
    have Zg6 := Lib.hid (Zg5.out.below b6)
    have Gq6 := Lib.hid (Gq5.out.below b6)
    have Nq6 := Lib.hid (Nq5.out.keep (.of_below b6))
    clear b6 c0 c1 c2 c3 c4 c5 c6 c7 c8
    go_wp2_with fail
    refine (to_rows R k d rs fr _ (HG.out.below B6.out) (by omega) SR.out).mono ?_
    rintro e w7 ⟨Rr, dr, frw, rfl, hdr, gr', nwr, br⟩
    have B7 := Lib.hid (B6.out.trans (br.mono B6.out.size))
    have Zs7 := Lib.hid (Zs6.out.below br)
    have Gq7 := Lib.hid (Gq6.out.below br)
    have Nq7 := Lib.hid (Nq6.out.keep (.of_below br))
    have Zg7 := Lib.hid (Zg6.out.below br)
    have Gr7 := Lib.hid gr'
    clear gr' nwr br hdr
    go_wp2_with fail
    refine (eq_rows Rq Rr k dq dr rs fq frw _ Gq7.out Gr7.out (by omega) SR.out).mono ?_
    rintro e w8 ⟨rfl, q8⟩
    have b8 := drawn_below q8
    have B8 := Lib.hid (B7.out.trans (b8.mono B7.out.size))
    have Zs8 := Lib.hid (Zs7.out.below b8)
    have Gq8 := Lib.hid (Gq7.out.below b8)
    have Nq8 := Lib.hid (Nq7.out.keep (.of_below b8))
    have Zg8 := Lib.hid (Zg7.out.below b8)
    clear b8 q8
    go_wp2_with fail
    refine (mark_rows Rq k dq 1 rs fq _ Gq8.out Nq8.out.once Nq8.out.free (by omega) (by omega) (by omega) (by omega)).mono ?_
    rintro e w9 ⟨rs9, rfl, o9, g9, m9, l9, f9⟩
    have Zs9 := Lib.hid (Zs8.out.only o9 SQ.out (.inl (by omega)) y3)
    have Zg9 := Lib.hid (Zg8.out.only o9 SQ.out (.inr (by omega)) y5)
    have B9 := Lib.hid (B8.out.trans (o9.below (fun b hb => by have := SQ.out _ hb; omega) B8.out.size))
    clear o9 g9 m9 l9 f9
    obtain ⟨K9, hK9⟩ : ∃ K9 : Int, K9 = 1 + (sumLen rs : Int) := ⟨_, rfl⟩
    rw [← hK9]
    have hk9 : decide (K9 < 0) = false := by simp; omega
    clear hK9
    have c0 : w9.cell? ⟨w3.heap.size, 0, none⟩ = some (.slice As ns cs) := Zs9.out.box.cell 0
    have c1 : w9.cell? ⟨w3.heap.size, 1, none⟩ = some (.slice Rs ks ds) := Zs9.out.box.cell 1
    have c2 : w9.cell? ⟨w3.heap.size, 2, none⟩ = some (.int .i64 P.mem.bank) := Zs9.out.box.cell 2
    have c3 : w9.cell? ⟨w3.heap.size, 3, none⟩ = some (.int .i64 P.a) := Zs9.out.box.cell 3
    have c4 : w9.cell? ⟨w3.heap.size, 4, none⟩ = some (.int .i64 P.at_) := Zs9.out.box.cell 4
    have c5 : w9.cell? ⟨w3.heap.size, 5, none⟩ = some (.bool P.carry) := Zs9.out.box.cell 5
    have c6 : w9.cell? ⟨w3.heap.size, 6, none⟩ = some (.slice Bs ms gs) := Zs9.out.box.cell 6
    have c7 : w9.cell? ⟨w3.heap.size, 7, none⟩ = some (.bool P.stop) := Zs9.out.box.cell 7
    have c8 : w9.cell? ⟨w3.heap.size, 8, none⟩ = some (.int .i64 P.cyc) := Zs9.out.box.cell 8
    have d0 : w9.cell? ⟨w5.heap.size, 0, none⟩ = some (.slice Ag ns cg) := Zg9.out.box.cell 0
    have d1 : w9.cell? ⟨w5.heap.size, 1, none⟩ = some (.slice Rg ks dg) := Zg9.out.box.cell 1
    have d2 : w9.cell? ⟨w5.heap.size, 2, none⟩ = some (.int .i64 P.mem.bank) := Zg9.out.box.cell 2
    have d3 : w9.cell? ⟨w5.heap.size, 3, none⟩ = some (.int .i64 P.a) := Zg9.out.box.cell 3
    have d4 : w9.cell? ⟨w5.heap.size, 4, none⟩ = some (.int .i64 P.at_) := Zg9.out.box.cell 4
    have d5 : w9.cell? ⟨w5.heap.size, 5, none⟩ = some (.bool P.carry) := Zg9.out.box.cell 5
    have d6 : w9.cell? ⟨w5.heap.size, 6, none⟩ = some (.slice Bg ms gg) := Zg9.out.box.cell 6
    have d7 : w9.cell? ⟨w5.heap.size, 7, none⟩ = some (.bool P.stop) := Zg9.out.box.cell 7
    have d8 : w9.cell? ⟨w5.heap.size, 8, none⟩ = some (.int .i64 P.cyc) := Zg9.out.box.cell 8
    go_wp2_with fail
    refine (eq_mach Ag cg Rg dg Bg gg As cs Rs ds Bs gs ns ks ms P fag frg fbg fas frs fbs _ Zg9.out.has Zs9.out.has PF.out).mono ?_
    rintro e w10 ⟨rfl, b10⟩
    have B10 := Lib.hid (B9.out.trans (b10.mono B9.out.size))
    have Zs10 := Lib.hid (Zs9.out.below b10)
    have Zg10 := Lib.hid (Zg9.out.below b10)
    clear b10 c0 c1 c2 c3 c4 c5 c6 c7 c8 d0 d1 d2 d3 d4 d5 d6 d7 d8 hk9
    have c0 : w10.cell? ⟨w5.heap.size, 0, none⟩ = some (.slice Ag ns cg) := Zg10.out.box.cell 0
    have c1 : w10.cell? ⟨w5.heap.size, 1, none⟩ = some (.slice Rg ks dg) := Zg10.out.box.cell 1
    have c2 : w10.cell? ⟨w5.heap.size, 2, none⟩ = some (.int .i64 P.mem.bank) := Zg10.out.box.cell 2
    have c3 : w10.cell? ⟨w5.heap.size, 3, none⟩ = some (.int .i64 P.a) := Zg10.out.box.cell 3
    have c4 : w10.cell? ⟨w5.heap.size, 4, none⟩ = some (.int .i64 P.at_) := Zg10.out.box.cell 4
    have c5 : w10.cell? ⟨w5.heap.size, 5, none⟩ = some (.bool P.carry) := Zg10.out.box.cell 5
    have c6 : w10.cell? ⟨w5.heap.size, 6, none⟩ = some (.slice Bg ms gg) := Zg10.out.box.cell 6
    have c7 : w10.cell? ⟨w5.heap.size, 7, none⟩ = some (.bool P.stop) := Zg10.out.box.cell 7
    have c8 : w10.cell? ⟨w5.heap.size, 8, none⟩ = some (.int .i64 P.cyc) := Zg10.out.box.cell 8
    go_wp2_with fail
    refine (mark_mach Ag cg Rg dg Bg gg ns ks ms 1 P fag frg fbg _ _ Zg10.out.has Zg10.out.new PF.out (by omega) (by omega) (by omega)).mono ?_
    rintro e w11 ⟨rs11, rfl, o11, i11, g11, m11, l11, j11⟩
    have Zs11 := Lib.hid (Zs10.out.only o11 Zg10.out.span (.inl (by have := s3.out; omega)) y3)
    have B11 := Lib.hid (B10.out.trans (o11.below (fun b hb => by have := Zg10.out.span _ hb; have := s3.out; omega) B10.out.size))
    have Y11 := Lib.hid (Zg10.out.box.only o11 (fun hx => by have := Zg10.out.span _ hx; omega))
    have I11 := Lib.hid i11
    have G11 := Lib.hid g11
    have M11 := Lib.hid m11
    have E11 := Lib.hid (sumLen_same l11)
    have J11 : Hid (Ints w11 Bg ms (upFrom (1 + ns + sumLen rs11) ms) fbg) := by rw [E11.out]; exact Lib.hid j11
    have L11 : sumLen rs11 ≤ 1000000 := by have := E11.out; omega
    clear o11 i11 g11 m11 l11 j11 c0 c1 c2 c3 c4 c5 c6 c7 c8
    have c0 : w11.cell? ⟨w5.heap.size, 0, none⟩ = some (.slice Ag ns cg) := Y11.out.cell 0
    have c1 : w11.cell? ⟨w5.heap.size, 1, none⟩ = some (.slice Rg ks dg) := Y11.out.cell 1
    have c2 : w11.cell? ⟨w5.heap.size, 2, none⟩ = some (.int .i64 P.mem.bank) := Y11.out.cell 2
    have c3 : w11.cell? ⟨w5.heap.size, 3, none⟩ = some (.int .i64 P.a) := Y11.out.cell 3
    have c4 : w11.cell? ⟨w5.heap.size, 4, none⟩ = some (.int .i64 P.at_) := Y11.out.cell 4
    have c5 : w11.cell? ⟨w5.heap.size, 5, none⟩ = some (.bool P.carry) := Y11.out.cell 5
    have c6 : w11.cell? ⟨w5.heap.size, 6, none⟩ = some (.slice Bg ms gg) := Y11.out.cell 6
    have c7 : w11.cell? ⟨w5.heap.size, 7, none⟩ = some (.bool P.stop) := Y11.out.cell 7
    have c8 : w11.cell? ⟨w5.heap.size, 8, none⟩ = some (.int .i64 P.cyc) := Y11.out.cell 8
    go_wp2_with fail
    refine (held_mach Ag cg Rg dg Bg gg ns ks ms 1 P rs11 fag frg fbg _ I11.out G11.out M11.out J11.out (by omega) (by omega) (by omega) (by omega) (by omega) (by omega)).mono ?_
    rintro e w12 ⟨rfl, b12⟩
    rw [E11.out]
    have B12 := Lib.hid (B11.out.trans (b12.mono B11.out.size))
    have Y12 := Lib.hid (Y11.out.below b12)
    have Zs12 := Lib.hid (Zs11.out.below b12)
    have I12 := Lib.hid (I11.out.below b12)
    have G12 := Lib.hid (G11.out.below b12)
    have J12 := Lib.hid (J11.out.below b12)
    clear b12 c0 c1 c2 c3 c4 c5 c6 c7 c8
    obtain ⟨KK, hKK⟩ : ∃ KK : Int, KK = 1 + (ns : Int) + (sumLen P.mem.rom : Int) + (ms : Int) := ⟨_, rfl⟩
    have HKK := Lib.hid hKK
    rw [← hKK]
    have k0 : 0 ≤ KK := by omega
    have k1 : decide (KK < 0) = false := by simp; omega
    clear hKK
    go_wp2_with fail
    refine (to_rows R k d rs fr _ (HG.out.below B12.out) (by omega) SR.out).mono ?_
    rintro e w13 ⟨Rt, dt, ft, rfl, hdt, gt', nwt, bt⟩
    have B13 := Lib.hid (B12.out.trans (bt.mono B12.out.size))
    have Y13 := Lib.hid (Y12.out.below bt)
    have Zs13 := Lib.hid (Zs12.out.below bt)
    have I13 := Lib.hid (I12.out.below bt)
    have G13 := Lib.hid (G12.out.below bt)
    have J13 := Lib.hid (J12.out.below bt)
    have Gt := Lib.hid gt'
    clear gt' nwt bt hdt
    go_wp2_with fail
    refine (impl_newMach Rt k dt rs ft _ Gt.out (by omega) SR.out).mono ?_
    rw [← HP.out]
    rintro e w14 ⟨Ah, nh, ch, Rh, kh, dh, Bh, mh, gh, fah, frh, fbh, rfl, hch, hhh, nwh, bh⟩
    obtain rfl : ns = nh := by have := hhh.ram.1; have := Ls.out; omega
    obtain rfl : ks = kh := by have := hhh.rom.len; have := Ms.out; omega
    obtain rfl : ms = mh := by have := hhh.back.1; have := Os.out; omega
    have Y14 := Lib.hid ((Y13.out.below bh).alloc (.cells #[.slice Ah ns ch, .slice Rh ks dh, .int .i64 P.mem.bank, .int .i64 P.a, .int .i64 P.at_, .bool P.carry, .slice Bh ms gh, .bool P.stop, .int .i64 P.cyc] 28))
    have Zs14 := Lib.hid (Zs13.out.below bh)
    have Zs14a := Lib.hid (Zs14.out.below (below1 w14 (.cells #[.slice Ah ns ch, .slice Rh ks dh, .int .i64 P.mem.bank, .int .i64 P.a, .int .i64 P.at_, .bool P.carry, .slice Bh ms gh, .bool P.stop, .int .i64 P.cyc] 28)))
    have I14 := Lib.hid ((I13.out.below bh).below (below1 w14 (.cells #[.slice Ah ns ch, .slice Rh ks dh, .int .i64 P.mem.bank, .int .i64 P.a, .int .i64 P.at_, .bool P.carry, .slice Bh ms gh, .bool P.stop, .int .i64 P.cyc] 28)))
    have G14 := Lib.hid ((G13.out.below bh).below (below1 w14 (.cells #[.slice Ah ns ch, .slice Rh ks dh, .int .i64 P.mem.bank, .int .i64 P.a, .int .i64 P.at_, .bool P.carry, .slice Bh ms gh, .bool P.stop, .int .i64 P.cyc] 28)))
    have J14 := Lib.hid ((J13.out.below bh).below (below1 w14 (.cells #[.slice Ah ns ch, .slice Rh ks dh, .int .i64 P.mem.bank, .int .i64 P.a, .int .i64 P.at_, .bool P.carry, .slice Bh ms gh, .bool P.stop, .int .i64 P.cyc] 28)))
    have Hh := Lib.hid (hhh.below (below1 w14 (.cells #[.slice Ah ns ch, .slice Rh ks dh, .int .i64 P.mem.bank, .int .i64 P.a, .int .i64 P.at_, .bool P.carry, .slice Bh ms gh, .bool P.stop, .int .i64 P.cyc] 28)))
    have B14 := Lib.hid (B13.out.trans (bh.mono B13.out.size))
    have B14a := Lib.hid (B14.out.alloc B14.out.size (.cells #[.slice Ah ns ch, .slice Rh ks dh, .int .i64 P.mem.bank, .int .i64 P.a, .int .i64 P.at_, .bool P.carry, .slice Bh ms gh, .bool P.stop, .int .i64 P.cyc] 28))
    have zh : w3.heap.size < w14.heap.size := Zs14.out.box.lt
    clear hch hhh nwh bh
    have c0 : w14.cell? ⟨w3.heap.size, 0, none⟩ = some (.slice As ns cs) := Zs14.out.box.cell 0
    have c1 : w14.cell? ⟨w3.heap.size, 1, none⟩ = some (.slice Rs ks ds) := Zs14.out.box.cell 1
    have c2 : w14.cell? ⟨w3.heap.size, 2, none⟩ = some (.int .i64 P.mem.bank) := Zs14.out.box.cell 2
    have c3 : w14.cell? ⟨w3.heap.size, 3, none⟩ = some (.int .i64 P.a) := Zs14.out.box.cell 3
    have c4 : w14.cell? ⟨w3.heap.size, 4, none⟩ = some (.int .i64 P.at_) := Zs14.out.box.cell 4
    have c5 : w14.cell? ⟨w3.heap.size, 5, none⟩ = some (.bool P.carry) := Zs14.out.box.cell 5
    have c6 : w14.cell? ⟨w3.heap.size, 6, none⟩ = some (.slice Bs ms gs) := Zs14.out.box.cell 6
    have c7 : w14.cell? ⟨w3.heap.size, 7, none⟩ = some (.bool P.stop) := Zs14.out.box.cell 7
    have c8 : w14.cell? ⟨w3.heap.size, 8, none⟩ = some (.int .i64 P.cyc) := Zs14.out.box.cell 8
    go_wp2_with fail
    refine (eq_mach Ah ch Rh dh Bh gh As cs Rs ds Bs gs ns ks ms P fah frh fbh fas frs fbs _ Hh.out Zs14a.out.has PF.out).mono ?_
    rintro e w15 ⟨rfl, b15⟩
    have B15 := Lib.hid (B14a.out.trans (b15.mono B14a.out.size))
    have Y15 := Lib.hid (Y14.out.below b15)
    have I15 := Lib.hid (I14.out.below b15)
    have G15 := Lib.hid (G14.out.below b15)
    have J15 := Lib.hid (J14.out.below b15)
    clear b15 c0 c1 c2 c3 c4 c5 c6 c7 c8
    have c0 : w15.cell? ⟨w5.heap.size, 0, none⟩ = some (.slice Ag ns cg) := Y15.out.cell 0
    have c1 : w15.cell? ⟨w5.heap.size, 1, none⟩ = some (.slice Rg ks dg) := Y15.out.cell 1
    have c2 : w15.cell? ⟨w5.heap.size, 2, none⟩ = some (.int .i64 P.mem.bank) := Y15.out.cell 2
    have c3 : w15.cell? ⟨w5.heap.size, 3, none⟩ = some (.int .i64 P.a) := Y15.out.cell 3
    have c4 : w15.cell? ⟨w5.heap.size, 4, none⟩ = some (.int .i64 P.at_) := Y15.out.cell 4
    have c5 : w15.cell? ⟨w5.heap.size, 5, none⟩ = some (.bool P.carry) := Y15.out.cell 5
    have c6 : w15.cell? ⟨w5.heap.size, 6, none⟩ = some (.slice Bg ms gg) := Y15.out.cell 6
    have c7 : w15.cell? ⟨w5.heap.size, 7, none⟩ = some (.bool P.stop) := Y15.out.cell 7
    have c8 : w15.cell? ⟨w5.heap.size, 8, none⟩ = some (.int .i64 P.cyc) := Y15.out.cell 8
    go_wp2_with fail
    refine (held_mach Ag cg Rg dg Bg gg ns ks ms 1 P rs11 fag frg fbg _ I15.out G15.out M11.out J15.out (by omega) (by omega) (by omega) (by omega) (by omega) (by omega)).mono ?_
    rintro e w16 ⟨rfl, b16⟩
    rw [E11.out, ← HKK.out]
    have B16 := Lib.hid (B15.out.trans (b16.mono B15.out.size))
    clear b16 c0 c1 c2 c3 c4 c5 c6 c7 c8
    go_wp2_with fail
    go_ret
    exact ⟨rfl, B16.out⟩
end Go.Proofs.Ytgciaafapbaliaa
