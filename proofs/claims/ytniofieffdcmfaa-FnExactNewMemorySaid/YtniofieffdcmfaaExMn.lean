/- The exact laws of chapter 2, walked: each returns true, and changes no memory that was there. -/
import Derived.Test.YtniofieffdcmfaaBoxed
import Derived.Test.YtniofieffdcmfaaMemT
namespace Go.Proofs.Ytniofieffdcmfaa
open Go.ChangeShapes Go.WideShapes Go.ChangeAt Go.RowKit

set_option maxRecDepth 100000 in
set_option maxHeartbeats 2000000 in
theorem walk_FnExactNewMemory (R : Option Addr) (k d : Nat) (rs : List (List Int)) (w : World) (h : InRows w R k rs) :
    Calls Try.prog 11 #[.slice R k d] w fun e w' => e = .returned (.bool true) ∧ Below w.heap.size w w' := by
  obtain ⟨hk, hs, fr, hg⟩ := h
  have HG := Lib.hid hg
  have HS := Lib.hid hs
  clear hg hs
  go_enter Try.func11, Try.ntmps11
  go_wp2_with fail
  refine (sz_rows R k d 1048576 rs fr _ HG.out hk HS.out (by omega) (by omega)).mono ?_
  rintro e w1 ⟨sv, rfl, rfl, hv⟩
  have HV := Lib.hid hv
  clear hv
  by_cases v0 : sv < 0
  · go_wp2_with fail
    go_ret
    exact ⟨rfl, Below.refl _ _⟩
  · have sz : sv = 1048576 - k - sumLen rs := by
      rcases HV.out with h | h
      · omega
      · exact h.2
    have sk : k ≤ 1000000 + 48576 := by omega
    have sl : sumLen rs ≤ 1000000 + 48576 := by omega
    have SR := Lib.hid (show ∀ i, (rs.getD i []).length ≤ 1000000000 from fun i => by have := sumLen_row rs i; omega)
    have B1 : Hid (Below w.heap.size w w) := Below.refl _ _
    have PS := Lib.hid (small_new rs)
    have PR := Lib.hid (show ∀ i, ((newM rs).rom.getD i []).length ≤ 1000000000 from fun i => by have := PS.out.row i; omega)
    have pl : sumLen (newM rs).rom ≤ 1000000 := sum_small PS.out (by omega)
    clear sz HV HS hk
    go_wp2_with fail
    refine (to_rows R k d rs fr _ (HG.out.below B1.out) (by omega) SR.out).mono ?_
    rintro e w2 ⟨Rp, dp, fp, rfl, hdp, gp, nwp, bp⟩
    have B2 := Lib.hid (B1.out.trans (bp.mono B1.out.size))
    have Gp := Lib.hid gp
    clear gp nwp bp
    go_wp2_with fail
    refine (spec_new Rp k dp rs fp _ Gp.out (by omega) SR.out).mono ?_
    rintro e w3 ⟨As, ns, cs, Rs, ks, ds, fs, gs, rfl, hcs, hds, is, g's, nws, b3⟩
    have n256 : ns ≤ 256 := by have := is.1; have := PS.out.ram; omega
    have k256 : ks ≤ 256 := by have := g's.len; have := PS.out.rom; omega
    have B3 := Lib.hid (B2.out.trans (b3.mono B2.out.size))
    have Ls := Lib.hid is.1
    have Ms := Lib.hid g's.len
    have z3 : w.heap.size ≤ w3.heap.size := B3.out.size
    have Zs3 : Hid (MB (w3.alloc (.cells #[.slice As ns cs, .slice Rs ks ds, .int .i64 ((newM rs)).bank] 26)) w3.heap.size As ns cs Rs ks ds (newM rs) fs gs w2.heap.size w3.heap.size) := MB.new_ is g's nws
    have y3 : w2.heap.size ≤ w3.heap.size := b3.size
    have B3a := Lib.hid (B3.out.alloc B3.out.size (.cells #[.slice As ns cs, .slice Rs ks ds, .int .i64 ((newM rs)).bank] 26))
    have s3 : Hid ((w3.alloc (.cells #[.slice As ns cs, .slice Rs ks ds, .int .i64 ((newM rs)).bank] 26)).heap.size = w3.heap.size + 1) := by show _ = _; simp
    clear is g's nws b3
    go_wp2_with fail
    refine (to_rows R k d rs fr _ (HG.out.below B3a.out) (by omega) SR.out).mono ?_
    rintro e w4 ⟨Rq, dq, fq, rfl, hdq, gq, nwq, bq⟩
    have B4 := Lib.hid (B3a.out.trans (bq.mono B3a.out.size))
    have Zs4 := Lib.hid (Zs3.out.below bq)
    have Gq4 := Lib.hid gq
    have Nq4 := Lib.hid nwq
    have SQ : Hid (∀ b ∈ fq, w3.heap.size + 1 ≤ b ∧ b < w4.heap.size) := fun b hb => by have := nwq.lt b hb; have := s3.out; omega
    have y4 : (w3.alloc (.cells #[.slice As ns cs, .slice Rs ks ds, .int .i64 ((newM rs)).bank] 26)).heap.size ≤ w4.heap.size := bq.size
    clear gq nwq bq
    go_wp2_with fail
    refine (impl_new Rq k dq rs fq _ Gq4.out (by omega) SR.out).mono ?_
    rintro e w5 ⟨Ag, ng, cg, Rg, kg, dg, fg, gg, rfl, hcg, hdg, ig, g'g, nwg, bg⟩
    obtain rfl : ns = ng := by have := ig.1; have := Ls.out; omega
    obtain rfl : ks = kg := by have := g'g.len; have := Ms.out; omega
    have Zs5 := Lib.hid (Zs4.out.below bg)
    have Gq5 := Lib.hid ((Gq4.out.below bg).below (below1 w5 (.cells #[.slice Ag ns cg, .slice Rg ks dg, .int .i64 ((newM rs)).bank] 26)))
    have Nq5 := Lib.hid ((Nq4.out.keep (.of_below bg)).keep (.of_below (below1 w5 (.cells #[.slice Ag ns cg, .slice Rg ks dg, .int .i64 ((newM rs)).bank] 26))))
    have Zg5 : Hid (MB (w5.alloc (.cells #[.slice Ag ns cg, .slice Rg ks dg, .int .i64 ((newM rs)).bank] 26)) w5.heap.size Ag ns cg Rg ks dg (newM rs) fg gg w4.heap.size w5.heap.size) := MB.new_ ig g'g nwg
    have y5 : w4.heap.size ≤ w5.heap.size := bg.size
    have B5 := Lib.hid (B4.out.trans (bg.mono B4.out.size))
    have B5a := Lib.hid (B5.out.alloc B5.out.size (.cells #[.slice Ag ns cg, .slice Rg ks dg, .int .i64 ((newM rs)).bank] 26))
    have Zs5a := Lib.hid (Zs5.out.below (below1 w5 (.cells #[.slice Ag ns cg, .slice Rg ks dg, .int .i64 ((newM rs)).bank] 26)))
    have zz : w3.heap.size < w5.heap.size := Zs5.out.box.lt
    clear ig g'g nwg bg
    have c0 : w5.cell? ⟨w3.heap.size, 0, none⟩ = some (.slice As ns cs) := Zs5.out.box.cell 0
    have c1 : w5.cell? ⟨w3.heap.size, 1, none⟩ = some (.slice Rs ks ds) := Zs5.out.box.cell 1
    have c2 : w5.cell? ⟨w3.heap.size, 2, none⟩ = some (.int .i64 ((newM rs)).bank) := Zs5.out.box.cell 2
    go_wp2_with fail
    refine (eq_mem Ag As ns cg cs Rg Rs ks dg ds (newM rs) fg gg fs gs _ Zg5.out.ram Zs5a.out.ram Zg5.out.rom Zs5a.out.rom (by omega) (by omega) PR.out).mono ?_
    rintro e w6 ⟨rfl, b6⟩
    have B6 := Lib.hid (B5a.out.trans (b6.mono B5a.out.size))
    have Zs6 := Lib.hid (Zs5a.out.below b6)
    have Gq6 := Lib.hid (Gq5.out.below b6)
    have Nq6 := Lib.hid (Nq5.out.keep (.of_below b6))
    have Zg6 := Lib.hid (Zg5.out.below b6)
    clear b6 c0 c1 c2
    go_wp2_with fail
    refine (to_rows R k d rs fr _ (HG.out.below B6.out) (by omega) SR.out).mono ?_
    rintro e w7 ⟨Rr, dr, fr', rfl, hdr, gr, nwr, br⟩
    have B7 := Lib.hid (B6.out.trans (br.mono B6.out.size))
    have Zs7 := Lib.hid (Zs6.out.below br)
    have Gq7 := Lib.hid (Gq6.out.below br)
    have Nq7 := Lib.hid (Nq6.out.keep (.of_below br))
    have Zg7 := Lib.hid (Zg6.out.below br)
    have Gr7 := Lib.hid gr
    clear gr nwr br
    go_wp2_with fail
    refine (eq_rows Rq Rr k dq dr rs fq fr' _ Gq7.out Gr7.out (by omega) SR.out).mono ?_
    rintro e w8 ⟨rfl, q8⟩
    have b8 := drawn_below q8
    have B8 := Lib.hid (B7.out.trans (b8.mono B7.out.size))
    have Zs8 := Lib.hid (Zs7.out.below b8)
    have Gq8 := Lib.hid (Gq7.out.below b8)
    have Nq8 := Lib.hid (Nq7.out.keep (.of_below b8))
    have Zg8 := Lib.hid (Zg7.out.below b8)
    clear b8 q8
    go_wp2_with fail
    refine (mark_rows Rq k dq 1 rs fq _ Gq8.out Nq8.out.once Nq8.out.free (by omega) (by omega) (by omega) (by omega)).mono ?_
    rintro e w9 ⟨rs9, rfl, o9, g9, m9, l9, f9⟩
    have Zs9 := Lib.hid (Zs8.out.only o9 SQ.out (.inl (by omega)) y3)
    have Zg9 := Lib.hid (Zg8.out.only o9 SQ.out (.inr (by omega)) y5)
    have B9 := Lib.hid (B8.out.trans (o9.below (fun b hb => by have := SQ.out _ hb; omega) B8.out.size))
    clear o9 g9 m9 l9 f9
    obtain ⟨K9, hK9⟩ : ∃ K9 : Int, K9 = 1 + (sumLen rs : Int) := ⟨_, rfl⟩
    rw [← hK9]
    have hk9 : decide (K9 < 0) = false := by simp; omega
    clear hK9
    have c0 : w9.cell? ⟨w3.heap.size, 0, none⟩ = some (.slice As ns cs) := Zs9.out.box.cell 0
    have c1 : w9.cell? ⟨w3.heap.size, 1, none⟩ = some (.slice Rs ks ds) := Zs9.out.box.cell 1
    have c2 : w9.cell? ⟨w3.heap.size, 2, none⟩ = some (.int .i64 ((newM rs)).bank) := Zs9.out.box.cell 2
    have d0 : w9.cell? ⟨w5.heap.size, 0, none⟩ = some (.slice Ag ns cg) := Zg9.out.box.cell 0
    have d1 : w9.cell? ⟨w5.heap.size, 1, none⟩ = some (.slice Rg ks dg) := Zg9.out.box.cell 1
    have d2 : w9.cell? ⟨w5.heap.size, 2, none⟩ = some (.int .i64 ((newM rs)).bank) := Zg9.out.box.cell 2
    go_wp2_with fail
    refine (eq_mem Ag As ns cg cs Rg Rs ks dg ds (newM rs) fg gg fs gs _ Zg9.out.ram Zs9.out.ram Zg9.out.rom Zs9.out.rom (by omega) (by omega) PR.out).mono ?_
    rintro e w10 ⟨rfl, b10⟩
    have B10 := Lib.hid (B9.out.trans (b10.mono B9.out.size))
    have Zs10 := Lib.hid (Zs9.out.below b10)
    have Zg10 := Lib.hid (Zg9.out.below b10)
    clear b10 c0 c1 c2 d0 d1 d2 hk9
    have c0 : w10.cell? ⟨w5.heap.size, 0, none⟩ = some (.slice Ag ns cg) := Zg10.out.box.cell 0
    have c1 : w10.cell? ⟨w5.heap.size, 1, none⟩ = some (.slice Rg ks dg) := Zg10.out.box.cell 1
    have c2 : w10.cell? ⟨w5.heap.size, 2, none⟩ = some (.int .i64 ((newM rs)).bank) := Zg10.out.box.cell 2
    go_wp2_with fail
    refine (mark_mem Ag ns cg Rg ks dg ((newM rs)).bank 1 (newM rs) fg gg _ _ Zg10.out.ram Zg10.out.rom Zg10.out.new (by omega) (by omega) (by omega) (by omega) (by omega)).mono ?_
    rintro e w11 ⟨rs11, rfl, o11, i11, g11, m11, l11⟩
    have Zs11 := Lib.hid (Zs10.out.only o11 Zg10.out.span (.inl (by have := s3.out; omega)) y3)
    have B11 := Lib.hid (B10.out.trans (o11.below (fun b hb => by have := Zg10.out.span _ hb; have := s3.out; omega) B10.out.size))
    have Y11 := Lib.hid (Zg10.out.box.only o11 (fun hx => by have := Zg10.out.span _ hx; omega))
    have I11 := Lib.hid i11
    have G11 := Lib.hid g11
    have M11 := Lib.hid m11
    have E11 := Lib.hid (sumLen_same l11)
    have L11 : sumLen rs11 ≤ 1000000 := by have := E11.out; omega
    clear o11 i11 g11 m11 l11 c0 c1 c2
    have c0 : w11.cell? ⟨w5.heap.size, 0, none⟩ = some (.slice Ag ns cg) := Y11.out.cell 0
    have c1 : w11.cell? ⟨w5.heap.size, 1, none⟩ = some (.slice Rg ks dg) := Y11.out.cell 1
    have c2 : w11.cell? ⟨w5.heap.size, 2, none⟩ = some (.int .i64 ((newM rs)).bank) := Y11.out.cell 2
    go_wp2_with fail
    refine (held_mem Ag ns cg Rg ks dg ((newM rs)).bank 1 rs11 fg gg _ I11.out G11.out M11.out (by omega) (by omega) (by omega) (by omega) (by omega)).mono ?_
    rintro e w12 ⟨rfl, b12⟩
    rw [E11.out]
    have B12 := Lib.hid (B11.out.trans (b12.mono B11.out.size))
    have Y12 := Lib.hid (Y11.out.below b12)
    have Zs12 := Lib.hid (Zs11.out.below b12)
    have I12 := Lib.hid (I11.out.below b12)
    have G12 := Lib.hid (G11.out.below b12)
    clear b12 c0 c1 c2
    obtain ⟨KK, hKK⟩ : ∃ KK : Int, KK = 1 + (ns : Int) + (sumLen ((newM rs)).rom : Int) := ⟨_, rfl⟩
    have HKK := Lib.hid hKK
    rw [← hKK]
    have k0 : 0 ≤ KK := by omega
    have k1 : decide (KK < 0) = false := by simp; omega
    clear hKK
    go_wp2_with fail
    refine (to_rows R k d rs fr _ (HG.out.below B12.out) (by omega) SR.out).mono ?_
    rintro e w13 ⟨Rt, dt, ft, rfl, hdt, gt, nwt, bt⟩
    have B13 := Lib.hid (B12.out.trans (bt.mono B12.out.size))
    have Y13 := Lib.hid (Y12.out.below bt)
    have Zs13 := Lib.hid (Zs12.out.below bt)
    have I13 := Lib.hid (I12.out.below bt)
    have G13 := Lib.hid (G12.out.below bt)
    have Gt := Lib.hid gt
    clear gt nwt bt
    go_wp2_with fail
    refine (impl_new Rt k dt rs ft _ Gt.out (by omega) SR.out).mono ?_
    rintro e w14 ⟨Ah, nh, ch, Rh, kh, dh, fh, gh, rfl, hch, hdh, ih, g'h, nwh, bh⟩
    obtain rfl : ns = nh := by have := ih.1; have := Ls.out; omega
    obtain rfl : ks = kh := by have := g'h.len; have := Ms.out; omega
    have Y14 := Lib.hid ((Y13.out.below bh).alloc (.cells #[.slice Ah ns ch, .slice Rh ks dh, .int .i64 ((newM rs)).bank] 26))
    have Zs14 := Lib.hid (Zs13.out.below bh)
    have Zs14a := Lib.hid (Zs14.out.below (below1 w14 (.cells #[.slice Ah ns ch, .slice Rh ks dh, .int .i64 ((newM rs)).bank] 26)))
    have I14 := Lib.hid ((I13.out.below bh).below (below1 w14 (.cells #[.slice Ah ns ch, .slice Rh ks dh, .int .i64 ((newM rs)).bank] 26)))
    have G14 := Lib.hid ((G13.out.below bh).below (below1 w14 (.cells #[.slice Ah ns ch, .slice Rh ks dh, .int .i64 ((newM rs)).bank] 26)))
    have Ih := Lib.hid (ih.below (below1 w14 (.cells #[.slice Ah ns ch, .slice Rh ks dh, .int .i64 ((newM rs)).bank] 26)))
    have Gh := Lib.hid (g'h.below (below1 w14 (.cells #[.slice Ah ns ch, .slice Rh ks dh, .int .i64 ((newM rs)).bank] 26)))
    have B14 := Lib.hid (B13.out.trans (bh.mono B13.out.size))
    have B14a := Lib.hid (B14.out.alloc B14.out.size (.cells #[.slice Ah ns ch, .slice Rh ks dh, .int .i64 ((newM rs)).bank] 26))
    have zh : w3.heap.size < w14.heap.size := Zs14.out.box.lt
    clear ih g'h nwh bh
    have c0 : w14.cell? ⟨w3.heap.size, 0, none⟩ = some (.slice As ns cs) := Zs14.out.box.cell 0
    have c1 : w14.cell? ⟨w3.heap.size, 1, none⟩ = some (.slice Rs ks ds) := Zs14.out.box.cell 1
    have c2 : w14.cell? ⟨w3.heap.size, 2, none⟩ = some (.int .i64 ((newM rs)).bank) := Zs14.out.box.cell 2
    go_wp2_with fail
    refine (eq_mem Ah As ns ch cs Rh Rs ks dh ds (newM rs) fh gh fs gs _ Ih.out Zs14a.out.ram Gh.out Zs14a.out.rom (by omega) (by omega) PR.out).mono ?_
    rintro e w15 ⟨rfl, b15⟩
    have B15 := Lib.hid (B14a.out.trans (b15.mono B14a.out.size))
    have Y15 := Lib.hid (Y14.out.below b15)
    have I15 := Lib.hid (I14.out.below b15)
    have G15 := Lib.hid (G14.out.below b15)
    clear b15 c0 c1 c2
    have c0 : w15.cell? ⟨w5.heap.size, 0, none⟩ = some (.slice Ag ns cg) := Y15.out.cell 0
    have c1 : w15.cell? ⟨w5.heap.size, 1, none⟩ = some (.slice Rg ks dg) := Y15.out.cell 1
    have c2 : w15.cell? ⟨w5.heap.size, 2, none⟩ = some (.int .i64 ((newM rs)).bank) := Y15.out.cell 2
    go_wp2_with fail
    refine (held_mem Ag ns cg Rg ks dg ((newM rs)).bank 1 rs11 fg gg _ I15.out G15.out M11.out (by omega) (by omega) (by omega) (by omega) (by omega)).mono ?_
    rintro e w16 ⟨rfl, b16⟩
    rw [E11.out, ← HKK.out]
    have B16 := Lib.hid (B15.out.trans (b16.mono B15.out.size))
    clear b16 c0 c1 c2
    go_wp2_with fail
    go_ret
    exact ⟨rfl, B16.out⟩
end Go.Proofs.Ytniofieffdcmfaa
