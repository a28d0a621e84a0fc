/- The drawn law of NewMachine, walked: it returns true, and changes no memory that was there. -/
import Derived.Test.YtgciaafapbaliaaMchV
import Derived.Test.YtgciaafapbaliaaMchN
import Derived.Test.YtgciaafapbaliaaMchB
import Derived.Test.YtgciaafapbaliaaNewD
import Derived.Deep.RegionHeld3
namespace Go.Proofs.Ytgciaafapbaliaa
open Go.ChangeShapes Go.WideShapes Go.ChangeAt Go.RowKit

theorem draw_rom (a : Option Addr) (len cap : Nat) (zs : List Int) (w : World) (h : IsRow .u8 w a len cap zs) :
    Calls Try.prog 11 #[.slice a len cap] w (RowsDrawn w) := by
  have H := Lib.hid h
  clear h
  go_enter Try.func11, Try.ntmps11
  go_wp2_with fail
  refine (draw_rows _ _ _ _ _ H.out).mono ?_
  rintro e w1 ⟨R, k, d, rs, fr, rfl, h1⟩
  have H1 := Lib.hid h1
  clear h1
  go_wp2_with fail
  go_ret
  exact ⟨R, k, d, rs, fr, rfl, H1.out⟩
theorem newX_cases (rs : List (List Int)) : (validB (newM rs) = false ∧ newX rs = machZ) ∨ (validB (newM rs) = true ∧ newX rs = ⟨newM rs, 0, 512, false, [], false, 0⟩) := by
  unfold newX
  cases h : validB (newM rs)
  · exact .inl ⟨rfl, by simp⟩
  · exact .inr ⟨rfl, by simp⟩
theorem newX_valid {rs : List (List Int)} (h : validB (newM rs) = true) : machB ⟨newM rs, 0, 512, false, [], false, 0⟩ = true := by
  simp [machB, h, byteB, addrB, addrsB]
set_option maxHeartbeats 4000000 in
theorem walk_FnNewMachine (a0 : Option Addr) (len0 cap0 : Nat) (z0 : List Int) (w : World) (w0 : IsRow .u8 w a0 len0 cap0 z0) :
    Calls Try.prog 4 #[.slice a0 len0 cap0] w fun e w' => e = .returned (.bool true) ∧ Below w.heap.size w w' := by
  have W0 := Lib.hid w0
  clear w0
  by_cases hl : len0 ≤ 1048576
  case neg =>
    go_enter Try.func4, Try.ntmps4
    go_wp2_with fail
    go_ret
    exact ⟨rfl, Below.refl _ _⟩
  go_enter Try.func4, Try.ntmps4
  go_wp2_with fail
  refine (draw_rom _ _ _ _ _ W0.out).mono ?_
  rintro e w1 ⟨R, k, d, rs, fr, rfl, hd, hk7, g1, hs1, n1, b1⟩
  have B1 := Lib.hid b1
  have G1 := Lib.hid g1
  have SR := Lib.hid (show ∀ i, (rs.getD i []).length ≤ 1000000000 from fun i => by have := hs1 i; omega)
  clear b1 g1 n1 hs1 W0
  obtain ⟨P, hP⟩ : ∃ P : Mach, P = newX rs := ⟨_, rfl⟩
  have HP := Lib.hid hP
  have PS : Hid (Fits P 256) := by rw [hP]; exact Lib.hid (newX_fits rs)
  have PF := Lib.hid (fits_mono PS.out (show 256 ≤ 1000000000 by omega))
  clear hP
  go_wp2_with fail
  refine (impl_newMach R k d rs fr _ G1.out (by omega) SR.out).mono ?_
  rw [← HP.out]
  rintro e w2 ⟨As, ns, cs, Rs, ks, ds, Bs, ms, gs, fas, frs, fbs, rfl, hcs, hhs, nws, bs⟩
  have n256 : ns ≤ 256 := PS.out.n hhs
  have k256 : ks ≤ 256 := PS.out.k hhs
  have m256 : ms ≤ 256 := PS.out.m hhs
  have Ls := Lib.hid hhs.ram.1
  have Ms := Lib.hid hhs.rom.len
  have Os := Lib.hid hhs.back.1
  have Z2 := Lib.hid (XB.new_ (w := w1) (c := cs) (d := ds) (g := gs) hhs nws)
  have B2 := Lib.hid ((B1.out.trans (bs.mono B1.out.size)).alloc (Nat.le_trans B1.out.size bs.size) (.cells #[.slice As ns cs, .slice Rs ks ds, .int .i64 P.mem.bank, .int .i64 P.a, .int .i64 P.at_, .bool P.carry, .slice Bs ms gs, .bool P.stop, .int .i64 P.cyc] 28))
  have G2 := Lib.hid ((G1.out.below bs).below (below1 w2 (.cells #[.slice As ns cs, .slice Rs ks ds, .int .i64 P.mem.bank, .int .i64 P.a, .int .i64 P.at_, .bool P.carry, .slice Bs ms gs, .bool P.stop, .int .i64 P.cyc] 28)))
  clear hcs hhs nws bs G1 B1
  obtain ⟨W, hW⟩ : ∃ W, W = w2.alloc (.cells #[.slice As ns cs, .slice Rs ks ds, .int .i64 P.mem.bank, .int .i64 P.a, .int .i64 P.at_, .bool P.carry, .slice Bs ms gs, .bool P.stop, .int .i64 P.cyc] 28) := ⟨_, rfl⟩
  rw [← hW] at Z2 G2 B2
  have C0 : Hid (W.cell? ⟨w2.heap.size, 0, none⟩ = some (.slice As ns cs)) := Z2.out.box.cell 0
  have C1 : Hid (W.cell? ⟨w2.heap.size, 1, none⟩ = some (.slice Rs ks ds)) := Z2.out.box.cell 1
  have C2 : Hid (W.cell? ⟨w2.heap.size, 2, none⟩ = some (.int .i64 P.mem.bank)) := Z2.out.box.cell 2
  have C3 : Hid (W.cell? ⟨w2.heap.size, 3, none⟩ = some (.int .i64 P.a)) := Z2.out.box.cell 3
  have C4 : Hid (W.cell? ⟨w2.heap.size, 4, none⟩ = some (.int .i64 P.at_)) := Z2.out.box.cell 4
  have C5 : Hid (W.cell? ⟨w2.heap.size, 5, none⟩ = some (.bool P.carry)) := Z2.out.box.cell 5
  have C6 : Hid (W.cell? ⟨w2.heap.size, 6, none⟩ = some (.slice Bs ms gs)) := Z2.out.box.cell 6
  have C7 : Hid (W.cell? ⟨w2.heap.size, 7, none⟩ = some (.bool P.stop)) := Z2.out.box.cell 7
  have C8 : Hid (W.cell? ⟨w2.heap.size, 8, none⟩ = some (.int .i64 P.cyc)) := Z2.out.box.cell 8
  have zW : w2.heap.size < W.heap.size := Z2.out.box.lt
  go_wp2_with fail
  rw [← hW]
  clear hW
  have c0 := C0.out
  have c1 := C1.out
  have c2 := C2.out
  have c3 := C3.out
  have c4 := C4.out
  have c5 := C5.out
  have c6 := C6.out
  have c7 := C7.out
  have c8 := C8.out
  have BD : Hid (Below W.heap.size W W.drew) := (Below.refl _ _).drew
  have K0 : Hid (W.drew.cell? ⟨w2.heap.size, 0, none⟩ = some (.slice As ns cs) ∧ W.drew.cell? ⟨w2.heap.size, 1, none⟩ = some (.slice Rs ks ds) ∧ W.drew.cell? ⟨w2.heap.size, 2, none⟩ = some (.int .i64 P.mem.bank) ∧ W.drew.cell? ⟨w2.heap.size, 3, none⟩ = some (.int .i64 P.a) ∧ W.drew.cell? ⟨w2.heap.size, 4, none⟩ = some (.int .i64 P.at_) ∧ W.drew.cell? ⟨w2.heap.size, 5, none⟩ = some (.bool P.carry) ∧ W.drew.cell? ⟨w2.heap.size, 6, none⟩ = some (.slice Bs ms gs) ∧ W.drew.cell? ⟨w2.heap.size, 7, none⟩ = some (.bool P.stop) ∧ W.drew.cell? ⟨w2.heap.size, 8, none⟩ = some (.int .i64 P.cyc)) := ⟨c0, c1, c2, c3, c4, c5, c6, c7, c8⟩
  have ZD : Hid (XB W.drew w2.heap.size As cs Rs ds Bs gs ns ks ms P fas frs fbs w1.heap.size w2.heap.size) := Z2.out.below BD.out
  have GD := Lib.hid (G2.out.below BD.out)
  go_region_held3 (fun w' => w'.cell? ⟨w2.heap.size, 0, none⟩ = some (.slice As ns cs) ∧ w'.cell? ⟨w2.heap.size, 1, none⟩ = some (.slice Rs ks ds) ∧ w'.cell? ⟨w2.heap.size, 2, none⟩ = some (.int .i64 P.mem.bank) ∧ w'.cell? ⟨w2.heap.size, 3, none⟩ = some (.int .i64 P.a) ∧ w'.cell? ⟨w2.heap.size, 4, none⟩ = some (.int .i64 P.at_) ∧ w'.cell? ⟨w2.heap.size, 5, none⟩ = some (.bool P.carry) ∧ w'.cell? ⟨w2.heap.size, 6, none⟩ = some (.slice Bs ms gs) ∧ w'.cell? ⟨w2.heap.size, 7, none⟩ = some (.bool P.stop) ∧ w'.cell? ⟨w2.heap.size, 8, none⟩ = some (.int .i64 P.cyc))
    (first | (with_reducible exact K6.out) | (with_reducible exact K5.out) | (with_reducible exact K0.out))
    (first
      | (go_at_call 13; (with_reducible refine (same_mach As cs Rs ds Bs gs Aq cq Rq dq Bq gq ns ks ms P fas frs fbs faq frq fbq _ Z5.out.has Hq.out PF.out).mono ?_); rintro e w6 ⟨rfl, b6⟩; have Z6 := Lib.hid (Z5.out.below b6); have T6 := Lib.hid (T5.out.trans (b6.mono T5.out.size)); have K6 : Hid (w6.cell? ⟨w2.heap.size, 0, none⟩ = some (.slice As ns cs) ∧ w6.cell? ⟨w2.heap.size, 1, none⟩ = some (.slice Rs ks ds) ∧ w6.cell? ⟨w2.heap.size, 2, none⟩ = some (.int .i64 P.mem.bank) ∧ w6.cell? ⟨w2.heap.size, 3, none⟩ = some (.int .i64 P.a) ∧ w6.cell? ⟨w2.heap.size, 4, none⟩ = some (.int .i64 P.at_) ∧ w6.cell? ⟨w2.heap.size, 5, none⟩ = some (.bool P.carry) ∧ w6.cell? ⟨w2.heap.size, 6, none⟩ = some (.slice Bs ms gs) ∧ w6.cell? ⟨w2.heap.size, 7, none⟩ = some (.bool P.stop) ∧ w6.cell? ⟨w2.heap.size, 8, none⟩ = some (.int .i64 P.cyc)) := ⟨Z6.out.box.cell 0, Z6.out.box.cell 1, Z6.out.box.cell 2, Z6.out.box.cell 3, Z6.out.box.cell 4, Z6.out.box.cell 5, Z6.out.box.cell 6, Z6.out.box.cell 7, Z6.out.box.cell 8⟩; clear b6)
      | (go_at_call 14; (with_reducible refine (spec_newMach R k d rs fr _ GD.out (by omega) SR.out).mono ?_); rw [← HP.out]; rintro e w5 ⟨Aq, nq, cq, Rq, kq, dq, Bq, mq, gq, faq, frq, fbq, rfl, hcq, hhq, nwq, bq⟩; obtain rfl : ns = nq := (by have := hhq.ram.1; have := Ls.out; omega); obtain rfl : ks = kq := (by have := hhq.rom.len; have := Ms.out; omega); obtain rfl : ms = mq := (by have := hhq.back.1; have := Os.out; omega); have T5 := Lib.hid (BD.out.trans (bq.mono BD.out.size)); have Z5 := Lib.hid (ZD.out.below bq); have K5 : Hid (w5.cell? ⟨w2.heap.size, 0, none⟩ = some (.slice As ns cs) ∧ w5.cell? ⟨w2.heap.size, 1, none⟩ = some (.slice Rs ks ds) ∧ w5.cell? ⟨w2.heap.size, 2, none⟩ = some (.int .i64 P.mem.bank) ∧ w5.cell? ⟨w2.heap.size, 3, none⟩ = some (.int .i64 P.a) ∧ w5.cell? ⟨w2.heap.size, 4, none⟩ = some (.int .i64 P.at_) ∧ w5.cell? ⟨w2.heap.size, 5, none⟩ = some (.bool P.carry) ∧ w5.cell? ⟨w2.heap.size, 6, none⟩ = some (.slice Bs ms gs) ∧ w5.cell? ⟨w2.heap.size, 7, none⟩ = some (.bool P.stop) ∧ w5.cell? ⟨w2.heap.size, 8, none⟩ = some (.int .i64 P.cyc)) := ⟨Z5.out.box.cell 0, Z5.out.box.cell 1, Z5.out.box.cell 2, Z5.out.box.cell 3, Z5.out.box.cell 4, Z5.out.box.cell 5, Z5.out.box.cell 6, Z5.out.box.cell 7, Z5.out.box.cell 8⟩; have Hq := Lib.hid hhq; clear hcq hhq nwq bq))
  clear c0 c1 c2 c3 c4 c5 c6 c7 c8
  have G6 := Lib.hid (G2.out.below T6.out)
  have B6 := Lib.hid (B2.out.trans (T6.out.mono B2.out.size))
  go_wp2_with fail
  refine (impl_new R k d rs fr _ G6.out (by omega) SR.out).mono ?_
  rintro e w7 ⟨A7, n7, c7, R7, k7, d7, fa7, fr7, rfl, hc7, hd7, i7, g7, nw7, b7⟩
  have SM := Lib.hid (small_new rs)
  have I7 := Lib.hid i7
  have G7 := Lib.hid g7
  have n7b : n7 ≤ 256 := by have := i7.1; have := SM.out.ram; omega
  have k7b : k7 ≤ 256 := by have := g7.len; have := SM.out.rom; omega
  have Z7 := Lib.hid (Z6.out.below b7)
  have B7 := Lib.hid (B6.out.trans (b7.mono B6.out.size))
  clear i7 g7 nw7 b7
  go_wp2_with fail
  refine (impl_valid A7 n7 c7 R7 k7 d7 (newM rs) fa7 fr7 _ I7.out G7.out (by omega) (by omega) (fun i => by have := SM.out.row i; omega)).mono ?_
  rintro e w8 ⟨rfl, b8⟩
  have Z8 := Lib.hid (Z7.out.below b8)
  have B8 := Lib.hid (B7.out.trans (b8.mono B7.out.size))
  clear b8
  have c0 : w8.cell? ⟨w2.heap.size, 0, none⟩ = some (.slice As ns cs) := Z8.out.box.cell 0
  have c1 : w8.cell? ⟨w2.heap.size, 1, none⟩ = some (.slice Rs ks ds) := Z8.out.box.cell 1
  have c2 : w8.cell? ⟨w2.heap.size, 2, none⟩ = some (.int .i64 P.mem.bank) := Z8.out.box.cell 2
  have c3 : w8.cell? ⟨w2.heap.size, 3, none⟩ = some (.int .i64 P.a) := Z8.out.box.cell 3
  have c4 : w8.cell? ⟨w2.heap.size, 4, none⟩ = some (.int .i64 P.at_) := Z8.out.box.cell 4
  have c5 : w8.cell? ⟨w2.heap.size, 5, none⟩ = some (.bool P.carry) := Z8.out.box.cell 5
  have c6 : w8.cell? ⟨w2.heap.size, 6, none⟩ = some (.slice Bs ms gs) := Z8.out.box.cell 6
  have c7 : w8.cell? ⟨w2.heap.size, 7, none⟩ = some (.bool P.stop) := Z8.out.box.cell 7
  have c8 : w8.cell? ⟨w2.heap.size, 8, none⟩ = some (.int .i64 P.cyc) := Z8.out.box.cell 8
  rcases newX_cases rs with ⟨hv, he⟩ | ⟨hv, he⟩
  · rw [← HP.out] at he
    have HE := Lib.hid he
    rw [hv]
    clear he hv
    go_wp2_with fail
    refine (impl_machValid As cs Rs ds Bs gs ns ks ms P fas frs fbs _ Z8.out.has PF.out).mono ?_
    rw [show machB P = false by rw [HE.out]; exact machZ_no]
    rintro e w9 ⟨rfl, b9⟩
    have B9 := Lib.hid (B8.out.trans (b9.mono B8.out.size))
    clear b9
    go_wp2_with fail
    refine (alive_any _).mono ?_; rintro e w' ⟨rfl, rfl⟩
    go_wp2_with fail
    go_ret
    exact ⟨rfl, B9.out⟩
  · rw [← HP.out] at he
    have HE := Lib.hid he
    have HV := Lib.hid (newX_valid hv)
    rw [hv]
    clear he hv
    go_wp2_with fail
    refine (impl_machValid As cs Rs ds Bs gs ns ks ms P fas frs fbs _ Z8.out.has PF.out).mono ?_
    rw [show machB P = true by rw [HE.out]; exact HV.out]
    rintro e w9 ⟨rfl, b9⟩
    have Z9 := Lib.hid (Z8.out.below b9)
    have B9 := Lib.hid (B8.out.trans (b9.mono B8.out.size))
    clear b9 c0 c1 c2 c3 c4 c5 c6 c7 c8
    have c0 : w9.cell? ⟨w2.heap.size, 0, none⟩ = some (.slice As ns cs) := Z9.out.box.cell 0
    have c1 : w9.cell? ⟨w2.heap.size, 1, none⟩ = some (.slice Rs ks ds) := Z9.out.box.cell 1
    have c2 : w9.cell? ⟨w2.heap.size, 2, none⟩ = some (.int .i64 P.mem.bank) := Z9.out.box.cell 2
    have c3 : w9.cell? ⟨w2.heap.size, 3, none⟩ = some (.int .i64 P.a) := Z9.out.box.cell 3
    have c4 : w9.cell? ⟨w2.heap.size, 4, none⟩ = some (.int .i64 P.at_) := Z9.out.box.cell 4
    have c5 : w9.cell? ⟨w2.heap.size, 5, none⟩ = some (.bool P.carry) := Z9.out.box.cell 5
    have c6 : w9.cell? ⟨w2.heap.size, 6, none⟩ = some (.slice Bs ms gs) := Z9.out.box.cell 6
    have c7 : w9.cell? ⟨w2.heap.size, 7, none⟩ = some (.bool P.stop) := Z9.out.box.cell 7
    have c8 : w9.cell? ⟨w2.heap.size, 8, none⟩ = some (.int .i64 P.cyc) := Z9.out.box.cell 8
    have m0 : ms = 0 := by have := Os.out; rw [HE.out] at this; simpa using this.symm
    have t512 : P.at_ = 512 := by rw [HE.out]
    have tstop : P.stop = false := by rw [HE.out]
    have tcyc : P.cyc = 0 := by rw [HE.out]
    rw [t512] at c4
    rw [m0] at c6
    rw [tstop] at c7
    rw [tcyc] at c8
    go_wp2_with fail
    go_ret
    exact ⟨rfl, B9.out⟩
end Go.Proofs.Ytgciaafapbaliaa
