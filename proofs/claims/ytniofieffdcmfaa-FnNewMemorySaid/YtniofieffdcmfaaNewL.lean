/- The drawn law of NewMemory, walked. -/
import Derived.Test.YtniofieffdcmfaaNewD
import Derived.Test.YtniofieffdcmfaaBoxed
import Derived.Test.YtniofieffdcmfaaMemT
import Derived.Deep.RegionHeld3
namespace Go.Proofs.Ytniofieffdcmfaa
open Go.ChangeShapes Go.WideShapes Go.ChangeAt Go.RowKit

theorem new_cases (rs : List (List Int)) : (validB (newM rs) = false ∧ newM rs = memZ) ∨ (validB (newM rs) = true ∧ newM rs = ⟨zeros, rs, 0⟩) := by
  unfold newM
  by_cases h : validB ⟨zeros, rs, 0⟩ = true
  · right; rw [if_pos h]; exact ⟨h, rfl⟩
  · left; rw [if_neg h]; exact ⟨by decide, rfl⟩
theorem valid_rows {rs : List (List Int)} (h : validB ⟨zeros, rs, 0⟩ = true) : 1 ≤ rs.length ∧ rs.length ≤ 4 ∧ bankB (rs.getD 0 []) = true := by
  unfold validB at h
  simp only [Bool.and_eq_true, decide_eq_true_eq] at h
  obtain ⟨⟨⟨⟨⟨_, hb⟩, h1⟩, h4⟩, _⟩, _⟩ := h
  exact ⟨h1, h4, (banksB_iff rs).1 hb 0 (by omega)⟩
theorem Grid.top {w : World} {A : Option Addr} {n L : Nat} {rs : List (List Int)} {fp : List Nat} (h : Grid w A n rs fp) (nw : New L w fp) (hn : 0 < n) (hl : (rs.getD 0 []).length = 256) :
    ∃ g o b p c, A = some ⟨g, o, none⟩ ∧ w.cell? ⟨g, o, none⟩ = some (.slice (some ⟨b, p, none⟩) 256 c) ∧ w.cell? ⟨b, p, none⟩ = some (.int .i64 ((rs.getD 0 []).getD 0 0)) ∧ w.frozen? ⟨b, p, none⟩ = false ∧ g ≠ b ∧ b ∈ fp ∧ g ∈ fp := by
  obtain ⟨D, rfl, hlD, hr, ⟨h0, rfl⟩ | ⟨_, g, o, rfl, rfl, hb, hc⟩⟩ := h
  · omega
  · cases D with
    | nil => simp at hlD; omega
    | cons r D =>
      have hx : ((r :: D).map Row.xs).getD 0 [] = r.xs := by simp [List.getD]
      rw [hx] at hl ⊢
      obtain ⟨rc, ri⟩ := hr r (by simp)
      have rn : r.n = 256 := by rw [← ri.1]; exact hl
      obtain ⟨b, p, ha, hf, hbl, hcl⟩ := ri.at_ (by omega)
      have nd := nw.once
      rw [List.nodup_cons] at nd
      have hin : b ∈ List.flatMap Row.fp (r :: D) := by rw [List.flatMap_cons, hf]; simp
      have c0 := hc 0 r rfl
      have v0 : r.val = .slice (some ⟨b, p, none⟩) 256 r.c := by unfold Row.val; rw [ha, rn]
      rw [v0, Nat.add_zero] at c0
      have c1 := hcl 0 (by omega)
      rw [Nat.add_zero] at c1
      exact ⟨g, o, b, p, r.c, rfl, c0, c1, nw.free b (List.mem_cons_of_mem _ hin) p, by rintro rfl; exact nd.1 hin, List.mem_cons_of_mem _ hin, by simp⟩
set_option maxRecDepth 100000 in
set_option maxHeartbeats 2000000 in
theorem walk_FnNewMemory (a0 : Option Addr) (len0 cap0 : Nat) (z0 : List Int) (w : World) (w0 : IsRow .u8 w a0 len0 cap0 z0) :
    Calls Try.prog 4 #[.slice a0 len0 cap0] w fun e w' => e = .returned (.bool true) ∧ Below w.heap.size w w' := by
  have W0 := Lib.hid w0
  clear w0
  by_cases hl : len0 ≤ 1048576
  case neg =>
    go_enter Try.func4, Try.ntmps4
    go_wp2_with fail
    go_ret
    exact ⟨rfl, Below.refl _ _⟩
  go_enter Try.func4, Try.ntmps4
  go_wp2_with fail
  refine (draw_rows _ _ _ _ _ W0.out).mono ?_
  rintro e w1 ⟨R, k, d, rs, fr, rfl, hd, hk7, g1, hs1, n1, b1⟩
  have B1 := Lib.hid b1
  have G1 := Lib.hid g1
  have N1 := Lib.hid n1
  have S1 := Lib.hid hs1
  have SR := Lib.hid (show ∀ i, (rs.getD i []).length ≤ 1000000000 from fun i => by have := hs1 i; omega)
  have HL := Lib.hid g1.len
  have PS := Lib.hid (small_new rs)
  have PR := Lib.hid (show ∀ i, ((newM rs).rom.getD i []).length ≤ 1000000000 from fun i => by have := PS.out.row i; omega)
  clear b1 g1 n1 hs1 W0
  go_wp2_with fail
  refine (impl_new R k d rs fr _ G1.out (by omega) SR.out).mono ?_
  rintro e w2 ⟨A, n, c, Rg, kg, dg, fa, fg, rfl, hc, hdg, i2, g2, nw2, b2⟩
  have n256 : n ≤ 256 := by have := i2.1; have := PS.out.ram; omega
  have k256 : kg ≤ 256 := by have := g2.len; have := PS.out.rom; omega
  have L2 := Lib.hid i2.1
  have K2 := Lib.hid g2.len
  have Z2 : Hid (MB (w2.alloc (.cells #[.slice A n c, .slice Rg kg dg, .int .i64 (newM rs).bank] 26)) w2.heap.size A n c Rg kg dg (newM rs) fa fg w1.heap.size w2.heap.size) := MB.new_ i2 g2 nw2
  have y2 : w1.heap.size ≤ w2.heap.size := b2.size
  have b2a := b2.alloc b2.size (.cells #[.slice A n c, .slice Rg kg dg, .int .i64 (newM rs).bank] 26)
  have G2 := Lib.hid (G1.out.below b2a)
  have N2 : Hid (k ≤ 4 → New w.heap.size (w2.alloc (.cells #[.slice A n c, .slice Rg kg dg, .int .i64 (newM rs).bank] 26)) fr) := fun h => (N1.out h).keep (.of_below b2a)
  have F2 : Hid (∀ x ∈ fr, x < w1.heap.size) := G1.out.lt
  have B2 := Lib.hid (B1.out.trans (b2a.mono B1.out.size))
  clear i2 g2 nw2 b2 b2a G1 N1 B1
  obtain ⟨W, hW⟩ : ∃ W, W = w2.alloc (.cells #[.slice A n c, .slice Rg kg dg, .int .i64 (newM rs).bank] 26) := ⟨_, rfl⟩
  rw [← hW] at Z2 G2 N2 B2
  have C0 : Hid (W.cell? ⟨w2.heap.size, 0, none⟩ = some (.slice A n c)) := Z2.out.box.cell 0
  have C1 : Hid (W.cell? ⟨w2.heap.size, 1, none⟩ = some (.slice Rg kg dg)) := Z2.out.box.cell 1
  have C2 : Hid (W.cell? ⟨w2.heap.size, 2, none⟩ = some (.int .i64 (newM rs).bank)) := Z2.out.box.cell 2
  have zW : w2.heap.size < W.heap.size := Z2.out.box.lt
  go_wp2_with fail
  rw [← hW]
  clear hW
  have c0 := C0.out
  have c1 := C1.out
  have c2 := C2.out
  have BD : Hid (Below W.heap.size W W.drew) := (Below.refl _ _).drew
  have K0 : Hid (W.drew.cell? ⟨w2.heap.size, 0, none⟩ = some (.slice A n c) ∧ W.drew.cell? ⟨w2.heap.size, 1, none⟩ = some (.slice Rg kg dg) ∧ W.drew.cell? ⟨w2.heap.size, 2, none⟩ = some (.int .i64 (newM rs).bank)) := ⟨c0, c1, c2⟩
  go_region_held3 (fun w' => w'.cell? ⟨w2.heap.size, 0, none⟩ = some (.slice A n c) ∧ w'.cell? ⟨w2.heap.size, 1, none⟩ = some (.slice Rg kg dg) ∧ w'.cell? ⟨w2.heap.size, 2, none⟩ = some (.int .i64 (newM rs).bank))
    (first | (with_reducible exact K6.out) | (with_reducible exact K5.out) | (with_reducible exact K0.out))
    (first
      | (go_at_call 21; (with_reducible refine (same_mem A As n c cs Rg Rs kg dg ds (newM rs) fa fg fs gs _ Z5.out.ram Is.out Z5.out.rom Gs.out (by omega) (by omega) PR.out).mono ?_); rintro e w6 ⟨rfl, b6⟩; have Z6 := Lib.hid (Z5.out.below b6); have T6 := Lib.hid (T5.out.trans (b6.mono T5.out.size)); have K6 : Hid (w6.cell? ⟨w2.heap.size, 0, none⟩ = some (.slice A n c) ∧ w6.cell? ⟨w2.heap.size, 1, none⟩ = some (.slice Rg kg dg) ∧ w6.cell? ⟨w2.heap.size, 2, none⟩ = some (.int .i64 (newM rs).bank)) := ⟨Z6.out.box.cell 0, Z6.out.box.cell 1, Z6.out.box.cell 2⟩; clear b6)
      | (go_at_call 22; (with_reducible refine (spec_new R k d rs fr _ (G2.out.below BD.out) (by omega) SR.out).mono ?_); rintro e w5 ⟨As, ns, cs, Rs, ks, ds, fs, gs, rfl, hcs, hds, is, g's, nws, b5⟩; obtain rfl : n = ns := (by have := is.1; have := L2.out; omega); obtain rfl : kg = ks := (by have := g's.len; have := K2.out; omega); have T5 := Lib.hid (BD.out.trans (b5.mono BD.out.size)); have Z5 := Lib.hid (Z2.out.below T5.out); have Is := Lib.hid is; have Gs := Lib.hid g's; have K5 : Hid (w5.cell? ⟨w2.heap.size, 0, none⟩ = some (.slice A n c) ∧ w5.cell? ⟨w2.heap.size, 1, none⟩ = some (.slice Rg kg dg) ∧ w5.cell? ⟨w2.heap.size, 2, none⟩ = some (.int .i64 (newM rs).bank)) := ⟨Z5.out.box.cell 0, Z5.out.box.cell 1, Z5.out.box.cell 2⟩; clear is g's nws b5))
  clear c0 c1 c2
  have c0 := K6.out.1
  have c1 := K6.out.2.1
  have c2 := K6.out.2.2
  go_wp2_with fail
  refine (impl_valid A n c Rg kg dg (newM rs) fa fg _ Z6.out.ram Z6.out.rom (by omega) (by omega) PR.out).mono ?_
  rintro e w7 ⟨rfl, b7⟩
  have Z7 := Lib.hid (Z6.out.below b7)
  have T7 := Lib.hid (T6.out.trans (b7.mono T6.out.size))
  have B7 := Lib.hid (B2.out.trans (T7.out.mono B2.out.size))
  clear b7 c0 c1 c2
  have c0 : w7.cell? ⟨w2.heap.size, 0, none⟩ = some (.slice A n c) := Z7.out.box.cell 0
  have c1 : w7.cell? ⟨w2.heap.size, 1, none⟩ = some (.slice Rg kg dg) := Z7.out.box.cell 1
  have c2 : w7.cell? ⟨w2.heap.size, 2, none⟩ = some (.int .i64 (newM rs).bank) := Z7.out.box.cell 2
  rcases new_cases rs with ⟨hv, hm⟩ | ⟨hv, hm⟩
  · rw [hv]
    obtain rfl : n = 0 := by have := L2.out; rw [hm] at this; exact this.symm
    obtain rfl : kg = 0 := by have := K2.out; rw [hm] at this; exact this.symm
    go_wp2_with fail
    refine (alive_any _).mono ?_
    rintro e w8 ⟨rfl, rfl⟩
    go_wp2_with fail
    go_ret
    exact ⟨rfl, B7.out⟩
  · rw [hv]
    rw [hm] at hv
    obtain ⟨h1, h4, hb0⟩ := valid_rows hv
    rw [HL.out] at h1 h4
    obtain rfl : n = 256 := by have := L2.out; rw [hm] at this; rw [← this]; exact zeros_len
    obtain rfl : kg = k := by have := K2.out; rw [hm] at this; rw [← this]; exact HL.out
    have Zr := Z7.out.ram
    have Zg := Z7.out.rom
    rw [hm] at Zr Zg
    have e2 : (newM rs).bank = 0 := by rw [hm]
    rw [e2] at c2
    have nG : New w1.heap.size w7 fg := ⟨(List.nodup_append.1 Z7.out.new.once).2.1, fun x hx => Z7.out.new.lt x (by simp [hx]), fun x hx => Z7.out.new.free x (by simp [hx])⟩
    have nR : New w.heap.size w7 fr := (N2.out h4).keep (.of_below T7.out)
    obtain ⟨hl0, hv0⟩ := bankB_yes hb0
    obtain ⟨u0, u1⟩ := hv0 0 (by omega)
    obtain ⟨gR, oR, bR, pR, cR, rfl, r0, r1, r2, r3, r4, r5⟩ := (G2.out.below T7.out).top nR (by omega) hl0
    obtain ⟨gG, oG, bG, pG, cG, rfl, s0, s1, s2, s3, s4, s5⟩ := Zg.top nG (by omega) hl0
    have q1 := F2.out _ r4
    have q2 := (nG.lt _ s4).1
    have q3 := (nG.lt _ s5).1
    have q4 := (nR.lt _ r4).1
    have x1 : bR ≠ gR := fun e => r3 e.symm
    have x2 : bR ≠ w2.heap.size := by omega
    have x3 : bR ≠ gG := by omega
    have x4 : bR ≠ bG := by omega
    have hkk : (0 : Int) < (kg : Int) := by omega
    have hkn : 0 < kg := by omega
    obtain ⟨u, hu⟩ : ∃ u, u = (rs.getD 0 []).getD 0 0 := ⟨_, rfl⟩
    rw [← hu] at u0 u1 r1 s1
    have ZR := Lib.hid Zr
    have E2 := Lib.hid e2
    have OB : Hid (∀ x y, Only [bR] w7 ((w7.setCell ⟨bR, pR, none⟩ x).setCell ⟨bR, pR, none⟩ y)) := fun x y => ((Only.refl _ _).setCell (.inl (by simp)) _).setCell (.inl (by simp)) _
    have FA := Lib.hid (show ∀ x ∈ fa, x ∉ [bR] from fun x hx hn => by have := (Z7.out.span x (by simp [hx])).1; simp at hn; omega)
    have QB := Lib.hid q4
    have zq : w2.heap.size < w7.heap.size := Z7.out.box.lt
    have hmk := make256
    clear Zr Zg nG nR hb0 hl0 hv0 hu hm hv e2
    go_wp2_with fail
    obtain ⟨W9, hW9⟩ : ∃ W9, W9 = (w7.setCell ⟨bR, pR, none⟩ (.int .i64 (255 - u))).setCell ⟨bR, pR, none⟩ (.int .i64 u) := ⟨_, rfl⟩
    rw [← hW9]
    have o9 : Only [bR] w7 W9 := hW9 ▸ OB.out _ _
    clear hW9 c0 c1 c2 r0 r1 r2 s0 s1 s2 OB zq
    have X9 := Lib.hid (Z7.out.box.only o9 (by simp; omega))
    have I9 := Lib.hid (ZR.out.keep (.of_only o9 FA.out))
    have B9 := Lib.hid (B7.out.trans (o9.below (by simp; exact QB.out) B7.out.size))
    have c0 : W9.cell? ⟨w2.heap.size, 0, none⟩ = some (.slice A 256 c) := X9.out.cell 0
    have zq : w2.heap.size < W9.heap.size := X9.out.lt
    have D9 : Hid (Below W9.heap.size W9 (W9.alloc (.cells (madeCells #[.int .i64 0] 256) 3)).drew) := (below1 W9 _).drew
    have J9 : Hid (Ints (W9.alloc (.cells (madeCells #[.int .i64 0] 256) 3)).drew (some ⟨W9.heap.size, 0, none⟩) 256 zeros [W9.heap.size]) := (zeros_ints (World.rowIs_made W9 (.int .i64 0) 256 3)).below (Below.refl _ _).drew
    clear o9
    go_region_with ((go_at_call 23; (refine (same_ints A (some ⟨W9.heap.size, 0, none⟩) 256 c 256 zeros fa [W9.heap.size] _ (by exact I9.out.below D9.out) (by exact J9.out) (by omega)).mono ?_); rintro e w10 ⟨rfl, m10, h10⟩; have X10 := Lib.hid ((X9.out.below D9.out).drewN m10); rw [← h10] at X10; have B10 := Lib.hid (below_drewN (B9.out.trans (D9.out.mono B9.out.size)) m10); rw [← h10] at B10; have d2 : w10.cell? ⟨w2.heap.size, 2, none⟩ = some (.int .i64 0) := X10.out.cell 2 |>.trans (by rw [E2.out]; rfl); clear h10))
    all_goals go_wp2
    all_goals go_ret
    all_goals exact ⟨rfl, B10.out⟩
end Go.Proofs.Ytniofieffdcmfaa
