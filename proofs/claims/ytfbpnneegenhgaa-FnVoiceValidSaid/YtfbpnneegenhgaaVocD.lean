/- A drawn sound channel. -/
import Derived.Test.YtfbpnneegenhgaaVocS
import Derived.Test.YtfbpnneegenhgaaGC
import Derived.Test.YtfbpnneegenhgaaDrawC
import Derived.Test.YtfbpnneegenhgaaRowIn
import Derived.Deep.DeepCutAuto
namespace Go.Proofs.Ytfbpnneegenhgaa
open Go.ChangeShapes Go.WideShapes Go.ChangeAt Go.RowKit
set_option linter.unusedVariables false

theorem wrapS (x : Int) (h0 : -1000000 ≤ x) (h1 : x ≤ 1000000) : IntKind.i64.wrap x = x := by
  simp [IntKind.wrap, IntKind.bits, IntKind.signed]
  omega
/-- The numbers of a drawn channel. -/
def VD (u : Voc) : Prop := (0 ≤ u.l ∧ u.l ≤ 101) ∧ (-1 ≤ u.h ∧ u.h ≤ 9) ∧ (-1 ≤ u.v ∧ u.v ≤ 16) ∧ (-1 ≤ u.s ∧ u.s ≤ 8) ∧ 0 ≤ u.e ∧ u.e ≤ 101
def VocDrawn (q m : Nat) (w : World) (e : Ending) (w' : World) : Prop := ∃ u : Voc, e = .returned (vocV u) ∧ VD u ∧ Only [q] w w' ∧ Rd w' q (m + 40)
structure VE (w : World) (q r b m : Nat) (u : Voc) (W : World) : Prop where
  rd : Rd W q m
  res : Box W r 24 (vcs .zero)
  box : Box W b 24 (vcs u)
  only : Only [q] w W
  hq : q < w.heap.size
  hr : w.heap.size ≤ r
  hb : r < b
section
variable {w W W' : World} {q r b m m' : Nat} {u u' : Voc}
theorem VE.drawn (h : VE w q r b m u W) (o : Only [q] W W') (d : Rd W' q m') : VE w q r b m' u W' :=
  ⟨d, h.res.only o (by have := h.hq; have := h.hr; simp; omega), h.box.only o (by have := h.hq; have := h.hr; have := h.hb; simp; omega), h.only.trans o, h.hq, h.hr, h.hb⟩
theorem VE.lt (h : VE w q r b m u W) : q < W.heap.size ∧ b < W.heap.size := ⟨h.rd.lt, h.box.lt⟩
theorem VE.below (h : VE w q r b m u W) (k : Below W.heap.size W W') : VE w q r b m u W' :=
  ⟨h.rd.stay (k.mono (by have := h.rd.lt; omega)), h.res.below k, h.box.below k, h.only.trans (.of_below k), h.hq, h.hr, h.hb⟩
theorem VE.set (h : VE w q r b m u W) (i : Nat) (a : Int) (hv : (vcs u).set i (.int .i64 a) = vcs u') : VE w q r b m u' (W.setCell ⟨b, i, none⟩ (.int .i64 a)) :=
  ⟨h.rd.far (by have := h.hq; have := h.hr; have := h.hb; omega) _, h.res.far (by have := h.hb; omega) _, hv ▸ h.box.set i _, h.only.setCell (.inr (by have := h.hr; have := h.hb; omega)) _, h.hq, h.hr, h.hb⟩
theorem VE.out (h : VE w q r b m u W) (hu : VD u) {M : Nat} (hm : m ≤ M + 40) : VocDrawn q M w (.returned (vocV u)) (W.setRow r (vcs u).toArray) :=
  ⟨u, rfl, hu, h.only.row (.inr h.hr) _, (h.rd.stay (below_row (Below.refl _ _) (by have := h.hq; have := h.hr; omega) _)).mono hm⟩
end
theorem two_of (a b v : Int) (v0 : 0 ≤ v) (v1 : v < 2) : ∃ u : Int, (#[Value.int .i64 a, .int .i64 b] : Array Value)[v.toNat]? = some (.int .i64 u) ∧ (u = a ∨ u = b) := by
  have h : v = 0 ∨ v = 1 := by omega
  rcases h with rfl | rfl
  · exact ⟨_, rfl, .inl rfl⟩
  · exact ⟨_, rfl, .inr rfl⟩
set_option maxRecDepth 100000 in
set_option maxHeartbeats 4000000 in
theorem voice_draw (q m : Nat) (n : Int) (w : World) (h : Rd w q m) (hm : m ≤ 100000) (hn : 1 ≤ n) (hn2 : n ≤ 1000) : Calls Try.prog 40 #[.pointer (some ⟨q, 0, none⟩), .int .i64 n] w (VocDrawn q m w) := by
  have hq := h.lt
  obtain ⟨w1, hw1⟩ : ∃ w1, w1 = w.alloc (.cells #[.int .i64 0, .int .i64 0, .int .i64 0, .int .i64 0, .int .i64 0] 24) := ⟨_, rfl⟩
  have R1 : Hid (Rd w1 q m) := Lib.hid (by rw [hw1]; exact h.alloc _)
  have X1 : Hid (Box w1 w.heap.size 24 (vcs .zero)) := Lib.hid (by rw [hw1]; exact Box.new w _ _)
  have O1 : Hid (Only [q] w w1) := Lib.hid (by rw [hw1]; exact (Only.refl _ w).alloc _)
  have z1 : q < w1.heap.size := R1.out.lt
  have hs1 : w1.heap.size = w.heap.size + 1 := by rw [hw1]; simp
  clear h
  go_enter Try.func40, Try.ntmps40
  go_wp2_with fail
  rw [← hw1]
  clear hw1
  refine (pick_any q _ 2 _ (R1.out.alloc _) (by omega) (by omega) (by omega)).mono ?_
  rintro e w2 ⟨t, t0, t1, rfl, s2, r2⟩
  obtain ⟨u, hu, hu2⟩ := two_of 6 100 t t0 t1
  have cu := lit_at2 s2 z1 hu
  rw [hs1] at cu
  have X2 := Lib.hid ((X1.out.alloc _).only s2.only (by simp; omega))
  have O2 := Lib.hid ((O1.out.alloc _).trans s2.only)
  have R2 := Lib.hid r2
  clear s2 r2 X1 O1 R1 hu
  have tn : t < ((2 : Nat) : Int) := by omega
  have u0 : 1 ≤ u ∧ u ≤ 100 := by omega
  clear hu2
  go_wp2_with fail
  refine (pick_any q _ u _ R2.out (by omega) (by omega) (by omega)).mono ?_
  rintro e w3 ⟨a, a0, a1, rfl, s3, r3⟩
  have X3 := Lib.hid (X2.out.only s3.only (by simp; omega))
  have O3 := Lib.hid (O2.out.trans s3.only)
  have R3 := Lib.hid r3
  clear s3 r3 X2 O2 R2 cu
  have a2 : a ≤ 99 := by omega
  clear a1 u0
  go_wp2_with fail
  refine (pick_any q _ 9 _ R3.out (by omega) (by omega) (by omega)).mono ?_
  rintro e w4 ⟨h, h0, h1, rfl, s4, r4⟩
  have X4 := Lib.hid (X3.out.only s4.only (by simp; omega))
  have O4 := Lib.hid (O3.out.trans s4.only)
  have R4 := Lib.hid r4
  clear s4 r4 X3 O3 R3
  go_wp2_with fail
  refine (pick_any q _ 16 _ R4.out (by omega) (by omega) (by omega)).mono ?_
  rintro e w5 ⟨v, v0, v1, rfl, s5, r5⟩
  have X5 := Lib.hid (X4.out.only s5.only (by simp; omega))
  have O5 := Lib.hid (O4.out.trans s5.only)
  have R5 := Lib.hid r5
  clear s5 r5 X4 O4 R4
  go_wp2_with fail
  refine (pick_any q _ 8 _ R5.out (by omega) (by omega) (by omega)).mono ?_
  rintro e w6 ⟨s, s0, s1, rfl, s6, r6⟩
  have X6 := Lib.hid (X5.out.only s6.only (by simp; omega))
  have O6 := Lib.hid (O5.out.trans s6.only)
  have R6 := Lib.hid r6
  clear s6 r6 X5 O5 R5
  have BN : Hid (Box (w6.alloc (.cells #[.int .i64 0, .int .i64 0, .int .i64 0, .int .i64 0, .int .i64 0] 24)) w6.heap.size 24 (vcs .zero)) := Lib.hid (Box.new w6 _ _)
  go_upto_region 2 with (first | (refine vo_store (by rfl) _ _ rfl w6.heap.size rfl ⟨1 + a, h, v, s, 0⟩ rfl (vcs .zero) BN.out rfl ?_))
  have z6 : q < w6.heap.size := R6.out.lt
  have z7 : w.heap.size < w6.heap.size := X6.out.lt
  have E7 : Hid (VE w q w.heap.size w6.heap.size (m + 5) ⟨1 + a, h, v, s, 0⟩ ((w6.alloc (.cells #[.int .i64 0, .int .i64 0, .int .i64 0, .int .i64 0, .int .i64 0] 24)).setRow w6.heap.size (vcs ⟨1 + a, h, v, s, 0⟩).toArray)) := Lib.hid ⟨((R6.out.alloc _).stay (below_row (Below.refl _ _) (by omega) _)).mono (by omega), (X6.out.alloc _).rowFar (by omega), Box.row BN.out, (O6.out.alloc _).row (.inr (by omega)) _, hq, Nat.le_refl _, z7⟩
  generalize (w6.alloc (.cells #[.int .i64 0, .int .i64 0, .int .i64 0, .int .i64 0, .int .i64 0] 24)).setRow w6.heap.size (vcs ⟨1 + a, h, v, s, 0⟩).toArray = w7 at E7 ⊢
  generalize w6.heap.size = b at E7 ⊢
  generalize hr0 : w.heap.size = r at E7 ⊢
  clear BN X6 O6 R6 z6 z7 hr0 z1
  have x0 : w7.cell? ⟨b, 0, none⟩ = some (.int .i64 (1 + a)) := E7.out.box.cell 0
  go_wp2_with fail
  refine (pick_any q _ (1 + a) _ E7.out.rd (by omega) (by omega) (by omega)).mono ?_
  rintro e w8 ⟨d, d0, d1, rfl, s8, r8⟩
  have E8 := Lib.hid (E7.out.drawn s8.only r8)
  clear s8 r8 E7 x0
  have x4 : w8.cell? ⟨b, 4, none⟩ = some (.int .i64 0) := E8.out.box.cell 4
  have f4 := E8.out.box.frozen 4
  go_upto_region 3 with (fail)
  have E9 : Hid (VE w q r b _ ⟨1 + a, h, v, s, 1 + d⟩ _) := Lib.hid (E8.out.set 4 (1 + d) rfl)
  generalize w8.setCell ⟨b, 4, none⟩ (.int .i64 (1 + d)) = w9 at E9 ⊢
  clear x4 f4 E8
  go_wp2_with fail
  refine (odd_any q _ n _ E9.out.rd (by omega) hn (by omega)).mono ?_
  rintro e w10 ⟨bb, rfl, s10, r10⟩
  have E10 := Lib.hid (E9.out.drawn s10.only r10)
  clear s10 r10 E9
  cases bb
  · skip
    go_wp2_with (first | (refine vo_load (by rfl) _ rfl b rfl ⟨1 + a, h, v, s, 1 + d⟩ E10.out.box ?_) | (refine vo_store (by rfl) _ _ rfl r rfl ⟨1 + a, h, v, s, 1 + d⟩ rfl (vcs .zero) E10.out.res rfl ?_))
    exact bodyPost_ret (voc_ret (u := ⟨1 + a, h, v, s, 1 + d⟩) rfl rfl (Box.row E10.out.res)) rfl (E10.out.out ⟨⟨by simp only; omega, by simp only; omega⟩, ⟨by simp only; omega, by simp only; omega⟩, ⟨by simp only; omega, by simp only; omega⟩, ⟨by simp only; omega, by simp only; omega⟩, by simp only; omega, by simp only; omega⟩ (by omega))
  · go_wp2_with fail
    refine (pick_any q _ 5 _ E10.out.rd (by omega) (by omega) (by omega)).mono ?_
    rintro e w11 ⟨c, c0, c1, rfl, s11, r11⟩
    have E11 := Lib.hid (E10.out.drawn s11.only r11)
    clear s11 r11 E10
    have z11 := E11.out.lt.1
    have hc : c = 0 ∨ c = 1 ∨ c = 2 ∨ c = 3 ∨ c = 4 := by omega
    clear c0 c1
    rcases hc with rfl | rfl | rfl | rfl | rfl
    · go_wp2_with fail
      refine (pick_any q _ 2 _ (E11.out.below (below1 _ _)).rd (by omega) (by omega) (by omega)).mono ?_
      rintro e w12 ⟨t', t0', t1', rfl, s12, r12⟩
      obtain ⟨x, hx, hx2⟩ := two_of 0 101 t' t0' t1'
      have cu := lit_at2 s12 z11 hx
      have E12 := Lib.hid ((E11.out.below (below1 _ _)).drawn s12.only r12)
      clear s12 r12 E11 hx
      have tn' : t' < ((2 : Nat) : Int) := by omega
      have x0 : w12.cell? ⟨b, 0, none⟩ = some (.int .i64 (1 + a)) := E12.out.box.cell 0
      have f0 := E12.out.box.frozen 0
      go_upto_region 14 with (fail)
      have E13 : Hid (VE w q r b _ ⟨x, h, v, s, 1 + d⟩ _) := Lib.hid (E12.out.set 0 x rfl)
      generalize w12.setCell ⟨b, 0, none⟩ (.int .i64 x) = w13 at E13 ⊢
      clear cu x0 f0 E12
      go_wp2_with (first | (refine vo_load (by rfl) _ rfl b rfl ⟨x, h, v, s, 1 + d⟩ E13.out.box ?_) | (refine vo_store (by rfl) _ _ rfl r rfl ⟨x, h, v, s, 1 + d⟩ rfl (vcs .zero) E13.out.res rfl ?_))
      exact bodyPost_ret (voc_ret (u := ⟨x, h, v, s, 1 + d⟩) rfl rfl (Box.row E13.out.res)) rfl (E13.out.out ⟨⟨by simp only; omega, by simp only; omega⟩, ⟨by simp only; omega, by simp only; omega⟩, ⟨by simp only; omega, by simp only; omega⟩, ⟨by simp only; omega, by simp only; omega⟩, by simp only; omega, by simp only; omega⟩ (by omega))
    · go_wp2_with fail
      refine (pick_any q _ 2 _ (E11.out.below (below1 _ _)).rd (by omega) (by omega) (by omega)).mono ?_
      rintro e w12 ⟨t', t0', t1', rfl, s12, r12⟩
      obtain ⟨x, hx, hx2⟩ := two_of (-1) 9 t' t0' t1'
      have cu := lit_at2 s12 z11 hx
      have E12 := Lib.hid ((E11.out.below (below1 _ _)).drawn s12.only r12)
      clear s12 r12 E11 hx
      have tn' : t' < ((2 : Nat) : Int) := by omega
      have x1 : w12.cell? ⟨b, 1, none⟩ = some (.int .i64 (h)) := E12.out.box.cell 1
      have f1 := E12.out.box.frozen 1
      go_upto_region 14 with (fail)
      have E13 : Hid (VE w q r b _ ⟨1 + a, x, v, s, 1 + d⟩ _) := Lib.hid (E12.out.set 1 x rfl)
      generalize w12.setCell ⟨b, 1, none⟩ (.int .i64 x) = w13 at E13 ⊢
      clear cu x1 f1 E12
      go_wp2_with (first | (refine vo_load (by rfl) _ rfl b rfl ⟨1 + a, x, v, s, 1 + d⟩ E13.out.box ?_) | (refine vo_store (by rfl) _ _ rfl r rfl ⟨1 + a, x, v, s, 1 + d⟩ rfl (vcs .zero) E13.out.res rfl ?_))
      exact bodyPost_ret (voc_ret (u := ⟨1 + a, x, v, s, 1 + d⟩) rfl rfl (Box.row E13.out.res)) rfl (E13.out.out ⟨⟨by simp only; omega, by simp only; omega⟩, ⟨by simp only; omega, by simp only; omega⟩, ⟨by simp only; omega, by simp only; omega⟩, ⟨by simp only; omega, by simp only; omega⟩, by simp only; omega, by simp only; omega⟩ (by omega))
    · go_wp2_with fail
      refine (pick_any q _ 2 _ (E11.out.below (below1 _ _)).rd (by omega) (by omega) (by omega)).mono ?_
      rintro e w12 ⟨t', t0', t1', rfl, s12, r12⟩
      obtain ⟨x, hx, hx2⟩ := two_of (-1) 16 t' t0' t1'
      have cu := lit_at2 s12 z11 hx
      have E12 := Lib.hid ((E11.out.below (below1 _ _)).drawn s12.only r12)
      clear s12 r12 E11 hx
      have tn' : t' < ((2 : Nat) : Int) := by omega
      have x2 : w12.cell? ⟨b, 2, none⟩ = some (.int .i64 (v)) := E12.out.box.cell 2
      have f2 := E12.out.box.frozen 2
      go_upto_region 14 with (fail)
      have E13 : Hid (VE w q r b _ ⟨1 + a, h, x, s, 1 + d⟩ _) := Lib.hid (E12.out.set 2 x rfl)
      generalize w12.setCell ⟨b, 2, none⟩ (.int .i64 x) = w13 at E13 ⊢
      clear cu x2 f2 E12
      go_wp2_with (first | (refine vo_load (by rfl) _ rfl b rfl ⟨1 + a, h, x, s, 1 + d⟩ E13.out.box ?_) | (refine vo_store (by rfl) _ _ rfl r rfl ⟨1 + a, h, x, s, 1 + d⟩ rfl (vcs .zero) E13.out.res rfl ?_))
      exact bodyPost_ret (voc_ret (u := ⟨1 + a, h, x, s, 1 + d⟩) rfl rfl (Box.row E13.out.res)) rfl (E13.out.out ⟨⟨by simp only; omega, by simp only; omega⟩, ⟨by simp only; omega, by simp only; omega⟩, ⟨by simp only; omega, by simp only; omega⟩, ⟨by simp only; omega, by simp only; omega⟩, by simp only; omega, by simp only; omega⟩ (by omega))
    · go_wp2_with fail
      refine (pick_any q _ 2 _ (E11.out.below (below1 _ _)).rd (by omega) (by omega) (by omega)).mono ?_
      rintro e w12 ⟨t', t0', t1', rfl, s12, r12⟩
      obtain ⟨x, hx, hx2⟩ := two_of (-1) 8 t' t0' t1'
      have cu := lit_at2 s12 z11 hx
      have E12 := Lib.hid ((E11.out.below (below1 _ _)).drawn s12.only r12)
      clear s12 r12 E11 hx
      have tn' : t' < ((2 : Nat) : Int) := by omega
      have x3 : w12.cell? ⟨b, 3, none⟩ = some (.int .i64 (s)) := E12.out.box.cell 3
      have f3 := E12.out.box.frozen 3
      go_upto_region 14 with (fail)
      have E13 : Hid (VE w q r b _ ⟨1 + a, h, v, x, 1 + d⟩ _) := Lib.hid (E12.out.set 3 x rfl)
      generalize w12.setCell ⟨b, 3, none⟩ (.int .i64 x) = w13 at E13 ⊢
      clear cu x3 f3 E12
      go_wp2_with (first | (refine vo_load (by rfl) _ rfl b rfl ⟨1 + a, h, v, x, 1 + d⟩ E13.out.box ?_) | (refine vo_store (by rfl) _ _ rfl r rfl ⟨1 + a, h, v, x, 1 + d⟩ rfl (vcs .zero) E13.out.res rfl ?_))
      exact bodyPost_ret (voc_ret (u := ⟨1 + a, h, v, x, 1 + d⟩) rfl rfl (Box.row E13.out.res)) rfl (E13.out.out ⟨⟨by simp only; omega, by simp only; omega⟩, ⟨by simp only; omega, by simp only; omega⟩, ⟨by simp only; omega, by simp only; omega⟩, ⟨by simp only; omega, by simp only; omega⟩, by simp only; omega, by simp only; omega⟩ (by omega))
    · have hqS : q ∈ [q] := by simp
      have hJ : Kept q (fun _ => True) := fun _ _ _ _ => trivial
      have hS : ∀ b ∈ [q], b < w11.heap.size := by simp; omega
      have hb4 : b ∉ [q] := by have := E11.out.hq; have := E11.out.hr; have := E11.out.hb; simp; omega
      have hl : 0 ≤ (1 + a) + 1 ∧ (1 + a) + 1 ≤ 101 := by omega
      have hwr := wrapS (1 + a + 1) (by omega) (by omega)
      go_upto_region 5 with (fail)
      refine wp_region_end (by dsimp only [List.dropLast]) rfl (Cls [q] q (m + 8) w11 fun _ => True) (Rel [q] fun _ => True)
        (Ty [TV (.pointer (some ⟨b, 0, none⟩)), TV (.int .i64 (1 + a)), TV (.int .i64 (1 + a + 1)), TL [q] 2 0 101, TV (.pointer (some ⟨q, 0, none⟩)), TI 0 1, TP [q] 0 101, TI 0 101, TV (.pointer (some ⟨b, 4, none⟩))])
        (by kernel_rfl) (by kernel_rfl) (by kernel_rfl) (stab_ty _ ⟨stab_tv _, stab_tv _, stab_tv _, stab_tl _ _ _, stab_tv _, stab_ti _ _, stab_tp _ _, stab_ti _ _, stab_tv _, trivial⟩)
        ⟨(Only.refl _ w11).trans (.of_below (Below.refl _ _).drew), (E11.out.below (Below.refl _ _).drew).rd, trivial⟩ ?_ ?_
      · refine ⟨?_, ?_, ?_, ?_, ?_, ?_, ?_, ?_, ?_, trivial⟩
        · refine ob_val rfl (.pointer (some ⟨b, 0, none⟩)) hqS hJ hJ fun ρ kk wx hI hc hx hp => ⟨?_, rfl⟩
          have h1 : ρ (.tmp 5) = .pointer (some ⟨b, 0, none⟩) := hx 5 rfl
          unfold execOp
          simp only [h1]
          clear h1 hx hc hI hp
          go_simp
        · refine ob_val rfl (.int .i64 (1 + a)) hqS hJ hJ fun ρ kk wx hI hc hx hp => ⟨?_, rfl⟩
          have h1 : ρ (.tmp 32) = .pointer (some ⟨b, 0, none⟩) := hp.1 rfl
          have c1 : wx.cell? ⟨b, 0, none⟩ = some (.int .i64 (1 + a)) := (E11.out.box.only hI.only hb4).cell 0
          unfold execOp
          simp only [h1]
          clear h1 hx hc hI hp
          go_simp
        · refine ob_val rfl (.int .i64 (1 + a + 1)) hqS hJ hJ fun ρ kk wx hI hc hx hp => ⟨?_, rfl⟩
          have h1 : ρ (.tmp 33) = .int .i64 (1 + a) := hp.1 rfl
          have hk := hc (.int .i64 1)
          unfold execOp
          simp only [h1, hk]
          clear h1 hk hx hc hI hp
          go_simp
        · refine ob_build rfl 2 0 101 hqS hJ hJ hS (fun ρ wx hc hx hp => ?_) (fun _ _ h => h)
          have hz : ρ (.tmp 34) = .int .i64 (1 + a + 1) := hp.1 rfl
          refine ⟨#[.int .i64 0, .int .i64 (1 + a + 1)], ?_, ?_⟩
          · unfold execOp
            simp only [List.map_toArray, List.map_cons, List.map_nil, hc, hz]
            clear hx hp hc hz
            go_simp
          · intro i hi
            have h : i = 0 ∨ i = 1 := by omega
            rcases h with rfl | rfl <;> exact ⟨_, rfl, by omega, by omega⟩
        · exact ob_move rfl (.tmp 0) (.inl rfl) hqS hJ hJ fun ρ wx _ hx _ => hx 0 rfl
        · exact ob_pick rfl (.tmp 36) 2 _ rfl hqS hJ hJ (by simp; omega) (by omega) (by omega) (fun ρ wx hp => hp.1 rfl) (fun _ _ h => h)
        · exact ob_index rfl (.tmp 35) (.tmp 37) 2 0 101 rfl hqS hJ hJ (fun ρ wx hp => ⟨hp.1 rfl, hp.2.1 rfl⟩) (fun _ _ h => h)
        · exact ob_load rfl (.tmp 38) 0 101 rfl hqS hJ hJ (fun ρ wx hp => hp.1 rfl) (fun _ _ h => h)
        · refine ob_val rfl (.pointer (some ⟨b, 4, none⟩)) hqS hJ hJ fun ρ kk wx hI hc hx hp => ⟨?_, rfl⟩
          have h1 : ρ (.tmp 5) = .pointer (some ⟨b, 0, none⟩) := hx 5 rfl
          unfold execOp
          simp only [h1]
          clear h1 hx hc hI hp
          go_simp
      intro vs wx hI hF
      obtain ⟨-, -, -, -, -, -, -, ⟨x, h7, x0, x1⟩, h8, -⟩ := hF
      replace h7 : vs 7 = .int .i64 x := h7
      replace h8 : vs 8 = .pointer (some ⟨b, 4, none⟩) := h8
      have E12 := Lib.hid (E11.out.drawn hI.only (hI.rd.mono (show _ ≤ m + 30 by simp)))
      have c5 : wx.cell? ⟨b, 4, none⟩ = some (.int .i64 (1 + d)) := E12.out.box.cell 4
      have g5 := E12.out.box.frozen 4
      have E13 : Hid (VE w q r b _ ⟨1 + a, h, v, s, x⟩ _) := Lib.hid (E12.out.set 4 x rfl)
      simp only [putAll, Act.put, List.setIfInBounds_toArray, List.set_cons_zero, List.set_cons_succ, h7, h8, Nat.zero_add, Nat.reduceAdd]
      clear hI h7 h8
      refine ⟨wx.setCell ⟨b, 4, none⟩ (.int .i64 x), ?_, ?_⟩
      · unfold execOp
        go_simp
      clear c5 g5 E12 E11 hS hb4 hJ
      generalize wx.setCell ⟨b, 4, none⟩ (.int .i64 x) = w13 at E13 ⊢
      go_wp2_with (first | (refine vo_load (by rfl) _ rfl b rfl ⟨1 + a, h, v, s, x⟩ E13.out.box ?_) | (refine vo_store (by rfl) _ _ rfl r rfl ⟨1 + a, h, v, s, x⟩ rfl (vcs .zero) E13.out.res rfl ?_))
      exact bodyPost_ret (voc_ret (u := ⟨1 + a, h, v, s, x⟩) rfl rfl (Box.row E13.out.res)) rfl (E13.out.out ⟨⟨by simp only; omega, by simp only; omega⟩, ⟨by simp only; omega, by simp only; omega⟩, ⟨by simp only; omega, by simp only; omega⟩, ⟨by simp only; omega, by simp only; omega⟩, by simp only; omega, by simp only; omega⟩ (by omega))
end Go.Proofs.Ytfbpnneegenhgaa
