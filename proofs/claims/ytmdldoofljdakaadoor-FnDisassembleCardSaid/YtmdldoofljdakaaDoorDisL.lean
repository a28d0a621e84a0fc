/- The walk of the law of Disassemble. -/
import Derived.Test.YtmdldoofljdakaaDoorDisA
import Derived.Test.YtmdldoofljdakaaDoorDisI
import Derived.Test.YtmdldoofljdakaaDoorOrdL
namespace Go.Proofs.YtmdldoofljdakaaDoor
open Go.ChangeShapes Go.WideShapes Go.ChangeAt Go.RowKit

def LisGot (w : World) (e : Ending) (w' : World) : Prop := ∃ (A : Option Addr) (n c : Nat) (xs : List Int) (fp : List Nat), e = .returned (.slice A n c) ∧ n ≤ c ∧ n ≤ 100 ∧ Ints w' A n xs fp ∧ Below w.heap.size w w'
theorem ints_made (w : World) (n : Nat) (h : 0 < n) : Ints (w.alloc (.cells (madeCells #[.int .i64 0] n) 3)) (some ⟨w.heap.size, 0, none⟩) n (List.replicate n 0) [w.heap.size] :=
  ints_of_row (World.rowIs_made w (.int .i64 0) n 3) (fun i hi => by simp [List.getD, hi]) (by simp) h
theorem draw_dis (a : Option Addr) (len cap : Nat) (zs : List Int) (w : World) (h : IsRow .u8 w a len cap zs) :
    Calls Tryd.prog 26 #[.slice a len cap] w (LisGot w) := by
  have H := Lib.hid h
  clear h
  go_enter Tryd.func26, Tryd.ntmps26
  go_wp2_with fail
  refine (open_any a len cap zs _ H.out).mono ?_
  rintro e w1 ⟨rfl, b1, r1⟩
  have B1 := Lib.hid b1
  have R1 := Lib.hid r1
  clear b1 r1
  go_wp2_with fail
  refine (odd_any w.heap.size 0 16 _ R1.out (by omega) (by omega) (by omega)).mono ?_; rintro e w2 ⟨b, rfl, s2, r2⟩
  have B2 := Lib.hid (B1.out.trans (s2.only.below (B := w.heap.size) (fun b hb => by simp at hb; omega) B1.out.size))
  have R2 := Lib.hid r2
  clear s2 r2
  cases b
  · go_wp2_with fail
    refine (code_any w.heap.size (0 + 1) 4 _ R2.out (by omega) (by omega) (by omega)).mono ?_
    rintro e w3 ⟨A, n, c, xs, fp, rfl, hc, hn, i3, n3, o3, r3⟩
    have B3 := Lib.hid (B2.out.trans (o3.below (B := w.heap.size) (fun b hb => by simp at hb; omega) B2.out.size))
    have I3 := Lib.hid i3
    clear i3 n3 o3 r3
    go_wp2_with fail
    go_ret
    exact ⟨A, n, c, xs, fp, rfl, hc, hn, I3.out, B3.out⟩
  · go_wp2_with fail
    refine (pick_any w.heap.size (0 + 1) 2 _ R2.out (by omega) (by omega) (by omega)).mono ?_
    rintro e w3 ⟨v, v0, v1, rfl, s3, r3⟩
    have B3 := Lib.hid (B2.out.trans (s3.only.below (B := w.heap.size) (fun b hb => by simp at hb; omega) B2.out.size))
    clear s3 r3
    obtain ⟨n, hn⟩ : ∃ n : Nat, 60 + v = (n : Int) := ⟨(60 + v).toNat, by omega⟩
    have n0 : 0 < n := by omega
    have n1 : n ≤ 61 := by omega
    have hmk := Go.run_make_row' (P := Tryd.prog) 36 3 (.int .i64 0) 8 Tryd.underlying36 infoInt rfl .i64 .i64 n (by omega) (by omega)
    go_wp2_with fail
    go_ret
    exact ⟨_, n, n, _, _, rfl, by omega, by omega, ints_made w3 n n0, B3.out.alloc B3.out.size _⟩
set_option maxHeartbeats 4000000 in
theorem walk_FnDisassemble (a0 : Option Addr) (len0 cap0 : Nat) (z0 : List Int) (w : World) (w0 : IsRow .u8 w a0 len0 cap0 z0) (ho : NumEnv w) :
    Calls Tryd.prog 6 #[.slice a0 len0 cap0] w fun e w' => e = .returned (.bool true) ∧ Below w.heap.size w w' := by
  have H := Lib.hid w0
  have HO := Lib.hid ho
  have HE : Hid (Env w) := ho.1
  have hl := isRow_len w0
  clear w0 ho
  by_cases hs : len0 ≤ 1048576
  · go_enter Tryd.func6, Tryd.ntmps6
    go_wp2_with fail
    refine (draw_dis _ _ _ _ _ H.out).mono ?_; rintro e w1 ⟨LA, N, lc, xs, lf, rfl, hlc, hN, li, b1⟩
    have L1 := Lib.hid li
    have B1 := Lib.hid b1
    clear li b1
    go_wp2_with fail
    refine (impl_dis _ _ _ _ _ _ L1.out (by omega) hlc (HE.out.below B1.out)).mono ?_; rintro e w2 ⟨GA, n, gc, gf, rfl, hgc, hn, gi, gn, b2⟩
    have G2 := Lib.hid gi
    have L2 := Lib.hid (L1.out.below b2)
    have B2 := Lib.hid (below_then B1.out b2)
    clear gi gn b2 L1
    have HAD := Lib.hid (fun h => asm_dis (xs := xs) h)
    have HSz := Lib.hid (disS_size xs)
    generalize hq : disOk xs = q at HAD
    have HQ := Lib.hid hq
    clear hq
    go_wp2_with fail
    refine (spec_dis _ _ _ _ _ _ L2.out (by omega)).mono ?_; rintro e w3 ⟨WA, n', wc, wf, rfl, hwc, hn', wi, wn, b3⟩
    obtain rfl : n' = n := wi.1.symm.trans G2.out.1
    rw [HQ.out]
    have W3 := Lib.hid wi
    have G3 := Lib.hid (G2.out.below b3)
    have L3 := Lib.hid (L2.out.below b3)
    have B3 := Lib.hid (below_then B2.out b3)
    clear wi wn b3 G2 L2
    have hl0 : q = false → n' = 0 := fun e => by
      have := W3.out.1
      have h2 : disOk xs = false := HQ.out.trans e
      rw [← this]
      simp [disS, h2]
    have HL0 := Lib.hid hl0
    clear hl0
    cases q
    · obtain rfl : n' = 0 := HL0.out rfl
      go_wp2_with fail
      refine (same_strs _ _ _ _ _ _ _ _ _ G3.out W3.out (by omega)).mono ?_; rintro e w4 ⟨rfl, m4, rfl⟩
      have B4 := Lib.hid (below_drewN B3.out m4)
      generalize w3.drewN m4 = w4 at B4
      go_wp2_with fail
      refine (alive_any _).mono ?_; rintro e w' ⟨rfl, rfl⟩
      go_wp2_with fail
      go_ret
      exact ⟨rfl, B4.out⟩
    · obtain ⟨e1, e2⟩ := HAD.out rfl
      have H1 := Lib.hid e1
      have H2 := Lib.hid e2
      clear HAD e1 e2
      go_wp2_with fail
      refine (same_strs _ _ _ _ _ _ _ _ _ G3.out W3.out (by omega)).mono ?_; rintro e w4 ⟨rfl, m4, rfl⟩
      have G4 : Hid (Strs (w3.drewN m4) GA n' (disS xs) gf) := G3.out
      have L4 : Hid (Ints (w3.drewN m4) LA N xs lf) := L3.out
      have B4 := Lib.hid (below_drewN B3.out m4)
      generalize w3.drewN m4 = w4 at G4 L4 B4
      clear G3 L3 W3 B3
      go_wp2_with fail
      refine (impl_asm _ _ _ _ _ _ G4.out (by omega) (fun i _ => by have := HSz.out i; omega) (HO.out.below B4.out)).mono ?_; rintro e w5 ⟨RA, m, rc, rf, rfl, hrc, hm, ri, rn, b5⟩
      rw [H1.out]
      rw [H2.out] at ri
      have R5 := Lib.hid ri
      have L5 := Lib.hid (L4.out.below b5)
      have B5 := Lib.hid (below_then B4.out b5)
      obtain rfl : m = N := ri.1.symm.trans L4.out.1
      clear ri rn b5
      go_wp2_with fail
      refine (same_ints _ _ _ _ _ _ _ _ _ R5.out L5.out (by omega)).mono ?_; rintro e w6 ⟨rfl, m6, rfl⟩
      go_wp2_with fail
      go_ret
      exact ⟨rfl, below_drewN B5.out m6⟩
  · go_enter Tryd.func6, Tryd.ntmps6
    go_wp2_with fail
    go_ret
    exact ⟨rfl, Below.refl _ _⟩
end Go.Proofs.YtmdldoofljdakaaDoor
