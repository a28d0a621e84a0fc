/- The drawn law of DecodeOrder. -/
import Derived.Test.YthndghhnpnaonaaDoorCodeD
import Derived.Test.YthndghhnpnaonaaDoorOrdM
namespace Go.Proofs.YthndghhnpnaonaaDoor
open Go.ChangeShapes Go.WideShapes Go.ChangeAt Go.RowKit

theorem dec_some {xs : List Int} {i op arg : Int} (h : decN xs i = some (op, arg)) : ∃ k : Nat, i = k ∧ k < xs.length ∧ (k : Int) + lenN op ≤ xs.length ∧ ordB op arg = true ∧ (xs.drop k).take (lenN op).toNat = ordN op arg ∧ xs.getD k 0 = op := by
  unfold decN at h
  split at h
  · rename_i hc
    obtain ⟨hb, h0, h1⟩ := hc
    obtain ⟨i0, i1⟩ := betB_yes hb
    obtain ⟨k, rfl⟩ : ∃ k : Nat, i = k := ⟨i.toNat, by omega⟩
    rw [Int.toNat_natCast] at h h0 h1
    have hk : k < xs.length := by omega
    have l3 := lenN_bd (xs.getD k 0)
    have hd : ∀ L : Nat, k + L ≤ xs.length → ∀ ys : List Int, ys.length = L → (∀ i, i < L → xs.getD (k + i) 0 = ys.getD i 0) → (xs.drop k).take L = ys := fun L hL ys hy hi => by
      refine list_ext0 _ _ (by simp; omega) fun i hi' => ?_
      have hi2 : i < L := by omega
      rw [← hi i hi2]
      simp [List.getD_eq_getElem?_getD, hi2]
    refine ⟨k, rfl, hk, ?_⟩
    split at h
    · rename_i hl
      obtain ⟨rfl, rfl⟩ := Prod.mk.inj (Option.some.inj h)
      have hv : ordB (xs.getD k 0) 0 = true := by unfold ordB; rw [if_pos hl]; rfl
      refine ⟨by omega, hv, ?_, rfl⟩
      refine hd _ (by omega) _ (ordN_len hv) fun i hi => ?_
      rw [ordN_at hv i (by omega)]
      obtain rfl : i = 0 := by omega
      rfl
    · split at h
      · rename_i hl
        split at h
        · rename_i hb1
          obtain ⟨rfl, rfl⟩ := Prod.mk.inj (Option.some.inj h)
          have hv : ordB (xs.getD k 0) (xs.getD (k + 1) 0) = true := by unfold ordB; rw [if_neg (by omega), if_pos hl]; exact hb1
          have hbb := byteB_yes hb1
          refine ⟨by omega, hv, ?_, rfl⟩
          refine hd _ (by omega) _ (ordN_len hv) fun i hi => ?_
          rw [ordN_at hv i (by omega)]
          have hi2 : i = 0 ∨ i = 1 := by omega
          rcases hi2 with rfl | rfl
          · rfl
          · show xs.getD (k + 1) 0 = xs.getD (k + 1) 0 % 256
            omega
        · cases h
      · split at h
        · rename_i hb1
          obtain ⟨rfl, rfl⟩ := Prod.mk.inj (Option.some.inj h)
          have hl : lenN (xs.getD k 0) = 3 := by omega
          have hbb := byteB_yes hb1.1
          have hcc := betB_yes hb1.2
          have hv : ordB (xs.getD k 0) (xs.getD (k + 1) 0 + 256 * xs.getD (k + 2) 0) = true := by
            have ha : addrB (xs.getD (k + 1) 0 + 256 * xs.getD (k + 2) 0) = true := by unfold addrB; simp only [Bool.and_eq_true, decide_eq_true_eq]; omega
            unfold ordB; rw [if_neg (by omega), if_neg (by omega), if_pos hl]; exact ha
          refine ⟨by omega, hv, ?_, rfl⟩
          refine hd _ (by omega) _ (ordN_len hv) fun i hi => ?_
          rw [ordN_at hv i (by omega)]
          have hi2 : i = 0 ∨ i = 1 ∨ i = 2 := by omega
          rcases hi2 with rfl | rfl | rfl
          · rfl
          · show xs.getD (k + 1) 0 = (xs.getD (k + 1) 0 + 256 * xs.getD (k + 2) 0) % 256
            omega
          · show xs.getD (k + 2) 0 = (xs.getD (k + 1) 0 + 256 * xs.getD (k + 2) 0) / 256
            omega
        · cases h
  · cases h
theorem dec_short {xs : List Int} {k L : Nat} (hL : 1 ≤ L) (hl : lenN (xs.getD k 0) = L) (hk : k + L ≤ xs.length) : decN (xs.take (k + L - 1)) k = none := by
  have hlen : (xs.take (k + L - 1)).length = k + L - 1 := by simp; omega
  by_cases h1 : L = 1
  · subst h1
    refine dec_out ?_
    rw [hlen]; simp [betB]; omega
  · have hg : (xs.take (k + L - 1)).getD k 0 = xs.getD k 0 := by
      simp only [List.getD_eq_getElem?_getD, List.getElem?_take]
      rw [if_pos (by omega)]
    refine dec_far ?_
    rw [hg, hl, hlen]; omega
theorem mid_ints {w : World} {b o n k L : Nat} {xs : List Int} {fp : List Nat} (h : Ints w (some ⟨b, o, none⟩) n xs fp) (hL : 1 ≤ L) (hk : k + L ≤ n) :
    Ints w (some ⟨b, o + k, none⟩) L ((xs.drop k).take L) [b] := by
  have hl := h.1
  obtain ⟨b', o', he, _, hb, hc⟩ := h.at_ (by omega)
  injection he with he
  injection he with h1 h2 _
  subst h1; subst h2
  refine ⟨by simp; omega, .inr ⟨by omega, b, o + k, rfl, rfl, hb, fun i hi => ?_⟩⟩
  rw [Nat.add_assoc, hc (k + i) (by omega)]
  simp [List.getD_eq_getElem?_getD, hi]
theorem pre_ints {w : World} {A : Option Addr} {n : Nat} {xs : List Int} {fp : List Nat} (h : Ints w A n xs fp) (k : Nat) (hk : k ≤ n) : ∃ fq, Ints w A k (xs.take k) fq := by
  have hl := h.1
  by_cases h0 : k = 0
  · subst h0; exact ⟨[], ⟨by simp, .inl ⟨rfl, rfl⟩⟩⟩
  · obtain ⟨b, o, rfl, rfl, hb, hc⟩ := h.at_ (by omega)
    refine ⟨[b], ⟨by simp; omega, .inr ⟨by omega, b, o, rfl, rfl, hb, fun i hi => ?_⟩⟩⟩
    rw [hc i (by omega)]
    simp only [List.getD_eq_getElem?_getD, List.getElem?_take, if_pos hi]
/-- What drawing bytes and an index leaves. -/
def LstGot (w : World) (e : Ending) (w' : World) : Prop := ∃ (A : Option Addr) (n c : Nat) (xs : List Int) (fp : List Nat) (i : Int), e = .returned (.tuple #[.slice A n c, .int .i64 i]) ∧ n ≤ c ∧ n ≤ 100 ∧ Ints w' A n xs fp ∧ Below w.heap.size w w'
theorem draw_decode (a : Option Addr) (len cap : Nat) (zs : List Int) (w : World) (h : IsRow .u8 w a len cap zs) :
    Calls Tryd.prog 24 #[.slice a len cap] w (LstGot w) := by
  have H := Lib.hid h
  clear h
  go_enter Tryd.func24, Tryd.ntmps24
  go_wp2_with fail
  refine (open_any a len cap zs _ H.out).mono ?_
  rintro e w1 ⟨rfl, b1, r1⟩
  have B1 := Lib.hid b1
  have R1 := Lib.hid r1
  have zq : w.heap.size < w1.heap.size := r1.lt
  clear b1 r1
  go_wp2_with fail
  refine (code_any _ 0 4 _ R1.out (by omega) (by omega) (by omega)).mono ?_
  rintro e w2 ⟨A, n, c, xs, fp, rfl, hc, hn, i2, n2, o2, r2⟩
  have B2 := Lib.hid (B1.out.trans (o2.below (B := w.heap.size) (fun b hb => by simp at hb; omega) B1.out.size))
  have F2 : Hid (∀ b ∈ fp, b ≠ w.heap.size) := fun b hb => by have := (n2.lt b hb).1; omega
  have I2 := Lib.hid i2
  have R2 := Lib.hid r2
  clear i2 n2 o2 r2
  go_wp2_with fail
  have y1 : IntKind.i64.wrap ((n : Int) + 2) = (n : Int) + 2 := IntWalk.i64_in _ (by omega)
  have RD : Hid (Rd w2.drew w.heap.size (0 + 100)) := R2.out.stay (Below.refl _ _).drew
  go_region_with (first
    | (go_at_call 33; ((with_reducible refine (pick_any _ (0 + 100 + 1) 2 _ (R3.out.alloc _) (by omega) (by omega) (by omega)).mono ?_)); rintro e w4 ⟨z, z0, z1, rfl, s4, r4⟩; obtain ⟨u, hu⟩ := pair_lit z 0 (v - 1) z0 z1; have z3 : w.heap.size < w3.heap.size := R3.out.lt; have cu : w4.cell? ⟨w3.heap.size, z.toNat, none⟩ = some (.int .i64 u) := (by rw [World.cell?_of_block (a := ⟨w3.heap.size, z.toNat, none⟩) (w := w3.alloc (.cells #[.int .i64 0, .int .i64 (v - 1)] 3)) (s4.block w3.heap.size (by simp) (by omega)), World.cell?_alloc_new]; exact hu); have O4 : Hid (Only [w.heap.size] w2.drew w4) := (O3.out.alloc _).trans s4.only; clear s4 r4 hu)
    | (go_at_call 33; ((with_reducible refine (pick_any _ (0 + 100 + 1) 2 _ R3.out (by omega) (by omega) (by omega)).mono ?_)); rintro e w4 ⟨z, z0, z1, rfl, s4, r4⟩; obtain ⟨u, hu⟩ := pair_lit z 0 (v - 1) z0 z1; have cu : (w4.alloc (.cells #[.int .i64 0, .int .i64 (v - 1)] 3)).cell? ⟨w4.heap.size, z.toNat, none⟩ = some (.int .i64 u) := (by rw [World.cell?_alloc_new]; exact hu); have O4 : Hid (Only [w.heap.size] w2.drew w4) := O3.out.trans s4.only; clear s4 r4 hu)
    | (go_at_call 33; ((with_reducible refine (pick_any _ (0 + 100) _ _ RD.out (by omega) (by omega) (by omega)).mono ?_)); rintro e w3 ⟨v, v0, v1, rfl, s3, r3⟩; have R3 := Lib.hid r3; have O3 := Lib.hid s3.only; have y2 : IntKind.i64.wrap (v - 1) = v - 1 := IntWalk.i64_in _ (by omega); clear s3 r3))
  · go_wp2
    go_ret2
    exact ⟨A, n, c, xs, fp, u, rfl, hc, hn, (ints_drew I2.out).keep (.of_only O4.out (fun b hb => by simpa using F2.out b hb)), B2.out.drew.trans (O4.out.below (B := w.heap.size) (fun b hb => by simp at hb; omega) (by have := B2.out.size; simp; omega))⟩
  · go_wp2
    go_ret2
    exact ⟨A, n, c, xs, fp, u, rfl, hc, hn, ((ints_drew I2.out).keep (.of_only O4.out (fun b hb => by simpa using F2.out b hb))).below (below1 w4 _), (B2.out.drew.trans (O4.out.below (B := w.heap.size) (fun b hb => by simp at hb; omega) (by have := B2.out.size; simp; omega))).alloc (by have := B2.out.size; have := O4.out.size; simp at this; omega) _⟩
set_option maxHeartbeats 4000000 in
theorem walk_FnDecodeOrder (a0 : Option Addr) (len0 cap0 : Nat) (z0 : List Int) (w : World) (w0 : IsRow .u8 w a0 len0 cap0 z0) (ho : Ops w) :
    Calls Tryd.prog 6 #[.slice a0 len0 cap0] w fun e w' => e = .returned (.bool true) ∧ Below w.heap.size w w' := by
  have H := Lib.hid w0
  have HO := Lib.hid ho
  have hl := isRow_len w0
  clear w0 ho
  by_cases hs : len0 ≤ 1048576
  · go_enter Tryd.func6, Tryd.ntmps6
    go_wp2_with fail
    refine (draw_decode _ _ _ _ _ H.out).mono ?_; rintro e w1 ⟨A, n, c, xs, fp, i, rfl, hc, hn, i1, b1⟩
    have B1 := Lib.hid b1
    have I1 := Lib.hid i1
    clear b1 i1
    go_wp2_with fail
    refine (impl_dec _ _ _ _ _ _ _ (HO.out.below B1.out) I1.out (by omega) hc).mono ?_; intro e w2 hd2
    obtain ⟨rfl, b2⟩ := hd2.parts
    have B2 := Lib.hid (below_then B1.out b2)
    have I2 := Lib.hid (I1.out.below b2)
    clear b2 hd2
    have HD := Lib.hid (show decN xs i = decN xs i from rfl)
    generalize hd : decN xs i = d at HD
    have HE := Lib.hid hd
    clear hd HD
    rcases d with _ | ⟨op, arg⟩
    · simp only [dOp, dArg, dLen, dOk]
      go_wp2_with fail
      refine (spec_dec _ _ _ _ _ _ _ (I2.out.below (below1 w2 _)) (by omega)).mono ?_; intro e w3 hd3
      obtain ⟨rfl, b3⟩ := hd3.parts
      rw [HE.out]
      simp only [dOp, dArg, dLen, dOk]
      have B3 : Hid (Below w.heap.size w w3) := below_then (B2.out.alloc B2.out.size _) b3
      have X3 : Hid (Box w3 w2.heap.size 28 [.int .i64 0, .int .i64 0]) := (Box.new w2 _ _).below b3
      have c0 : w3.cell? ⟨w2.heap.size, 0, none⟩ = some (.int .i64 0) := X3.out.cell 0
      have c1 : w3.cell? ⟨w2.heap.size, 1, none⟩ = some (.int .i64 0) := X3.out.cell 1
      have z3 : w2.heap.size < w3.heap.size := X3.out.lt
      clear b3 hd3
      go_wp2_with fail
      refine (alive_any _).mono ?_; rintro e w' ⟨rfl, rfl⟩
      go_wp2_with fail
      go_ret
      exact ⟨rfl, B3.out.alloc B3.out.size _⟩
    · simp only [dOp, dArg, dLen, dOk]
      obtain ⟨k, rfl, hk, hkL, hv, htk, hop⟩ := dec_some HE.out
      have hx1 := I1.out.1
      obtain ⟨v1, _, _, _, _⟩ := ordB_len hv
      have l3 := (lenN_bd op).2
      have HV := Lib.hid hv
      have HT := Lib.hid htk
      have hbd := (ordN_bytes op arg).1
      have HLN := Lib.hid (ordN_len hv)
      generalize hL : lenN op = Li at hkL v1 l3 HT HLN
      obtain ⟨L, rfl⟩ : ∃ L : Nat, Li = L := ⟨Li.toNat, by omega⟩
      have HL := Lib.hid hL
      have HS := Lib.hid (dec_short (xs := xs) (k := k) (L := L) (by omega) (by rw [hop]; exact hL) (by omega))
      rw [Int.toNat_natCast] at HT HLN
      clear hL hv htk hop
      obtain ⟨b, o, rfl, _, hb, _⟩ := I2.out.at_ (by omega)
      have hkn : k + L ≤ n := by omega
      clear hk hkL hx1
      go_wp2_with fail
      refine (spec_dec _ _ _ _ _ _ _ (I2.out.below (below1 w2 _)) (by omega)).mono ?_; intro e w3 hd3
      obtain ⟨rfl, b3⟩ := hd3.parts
      rw [HE.out]
      simp only [dOp, dArg, dLen, dOk]
      rw [HL.out]
      have B3 : Hid (Below w.heap.size w w3) := below_then (B2.out.alloc B2.out.size _) b3
      have X3 : Hid (Box w3 w2.heap.size 28 [.int .i64 op, .int .i64 arg]) := (Box.new w2 _ _).below b3
      have I3 := Lib.hid ((I2.out.below (below1 w2 (.cells #[.int .i64 op, .int .i64 arg] 28))).below b3)
      have c0 : w3.cell? ⟨w2.heap.size, 0, none⟩ = some (.int .i64 op) := X3.out.cell 0
      have c1 : w3.cell? ⟨w2.heap.size, 1, none⟩ = some (.int .i64 arg) := X3.out.cell 1
      have z3 : w2.heap.size < w3.heap.size := X3.out.lt
      clear b3 hd3
      go_wp2_with fail
      have B3a : Hid (Below w.heap.size w (w3.alloc (.cells #[.int .i64 op, .int .i64 arg] 28))) := B3.out.alloc B3.out.size _
      have I3a := Lib.hid (I3.out.below (below1 w3 (.cells #[.int .i64 op, .int .i64 arg] 28)))
      obtain ⟨fq, hpre⟩ := pre_ints I3a.out (k + L - 1) (by omega)
      have HP := Lib.hid hpre
      clear hpre
      refine (impl_dec _ _ _ _ _ _ _ (HO.out.below B3a.out) HP.out (by omega) (by omega)).mono ?_; intro e w4 hd4
      obtain ⟨rfl, b4⟩ := hd4.parts
      rw [HS.out]
      simp only [dOp, dArg, dLen, dOk]
      have B4 := Lib.hid (below_then B3a.out b4)
      have X4 := Lib.hid ((X3.out.alloc (.cells #[.int .i64 op, .int .i64 arg] 28)).below b4)
      have I4 := Lib.hid (I3a.out.below b4)
      clear b4 hd4 c0 c1
      go_wp2_with fail
      obtain ⟨W5, hW5⟩ : ∃ W5, W5 = w4.alloc (.cells #[.int .i64 0, .int .i64 0] 28) := ⟨_, rfl⟩
      rw [← hW5]
      have B5 : Hid (Below w.heap.size w W5) := by rw [hW5]; exact B4.out.alloc B4.out.size _
      have X5 : Hid (Box W5 w2.heap.size 28 [.int .i64 op, .int .i64 arg]) := by rw [hW5]; exact X4.out.alloc _
      have I5 : Hid (Ints W5 (some ⟨b, o, none⟩) n xs fp) := by rw [hW5]; exact I4.out.below (below1 w4 _)
      clear hW5
      have c0 : W5.cell? ⟨w2.heap.size, 0, none⟩ = some (.int .i64 op) := X5.out.cell 0
      have c1 : W5.cell? ⟨w2.heap.size, 1, none⟩ = some (.int .i64 arg) := X5.out.cell 1
      have K5 : Hid (W5.drew.cell? ⟨w2.heap.size, 0, none⟩ = some (.int .i64 op) ∧ W5.drew.cell? ⟨w2.heap.size, 1, none⟩ = some (.int .i64 arg)) := ⟨c0, c1⟩
      have hkc : k < c := by omega
      have hkL2 : k + L ≤ c := by omega
      have y1 : IntKind.i64.wrap ((k : Int) + (L : Int)) = (k : Int) + (L : Int) := IntWalk.i64_in _ (by omega)
      have y2 : ((k : Int) + (L : Int)).toNat = k + L := by omega
      have y3 : (0 : Int) ≤ (k : Int) + (L : Int) := by omega
      have y4 : (k : Int) ≤ (k : Int) + (L : Int) := by omega
      have y5 : (k : Int) + (L : Int) ≤ (c : Int) := by omega
      go_region_held3 (fun w' => w'.cell? ⟨w2.heap.size, 0, none⟩ = some (.int .i64 op) ∧ w'.cell? ⟨w2.heap.size, 1, none⟩ = some (.int .i64 arg))
        (first
          | (with_reducible exact K5.out)
          | (with_reducible exact K6.out)
          | (with_reducible exact K7.out)
          | (with_reducible exact K8.out)
          | go_keep)
        (first
          | (go_at_call 17; ((with_reducible refine (impl_ordValid _ _ _ (HO.out.below B5.out.drew)).mono ?_)); rintro e w6 ⟨rfl, b6⟩; rw [HV.out]; have X6 : Hid (Box w6 w2.heap.size 28 [.int .i64 op, .int .i64 arg]) := (show Box W5.drew _ _ _ from X5.out).below b6; have K6 : Hid (w6.cell? ⟨w2.heap.size, 0, none⟩ = some (.int .i64 op) ∧ w6.cell? ⟨w2.heap.size, 1, none⟩ = some (.int .i64 arg)) := ⟨X6.out.cell 0, X6.out.cell 1⟩; have B6 := Lib.hid (below_then B5.out.drew b6); have I6 := Lib.hid ((ints_drew I5.out).below b6); clear b6)
          | (go_at_call 20; ((with_reducible refine (impl_ordBytes _ _ _ (HO.out.below B6.out)).mono ?_)); rintro e w7 ⟨RA, rc, rfp, rfl, hrc, ri, rn, b7⟩; rw [HLN.out] at ri ⊢; have X7 : Hid (Box w7 w2.heap.size 28 [.int .i64 op, .int .i64 arg]) := X6.out.below b7; have K7 : Hid (w7.cell? ⟨w2.heap.size, 0, none⟩ = some (.int .i64 op) ∧ w7.cell? ⟨w2.heap.size, 1, none⟩ = some (.int .i64 arg)) := ⟨X7.out.cell 0, X7.out.cell 1⟩; have B7 := Lib.hid (below_then B6.out b7); have I7 := Lib.hid (mid_ints (k := k) (L := L) (I6.out.below b7) (by omega) (by omega)); have R7 := Lib.hid ri; rw [HT.out] at I7; clear b7 ri rn)
          | (go_at_call 21; ((with_reducible refine (same_ints _ _ _ _ _ _ _ _ _ R7.out I7.out (by omega)).mono ?_)); rintro e w8 ⟨rfl, m8, rfl⟩; have K8 : Hid ((w7.drewN m8).cell? ⟨w2.heap.size, 0, none⟩ = some (.int .i64 op) ∧ (w7.drewN m8).cell? ⟨w2.heap.size, 1, none⟩ = some (.int .i64 arg)) := K7.out))
      all_goals
        go_wp2_with fail
        go_ret
        exact ⟨rfl, below_drewN B7.out m8⟩
  · go_enter Tryd.func6, Tryd.ntmps6
    go_wp2_with fail
    go_ret
    exact ⟨rfl, Below.refl _ _⟩
end Go.Proofs.YthndghhnpnaonaaDoor
