/- The drawn law FnMixVoices, walked. -/
import Derived.Test.YtfbpnneegenhgaaVocX
import Derived.Test.YtfbpnneegenhgaaVocF
import Derived.Test.YtfbpnneegenhgaaVocG
import Derived.Test.YtfbpnneegenhgaaGA
import Derived.Test.YtfbpnneegenhgaaVocI
namespace Go.Proofs.Ytfbpnneegenhgaa
open Go.ChangeShapes Go.WideShapes Go.ChangeAt Go.RowKit
set_option linter.unusedVariables false

/-- A value that is a slice of given numbers. -/
def TInV (N : Nat) (X : List Int) (v : Value) (w : World) : Prop := ∃ (A : Option Addr) (c : Nat) (fp : List Nat), v = .slice A N c ∧ Ints w A N X fp
theorem stabB_inV (N : Nat) (X : List Int) : Stab RlB (TInV N X) := fun _ w w' (hR : Below w.heap.size w w') ⟨A, c, fp, e, h⟩ => ⟨A, c, fp, e, h.below hR⟩
section
variable {ops : Array Oper} {Q : Exit → Act → World → Prop} {T : Nat → Value → World → Prop} {a0 : Act} {w0 : World} {i : Nat} {o : Oper}
theorem lb_makeV (x y : Operand) (N : Nat) (hN : N ≤ 1000000) (hop : o.op = .makeSlice 31 x y) (hw : ∀ (ρ : Operand → Value) w, PreR ops T ρ w o.after.toList → wantV ops (slotR ρ) o = true)
    (h : ∀ (ρ : Operand → Value) w, PreR ops T ρ w o.after.toList → ρ x = .int .i64 (N : Int) ∧ ρ y = .int .i64 (N : Int)) (hT : ∀ v w, TInV N (List.replicate N 0) v w → T i (dstV o v) w) : Ob Try.prog ops Q (ClB w0) RlB T a0 i o :=
  lb_gen hw fun ρ w hb hc _ hx hp => by
    obtain ⟨h1, h2⟩ := h ρ w hp
    have e : (execOp ρ o).run Try.prog w = .ok (.value (.slice (some ⟨w.heap.size, 0, none⟩) N N)) (w.alloc (.cells (iv (List.replicate N 0)).toArray 3)) := by
      have hm := run_make_ints N hN w
      unfold execOp
      rw [hop]
      simp only [h1, h2, Sem.run_bind, hm, Result.andThen_ok]
      rfl
    rw [e, UponT_value]
    have X : Box (w.alloc (.cells (iv (List.replicate N 0)).toArray 3)) w.heap.size 3 (iv (List.replicate N 0)) := Box.new _ _ _
    obtain ⟨A, c, fp, he, _, hi, _⟩ := copied_boxV (w := w) (n := N) X (by simp) (Nat.le_refl _) (below1 w _)
    injection he with he
    exact ⟨below1 w _, hT _ _ ⟨A, c, fp, he, hi⟩⟩
end
theorem ints_cell {w : World} {p o n : Nat} {X : List Int} {fp : List Nat} (h : Ints w (some ⟨p, o, none⟩) n X fp) {k : Nat} (hk : k < n) : w.cell? ⟨p, o + k, none⟩ = some (.int .i64 (X.getD k 0)) := by
  obtain ⟨p', o', he, _, _, hc⟩ := h.at_ (by omega)
  injection he with he
  injection he with e1 e2 _
  subst e1 e2
  exact hc k hk
set_option maxRecDepth 100000 in
set_option maxHeartbeats 1000000 in
theorem walk_FnMixVoices (a0 : Option Addr) (len0 cap0 : Nat) (z0 : List Int) (w : World) (w0 : IsRow .u8 w a0 len0 cap0 z0) :
    Calls Try.prog 6 #[.slice a0 len0 cap0] w fun e w' => e = .returned (.bool true) ∧ Below w.heap.size w w' := by
  have H := Lib.hid w0
  have hl := isRow_len w0
  clear w0
  by_cases hs : len0 ≤ 1048576
  · go_enter Try.func6, Try.ntmps6
    go_wp2_with fail
    refine (draw_MixVoices _ _ _ _ _ H.out).mono ?_; rintro e w1 ⟨A, m, c, L, fp, n, rfl, hm5, hmc, hn, hi, hb⟩
    have B1 := Lib.hid hb
    have I1 := Lib.hid hi
    have HLL : Hid (L.length = 5 * m) := Lib.hid hi.1
    clear hb hi
    obtain ⟨X, hX⟩ : ∃ X, mixT L m n = X := ⟨_, rfl⟩
    have HX := Lib.hid hX
    have hX4 : X.length ≤ 400 := by rw [← hX]; exact mixT_le L m n
    clear hX
    go_wp2_with fail
    refine (im_mix A m c L fp n _ I1.out (by omega)).mono ?_; rw [HX.out]; rintro e w2 ⟨Ag, cg, fg, rfl, hcg, ig, ng, bl⟩
    have I2 := Lib.hid (I1.out.below bl)
    have B2 := Lib.hid (below_then B1.out bl)
    have G2 := Lib.hid ig
    clear bl I1 B1 ig ng
    go_wp2_with fail
    refine (spec_mix A m c L fp n _ I2.out (by omega)).mono ?_; rw [HX.out]; rintro e w3 ⟨As, cs, fs, rfl, hcs, is, ns, bl⟩
    have I3 := Lib.hid (I2.out.below bl)
    have B3 := Lib.hid (below_then B2.out bl)
    have G3 := Lib.hid (G2.out.below bl)
    have S3 := Lib.hid is
    clear bl I2 B2 G2 is ns
    go_wp2_with fail
    refine (same_ints Ag As X.length cg cs X fg fs _ G3.out S3.out (by omega)).mono ?_; rintro e w4 ⟨rfl, q4, hq4⟩
    have bl : Below w3.heap.size w3 w4 := by rw [hq4]; exact below_drewN (Below.refl _ _) _
    have I4 := Lib.hid (I3.out.below bl)
    have B4 := Lib.hid (below_then B3.out bl)
    have G4 := Lib.hid (G3.out.below bl)
    clear bl hq4 I3 B3 G3 S3
    by_cases hx0 : X.length = 0
    · have hxb : ((X.length : Int) == 0) = true := by rw [hx0]; rfl
      rw [hx0]
      go_wp2_with fail
      refine (alive_any _).mono ?_; rintro e w' ⟨rfl, rfl⟩
      go_wp2_with fail
      go_ret
      exact ⟨rfl, B4.out⟩
    have hmb : mixB L m n = true := by
      cases hp : mixB L m n
      · exact absurd (by rw [← HX.out, mixT_no hp]; rfl) hx0
      · rfl
    have hpp := hmb
    unfold mixB at hpp
    simp only [Bool.and_eq_true, decide_eq_true_eq, betQ_iff] at hpp
    obtain ⟨⟨hm4, hn0, hn4⟩, hvs⟩ := hpp
    obtain ⟨N, rfl⟩ := Int.eq_ofNat_of_zero_le hn0
    have hXm : X = mixS L N m := by rw [← HX.out, mixT_yes hmb, Int.toNat_natCast]
    subst hXm
    rw [mixS_len] at hx0
    have G5 : Hid (Ints w4 Ag N (mixS L N m) fg) := Lib.hid (by have h := G4.out; rwa [mixS_len] at h)
    rw [mixS_len]
    have N4 : N ≤ 400 := by omega
    have HMB := Lib.hid hmb
    have HVS := Lib.hid hvs
    clear hmb hvs hn hn0 hn4 hX4 G4 HX
    have hN0 : (N : Int) ≠ 0 := by omega
    have hNb : ((N : Int) == 0) = false := by simpa using hN0
    obtain ⟨q, hq⟩ : ∃ q, m / 2 = q := ⟨_, rfl⟩
    have hqt : (m : Int).tdiv 2 = (q : Int) := by rw [Int.tdiv_eq_ediv_of_nonneg (by omega)]; omega
    have hqm : q ≤ m := by omega
    have HQ2 : Hid (0 < m → q < m) := Lib.hid fun h => by omega
    clear hq
    have hqc : (q : Int) ≤ c := by omega
    have hqm' : (q : Int) ≤ m := by omega
    have hq0 : 0 ≤ (q : Int) := by omega
    obtain ⟨hB1, hB2⟩ := mix_halves HMB.out hqm
    have HT1 : Hid (mixT (L.take (5 * q)) q (N : Int) = mixS (L.take (5 * q)) N q) := Lib.hid (by rw [mixT_yes hB1, Int.toNat_natCast])
    have HT2 : Hid (mixT (L.drop (5 * q)) (m - q) (N : Int) = mixS (L.drop (5 * q)) N (m - q)) := Lib.hid (by rw [mixT_yes hB2, Int.toNat_natCast])
    have HT3 : Hid (mixT [] 0 (N : Int) = List.replicate N 0) := Lib.hid (by
      rw [mixT_yes (by unfold mixB; rw [betQ_iff.2 ⟨by omega, by omega⟩]; rfl), Int.toNat_natCast, mixS_zero])
    have HSM : Hid (∀ j, mixAt L j m = mixAt (L.take (5 * q)) j q + mixAt (L.drop (5 * q)) j (m - q)) := Lib.hid fun j => mix_sum hqm j
    have HBD : Hid (∀ j, 0 ≤ mixAt L j m ∧ mixAt L j m ≤ 15 * m) := Lib.hid fun j => mixAt_b HVS.out j m (Nat.le_refl _)
    obtain ⟨f1, hf1⟩ := ints_take5 I4.out hqm
    have T4 := Lib.hid hf1
    have HDR : Hid (0 < m → ∃ p o fd, A = some ⟨p, o, none⟩ ∧ Ints w4 (some ⟨p, o + q * 5, none⟩) (5 * (m - q)) (L.drop (5 * q)) fd) := Lib.hid fun h => by
      obtain ⟨p, o, rfl, _, _, _⟩ := I4.out.at_ (show 0 < 5 * m by omega)
      obtain ⟨fd, hd⟩ := ints_drop5 I4.out (HQ2.out h)
      exact ⟨p, o, fd, rfl, hd⟩
    clear hf1 hB1 hB2 HMB HVS
    go_wp2_with fail
    refine (im_mix A q c (L.take (5 * q)) f1 (N : Int) _ T4.out (by omega)).mono ?_; rw [HT1.out, mixS_len]; rintro e w5 ⟨Aa, ca, fa, rfl, hca, ia, na, bl⟩
    have HDS : Hid (0 < m → ∃ p o fd, A = some ⟨p, o, none⟩ ∧ Ints w5 (some ⟨p, o + q * 5, none⟩) (5 * (m - q)) (L.drop (5 * q)) fd) := Lib.hid fun h => by
      obtain ⟨p, o, fd, h1, h2⟩ := HDR.out h
      exact ⟨p, o, fd, h1, h2.below bl⟩
    have B5 := Lib.hid (below_then B4.out bl)
    have G6 := Lib.hid (G5.out.below bl)
    have A5 := Lib.hid ia
    clear bl B4 G5 I4 T4 HDR ia na
    by_cases hm0 : 0 < m
    · obtain ⟨p, o, fd, rfl, hd⟩ := HDS.out hm0
      have D5 := Lib.hid hd
      clear hd HDS
      have hmq : m - q ≤ 5 := by omega
      have hcq : ¬ c = q := by have := HQ2.out hm0; omega
      have hcq2 : ¬ (c : Int) = q := by omega
      go_wp2_with fail
      refine (im_mix (some ⟨p, o + q * 5, none⟩) (m - q) _ (L.drop (5 * q)) fd (N : Int) _ D5.out (by omega)).mono ?_; rw [HT2.out, mixS_len]; rintro e w6 ⟨Ab, cb, fb, rfl, hcb, ib, nb, bl⟩
      clear D5
      have G7 := Lib.hid (G6.out.below bl)
      have A7 := Lib.hid (A5.out.below bl)
      have B7 := Lib.hid (below_then B5.out bl)
      have Z7 := Lib.hid ib
      clear bl G6 A5 B5 ib nb
      obtain ⟨pg, og, rfl, _, _, hcz⟩ := G7.out.at_ (by omega)
      clear hcz
      obtain ⟨pa, oa, rfl, _, _, hcz⟩ := A7.out.at_ (by omega)
      clear hcz
      obtain ⟨pb, ob, rfl, _, _, hcz⟩ := Z7.out.at_ (by omega)
      clear hcz
      go_wp2_with fail
      go_loopw [9] (fun i wr => ∃ k : Nat, k ≤ N ∧ i = .int .i64 k ∧ Below w6.heap.size w6 wr) (fun i _ => N - (intOf i).toNat)
      case atStart => exact ⟨0, by omega, rfl, Below.refl _ _⟩
      case round =>
        obtain ⟨k, hk, rfl, hbr⟩ := hrel
        have BR := Lib.hid hbr
        clear hbr
        by_cases hkm : k < N
        · have hkm' : (k : Int) < (N : Int) := by omega
          have HC1 : Hid (∀ wx, Below wr.heap.size wr wx → wx.cell? ⟨pg, og + k, none⟩ = some (.int .i64 (mixAt L k m))) := Lib.hid fun wx hb => by
            rw [ints_cell (G7.out.below (below_then BR.out hb)) hkm, mixS_at _ _ _ _ hkm]
          have HC2 : Hid (∀ wx, Below wr.heap.size wr wx → wx.cell? ⟨pa, oa + k, none⟩ = some (.int .i64 (mixAt (L.take (5 * q)) k q))) := Lib.hid fun wx hb => by
            rw [ints_cell (A7.out.below (below_then BR.out hb)) hkm, mixS_at _ _ _ _ hkm]
          have HC3 : Hid (∀ wx, Below wr.heap.size wr wx → wx.cell? ⟨pb, ob + k, none⟩ = some (.int .i64 (mixAt (L.drop (5 * q)) k (m - q)))) := Lib.hid fun wx hb => by
            rw [ints_cell (Z7.out.below (below_then BR.out hb)) hkm, mixS_at _ _ _ _ hkm]
          have hsum := HSM.out k
          have hbd := HBD.out k
          have HKM := Lib.hid hkm'
          generalize mixAt L k m = sx at HC1 hsum hbd
          generalize mixAt (L.take (5 * q)) k q = sy at HC2 hsum
          generalize mixAt (L.drop (5 * q)) k (m - q) = sz at HC3 hsum
          have HW1 := Lib.hid (wrapV (sy + sz) (by omega) (by omega))
          have HW2 := Lib.hid (wrapV (15 * (m : Int)) (by omega) (by omega))
          have HGT : Hid (¬ (15 * (m : Int) < sx)) := Lib.hid (by omega)
          have HEQ : Hid (sx = sy + sz) := Lib.hid hsum
          have HLE : Hid (sx ≤ 15 * (m : Int)) := Lib.hid (by omega)
          clear hsum hbd
          go_upto_region 15 with (fail)
          refine wp_region_typed (ClB wr) RlB (Ty [TV (.slice (some ⟨pg, og, none⟩) N cg), TV (.int .i64 (k : Int)), TV (.pointer (some ⟨pg, og + k, none⟩)), TV (.int .i64 sx), TV (.slice (some ⟨pa, oa, none⟩) N ca), TV (.int .i64 (k : Int)), TV (.pointer (some ⟨pa, oa + k, none⟩)), TV (.int .i64 sy), TV (.slice (some ⟨pb, ob, none⟩) N cb), TV (.int .i64 (k : Int)), TV (.pointer (some ⟨pb, ob + k, none⟩)), TV (.int .i64 sz), TV (.int .i64 (sy + sz)), TV (.bool false), TV (.bool false), TV (.slice (some ⟨pg, og, none⟩) N cg), TV (.int .i64 (k : Int)), TV (.pointer (some ⟨pg, og + k, none⟩)), TV (.int .i64 sx), TV (.slice (some ⟨p, o, none⟩) m c), TV (.int .i64 (m : Int)), TV (.int .i64 (15 * (m : Int))), TV (.bool false), TV (.bool false)])
            (by kernel_rfl) (by kernel_rfl) (stab_ty _ ⟨stabB_k _, stabB_k _, stabB_k _, stabB_k _, stabB_k _, stabB_k _, stabB_k _, stabB_k _, stabB_k _, stabB_k _, stabB_k _, stabB_k _, stabB_k _, stabB_k _, stabB_k _, stabB_k _, stabB_k _, stabB_k _, stabB_k _, stabB_k _, stabB_k _, stabB_k _, stabB_k _, stabB_k _, trivial⟩) (Below.refl _ _).drew ?_ ?_
          · refine ⟨?_, ?_, ?_, ?_, ?_, ?_, ?_, ?_, ?_, ?_, ?_, ?_, ?_, ?_, ?_, ?_, ?_, ?_, ?_, ?_, ?_, ?_, ?_, ?_, trivial⟩
            · exact lb_move (.tmp 5) (.inl rfl) (fun _ _ _ => want_none rfl) fun ρ wx hc hx hp => hx 5 rfl
            · exact lb_move (.tmp 9) (.inl rfl) (fun _ _ _ => want_none rfl) fun ρ wx hc hx hp => hx 9 rfl
            · refine lb_val (.pointer (some ⟨pg, og + k, none⟩)) (fun _ _ _ => want_none rfl) fun ρ wx hb hc hx hp => ⟨?_, rfl⟩
              have h49 : ρ (.tmp 49) = .slice (some ⟨pg, og, none⟩) N cg := hp.1 rfl
              have h50 : ρ (.tmp 50) = .int .i64 (k : Int) := hp.2.1 rfl
              have g1 := HKM.out
              unfold execOp
              simp only [h49, h50]
              clear h49 h50 hx hp hc hb
              go_simp
            · refine lb_val (.int .i64 sx) (fun _ _ _ => want_none rfl) fun ρ wx hb hc hx hp => ⟨?_, rfl⟩
              have h51 : ρ (.tmp 51) = .pointer (some ⟨pg, og + k, none⟩) := hp.1 rfl
              have cc := HC1.out wx hb
              unfold execOp
              simp only [h51]
              clear h51 hx hp hc hb
              go_simp
            · exact lb_move (.tmp 7) (.inl rfl) (fun _ _ _ => want_none rfl) fun ρ wx hc hx hp => hx 7 rfl
            · exact lb_move (.tmp 9) (.inl rfl) (fun _ _ _ => want_none rfl) fun ρ wx hc hx hp => hx 9 rfl
            · refine lb_val (.pointer (some ⟨pa, oa + k, none⟩)) (fun _ _ _ => want_none rfl) fun ρ wx hb hc hx hp => ⟨?_, rfl⟩
              have h53 : ρ (.tmp 53) = .slice (some ⟨pa, oa, none⟩) N ca := hp.1 rfl
              have h54 : ρ (.tmp 54) = .int .i64 (k : Int) := hp.2.1 rfl
              have g1 := HKM.out
              unfold execOp
              simp only [h53, h54]
              clear h53 h54 hx hp hc hb
              go_simp
            · refine lb_val (.int .i64 sy) (fun _ _ _ => want_none rfl) fun ρ wx hb hc hx hp => ⟨?_, rfl⟩
              have h55 : ρ (.tmp 55) = .pointer (some ⟨pa, oa + k, none⟩) := hp.1 rfl
              have cc := HC2.out wx hb
              unfold execOp
              simp only [h55]
              clear h55 hx hp hc hb
              go_simp
            · exact lb_move (.tmp 8) (.inl rfl) (fun _ _ _ => want_none rfl) fun ρ wx hc hx hp => hx 8 rfl
            · exact lb_move (.tmp 9) (.inl rfl) (fun _ _ _ => want_none rfl) fun ρ wx hc hx hp => hx 9 rfl
            · refine lb_val (.pointer (some ⟨pb, ob + k, none⟩)) (fun _ _ _ => want_none rfl) fun ρ wx hb hc hx hp => ⟨?_, rfl⟩
              have h57 : ρ (.tmp 57) = .slice (some ⟨pb, ob, none⟩) N cb := hp.1 rfl
              have h58 : ρ (.tmp 58) = .int .i64 (k : Int) := hp.2.1 rfl
              have g1 := HKM.out
              unfold execOp
              simp only [h57, h58]
              clear h57 h58 hx hp hc hb
              go_simp
            · refine lb_val (.int .i64 sz) (fun _ _ _ => want_none rfl) fun ρ wx hb hc hx hp => ⟨?_, rfl⟩
              have h59 : ρ (.tmp 59) = .pointer (some ⟨pb, ob + k, none⟩) := hp.1 rfl
              have cc := HC3.out wx hb
              unfold execOp
              simp only [h59]
              clear h59 hx hp hc hb
              go_simp
            · refine lb_val (.int .i64 (sy + sz)) (fun _ _ _ => want_none rfl) fun ρ wx hb hc hx hp => ⟨?_, rfl⟩
              have h56 : ρ (.tmp 56) = .int .i64 sy := hp.1 rfl
              have h60 : ρ (.tmp 60) = .int .i64 sz := hp.2.1 rfl
              have g1 := HW1.out
              unfold execOp
              simp only [h56, h60]
              clear h56 h60 hx hp hc hb
              go_simp
            · refine lb_val (.bool false) (fun _ _ _ => want_none rfl) fun ρ wx hb hc hx hp => ⟨?_, rfl⟩
              have h52 : ρ (.tmp 52) = .int .i64 sx := hp.1 rfl
              have h61 : ρ (.tmp 61) = .int .i64 (sy + sz) := hp.2.1 rfl
              have g1 := HEQ.out
              unfold execOp
              simp only [h52, h61]
              clear h52 h61 hx hp hc hb
              go_simp
            · exact lb_move (.tmp 62) (.inl rfl) (fun _ _ _ => want_none rfl) fun ρ wx hc hx hp => hp.1 rfl
            · exact lb_move (.tmp 5) (.inl rfl) (fun ρ wx hp => want_of 14 false 63 rfl rfl (hp.1 rfl)) fun ρ wx hc hx hp => hx 5 rfl
            · exact lb_move (.tmp 9) (.inl rfl) (fun ρ wx hp => want_of 14 false 63 rfl rfl (hp.1 rfl)) fun ρ wx hc hx hp => hx 9 rfl
            · refine lb_val (.pointer (some ⟨pg, og + k, none⟩)) (fun ρ wx hp => want_of 14 false 63 rfl rfl (hp.2.2.1 rfl)) fun ρ wx hb hc hx hp => ⟨?_, rfl⟩
              have h64 : ρ (.tmp 64) = .slice (some ⟨pg, og, none⟩) N cg := hp.1 rfl
              have h65 : ρ (.tmp 65) = .int .i64 (k : Int) := hp.2.1 rfl
              have g1 := HKM.out
              unfold execOp
              simp only [h64, h65]
              clear h64 h65 hx hp hc hb
              go_simp
            · refine lb_val (.int .i64 sx) (fun ρ wx hp => want_of 14 false 63 rfl rfl (hp.2.1 rfl)) fun ρ wx hb hc hx hp => ⟨?_, rfl⟩
              have h66 : ρ (.tmp 66) = .pointer (some ⟨pg, og + k, none⟩) := hp.1 rfl
              have cc := HC1.out wx hb
              unfold execOp
              simp only [h66]
              clear h66 hx hp hc hb
              go_simp
            · exact lb_move (.tmp 3) (.inl rfl) (fun ρ wx hp => want_of 14 false 63 rfl rfl (hp.1 rfl)) fun ρ wx hc hx hp => hx 3 rfl
            · refine lb_val (.int .i64 (m : Int)) (fun ρ wx hp => want_of 14 false 63 rfl rfl (hp.2.1 rfl)) fun ρ wx hb hc hx hp => ⟨?_, rfl⟩
              have h68 : ρ (.tmp 68) = .slice (some ⟨p, o, none⟩) m c := hp.1 rfl
              unfold execOp
              clear hx hp hc hb
              go_simp
            · refine lb_val (.int .i64 (15 * (m : Int))) (fun ρ wx hp => want_of 14 false 63 rfl rfl (hp.2.1 rfl)) fun ρ wx hb hc hx hp => ⟨?_, rfl⟩
              have h69 : ρ (.tmp 69) = .int .i64 (m : Int) := hp.1 rfl
              have hk0 := hc (.int .i64 15)
              have g1 := HW2.out
              have g2 := wrapV 0 (by omega) (by omega)
              unfold execOp
              simp only [h69, hk0]
              clear h69 hk0 hx hp hc hb
              go_simp
            · refine lb_val (.bool false) (fun ρ wx hp => want_of 14 false 63 rfl rfl (hp.2.2.1 rfl)) fun ρ wx hb hc hx hp => ⟨?_, rfl⟩
              have h67 : ρ (.tmp 67) = .int .i64 sx := hp.1 rfl
              have h70 : ρ (.tmp 70) = .int .i64 (15 * (m : Int)) := hp.2.1 rfl
              have g1 := decide_eq_false HGT.out
              have g2 := HLE.out
              unfold execOp
              simp only [h67, h70]
              clear h67 h70 hx hp hc hb
              go_simp
            · exact lb_pick (.tmp 63) (.const (.bool true)) (.tmp 71) rfl false (fun _ _ _ => want_none rfl) fun ρ wx hc hp => ⟨hp.1 rfl, hp.2.1 rfl⟩
          intro vs wx hI hF
          obtain ⟨-, -, -, -, -, -, -, -, -, -, -, -, -, -, -, -, -, -, -, -, -, -, -, h23, -⟩ := hF
          replace h23 : vs 23 = .bool false := h23
          have bl : Below wr.heap.size wr wx := hI
          simp only [putAll, Act.put, List.setIfInBounds_toArray, List.set_cons_zero, List.set_cons_succ, h23]
          clear hI h23
          have BX := Lib.hid (below_then BR.out bl)
          clear bl
          go_wp2_with fail
          go_roundw
          case rel => exact ⟨k + 1, by omega, by go_num, BX.out⟩
          case measure => simp [intOf]; omega
        · obtain rfl : k = N := by omega
          have G9 := Lib.hid (G7.out.below BR.out)
          have B9 := Lib.hid (below_then B7.out BR.out)
          clear G7 B7 BR
          go_upto_region 17 with (fail)
          refine wp_region_typed (ClB wr) RlB (Ty [TV (.int .i64 (k : Int)), TInV k (List.replicate k 0), TV (.int .i64 (k : Int)), TInV k (List.replicate k 0), TV (.bool true), TV (.bool true), TV (.slice (some ⟨pg, og, none⟩) k cg), TV (.int .i64 (k : Int)), TV (.int .i64 (k : Int)), TV (.bool true), TV (.bool true), TV (.bool true)])
            (by kernel_rfl) (by kernel_rfl) (stab_ty _ ⟨stabB_k _, stabB_inV _ _, stabB_k _, stabB_inV _ _, stabB_k _, stabB_k _, stabB_k _, stabB_k _, stabB_k _, stabB_k _, stabB_k _, stabB_k _, trivial⟩) (Below.refl _ _).drew ?_ ?_
          · refine ⟨?_, ?_, ?_, ?_, ?_, ?_, ?_, ?_, ?_, ?_, ?_, ?_, trivial⟩
            · exact lb_move (.tmp 4) (.inl rfl) (fun _ _ _ => want_none rfl) fun ρ wx hc hx hp => hx 4 rfl
            · refine lb_call _ _ _ (fun _ _ => by simp [go_sem]) rfl (fun _ _ _ => want_none rfl) fun ρ wx hb hc hp => ?_
              have h0 : ρ (.tmp 73) = .int .i64 (k : Int) := hp.1 rfl
              have h1 := hc (.slice none 0 0)
              refine ⟨#[.slice none 0 0, .int .i64 (k : Int)], by simp only [List.map_toArray, List.map_cons, List.map_nil, h0, h1], (im_mix none 0 0 [] [] (k : Int) wx (Ints.nil _ _) (by omega)).mono ?_⟩
              rw [HT3.out, List.length_replicate]
              rintro e w' ⟨A', c', f', rfl, _, hi', _, hb'⟩
              exact ⟨_, rfl, hb', A', c', f', rfl, hi'⟩
            · exact lb_move (.tmp 4) (.inl rfl) (fun _ _ _ => want_none rfl) fun ρ wx hc hx hp => hx 4 rfl
            · exact lb_makeV (.tmp 75) (.tmp 75) k (by omega) rfl (fun _ _ _ => want_none rfl) (fun ρ wx hp => ⟨hp.1 rfl, hp.1 rfl⟩) (fun _ _ h => h)
            · refine lb_call _ _ _ (fun _ _ => by simp [go_sem]) rfl (fun _ _ _ => want_none rfl) fun ρ wx hb hc hp => ?_
              obtain ⟨A', c', f', h0, hi'⟩ : TInV k (List.replicate k 0) (ρ (.tmp 74)) wx := hp.1 rfl
              obtain ⟨A2, c2, f2, h1, hi2⟩ : TInV k (List.replicate k 0) (ρ (.tmp 76)) wx := hp.2.1 rfl
              refine ⟨#[.slice A' k c', .slice A2 k c2], by simp only [List.map_toArray, List.map_cons, List.map_nil, h0, h1], (same_ints A' A2 k c' c2 _ f' f2 wx hi' hi2 (by omega)).mono ?_⟩
              rintro e w' ⟨rfl, q', rfl⟩
              exact ⟨_, rfl, below_drewN (Below.refl _ _) _, rfl⟩
            · exact lb_move (.tmp 77) (.inl rfl) (fun _ _ _ => want_none rfl) fun ρ wx hc hx hp => hp.1 rfl
            · exact lb_move (.tmp 5) (.inl rfl) (fun ρ wx hp => want_of 5 true 78 rfl rfl (hp.1 rfl)) fun ρ wx hc hx hp => hx 5 rfl
            · refine lb_val (.int .i64 (k : Int)) (fun ρ wx hp => want_of 5 true 78 rfl rfl (hp.2.1 rfl)) fun ρ wx hb hc hx hp => ⟨?_, rfl⟩
              have h79 : ρ (.tmp 79) = .slice (some ⟨pg, og, none⟩) k cg := hp.1 rfl
              unfold execOp
              clear hx hp hc hb
              go_simp
            · exact lb_move (.tmp 4) (.inl rfl) (fun ρ wx hp => want_of 5 true 78 rfl rfl (hp.1 rfl)) fun ρ wx hc hx hp => hx 4 rfl
            · refine lb_val (.bool true) (fun ρ wx hp => want_of 5 true 78 rfl rfl (hp.2.2.1 rfl)) fun ρ wx hb hc hx hp => ⟨?_, rfl⟩
              have h80 : ρ (.tmp 80) = .int .i64 (k : Int) := hp.1 rfl
              have h81 : ρ (.tmp 81) = .int .i64 (k : Int) := hp.2.1 rfl
              unfold execOp
              simp only [h80, h81]
              clear h80 h81 hx hp hc hb
              go_simp
            · exact lb_pick (.tmp 78) (.tmp 82) (.const (.bool false)) rfl true (fun _ _ _ => want_none rfl) fun ρ wx hc hp => ⟨hp.1 rfl, hp.2.1 rfl⟩
            · exact lb_move (.tmp 83) (.inr rfl) (fun _ _ _ => want_none rfl) fun ρ wx hc hx hp => hp.1 rfl
          intro vs wx hI hF
          obtain ⟨-, -, -, -, -, -, -, -, -, -, -, h11, -⟩ := hF
          replace h11 : vs 11 = .bool true := h11
          have bl : Below wr.heap.size wr wx := hI
          simp only [putAll, Act.put, List.setIfInBounds_toArray, List.set_cons_zero, List.set_cons_succ, h11]
          clear hI h11
          have BX := Lib.hid (below_then B9.out bl)
          clear bl
          go_wp2_with fail
          go_ret
          exact ⟨rfl, BX.out⟩
    · obtain rfl : m = 0 := by omega
      obtain rfl : q = 0 := by omega
      obtain rfl : L = [] := List.eq_nil_of_length_eq_zero (by rw [HLL.out])
      clear HDS
      cases A with
      | none =>
        go_wp2_with fail
        refine (im_mix _ 0 _ [] [] (N : Int) _ (Ints.nil _ _) (by omega)).mono ?_; rw [show mixT [] 0 (N : Int) = mixS (([] : List Int).drop (5 * 0)) N (0 - 0) from HT2.out, mixS_len]; rintro e w6 ⟨Ab, cb, fb, rfl, hcb, ib, nb, bl⟩
        have G7 := Lib.hid (G6.out.below bl)
        have A7 := Lib.hid (A5.out.below bl)
        have B7 := Lib.hid (below_then B5.out bl)
        have Z7 := Lib.hid ib
        clear bl G6 A5 B5 ib nb
        obtain ⟨pg, og, rfl, _, _, hcz⟩ := G7.out.at_ (by omega)
        clear hcz
        obtain ⟨pa, oa, rfl, _, _, hcz⟩ := A7.out.at_ (by omega)
        clear hcz
        obtain ⟨pb, ob, rfl, _, _, hcz⟩ := Z7.out.at_ (by omega)
        clear hcz
        go_wp2_with fail
        go_loopw [9] (fun i wr => ∃ k : Nat, k ≤ N ∧ i = .int .i64 k ∧ Below w6.heap.size w6 wr) (fun i _ => N - (intOf i).toNat)
        case atStart => exact ⟨0, by omega, rfl, Below.refl _ _⟩
        case round =>
          obtain ⟨k, hk, rfl, hbr⟩ := hrel
          have BR := Lib.hid hbr
          clear hbr
          by_cases hkm : k < N
          · have hkm' : (k : Int) < (N : Int) := by omega
            have HC1 : Hid (∀ wx, Below wr.heap.size wr wx → wx.cell? ⟨pg, og + k, none⟩ = some (.int .i64 (mixAt [] k 0))) := Lib.hid fun wx hb => by
              rw [ints_cell (G7.out.below (below_then BR.out hb)) hkm, mixS_at _ _ _ _ hkm]
            have HC2 : Hid (∀ wx, Below wr.heap.size wr wx → wx.cell? ⟨pa, oa + k, none⟩ = some (.int .i64 (mixAt ([].take (5 * 0)) k 0))) := Lib.hid fun wx hb => by
              rw [ints_cell (A7.out.below (below_then BR.out hb)) hkm, mixS_at _ _ _ _ hkm]
            have HC3 : Hid (∀ wx, Below wr.heap.size wr wx → wx.cell? ⟨pb, ob + k, none⟩ = some (.int .i64 (mixAt ([].drop (5 * 0)) k (0 - 0)))) := Lib.hid fun wx hb => by
              rw [ints_cell (Z7.out.below (below_then BR.out hb)) hkm, mixS_at _ _ _ _ hkm]
            have hsum := HSM.out k
            have hbd := HBD.out k
            have HKM := Lib.hid hkm'
            generalize mixAt [] k 0 = sx at HC1 hsum hbd
            generalize mixAt ([].take (5 * 0)) k 0 = sy at HC2 hsum
            generalize mixAt ([].drop (5 * 0)) k (0 - 0) = sz at HC3 hsum
            have HW1 := Lib.hid (wrapV (sy + sz) (by omega) (by omega))
            have HW2 := Lib.hid (wrapV (15 * (0 : Int)) (by omega) (by omega))
            have HGT : Hid (¬ (15 * (0 : Int) < sx)) := Lib.hid (by omega)
            have HEQ : Hid (sx = sy + sz) := Lib.hid hsum
            have HLE : Hid (sx ≤ 0) := Lib.hid (by omega)
            clear hsum hbd
            go_upto_region 15 with (fail)
            refine wp_region_typed (ClB wr) RlB (Ty [TV (.slice (some ⟨pg, og, none⟩) N cg), TV (.int .i64 (k : Int)), TV (.pointer (some ⟨pg, og + k, none⟩)), TV (.int .i64 sx), TV (.slice (some ⟨pa, oa, none⟩) N ca), TV (.int .i64 (k : Int)), TV (.pointer (some ⟨pa, oa + k, none⟩)), TV (.int .i64 sy), TV (.slice (some ⟨pb, ob, none⟩) N cb), TV (.int .i64 (k : Int)), TV (.pointer (some ⟨pb, ob + k, none⟩)), TV (.int .i64 sz), TV (.int .i64 (sy + sz)), TV (.bool false), TV (.bool false), TV (.slice (some ⟨pg, og, none⟩) N cg), TV (.int .i64 (k : Int)), TV (.pointer (some ⟨pg, og + k, none⟩)), TV (.int .i64 sx), TV (.slice none 0 c), TV (.int .i64 (0 : Int)), TV (.int .i64 (15 * (0 : Int))), TV (.bool false), TV (.bool false)])
              (by kernel_rfl) (by kernel_rfl) (stab_ty _ ⟨stabB_k _, stabB_k _, stabB_k _, stabB_k _, stabB_k _, stabB_k _, stabB_k _, stabB_k _, stabB_k _, stabB_k _, stabB_k _, stabB_k _, stabB_k _, stabB_k _, stabB_k _, stabB_k _, stabB_k _, stabB_k _, stabB_k _, stabB_k _, stabB_k _, stabB_k _, stabB_k _, stabB_k _, trivial⟩) (Below.refl _ _).drew ?_ ?_
            · refine ⟨?_, ?_, ?_, ?_, ?_, ?_, ?_, ?_, ?_, ?_, ?_, ?_, ?_, ?_, ?_, ?_, ?_, ?_, ?_, ?_, ?_, ?_, ?_, ?_, trivial⟩
              · exact lb_move (.tmp 5) (.inl rfl) (fun _ _ _ => want_none rfl) fun ρ wx hc hx hp => hx 5 rfl
              · exact lb_move (.tmp 9) (.inl rfl) (fun _ _ _ => want_none rfl) fun ρ wx hc hx hp => hx 9 rfl
              · refine lb_val (.pointer (some ⟨pg, og + k, none⟩)) (fun _ _ _ => want_none rfl) fun ρ wx hb hc hx hp => ⟨?_, rfl⟩
                have h49 : ρ (.tmp 49) = .slice (some ⟨pg, og, none⟩) N cg := hp.1 rfl
                have h50 : ρ (.tmp 50) = .int .i64 (k : Int) := hp.2.1 rfl
                have g1 := HKM.out
                unfold execOp
                simp only [h49, h50]
                clear h49 h50 hx hp hc hb
                go_simp
              · refine lb_val (.int .i64 sx) (fun _ _ _ => want_none rfl) fun ρ wx hb hc hx hp => ⟨?_, rfl⟩
                have h51 : ρ (.tmp 51) = .pointer (some ⟨pg, og + k, none⟩) := hp.1 rfl
                have cc := HC1.out wx hb
                unfold execOp
                simp only [h51]
                clear h51 hx hp hc hb
                go_simp
              · exact lb_move (.tmp 7) (.inl rfl) (fun _ _ _ => want_none rfl) fun ρ wx hc hx hp => hx 7 rfl
              · exact lb_move (.tmp 9) (.inl rfl) (fun _ _ _ => want_none rfl) fun ρ wx hc hx hp => hx 9 rfl
              · refine lb_val (.pointer (some ⟨pa, oa + k, none⟩)) (fun _ _ _ => want_none rfl) fun ρ wx hb hc hx hp => ⟨?_, rfl⟩
                have h53 : ρ (.tmp 53) = .slice (some ⟨pa, oa, none⟩) N ca := hp.1 rfl
                have h54 : ρ (.tmp 54) = .int .i64 (k : Int) := hp.2.1 rfl
                have g1 := HKM.out
                unfold execOp
                simp only [h53, h54]
                clear h53 h54 hx hp hc hb
                go_simp
              · refine lb_val (.int .i64 sy) (fun _ _ _ => want_none rfl) fun ρ wx hb hc hx hp => ⟨?_, rfl⟩
                have h55 : ρ (.tmp 55) = .pointer (some ⟨pa, oa + k, none⟩) := hp.1 rfl
                have cc := HC2.out wx hb
                unfold execOp
                simp only [h55]
                clear h55 hx hp hc hb
                go_simp
              · exact lb_move (.tmp 8) (.inl rfl) (fun _ _ _ => want_none rfl) fun ρ wx hc hx hp => hx 8 rfl
              · exact lb_move (.tmp 9) (.inl rfl) (fun _ _ _ => want_none rfl) fun ρ wx hc hx hp => hx 9 rfl
              · refine lb_val (.pointer (some ⟨pb, ob + k, none⟩)) (fun _ _ _ => want_none rfl) fun ρ wx hb hc hx hp => ⟨?_, rfl⟩
                have h57 : ρ (.tmp 57) = .slice (some ⟨pb, ob, none⟩) N cb := hp.1 rfl
                have h58 : ρ (.tmp 58) = .int .i64 (k : Int) := hp.2.1 rfl
                have g1 := HKM.out
                unfold execOp
                simp only [h57, h58]
                clear h57 h58 hx hp hc hb
                go_simp
              · refine lb_val (.int .i64 sz) (fun _ _ _ => want_none rfl) fun ρ wx hb hc hx hp => ⟨?_, rfl⟩
                have h59 : ρ (.tmp 59) = .pointer (some ⟨pb, ob + k, none⟩) := hp.1 rfl
                have cc := HC3.out wx hb
                unfold execOp
                simp only [h59]
                clear h59 hx hp hc hb
                go_simp
              · refine lb_val (.int .i64 (sy + sz)) (fun _ _ _ => want_none rfl) fun ρ wx hb hc hx hp => ⟨?_, rfl⟩
                have h56 : ρ (.tmp 56) = .int .i64 sy := hp.1 rfl
                have h60 : ρ (.tmp 60) = .int .i64 sz := hp.2.1 rfl
                have g1 := HW1.out
                unfold execOp
                simp only [h56, h60]
                clear h56 h60 hx hp hc hb
                go_simp
              · refine lb_val (.bool false) (fun _ _ _ => want_none rfl) fun ρ wx hb hc hx hp => ⟨?_, rfl⟩
                have h52 : ρ (.tmp 52) = .int .i64 sx := hp.1 rfl
                have h61 : ρ (.tmp 61) = .int .i64 (sy + sz) := hp.2.1 rfl
                have g1 := HEQ.out
                unfold execOp
                simp only [h52, h61]
                clear h52 h61 hx hp hc hb
                go_simp
              · exact lb_move (.tmp 62) (.inl rfl) (fun _ _ _ => want_none rfl) fun ρ wx hc hx hp => hp.1 rfl
              · exact lb_move (.tmp 5) (.inl rfl) (fun ρ wx hp => want_of 14 false 63 rfl rfl (hp.1 rfl)) fun ρ wx hc hx hp => hx 5 rfl
              · exact lb_move (.tmp 9) (.inl rfl) (fun ρ wx hp => want_of 14 false 63 rfl rfl (hp.1 rfl)) fun ρ wx hc hx hp => hx 9 rfl
              · refine lb_val (.pointer (some ⟨pg, og + k, none⟩)) (fun ρ wx hp => want_of 14 false 63 rfl rfl (hp.2.2.1 rfl)) fun ρ wx hb hc hx hp => ⟨?_, rfl⟩
                have h64 : ρ (.tmp 64) = .slice (some ⟨pg, og, none⟩) N cg := hp.1 rfl
                have h65 : ρ (.tmp 65) = .int .i64 (k : Int) := hp.2.1 rfl
                have g1 := HKM.out
                unfold execOp
                simp only [h64, h65]
                clear h64 h65 hx hp hc hb
                go_simp
              · refine lb_val (.int .i64 sx) (fun ρ wx hp => want_of 14 false 63 rfl rfl (hp.2.1 rfl)) fun ρ wx hb hc hx hp => ⟨?_, rfl⟩
                have h66 : ρ (.tmp 66) = .pointer (some ⟨pg, og + k, none⟩) := hp.1 rfl
                have cc := HC1.out wx hb
                unfold execOp
                simp only [h66]
                clear h66 hx hp hc hb
                go_simp
              · exact lb_move (.tmp 3) (.inl rfl) (fun ρ wx hp => want_of 14 false 63 rfl rfl (hp.1 rfl)) fun ρ wx hc hx hp => hx 3 rfl
              · refine lb_val (.int .i64 (0 : Int)) (fun ρ wx hp => want_of 14 false 63 rfl rfl (hp.2.1 rfl)) fun ρ wx hb hc hx hp => ⟨?_, rfl⟩
                have h68 : ρ (.tmp 68) = .slice none 0 c := hp.1 rfl
                unfold execOp
                clear hx hp hc hb
                go_simp
              · refine lb_val (.int .i64 (15 * (0 : Int))) (fun ρ wx hp => want_of 14 false 63 rfl rfl (hp.2.1 rfl)) fun ρ wx hb hc hx hp => ⟨?_, rfl⟩
                have h69 : ρ (.tmp 69) = .int .i64 (0 : Int) := hp.1 rfl
                have hk0 := hc (.int .i64 15)
                have g1 := HW2.out
                have g2 := wrapV 0 (by omega) (by omega)
                unfold execOp
                simp only [h69, hk0]
                clear h69 hk0 hx hp hc hb
                go_simp
              · refine lb_val (.bool false) (fun ρ wx hp => want_of 14 false 63 rfl rfl (hp.2.2.1 rfl)) fun ρ wx hb hc hx hp => ⟨?_, rfl⟩
                have h67 : ρ (.tmp 67) = .int .i64 sx := hp.1 rfl
                have h70 : ρ (.tmp 70) = .int .i64 (15 * (0 : Int)) := hp.2.1 rfl
                have g1 := decide_eq_false HGT.out
                have g2 := HLE.out
                unfold execOp
                simp only [h67, h70]
                clear h67 h70 hx hp hc hb
                go_simp
              · exact lb_pick (.tmp 63) (.const (.bool true)) (.tmp 71) rfl false (fun _ _ _ => want_none rfl) fun ρ wx hc hp => ⟨hp.1 rfl, hp.2.1 rfl⟩
            intro vs wx hI hF
            obtain ⟨-, -, -, -, -, -, -, -, -, -, -, -, -, -, -, -, -, -, -, -, -, -, -, h23, -⟩ := hF
            replace h23 : vs 23 = .bool false := h23
            have bl : Below wr.heap.size wr wx := hI
            simp only [putAll, Act.put, List.setIfInBounds_toArray, List.set_cons_zero, List.set_cons_succ, h23]
            clear hI h23
            have BX := Lib.hid (below_then BR.out bl)
            clear bl
            go_wp2_with fail
            go_roundw
            case rel => exact ⟨k + 1, by omega, by go_num, BX.out⟩
            case measure => simp [intOf]; omega
          · obtain rfl : k = N := by omega
            have G9 := Lib.hid (G7.out.below BR.out)
            have B9 := Lib.hid (below_then B7.out BR.out)
            clear G7 B7 BR
            go_upto_region 17 with (fail)
            refine wp_region_typed (ClB wr) RlB (Ty [TV (.int .i64 (k : Int)), TInV k (List.replicate k 0), TV (.int .i64 (k : Int)), TInV k (List.replicate k 0), TV (.bool true), TV (.bool true), TV (.slice (some ⟨pg, og, none⟩) k cg), TV (.int .i64 (k : Int)), TV (.int .i64 (k : Int)), TV (.bool true), TV (.bool true), TV (.bool true)])
              (by kernel_rfl) (by kernel_rfl) (stab_ty _ ⟨stabB_k _, stabB_inV _ _, stabB_k _, stabB_inV _ _, stabB_k _, stabB_k _, stabB_k _, stabB_k _, stabB_k _, stabB_k _, stabB_k _, stabB_k _, trivial⟩) (Below.refl _ _).drew ?_ ?_
            · refine ⟨?_, ?_, ?_, ?_, ?_, ?_, ?_, ?_, ?_, ?_, ?_, ?_, trivial⟩
              · exact lb_move (.tmp 4) (.inl rfl) (fun _ _ _ => want_none rfl) fun ρ wx hc hx hp => hx 4 rfl
              · refine lb_call _ _ _ (fun _ _ => by simp [go_sem]) rfl (fun _ _ _ => want_none rfl) fun ρ wx hb hc hp => ?_
                have h0 : ρ (.tmp 73) = .int .i64 (k : Int) := hp.1 rfl
                have h1 := hc (.slice none 0 0)
                refine ⟨#[.slice none 0 0, .int .i64 (k : Int)], by simp only [List.map_toArray, List.map_cons, List.map_nil, h0, h1], (im_mix none 0 0 [] [] (k : Int) wx (Ints.nil _ _) (by omega)).mono ?_⟩
                rw [HT3.out, List.length_replicate]
                rintro e w' ⟨A', c', f', rfl, _, hi', _, hb'⟩
                exact ⟨_, rfl, hb', A', c', f', rfl, hi'⟩
              · exact lb_move (.tmp 4) (.inl rfl) (fun _ _ _ => want_none rfl) fun ρ wx hc hx hp => hx 4 rfl
              · exact lb_makeV (.tmp 75) (.tmp 75) k (by omega) rfl (fun _ _ _ => want_none rfl) (fun ρ wx hp => ⟨hp.1 rfl, hp.1 rfl⟩) (fun _ _ h => h)
              · refine lb_call _ _ _ (fun _ _ => by simp [go_sem]) rfl (fun _ _ _ => want_none rfl) fun ρ wx hb hc hp => ?_
                obtain ⟨A', c', f', h0, hi'⟩ : TInV k (List.replicate k 0) (ρ (.tmp 74)) wx := hp.1 rfl
                obtain ⟨A2, c2, f2, h1, hi2⟩ : TInV k (List.replicate k 0) (ρ (.tmp 76)) wx := hp.2.1 rfl
                refine ⟨#[.slice A' k c', .slice A2 k c2], by simp only [List.map_toArray, List.map_cons, List.map_nil, h0, h1], (same_ints A' A2 k c' c2 _ f' f2 wx hi' hi2 (by omega)).mono ?_⟩
                rintro e w' ⟨rfl, q', rfl⟩
                exact ⟨_, rfl, below_drewN (Below.refl _ _) _, rfl⟩
              · exact lb_move (.tmp 77) (.inl rfl) (fun _ _ _ => want_none rfl) fun ρ wx hc hx hp => hp.1 rfl
              · exact lb_move (.tmp 5) (.inl rfl) (fun ρ wx hp => want_of 5 true 78 rfl rfl (hp.1 rfl)) fun ρ wx hc hx hp => hx 5 rfl
              · refine lb_val (.int .i64 (k : Int)) (fun ρ wx hp => want_of 5 true 78 rfl rfl (hp.2.1 rfl)) fun ρ wx hb hc hx hp => ⟨?_, rfl⟩
                have h79 : ρ (.tmp 79) = .slice (some ⟨pg, og, none⟩) k cg := hp.1 rfl
                unfold execOp
                clear hx hp hc hb
                go_simp
              · exact lb_move (.tmp 4) (.inl rfl) (fun ρ wx hp => want_of 5 true 78 rfl rfl (hp.1 rfl)) fun ρ wx hc hx hp => hx 4 rfl
              · refine lb_val (.bool true) (fun ρ wx hp => want_of 5 true 78 rfl rfl (hp.2.2.1 rfl)) fun ρ wx hb hc hx hp => ⟨?_, rfl⟩
                have h80 : ρ (.tmp 80) = .int .i64 (k : Int) := hp.1 rfl
                have h81 : ρ (.tmp 81) = .int .i64 (k : Int) := hp.2.1 rfl
                unfold execOp
                simp only [h80, h81]
                clear h80 h81 hx hp hc hb
                go_simp
              · exact lb_pick (.tmp 78) (.tmp 82) (.const (.bool false)) rfl true (fun _ _ _ => want_none rfl) fun ρ wx hc hp => ⟨hp.1 rfl, hp.2.1 rfl⟩
              · exact lb_move (.tmp 83) (.inr rfl) (fun _ _ _ => want_none rfl) fun ρ wx hc hx hp => hp.1 rfl
            intro vs wx hI hF
            obtain ⟨-, -, -, -, -, -, -, -, -, -, -, h11, -⟩ := hF
            replace h11 : vs 11 = .bool true := h11
            have bl : Below wr.heap.size wr wx := hI
            simp only [putAll, Act.put, List.setIfInBounds_toArray, List.set_cons_zero, List.set_cons_succ, h11]
            clear hI h11
            have BX := Lib.hid (below_then B9.out bl)
            clear bl
            go_wp2_with fail
            go_ret
            exact ⟨rfl, BX.out⟩
      | some aa =>
        go_wp2_with fail
        refine (im_mix _ 0 _ [] [] (N : Int) _ (Ints.nil _ _) (by omega)).mono ?_; rw [show mixT [] 0 (N : Int) = mixS (([] : List Int).drop (5 * 0)) N (0 - 0) from HT2.out, mixS_len]; rintro e w6 ⟨Ab, cb, fb, rfl, hcb, ib, nb, bl⟩
        have G7 := Lib.hid (G6.out.below bl)
        have A7 := Lib.hid (A5.out.below bl)
        have B7 := Lib.hid (below_then B5.out bl)
        have Z7 := Lib.hid ib
        clear bl G6 A5 B5 ib nb
        obtain ⟨pg, og, rfl, _, _, hcz⟩ := G7.out.at_ (by omega)
        clear hcz
        obtain ⟨pa, oa, rfl, _, _, hcz⟩ := A7.out.at_ (by omega)
        clear hcz
        obtain ⟨pb, ob, rfl, _, _, hcz⟩ := Z7.out.at_ (by omega)
        clear hcz
        go_wp2_with fail
        go_loopw [9] (fun i wr => ∃ k : Nat, k ≤ N ∧ i = .int .i64 k ∧ Below w6.heap.size w6 wr) (fun i _ => N - (intOf i).toNat)
        case atStart => exact ⟨0, by omega, rfl, Below.refl _ _⟩
        case round =>
          obtain ⟨k, hk, rfl, hbr⟩ := hrel
          have BR := Lib.hid hbr
          clear hbr
          by_cases hkm : k < N
          · have hkm' : (k : Int) < (N : Int) := by omega
            have HC1 : Hid (∀ wx, Below wr.heap.size wr wx → wx.cell? ⟨pg, og + k, none⟩ = some (.int .i64 (mixAt [] k 0))) := Lib.hid fun wx hb => by
              rw [ints_cell (G7.out.below (below_then BR.out hb)) hkm, mixS_at _ _ _ _ hkm]
            have HC2 : Hid (∀ wx, Below wr.heap.size wr wx → wx.cell? ⟨pa, oa + k, none⟩ = some (.int .i64 (mixAt ([].take (5 * 0)) k 0))) := Lib.hid fun wx hb => by
              rw [ints_cell (A7.out.below (below_then BR.out hb)) hkm, mixS_at _ _ _ _ hkm]
            have HC3 : Hid (∀ wx, Below wr.heap.size wr wx → wx.cell? ⟨pb, ob + k, none⟩ = some (.int .i64 (mixAt ([].drop (5 * 0)) k (0 - 0)))) := Lib.hid fun wx hb => by
              rw [ints_cell (Z7.out.below (below_then BR.out hb)) hkm, mixS_at _ _ _ _ hkm]
            have hsum := HSM.out k
            have hbd := HBD.out k
            have HKM := Lib.hid hkm'
            generalize mixAt [] k 0 = sx at HC1 hsum hbd
            generalize mixAt ([].take (5 * 0)) k 0 = sy at HC2 hsum
            generalize mixAt ([].drop (5 * 0)) k (0 - 0) = sz at HC3 hsum
            have HW1 := Lib.hid (wrapV (sy + sz) (by omega) (by omega))
            have HW2 := Lib.hid (wrapV (15 * (0 : Int)) (by omega) (by omega))
            have HGT : Hid (¬ (15 * (0 : Int) < sx)) := Lib.hid (by omega)
            have HEQ : Hid (sx = sy + sz) := Lib.hid hsum
            have HLE : Hid (sx ≤ 0) := Lib.hid (by omega)
            clear hsum hbd
            go_upto_region 15 with (fail)
            refine wp_region_typed (ClB wr) RlB (Ty [TV (.slice (some ⟨pg, og, none⟩) N cg), TV (.int .i64 (k : Int)), TV (.pointer (some ⟨pg, og + k, none⟩)), TV (.int .i64 sx), TV (.slice (some ⟨pa, oa, none⟩) N ca), TV (.int .i64 (k : Int)), TV (.pointer (some ⟨pa, oa + k, none⟩)), TV (.int .i64 sy), TV (.slice (some ⟨pb, ob, none⟩) N cb), TV (.int .i64 (k : Int)), TV (.pointer (some ⟨pb, ob + k, none⟩)), TV (.int .i64 sz), TV (.int .i64 (sy + sz)), TV (.bool false), TV (.bool false), TV (.slice (some ⟨pg, og, none⟩) N cg), TV (.int .i64 (k : Int)), TV (.pointer (some ⟨pg, og + k, none⟩)), TV (.int .i64 sx), TV (.slice (some aa) 0 c), TV (.int .i64 (0 : Int)), TV (.int .i64 (15 * (0 : Int))), TV (.bool false), TV (.bool false)])
              (by kernel_rfl) (by kernel_rfl) (stab_ty _ ⟨stabB_k _, stabB_k _, stabB_k _, stabB_k _, stabB_k _, stabB_k _, stabB_k _, stabB_k _, stabB_k _, stabB_k _, stabB_k _, stabB_k _, stabB_k _, stabB_k _, stabB_k _, stabB_k _, stabB_k _, stabB_k _, stabB_k _, stabB_k _, stabB_k _, stabB_k _, stabB_k _, stabB_k _, trivial⟩) (Below.refl _ _).drew ?_ ?_
            · refine ⟨?_, ?_, ?_, ?_, ?_, ?_, ?_, ?_, ?_, ?_, ?_, ?_, ?_, ?_, ?_, ?_, ?_, ?_, ?_, ?_, ?_, ?_, ?_, ?_, trivial⟩
              · exact lb_move (.tmp 5) (.inl rfl) (fun _ _ _ => want_none rfl) fun ρ wx hc hx hp => hx 5 rfl
              · exact lb_move (.tmp 9) (.inl rfl) (fun _ _ _ => want_none rfl) fun ρ wx hc hx hp => hx 9 rfl
              · refine lb_val (.pointer (some ⟨pg, og + k, none⟩)) (fun _ _ _ => want_none rfl) fun ρ wx hb hc hx hp => ⟨?_, rfl⟩
                have h49 : ρ (.tmp 49) = .slice (some ⟨pg, og, none⟩) N cg := hp.1 rfl
                have h50 : ρ (.tmp 50) = .int .i64 (k : Int) := hp.2.1 rfl
                have g1 := HKM.out
                unfold execOp
                simp only [h49, h50]
                clear h49 h50 hx hp hc hb
                go_simp
              · refine lb_val (.int .i64 sx) (fun _ _ _ => want_none rfl) fun ρ wx hb hc hx hp => ⟨?_, rfl⟩
                have h51 : ρ (.tmp 51) = .pointer (some ⟨pg, og + k, none⟩) := hp.1 rfl
                have cc := HC1.out wx hb
                unfold execOp
                simp only [h51]
                clear h51 hx hp hc hb
                go_simp
              · exact lb_move (.tmp 7) (.inl rfl) (fun _ _ _ => want_none rfl) fun ρ wx hc hx hp => hx 7 rfl
              · exact lb_move (.tmp 9) (.inl rfl) (fun _ _ _ => want_none rfl) fun ρ wx hc hx hp => hx 9 rfl
              · refine lb_val (.pointer (some ⟨pa, oa + k, none⟩)) (fun _ _ _ => want_none rfl) fun ρ wx hb hc hx hp => ⟨?_, rfl⟩
                have h53 : ρ (.tmp 53) = .slice (some ⟨pa, oa, none⟩) N ca := hp.1 rfl
                have h54 : ρ (.tmp 54) = .int .i64 (k : Int) := hp.2.1 rfl
                have g1 := HKM.out
                unfold execOp
                simp only [h53, h54]
                clear h53 h54 hx hp hc hb
                go_simp
              · refine lb_val (.int .i64 sy) (fun _ _ _ => want_none rfl) fun ρ wx hb hc hx hp => ⟨?_, rfl⟩
                have h55 : ρ (.tmp 55) = .pointer (some ⟨pa, oa + k, none⟩) := hp.1 rfl
                have cc := HC2.out wx hb
                unfold execOp
                simp only [h55]
                clear h55 hx hp hc hb
                go_simp
              · exact lb_move (.tmp 8) (.inl rfl) (fun _ _ _ => want_none rfl) fun ρ wx hc hx hp => hx 8 rfl
              · exact lb_move (.tmp 9) (.inl rfl) (fun _ _ _ => want_none rfl) fun ρ wx hc hx hp => hx 9 rfl
              · refine lb_val (.pointer (some ⟨pb, ob + k, none⟩)) (fun _ _ _ => want_none rfl) fun ρ wx hb hc hx hp => ⟨?_, rfl⟩
                have h57 : ρ (.tmp 57) = .slice (some ⟨pb, ob, none⟩) N cb := hp.1 rfl
                have h58 : ρ (.tmp 58) = .int .i64 (k : Int) := hp.2.1 rfl
                have g1 := HKM.out
                unfold execOp
                simp only [h57, h58]
                clear h57 h58 hx hp hc hb
                go_simp
              · refine lb_val (.int .i64 sz) (fun _ _ _ => want_none rfl) fun ρ wx hb hc hx hp => ⟨?_, rfl⟩
                have h59 : ρ (.tmp 59) = .pointer (some ⟨pb, ob + k, none⟩) := hp.1 rfl
                have cc := HC3.out wx hb
                unfold execOp
                simp only [h59]
                clear h59 hx hp hc hb
                go_simp
              · refine lb_val (.int .i64 (sy + sz)) (fun _ _ _ => want_none rfl) fun ρ wx hb hc hx hp => ⟨?_, rfl⟩
                have h56 : ρ (.tmp 56) = .int .i64 sy := hp.1 rfl
                have h60 : ρ (.tmp 60) = .int .i64 sz := hp.2.1 rfl
                have g1 := HW1.out
                unfold execOp
                simp only [h56, h60]
                clear h56 h60 hx hp hc hb
                go_simp
              · refine lb_val (.bool false) (fun _ _ _ => want_none rfl) fun ρ wx hb hc hx hp => ⟨?_, rfl⟩
                have h52 : ρ (.tmp 52) = .int .i64 sx := hp.1 rfl
                have h61 : ρ (.tmp 61) = .int .i64 (sy + sz) := hp.2.1 rfl
                have g1 := HEQ.out
                unfold execOp
                simp only [h52, h61]
                clear h52 h61 hx hp hc hb
                go_simp
              · exact lb_move (.tmp 62) (.inl rfl) (fun _ _ _ => want_none rfl) fun ρ wx hc hx hp => hp.1 rfl
              · exact lb_move (.tmp 5) (.inl rfl) (fun ρ wx hp => want_of 14 false 63 rfl rfl (hp.1 rfl)) fun ρ wx hc hx hp => hx 5 rfl
              · exact lb_move (.tmp 9) (.inl rfl) (fun ρ wx hp => want_of 14 false 63 rfl rfl (hp.1 rfl)) fun ρ wx hc hx hp => hx 9 rfl
              · refine lb_val (.pointer (some ⟨pg, og + k, none⟩)) (fun ρ wx hp => want_of 14 false 63 rfl rfl (hp.2.2.1 rfl)) fun ρ wx hb hc hx hp => ⟨?_, rfl⟩
                have h64 : ρ (.tmp 64) = .slice (some ⟨pg, og, none⟩) N cg := hp.1 rfl
                have h65 : ρ (.tmp 65) = .int .i64 (k : Int) := hp.2.1 rfl
                have g1 := HKM.out
                unfold execOp
                simp only [h64, h65]
                clear h64 h65 hx hp hc hb
                go_simp
              · refine lb_val (.int .i64 sx) (fun ρ wx hp => want_of 14 false 63 rfl rfl (hp.2.1 rfl)) fun ρ wx hb hc hx hp => ⟨?_, rfl⟩
                have h66 : ρ (.tmp 66) = .pointer (some ⟨pg, og + k, none⟩) := hp.1 rfl
                have cc := HC1.out wx hb
                unfold execOp
                simp only [h66]
                clear h66 hx hp hc hb
                go_simp
              · exact lb_move (.tmp 3) (.inl rfl) (fun ρ wx hp => want_of 14 false 63 rfl rfl (hp.1 rfl)) fun ρ wx hc hx hp => hx 3 rfl
              · refine lb_val (.int .i64 (0 : Int)) (fun ρ wx hp => want_of 14 false 63 rfl rfl (hp.2.1 rfl)) fun ρ wx hb hc hx hp => ⟨?_, rfl⟩
                have h68 : ρ (.tmp 68) = .slice (some aa) 0 c := hp.1 rfl
                unfold execOp
                clear hx hp hc hb
                go_simp
              · refine lb_val (.int .i64 (15 * (0 : Int))) (fun ρ wx hp => want_of 14 false 63 rfl rfl (hp.2.1 rfl)) fun ρ wx hb hc hx hp => ⟨?_, rfl⟩
                have h69 : ρ (.tmp 69) = .int .i64 (0 : Int) := hp.1 rfl
                have hk0 := hc (.int .i64 15)
                have g1 := HW2.out
                have g2 := wrapV 0 (by omega) (by omega)
                unfold execOp
                simp only [h69, hk0]
                clear h69 hk0 hx hp hc hb
                go_simp
              · refine lb_val (.bool false) (fun ρ wx hp => want_of 14 false 63 rfl rfl (hp.2.2.1 rfl)) fun ρ wx hb hc hx hp => ⟨?_, rfl⟩
                have h67 : ρ (.tmp 67) = .int .i64 sx := hp.1 rfl
                have h70 : ρ (.tmp 70) = .int .i64 (15 * (0 : Int)) := hp.2.1 rfl
                have g1 := decide_eq_false HGT.out
                have g2 := HLE.out
                unfold execOp
                simp only [h67, h70]
                clear h67 h70 hx hp hc hb
                go_simp
              · exact lb_pick (.tmp 63) (.const (.bool true)) (.tmp 71) rfl false (fun _ _ _ => want_none rfl) fun ρ wx hc hp => ⟨hp.1 rfl, hp.2.1 rfl⟩
            intro vs wx hI hF
            obtain ⟨-, -, -, -, -, -, -, -, -, -, -, -, -, -, -, -, -, -, -, -, -, -, -, h23, -⟩ := hF
            replace h23 : vs 23 = .bool false := h23
            have bl : Below wr.heap.size wr wx := hI
            simp only [putAll, Act.put, List.setIfInBounds_toArray, List.set_cons_zero, List.set_cons_succ, h23]
            clear hI h23
            have BX := Lib.hid (below_then BR.out bl)
            clear bl
            go_wp2_with fail
            go_roundw
            case rel => exact ⟨k + 1, by omega, by go_num, BX.out⟩
            case measure => simp [intOf]; omega
          · obtain rfl : k = N := by omega
            have G9 := Lib.hid (G7.out.below BR.out)
            have B9 := Lib.hid (below_then B7.out BR.out)
            clear G7 B7 BR
            go_upto_region 17 with (fail)
            refine wp_region_typed (ClB wr) RlB (Ty [TV (.int .i64 (k : Int)), TInV k (List.replicate k 0), TV (.int .i64 (k : Int)), TInV k (List.replicate k 0), TV (.bool true), TV (.bool true), TV (.slice (some ⟨pg, og, none⟩) k cg), TV (.int .i64 (k : Int)), TV (.int .i64 (k : Int)), TV (.bool true), TV (.bool true), TV (.bool true)])
              (by kernel_rfl) (by kernel_rfl) (stab_ty _ ⟨stabB_k _, stabB_inV _ _, stabB_k _, stabB_inV _ _, stabB_k _, stabB_k _, stabB_k _, stabB_k _, stabB_k _, stabB_k _, stabB_k _, stabB_k _, trivial⟩) (Below.refl _ _).drew ?_ ?_
            · refine ⟨?_, ?_, ?_, ?_, ?_, ?_, ?_, ?_, ?_, ?_, ?_, ?_, trivial⟩
              · exact lb_move (.tmp 4) (.inl rfl) (fun _ _ _ => want_none rfl) fun ρ wx hc hx hp => hx 4 rfl
              · refine lb_call _ _ _ (fun _ _ => by simp [go_sem]) rfl (fun _ _ _ => want_none rfl) fun ρ wx hb hc hp => ?_
                have h0 : ρ (.tmp 73) = .int .i64 (k : Int) := hp.1 rfl
                have h1 := hc (.slice none 0 0)
                refine ⟨#[.slice none 0 0, .int .i64 (k : Int)], by simp only [List.map_toArray, List.map_cons, List.map_nil, h0, h1], (im_mix none 0 0 [] [] (k : Int) wx (Ints.nil _ _) (by omega)).mono ?_⟩
                rw [HT3.out, List.length_replicate]
                rintro e w' ⟨A', c', f', rfl, _, hi', _, hb'⟩
                exact ⟨_, rfl, hb', A', c', f', rfl, hi'⟩
              · exact lb_move (.tmp 4) (.inl rfl) (fun _ _ _ => want_none rfl) fun ρ wx hc hx hp => hx 4 rfl
              · exact lb_makeV (.tmp 75) (.tmp 75) k (by omega) rfl (fun _ _ _ => want_none rfl) (fun ρ wx hp => ⟨hp.1 rfl, hp.1 rfl⟩) (fun _ _ h => h)
              · refine lb_call _ _ _ (fun _ _ => by simp [go_sem]) rfl (fun _ _ _ => want_none rfl) fun ρ wx hb hc hp => ?_
                obtain ⟨A', c', f', h0, hi'⟩ : TInV k (List.replicate k 0) (ρ (.tmp 74)) wx := hp.1 rfl
                obtain ⟨A2, c2, f2, h1, hi2⟩ : TInV k (List.replicate k 0) (ρ (.tmp 76)) wx := hp.2.1 rfl
                refine ⟨#[.slice A' k c', .slice A2 k c2], by simp only [List.map_toArray, List.map_cons, List.map_nil, h0, h1], (same_ints A' A2 k c' c2 _ f' f2 wx hi' hi2 (by omega)).mono ?_⟩
                rintro e w' ⟨rfl, q', rfl⟩
                exact ⟨_, rfl, below_drewN (Below.refl _ _) _, rfl⟩
              · exact lb_move (.tmp 77) (.inl rfl) (fun _ _ _ => want_none rfl) fun ρ wx hc hx hp => hp.1 rfl
              · exact lb_move (.tmp 5) (.inl rfl) (fun ρ wx hp => want_of 5 true 78 rfl rfl (hp.1 rfl)) fun ρ wx hc hx hp => hx 5 rfl
              · refine lb_val (.int .i64 (k : Int)) (fun ρ wx hp => want_of 5 true 78 rfl rfl (hp.2.1 rfl)) fun ρ wx hb hc hx hp => ⟨?_, rfl⟩
                have h79 : ρ (.tmp 79) = .slice (some ⟨pg, og, none⟩) k cg := hp.1 rfl
                unfold execOp
                clear hx hp hc hb
                go_simp
              · exact lb_move (.tmp 4) (.inl rfl) (fun ρ wx hp => want_of 5 true 78 rfl rfl (hp.1 rfl)) fun ρ wx hc hx hp => hx 4 rfl
              · refine lb_val (.bool true) (fun ρ wx hp => want_of 5 true 78 rfl rfl (hp.2.2.1 rfl)) fun ρ wx hb hc hx hp => ⟨?_, rfl⟩
                have h80 : ρ (.tmp 80) = .int .i64 (k : Int) := hp.1 rfl
                have h81 : ρ (.tmp 81) = .int .i64 (k : Int) := hp.2.1 rfl
                unfold execOp
                simp only [h80, h81]
                clear h80 h81 hx hp hc hb
                go_simp
              · exact lb_pick (.tmp 78) (.tmp 82) (.const (.bool false)) rfl true (fun _ _ _ => want_none rfl) fun ρ wx hc hp => ⟨hp.1 rfl, hp.2.1 rfl⟩
              · exact lb_move (.tmp 83) (.inr rfl) (fun _ _ _ => want_none rfl) fun ρ wx hc hx hp => hp.1 rfl
            intro vs wx hI hF
            obtain ⟨-, -, -, -, -, -, -, -, -, -, -, h11, -⟩ := hF
            replace h11 : vs 11 = .bool true := h11
            have bl : Below wr.heap.size wr wx := hI
            simp only [putAll, Act.put, List.setIfInBounds_toArray, List.set_cons_zero, List.set_cons_succ, h11]
            clear hI h11
            have BX := Lib.hid (below_then B9.out bl)
            clear bl
            go_wp2_with fail
            go_ret
            exact ⟨rfl, BX.out⟩
  · have hs' : 1048576 < len0 := by omega
    go_enter Try.func6, Try.ntmps6
    go_wp2_with fail
    go_ret
    exact ⟨rfl, Below.refl _ _⟩
end Go.Proofs.Ytfbpnneegenhgaa
