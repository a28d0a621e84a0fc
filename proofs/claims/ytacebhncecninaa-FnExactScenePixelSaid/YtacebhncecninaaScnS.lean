/- The model's functions on scenes: SceneValid, one pixel. -/
import Derived.Test.YtacebhncecninaaScnA
import Derived.Test.YtacebhncecninaaSprG
import Derived.Test.YtacebhncecninaaSprK
import Derived.Test.YtacebhncecninaaFldE
namespace Go.Proofs.Ytacebhncecninaa
open Go.ChangeShapes Go.WideShapes Go.ChangeAt Go.RowKit
set_option linter.unusedVariables false

set_option maxHeartbeats 2000000 in
theorem spec_scnValid (F : Fld) (A : Option Addr) (c : Nat) (T : Option Addr) (d : Nat) (S : List Spr) (O : Option Addr) (e0 : Nat) (fa ft fo : List Nat) (w : World) (h : SHas w A T O F S fa ft fo) (hs : SSmall F S) :
    Calls Try.prog 39 #[sv F A c T d S O e0] w fun e w' => e = .returned (.bool (scnB F S)) ∧ Below w.heap.size w w' := by
  have BB := Lib.hid (below1 w (.cells #[.int .i64 F.w, .slice A F.xs.length c, .slice T F.nt d, .int .i64 F.sx, .int .i64 F.sy, .slice O S.length e0] 41))
  have X1 := Lib.hid (Box.new w #[.int .i64 F.w, .slice A F.xs.length c, .slice T F.nt d, .int .i64 F.sx, .int .i64 F.sy, .slice O S.length e0] 41)
  have H1 := Lib.hid (SHas.below h BB.out)
  have HS := Lib.hid hs
  clear h hs
  go_enter Try.func39, Try.ntmps39
  go_upto_region 1 with (fail)
  generalize w.alloc (.cells #[.int .i64 F.w, .slice A F.xs.length c, .slice T F.nt d, .int .i64 F.sx, .int .i64 F.sy, .slice O S.length e0] 41) = w1 at X1 BB H1 ⊢
  generalize hbb : w.heap.size = bb at X1 ⊢
  have HBB := Lib.hid hbb
  clear hbb
  go_wp2_with (first | (refine sc_back (by rfl) _ rfl bb rfl X1.out ?_))
  refine (spec_fieldValid F A c T d fa ft _ H1.out.1 HS.out.1).mono ?_; rintro e w2 ⟨rfl, bl⟩
  have X2 := Lib.hid (X1.out.below bl)
  have H2 := Lib.hid (H1.out.below bl)
  have B2 := Lib.hid (below_then BB.out bl)
  clear bl
  cases hv : fldB F
  · have HT : Hid (scnB F S = false) := Lib.hid (by unfold scnB; rw [hv]; rfl)
    clear hv
    go_wp2_with fail
    go_ret
    exact ⟨ret_bool HT.out.symm, B2.out⟩
  · have HT : Hid (scnB F S = sprB S F.nt F.zs) := Lib.hid (by unfold scnB; rw [hv]; rfl)
    clear hv
    have k2 := X2.out.cell 2
    have k5 := X2.out.cell 5
    go_wp2_with fail
    clear k2 k5
    refine (spec_sprValid O S.length e0 S fo T F.nt d F.zs ft _ H2.out.2 H2.out.1.2 HS.out.2 HS.out.1.2).mono ?_; rintro e w3 ⟨rfl, bl⟩
    rw [← HT.out]
    have X3 := Lib.hid (X2.out.below bl)
    have H3 := Lib.hid (H2.out.below bl)
    have B3 := Lib.hid (below_then B2.out bl)
    clear bl
    go_wp2_with fail
    go_ret
    exact ⟨rfl, B3.out⟩
def TOn (S : List Spr) (y : Int) : Value → World → Prop := fun v w => ∃ B c' fb, v = .slice B (onF S y).length c' ∧ Ints w B (onF S y).length (nums (onF S y)) fb
theorem stabB_on (S : List Spr) (y : Int) : Stab RlB (TOn S y) := fun _ _ _ (hR : Below _ _ _) ⟨B, c', fb, hv, hi⟩ => ⟨B, c', fb, hv, hi.below hR⟩
section
variable {ops : Array Oper} {Q : Exit → Act → World → Prop} {T' : Nat → Value → World → Prop} {a0 : Act} {w0 : World} {i : Nat} {o : Oper}
/-- A whole scene is loaded. -/
theorem lb_scn (x : Operand) (b : Nat) {t : TypeId} {W : Int} {A : Option Addr} {n c : Nat} {T : Option Addr} {m d : Nat} {sx sy : Int} {O : Option Addr} {k e : Nat} (hop : o.op = .load 41 x) (hb : Box w0 b t (ccs W A n c T m d sx sy O k e)) (hw : ∀ (ρ : Operand → Value) w, PreR ops T' ρ w o.after.toList → wantV ops (slotR ρ) o = true)
    (h : ∀ (ρ : Operand → Value) w, (∀ n, (ops.toList.all fun o => o.dst != some n) = true → ρ (.tmp n) = a0.eval (.tmp n)) → PreR ops T' ρ w o.after.toList → ρ x = .pointer (some ⟨b, 0, none⟩) ∧ T' i (dstV o (scV W A n c T m d sx sy O k e)) w) : Ob Try.prog ops Q (ClB w0) RlB T' a0 i o :=
  lb_val (scV W A n c T m d sx sy O k e) hw fun ρ w hbl _ hx hp => by
    obtain ⟨h1, h2⟩ := h ρ w hx hp
    refine ⟨?_, h2⟩
    have hl := run_loadVar_row (P := Try.prog) w b t 41 (ccs W A n c T m d sx sy O k e).toArray (0, 0) _ (hb.below hbl) Try.underlying41 rfl sc_info
    unfold execOp
    simp only [hop, h1, Instr.loadAt, Instr.sureAddr, Sem.run_bind, Sem.run_pure, Result.andThen_ok, hl]
end
set_option maxHeartbeats 4000000 in
theorem spec_mix (F : Fld) (A : Option Addr) (c : Nat) (T : Option Addr) (d : Nat) (S : List Spr) (O : Option Addr) (e0 : Nat) (fa ft fo : List Nat) (B : Option Addr) (q c' : Nat) (L fb : List Nat) (x y : Int) (w : World) (h : SHas w A T O F S fa ft fo) (hs : SSmall F S) (hok : scnB F S = true) (hB : Ints w B q (nums L) fb) (hL : ∀ k, k ∈ L → k < S.length) (hq : q ≤ 1000000000) (x0 : 0 ≤ x) (x1 : x ≤ 31) (y0 : 0 ≤ y) (y1 : y ≤ 15) :
    Calls Try.prog 75 #[sv F A c T d S O e0, .slice B q c', .int .i64 x, .int .i64 y] w fun e w' => e = .returned (.int .i64 (mixF F S x y (L.find? fun k => decide (valF (S.getD k .zero) F.zs x y ≠ 0)))) ∧ Below w.heap.size w w' := by
  have HOKS := Lib.hid hok
  have hboth : fldB F = true ∧ sprB S F.nt F.zs = true := by unfold scnB at hok; rwa [Bool.and_eq_true] at hok
  have HF := Lib.hid (fldB_iff.1 hboth.1)
  have HSP := Lib.hid (sprB_iff.1 hboth.2)
  obtain ⟨R, hR⟩ : ∃ R, (L.find? fun k => decide (valF (S.getD k .zero) F.zs x y ≠ 0)) = R := ⟨_, rfl⟩
  have HR := Lib.hid hR
  have HRS : Hid (∀ k, R = some k → k < S.length) := Lib.hid fun k hk => hL k (List.mem_of_find?_eq_some (by rw [HR.out]; exact hk))
  rw [hR]
  clear hR hok hboth
  have HB := Lib.hid hB
  have HLS := Lib.hid hL
  clear hB hL
  have BB := Lib.hid (below1 w (.cells #[.int .i64 F.w, .slice A F.xs.length c, .slice T F.nt d, .int .i64 F.sx, .int .i64 F.sy, .slice O S.length e0] 41))
  have X1 := Lib.hid (Box.new w #[.int .i64 F.w, .slice A F.xs.length c, .slice T F.nt d, .int .i64 F.sx, .int .i64 F.sy, .slice O S.length e0] 41)
  have H1 := Lib.hid (SHas.below h BB.out)
  have HS := Lib.hid hs
  clear h hs
  go_enter Try.func75, Try.ntmps75
  go_upto_region 1 with (fail)
  generalize w.alloc (.cells #[.int .i64 F.w, .slice A F.xs.length c, .slice T F.nt d, .int .i64 F.sx, .int .i64 F.sy, .slice O S.length e0] 41) = w1 at X1 BB H1 ⊢
  generalize hbb : w.heap.size = bb at X1 ⊢
  have HBB := Lib.hid hbb
  clear hbb
  have HB := Lib.hid (HB.out.below BB.out)
  go_wp2_with (first | (refine sc_back (by rfl) _ rfl bb rfl X1.out ?_))
  refine (spec_pix F A c T d fa ft x y _ H1.out.1 HF.out x0 x1 y0 y1).mono ?_; rintro e w2 ⟨rfl, bl⟩
  have HB := Lib.hid (HB.out.below bl)
  have X2 := Lib.hid (X1.out.below bl)
  have H2 := Lib.hid (H1.out.below bl)
  have B2 := Lib.hid (below_then BB.out bl)
  clear bl
  obtain ⟨pb, hpb⟩ : ∃ pb, pixF F x y = pb := ⟨_, rfl⟩
  have HP := Lib.hid hpb
  rw [hpb]
  clear hpb
  have k2 := X2.out.cell 2
  have k5 := X2.out.cell 5
  go_wp2_with fail
  clear k2 k5
  refine (spec_first O S.length e0 S fo T F.nt d F.zs ft B q c' L fb x y _ H2.out.2 H2.out.1.2 HB.out HLS.out HSP.out.2.1 HS.out.2 HS.out.1.2 hq (by omega) (by omega)).mono ?_; rintro e w3 ⟨rfl, bl⟩
  rw [HR.out]
  have X3 := Lib.hid (X2.out.below bl)
  have H3 := Lib.hid (H2.out.below bl)
  have B3 := Lib.hid (below_then B2.out bl)
  clear bl
  cases R with
  | none =>
    rw [show noN none = -1 from rfl]
    go_wp2_with fail
    go_ret
    exact ⟨ret_int HP.out.symm, B3.out⟩
  | some k =>
    rw [show noN (some k) = (k : Int) from rfl]
    have hkS := HRS.out k rfl
    have hkn' : (k : Int) < S.length := by omega
    have hk0 : ¬ (k : Int) < 0 := by omega
    have HOK := Lib.hid (HSP.out.2.1 k hkS)
    have HRG := Lib.hid H3.out.2
    obtain ⟨p, o, rfl, _, hpl, hc⟩ := H3.out.2.at_ (by omega)
    obtain ⟨s, hse⟩ : ∃ s, S.getD k .zero = s := ⟨_, rfl⟩
    obtain ⟨v, hve⟩ : ∃ v, valF s F.zs x y = v := ⟨_, rfl⟩
    have HSE := Lib.hid hse
    have HVE := Lib.hid hve
    have hvb := valF_b H3.out.1.2.1 HSP.out.1 (HOK.out) x y
    rw [hse, hve] at hvb
    have c5 : w3.cell? ⟨p, o + k * 6 + 5, none⟩ = some (.bool s.bh) := by
      have := hc k hkS 5 (.bool s.bh) (by rw [hse]; rfl)
      rwa [show o + (6 * k + 5) = o + k * 6 + 5 by omega] at this
    have HM0 : Hid (mixF F S x y (some k) = if (s.bh && decide (pb ≠ 0)) = true then pb else 4 + v) := Lib.hid (by rw [mixF_some, hse, hve, HP.out])
    rw [hse] at HOK
    clear hc hse hve HRG
    have k5 := X3.out.cell 5
    obtain ⟨bh, hbh⟩ : ∃ bh, s.bh = bh := ⟨_, rfl⟩
    rw [hbh] at c5 HM0
    clear hbh
    cases bh
    · have HM : Hid (mixF F S x y (some k) = 4 + v) := Lib.hid (by rw [HM0.out]; rfl)
      clear HM0
      go_wp2_with fail
      clear k5 c5
      refine wp_region_typed (ClB w3) RlB (Ty [TV (.pointer (some ⟨bb, 5, none⟩)), TV (.slice (some ⟨p, o, none⟩) S.length e0), TV (.int .i64 (k : Int)), TV (.pointer (some ⟨p, o + k * 6, none⟩)), TV (sprV s), TV (.pointer (some ⟨bb, 0, none⟩)), TV (.pointer (some ⟨bb, 2, none⟩)), TV (.slice T F.nt d), TV (.int .i64 x), TV (.int .i64 y), TV (.int .i64 v), TV (.int .i64 (4 + v)), TV (.int .i64 (4 + v))])
        (by kernel_rfl) (by kernel_rfl) (stab_ty _ ⟨stabB_k _, stabB_k _, stabB_k _, stabB_k _, stabB_k _, stabB_k _, stabB_k _, stabB_k _, stabB_k _, stabB_k _, stabB_k _, stabB_k _, stabB_k _, trivial⟩) (Below.refl _ _).drew ?_ ?_
      · refine ⟨?_, ?_, ?_, ?_, ?_, ?_, ?_, ?_, ?_, ?_, ?_, ?_, ?_, trivial⟩
        · refine lb_val (.pointer (some ⟨bb, 5, none⟩)) (fun _ _ _ => want_none rfl) fun ρ wx hb hc hx hp => ⟨?_, rfl⟩
          have h4 : ρ (.tmp 4) = .pointer (some ⟨bb, 0, none⟩) := hx 4 rfl
          unfold execOp
          simp only [h4]
          clear h4 hx hp hc hb
          go_simp
        · refine lb_val (.slice (some ⟨p, o, none⟩) S.length e0) (fun _ _ _ => want_none rfl) fun ρ wx hb hc hx hp => ⟨?_, rfl⟩
          have h40 : ρ (.tmp 40) = .pointer (some ⟨bb, 5, none⟩) := hp.1 rfl
          have c1 : wx.cell? ⟨bb, 5, none⟩ = some (.slice (some ⟨p, o, none⟩) S.length e0) := (X3.out.below hb).cell 5
          unfold execOp
          simp only [h40]
          clear h40 hx hp hc hb
          go_simp
        · exact lb_move (.tmp 10) (.inl rfl) (fun _ _ _ => want_none rfl) fun ρ wx hc hx hp => hx 10 rfl
        · refine lb_val (.pointer (some ⟨p, o + k * 6, none⟩)) (fun _ _ _ => want_none rfl) fun ρ wx hb hc hx hp => ⟨?_, rfl⟩
          have h41 : ρ (.tmp 41) = .slice (some ⟨p, o, none⟩) S.length e0 := hp.1 rfl
          have h42 : ρ (.tmp 42) = .int .i64 (k : Int) := hp.2.1 rfl
          unfold execOp
          simp only [h41, h42]
          clear h41 h42 hx hp hc hb
          go_simp
        · refine lb_sprm (.tmp 43) p (o + k * 6) s rfl (fun wq hb => by rw [← HSE.out]; exact spr_range (H3.out.2.below hb) hkS) (fun _ _ _ => want_none rfl) fun ρ wx hx hp => ⟨hp.1 rfl, rfl⟩
        · refine lb_val (.pointer (some ⟨bb, 0, none⟩)) (fun _ _ _ => want_none rfl) fun ρ wx hb hc hx hp => ⟨?_, rfl⟩
          have h4 : ρ (.tmp 4) = .pointer (some ⟨bb, 0, none⟩) := hx 4 rfl
          unfold execOp
          simp only [h4]
          clear h4 hx hp hc hb
          go_simp
        · refine lb_val (.pointer (some ⟨bb, 2, none⟩)) (fun _ _ _ => want_none rfl) fun ρ wx hb hc hx hp => ⟨?_, rfl⟩
          have h45 : ρ (.tmp 45) = .pointer (some ⟨bb, 0, none⟩) := hp.1 rfl
          unfold execOp
          simp only [h45]
          clear h45 hx hp hc hb
          go_simp
        · refine lb_val (.slice T F.nt d) (fun _ _ _ => want_none rfl) fun ρ wx hb hc hx hp => ⟨?_, rfl⟩
          have h46 : ρ (.tmp 46) = .pointer (some ⟨bb, 2, none⟩) := hp.1 rfl
          have c1 : wx.cell? ⟨bb, 2, none⟩ = some (.slice T F.nt d) := (X3.out.below hb).cell 2
          unfold execOp
          simp only [h46]
          clear h46 hx hp hc hb
          go_simp
        · exact lb_move (.tmp 2) (.inl rfl) (fun _ _ _ => want_none rfl) fun ρ wx hc hx hp => hx 2 rfl
        · exact lb_move (.tmp 3) (.inl rfl) (fun _ _ _ => want_none rfl) fun ρ wx hc hx hp => hx 3 rfl
        · refine lb_known _ _ _ (.int .i64 v) (fun _ _ => by simp [go_sem]) rfl (fun _ _ _ => want_none rfl) #[sprV s, .slice T F.nt d, .int .i64 x, .int .i64 y] (fun wq hb => ?_) (fun ρ wx hc hx hp => ?_) (fun _ => rfl)
          · rw [← HVE.out]
            exact spec_val s T d F.nt F.zs ft x y wq (H3.out.1.2.below hb) HOK.out HS.out.1.2 (by omega) (by omega)
          · have h0 : ρ (.tmp 44) = sprV s := hp.1 rfl
            have h1 : ρ (.tmp 47) = .slice T F.nt d := hp.2.1 rfl
            have h2 : ρ (.tmp 48) = .int .i64 x := hp.2.2.1 rfl
            have h3 : ρ (.tmp 49) = .int .i64 y := hp.2.2.2.1 rfl
            simp only [List.map_toArray, List.map_cons, List.map_nil, h0, h1, h2, h3]
        · refine lb_val (.int .i64 (4 + v)) (fun _ _ _ => want_none rfl) fun ρ wx hb hc hx hp => ⟨?_, rfl⟩
          have h50 : ρ (.tmp 50) = .int .i64 v := hp.1 rfl
          have hc0 := hc (.int .i64 4)
          have hw1 : IntKind.i64.wrap (4 + v) = 4 + v := by rw [IntKind.wrap_i64]; omega
          unfold execOp
          simp only [h50, hc0]
          clear h50 hc0 hx hp hc hb
          go_simp
        · exact lb_move (.tmp 51) (.inr rfl) (fun _ _ _ => want_none rfl) fun ρ wx hc hx hp => hp.1 rfl
      intro vs wx hI hF
      obtain ⟨-, -, -, -, -, -, -, -, -, -, -, -, h12, -⟩ := hF
      replace h12 : vs 12 = .int .i64 (4 + v) := h12
      have HI : Hid (Below w3.heap.size w3 wx) := hI
      simp only [putAll, Act.put, List.setIfInBounds_toArray, List.set_cons_zero, List.set_cons_succ, h12]
      clear hI h12
      clear HSE
      have B4 := Lib.hid (below_then B3.out HI.out)
      go_wp2_with fail
      go_ret
      exact ⟨ret_int HM.out.symm, B4.out⟩
    · by_cases hp0 : pb = 0
      · have HM : Hid (mixF F S x y (some k) = 4 + v) := Lib.hid (by rw [HM0.out, hp0]; rfl)
        clear HM0
        subst hp0
        go_wp2_with fail
        clear k5 c5
        refine wp_region_typed (ClB w3) RlB (Ty [TV (.pointer (some ⟨bb, 5, none⟩)), TV (.slice (some ⟨p, o, none⟩) S.length e0), TV (.int .i64 (k : Int)), TV (.pointer (some ⟨p, o + k * 6, none⟩)), TV (sprV s), TV (.pointer (some ⟨bb, 0, none⟩)), TV (.pointer (some ⟨bb, 2, none⟩)), TV (.slice T F.nt d), TV (.int .i64 x), TV (.int .i64 y), TV (.int .i64 v), TV (.int .i64 (4 + v)), TV (.int .i64 (4 + v))])
          (by kernel_rfl) (by kernel_rfl) (stab_ty _ ⟨stabB_k _, stabB_k _, stabB_k _, stabB_k _, stabB_k _, stabB_k _, stabB_k _, stabB_k _, stabB_k _, stabB_k _, stabB_k _, stabB_k _, stabB_k _, trivial⟩) (Below.refl _ _).drew ?_ ?_
        · refine ⟨?_, ?_, ?_, ?_, ?_, ?_, ?_, ?_, ?_, ?_, ?_, ?_, ?_, trivial⟩
          · refine lb_val (.pointer (some ⟨bb, 5, none⟩)) (fun _ _ _ => want_none rfl) fun ρ wx hb hc hx hp => ⟨?_, rfl⟩
            have h4 : ρ (.tmp 4) = .pointer (some ⟨bb, 0, none⟩) := hx 4 rfl
            unfold execOp
            simp only [h4]
            clear h4 hx hp hc hb
            go_simp
          · refine lb_val (.slice (some ⟨p, o, none⟩) S.length e0) (fun _ _ _ => want_none rfl) fun ρ wx hb hc hx hp => ⟨?_, rfl⟩
            have h40 : ρ (.tmp 40) = .pointer (some ⟨bb, 5, none⟩) := hp.1 rfl
            have c1 : wx.cell? ⟨bb, 5, none⟩ = some (.slice (some ⟨p, o, none⟩) S.length e0) := (X3.out.below hb).cell 5
            unfold execOp
            simp only [h40]
            clear h40 hx hp hc hb
            go_simp
          · exact lb_move (.tmp 10) (.inl rfl) (fun _ _ _ => want_none rfl) fun ρ wx hc hx hp => hx 10 rfl
          · refine lb_val (.pointer (some ⟨p, o + k * 6, none⟩)) (fun _ _ _ => want_none rfl) fun ρ wx hb hc hx hp => ⟨?_, rfl⟩
            have h41 : ρ (.tmp 41) = .slice (some ⟨p, o, none⟩) S.length e0 := hp.1 rfl
            have h42 : ρ (.tmp 42) = .int .i64 (k : Int) := hp.2.1 rfl
            unfold execOp
            simp only [h41, h42]
            clear h41 h42 hx hp hc hb
            go_simp
          · refine lb_sprm (.tmp 43) p (o + k * 6) s rfl (fun wq hb => by rw [← HSE.out]; exact spr_range (H3.out.2.below hb) hkS) (fun _ _ _ => want_none rfl) fun ρ wx hx hp => ⟨hp.1 rfl, rfl⟩
          · refine lb_val (.pointer (some ⟨bb, 0, none⟩)) (fun _ _ _ => want_none rfl) fun ρ wx hb hc hx hp => ⟨?_, rfl⟩
            have h4 : ρ (.tmp 4) = .pointer (some ⟨bb, 0, none⟩) := hx 4 rfl
            unfold execOp
            simp only [h4]
            clear h4 hx hp hc hb
            go_simp
          · refine lb_val (.pointer (some ⟨bb, 2, none⟩)) (fun _ _ _ => want_none rfl) fun ρ wx hb hc hx hp => ⟨?_, rfl⟩
            have h45 : ρ (.tmp 45) = .pointer (some ⟨bb, 0, none⟩) := hp.1 rfl
            unfold execOp
            simp only [h45]
            clear h45 hx hp hc hb
            go_simp
          · refine lb_val (.slice T F.nt d) (fun _ _ _ => want_none rfl) fun ρ wx hb hc hx hp => ⟨?_, rfl⟩
            have h46 : ρ (.tmp 46) = .pointer (some ⟨bb, 2, none⟩) := hp.1 rfl
            have c1 : wx.cell? ⟨bb, 2, none⟩ = some (.slice T F.nt d) := (X3.out.below hb).cell 2
            unfold execOp
            simp only [h46]
            clear h46 hx hp hc hb
            go_simp
          · exact lb_move (.tmp 2) (.inl rfl) (fun _ _ _ => want_none rfl) fun ρ wx hc hx hp => hx 2 rfl
          · exact lb_move (.tmp 3) (.inl rfl) (fun _ _ _ => want_none rfl) fun ρ wx hc hx hp => hx 3 rfl
          · refine lb_known _ _ _ (.int .i64 v) (fun _ _ => by simp [go_sem]) rfl (fun _ _ _ => want_none rfl) #[sprV s, .slice T F.nt d, .int .i64 x, .int .i64 y] (fun wq hb => ?_) (fun ρ wx hc hx hp => ?_) (fun _ => rfl)
            · rw [← HVE.out]
              exact spec_val s T d F.nt F.zs ft x y wq (H3.out.1.2.below hb) HOK.out HS.out.1.2 (by omega) (by omega)
            · have h0 : ρ (.tmp 44) = sprV s := hp.1 rfl
              have h1 : ρ (.tmp 47) = .slice T F.nt d := hp.2.1 rfl
              have h2 : ρ (.tmp 48) = .int .i64 x := hp.2.2.1 rfl
              have h3 : ρ (.tmp 49) = .int .i64 y := hp.2.2.2.1 rfl
              simp only [List.map_toArray, List.map_cons, List.map_nil, h0, h1, h2, h3]
          · refine lb_val (.int .i64 (4 + v)) (fun _ _ _ => want_none rfl) fun ρ wx hb hc hx hp => ⟨?_, rfl⟩
            have h50 : ρ (.tmp 50) = .int .i64 v := hp.1 rfl
            have hc0 := hc (.int .i64 4)
            have hw1 : IntKind.i64.wrap (4 + v) = 4 + v := by rw [IntKind.wrap_i64]; omega
            unfold execOp
            simp only [h50, hc0]
            clear h50 hc0 hx hp hc hb
            go_simp
          · exact lb_move (.tmp 51) (.inr rfl) (fun _ _ _ => want_none rfl) fun ρ wx hc hx hp => hp.1 rfl
        intro vs wx hI hF
        obtain ⟨-, -, -, -, -, -, -, -, -, -, -, -, h12, -⟩ := hF
        replace h12 : vs 12 = .int .i64 (4 + v) := h12
        have HI : Hid (Below w3.heap.size w3 wx) := hI
        simp only [putAll, Act.put, List.setIfInBounds_toArray, List.set_cons_zero, List.set_cons_succ, h12]
        clear hI h12
        clear HSE
        have B4 := Lib.hid (below_then B3.out HI.out)
        go_wp2_with fail
        go_ret
        exact ⟨ret_int HM.out.symm, B4.out⟩
      · have HM : Hid (mixF F S x y (some k) = pb) := Lib.hid (by rw [HM0.out]; simp [hp0])
        clear HM0
        have hp0b : (pb != 0) = true := by simp [hp0]
        go_wp2_with fail
        go_ret
        exact ⟨ret_int HM.out.symm, B3.out⟩
set_option maxHeartbeats 4000000 in
theorem spec_scnPixel (F : Fld) (A : Option Addr) (c : Nat) (T : Option Addr) (d : Nat) (S : List Spr) (O : Option Addr) (e0 : Nat) (fa ft fo : List Nat) (x y : Int) (w : World) (h : SHas w A T O F S fa ft fo) (hs : SSmall F S) :
    Calls Try.prog 28 #[sv F A c T d S O e0, .int .i64 x, .int .i64 y] w fun e w' => e = .returned (.int .i64 (scT F S x y)) ∧ Below w.heap.size w w' := by
  have BB := Lib.hid (below1 w (.cells #[.int .i64 F.w, .slice A F.xs.length c, .slice T F.nt d, .int .i64 F.sx, .int .i64 F.sy, .slice O S.length e0] 41))
  have X1 := Lib.hid (Box.new w #[.int .i64 F.w, .slice A F.xs.length c, .slice T F.nt d, .int .i64 F.sx, .int .i64 F.sy, .slice O S.length e0] 41)
  have H1 := Lib.hid (SHas.below h BB.out)
  have HS := Lib.hid hs
  clear h hs
  go_enter Try.func28, Try.ntmps28
  go_upto_region 1 with (fail)
  generalize w.alloc (.cells #[.int .i64 F.w, .slice A F.xs.length c, .slice T F.nt d, .int .i64 F.sx, .int .i64 F.sy, .slice O S.length e0] 41) = w1 at X1 BB H1 ⊢
  generalize hbb : w.heap.size = bb at X1 ⊢
  have HBB := Lib.hid hbb
  clear hbb
  go_wp2_with (first | (refine sc_load (by rfl) _ rfl bb rfl X1.out ?_))
  refine (spec_scnValid F A c T d S O e0 fa ft fo _ H1.out HS.out).mono ?_; rintro e w2 ⟨rfl, bl⟩
  have X2 := Lib.hid (X1.out.below bl)
  have H2 := Lib.hid (H1.out.below bl)
  have B2 := Lib.hid (below_then BB.out bl)
  clear bl
  cases hv : scnB F S
  · have HT : Hid (scT F S x y = -1) := Lib.hid (by unfold scT; rw [hv]; rfl)
    clear hv
    go_wp2_with fail
    go_ret
    exact ⟨ret_int HT.out.symm, B2.out⟩
  have HV := Lib.hid hv
  go_wp2_with fail
  refine (l1In_any x 0 31 _).mono ?_; rintro e w3 ⟨rfl, rfl⟩
  cases hx : betB x 0 31
  · have HT : Hid (scT F S x y = -1) := Lib.hid (by unfold scT; rw [hv, hx]; rfl)
    clear hv
    go_wp2_with fail
    go_ret
    exact ⟨ret_int HT.out.symm, B2.out⟩
  go_wp2_with fail
  refine (l1In_any y 0 15 _).mono ?_; rintro e w3 ⟨rfl, rfl⟩
  cases hy : betB y 0 15
  · have HT : Hid (scT F S x y = -1) := Lib.hid (by unfold scT; rw [hv, hx, hy]; rfl)
    clear hv
    go_wp2_with fail
    go_ret
    exact ⟨ret_int HT.out.symm, B2.out⟩
  have HT := Lib.hid (scT_yes hv hx hy)
  have hxb := betB_iff.1 hx
  have hyb := betB_iff.1 hy
  have HY := Lib.hid (fun i (hi : i < S.length) => spr_y (by unfold scnB at hv; rw [Bool.and_eq_true] at hv; exact hv.2) i hi)
  obtain ⟨n, hn⟩ : ∃ n, scF F S x y = n := ⟨_, rfl⟩
  have HN := Lib.hid hn
  clear hv hx hy hn
  go_wp2_with fail
  refine wp_region_typed (ClB w2) RlB (Ty [TV (sv F A c T d S O e0), TV (.pointer (some ⟨bb, 5, none⟩)), TV (.slice O S.length e0), TV (.int .i64 y), TOn S y, TV (.int .i64 x), TV (.int .i64 y), TV (.int .i64 n), TV (.int .i64 n)])
    (by kernel_rfl) (by kernel_rfl) (stab_ty _ ⟨stabB_k _, stabB_k _, stabB_k _, stabB_k _, stabB_on _ _, stabB_k _, stabB_k _, stabB_k _, stabB_k _, trivial⟩) (Below.refl _ _).drew ?_ ?_
  · refine ⟨?_, ?_, ?_, ?_, ?_, ?_, ?_, ?_, ?_, trivial⟩
    · refine lb_scn (.tmp 3) bb rfl X2.out (fun _ _ _ => want_none rfl) fun ρ wx hx hp => ⟨hx 3 rfl, rfl⟩
    · refine lb_val (.pointer (some ⟨bb, 5, none⟩)) (fun _ _ _ => want_none rfl) fun ρ wx hb hc hx hp => ⟨?_, rfl⟩
      have h3 : ρ (.tmp 3) = .pointer (some ⟨bb, 0, none⟩) := hx 3 rfl
      unfold execOp
      simp only [h3]
      clear h3 hx hp hc hb
      go_simp
    · refine lb_val (.slice O S.length e0) (fun _ _ _ => want_none rfl) fun ρ wx hb hc hx hp => ⟨?_, rfl⟩
      have h21 : ρ (.tmp 21) = .pointer (some ⟨bb, 5, none⟩) := hp.1 rfl
      have c1 : wx.cell? ⟨bb, 5, none⟩ = some (.slice O S.length e0) := (X2.out.below hb).cell 5
      unfold execOp
      simp only [h21]
      clear h21 hx hp hc hb
      go_simp
    · exact lb_move (.tmp 2) (.inl rfl) (fun _ _ _ => want_none rfl) fun ρ wx hc hx hp => hx 2 rfl
    · refine lb_call _ _ _ (fun _ _ => by simp [go_sem]) rfl (fun _ _ _ => want_none rfl) fun ρ wx hb hc hp => ?_
      have h0 : ρ (.tmp 22) = .slice O S.length e0 := hp.1 rfl
      have h1 : ρ (.tmp 23) = .int .i64 y := hp.2.1 rfl
      refine ⟨_, by simp only [List.map_toArray, List.map_cons, List.map_nil, h0, h1], (spec_on O S.length e0 S fo y wx (H2.out.2.below hb) HS.out.2 (by omega) HY.out).mono ?_⟩
      rintro e w' ⟨A3, c3, f3, rfl, _, h2, _, bl⟩
      exact ⟨_, rfl, bl, A3, c3, f3, rfl, h2⟩
    · exact lb_move (.tmp 1) (.inl rfl) (fun _ _ _ => want_none rfl) fun ρ wx hc hx hp => hx 1 rfl
    · exact lb_move (.tmp 2) (.inl rfl) (fun _ _ _ => want_none rfl) fun ρ wx hc hx hp => hx 2 rfl
    · refine lb_call _ _ _ (fun _ _ => by simp [go_sem]) rfl (fun _ _ _ => want_none rfl) fun ρ wx hb hc hp => ?_
      have h0 : ρ (.tmp 20) = sv F A c T d S O e0 := hp.1 rfl
      obtain ⟨A3, c3, f3, h1, hi⟩ : TOn S y (ρ (.tmp 24)) wx := hp.2.1 rfl
      have h2 : ρ (.tmp 25) = .int .i64 x := hp.2.2.1 rfl
      have h3 : ρ (.tmp 26) = .int .i64 y := hp.2.2.2.1 rfl
      have l4 := onF_len S y
      refine ⟨_, by simp only [List.map_toArray, List.map_cons, List.map_nil, h0, h1, h2, h3], (spec_mix F A c T d S O e0 fa ft fo A3 (onF S y).length c3 (onF S y) f3 x y wx (H2.out.below hb) HS.out HV.out hi (fun k hk => (onN_mem.1 (List.mem_of_mem_take hk)).1) (by omega) hxb.1 hxb.2 hyb.1 hyb.2).mono ?_⟩
      rintro e w' ⟨rfl, bl⟩
      exact ⟨_, rfl, bl, by rw [← HN.out]; rfl⟩
    · exact lb_move (.tmp 27) (.inr rfl) (fun _ _ _ => want_none rfl) fun ρ wx hc hx hp => hp.1 rfl
  intro vs wx hI hF
  obtain ⟨-, -, -, -, -, -, -, -, h8, -⟩ := hF
  replace h8 : vs 8 = .int .i64 n := h8
  have HI : Hid (Below w2.heap.size w2 wx) := hI
  simp only [putAll, Act.put, List.setIfInBounds_toArray, List.set_cons_zero, List.set_cons_succ, h8]
  clear hI h8
  have B4 := Lib.hid (below_then B2.out HI.out)
  go_wp2_with fail
  go_ret
  exact ⟨ret_int (by rw [HT.out, HN.out]), B4.out⟩
end Go.Proofs.Ytacebhncecninaa
