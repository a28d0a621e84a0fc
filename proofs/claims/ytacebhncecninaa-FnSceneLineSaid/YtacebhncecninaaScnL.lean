/- Drawn laws of chapter 12, walked. -/
import Derived.Test.YtacebhncecninaaScnU
import Derived.Test.YtacebhncecninaaScnI
import Derived.Test.YtacebhncecninaaScnT
import Derived.Test.YtacebhncecninaaScnJ
import Derived.Test.YtacebhncecninaaSprT
import Derived.Test.YtacebhncecninaaSprW
import Derived.Deep.DeepCutAuto
namespace Go.Proofs.Ytacebhncecninaa
open Go.ChangeShapes Go.WideShapes Go.ChangeAt Go.RowKit
set_option linter.unusedVariables false

/-- A slice that holds these integers. -/
def TInts (xs : List Int) (n : Nat) : Value → World → Prop := fun v w => ∃ B c fb, v = .slice B n c ∧ Ints w B n xs fb
theorem stabB_ints (xs : List Int) (n : Nat) : Stab RlB (TInts xs n) := fun _ _ _ (hR : Below _ _ _) ⟨B, c, fb, hv, hi⟩ => ⟨B, c, fb, hv, hi.below hR⟩
theorem scT_no {F : Fld} {S : List Spr} {x y : Int} (h : (scnB F S && betB x 0 31 && betB y 0 15) = false) : scT F S x y = -1 := by unfold scT; rw [h]; rfl
theorem scn_both {F : Fld} {S : List Spr} (h : scnB F S = true) : fldB F = true ∧ sprB S F.nt F.zs = true := by unfold scnB at h; rwa [Bool.and_eq_true] at h
theorem has_bare {w : World} {A T O : Option Addr} {F : Fld} {S : List Spr} {fa ft fo : List Nat} (h : SHas w A T O F S fa ft fo) : SHas w A T none F [] fa ft [] := ⟨h.1, .nil _ _⟩
theorem small_bare {F : Fld} {S : List Spr} (h : SSmall F S) : SSmall F [] := ⟨h.1, by simp⟩

section
variable {ops : Array Oper} {Q : Exit → Act → World → Prop} {T' : Nat → Value → World → Prop} {a0 : Act} {w0 : World} {i : Nat} {o : Oper}
/-- The background of a scene is loaded. -/
theorem lb_back (x : Operand) (b : Nat) {t : TypeId} {W : Int} {A : Option Addr} {n c : Nat} {T : Option Addr} {m d : Nat} {sx sy : Int} {O : Option Addr} {k e : Nat} (hop : o.op = .load 26 x) (hb : Box w0 b t (ccs W A n c T m d sx sy O k e)) (hw : ∀ (ρ : Operand → Value) w, PreR ops T' ρ w o.after.toList → wantV ops (slotR ρ) o = true)
    (h : ∀ (ρ : Operand → Value) w, (∀ n, (ops.toList.all fun o => o.dst != some n) = true → ρ (.tmp n) = a0.eval (.tmp n)) → PreR ops T' ρ w o.after.toList → ρ x = .pointer (some ⟨b, 0, none⟩) ∧ T' i (dstV o (fldV W A n c T m d sx sy)) w) : Ob Try.prog ops Q (ClB w0) RlB T' a0 i o :=
  lb_val (fldV W A n c T m d sx sy) hw fun ρ w hbl _ hx hp => by
    obtain ⟨h1, h2⟩ := h ρ w hx hp
    refine ⟨?_, h2⟩
    have hl := run_loadAt_mid (P := Try.prog) w b 0 26 (fcs W A n c T m d sx sy) _ (sc_part (hb.below hbl)) Try.underlying26 rfl fld_info
    unfold execOp
    simp only [hop, h1, hl, Sem.run_bind, Sem.run_pure, Result.andThen_ok]
end
set_option maxRecDepth 100000 in
set_option maxHeartbeats 8000000 in
theorem walk_FnScenePixel (a0 : Option Addr) (len0 cap0 : Nat) (z0 : List Int) (w : World) (w0 : IsRow .u8 w a0 len0 cap0 z0) :
    Calls Try.prog 5 #[.slice a0 len0 cap0] w fun e w' => e = .returned (.bool true) ∧ Below w.heap.size w w' := by
  have H := Lib.hid w0
  have hl := isRow_len w0
  clear w0
  by_cases hs : len0 ≤ 1048576
  · go_enter Try.func5, Try.ntmps5
    go_wp2_with fail
    refine (draw_scenePixel _ _ _ _ _ H.out).mono ?_; rintro e w1 ⟨F, S, A, c, T, d, O, e0, fa, ft, fo, x, y, rfl, hxx, hyy, hg⟩
    have hx1 := hg.x1
    have ht1 := hg.t1
    have hs1 := hg.s1
    have hxc := hg.xc
    have htd := hg.td
    have hse := hg.se
    have HS : Hid (SSmall F S) := Lib.hid ⟨⟨by omega, by omega⟩, by omega⟩
    obtain ⟨w2, hw2⟩ : ∃ W, W = w1.alloc (.cells #[.int .i64 F.w, .slice A F.xs.length c, .slice T F.nt d, .int .i64 F.sx, .int .i64 F.sy, .slice O S.length e0] 41) := ⟨_, rfl⟩
    have hbt : w.heap.size ≤ w1.heap.size := hg.below.size
    have X2 : Hid (Box w2 w1.heap.size 41 (ccs F.w A F.xs.length c T F.nt d F.sx F.sy O S.length e0)) := Lib.hid (by rw [hw2]; exact Box.new _ _ _)
    have H2 : Hid (SHas w2 A T O F S fa ft fo) := Lib.hid (by rw [hw2]; exact hg.has.below (below1 _ _))
    have B2 : Hid (Below w.heap.size w w2) := Lib.hid (by rw [hw2]; exact hg.below.alloc hg.below.size _)
    clear hg
    go_upto_region 4 with (fail)
    rw [← hw2]
    generalize w1.heap.size = bs at X2 hbt
    clear hw2
    go_wp2_with (first | (refine sc_load (by rfl) _ rfl bs rfl X2.out ?_))
    refine (im_scnPixel F A c T d S O e0 fa ft fo x y _ H2.out HS.out).mono ?_; rintro e w3 ⟨rfl, bl⟩
    obtain ⟨V, hV⟩ : ∃ V, scT F S x y = V := ⟨_, rfl⟩
    have HV := Lib.hid hV
    rw [hV]
    clear hV
    have X3 := Lib.hid (X2.out.below bl)
    have H3 := Lib.hid (H2.out.below bl)
    have B3 := Lib.hid (below_then B2.out bl)
    clear X2 H2 B2 bl
    go_wp2_with (first | (refine sc_load (by rfl) _ rfl bs rfl X3.out ?_))
    refine (spec_scnPixel F A c T d S O e0 fa ft fo x y _ H3.out HS.out).mono ?_; rintro e w4 ⟨rfl, bl⟩
    rw [HV.out]
    have X4 := Lib.hid (X3.out.below bl)
    have H4 := Lib.hid (H3.out.below bl)
    have B4 := Lib.hid (below_then B3.out bl)
    clear X3 H3 B3 bl
    cases hok : (scnB F S && betB x 0 31 && betB y 0 15)
    · obtain rfl : V = -1 := by rw [← HV.out]; exact scT_no hok
      go_wp2_with fail
      refine (alive_any _).mono ?_; rintro e w' ⟨rfl, rfl⟩
      go_wp2_with fail
      go_ret
      exact ⟨rfl, B4.out⟩
    · have hok' := hok
      simp only [Bool.and_eq_true] at hok'
      obtain ⟨⟨hv, hx⟩, hy⟩ := hok'
      have hz := H4.out.1.2.1
      have hV : V = scF F S x y := by rw [← HV.out]; exact scT_yes hv hx hy
      have hVb := scF_b hz hv x y
      rw [← hV] at hVb
      have hVn : ¬ V < 0 := by omega
      have HP : Hid (pixT F x y = pixF F x y) := Lib.hid (pixT_yes (scn_both hv).1 hx hy)
      have HA : Hid (atT S F.nt F.zs x y = atF S F.zs x y) := Lib.hid (by unfold atT; rw [(scn_both hv).2, hx, hy]; rfl)
      have HM : Hid (V = mixF F S x y (atF S F.zs x y)) := Lib.hid hV
      have HSP := Lib.hid (sprB_iff.1 (scn_both hv).2)
      have HZ := Lib.hid hz
      clear hok hv hx hy hV hz HV
      go_wp2_with (first | (refine sc_load (by rfl) _ rfl bs rfl X4.out ?_) | (refine sc_back (by rfl) _ rfl bs rfl X4.out ?_))
      refine (im_fieldPixel F A c T d fa ft x y _ H4.out.1 HS.out.1).mono ?_; rintro e w5 ⟨rfl, bl⟩
      rw [HP.out]
      obtain ⟨pb, hpb⟩ : ∃ pb, pixF F x y = pb := ⟨_, rfl⟩
      have HPB := Lib.hid hpb
      rw [hpb]
      clear hpb HP
      have X5 := Lib.hid (X4.out.below bl)
      have H5 := Lib.hid (H4.out.below bl)
      have B5 := Lib.hid (below_then B4.out bl)
      clear X4 H4 B4 bl
      have k2 := X5.out.cell 2
      have k5 := X5.out.cell 5
      go_wp2_with fail
      clear k2 k5
      refine (im_at O S.length e0 S fo T F.nt d F.zs ft x y _ H5.out.2 H5.out.1.2 HS.out.2 HS.out.1.2).mono ?_; rintro e w6 ⟨rfl, bl⟩
      rw [HA.out]
      obtain ⟨R, hR⟩ : ∃ R, atF S F.zs x y = R := ⟨_, rfl⟩
      have HR := Lib.hid hR
      have HMR := HM.out
      rw [hR] at HMR ⊢
      have HM := Lib.hid HMR
      clear hR HMR HA
      have X6 := Lib.hid (X5.out.below bl)
      have H6 := Lib.hid (H5.out.below bl)
      have B6 := Lib.hid (below_then B5.out bl)
      clear X5 H5 B5 bl
      cases R with
      | none =>
        rw [show pairV (atR S F.zs x y none) = .tuple #[.int .i64 (-1), .int .i64 0] from rfl]
        obtain rfl : V = pb := by rw [HM.out]; exact HPB.out
        go_wp2_with fail
        go_ret
        exact ⟨rfl, B6.out⟩
      | some k =>
        have hkS : k < S.length := (onN_mem.1 (List.mem_of_mem_take (atF_some HR.out).1)).1
        have hkn' : (k : Int) < S.length := by omega
        have hk0 : ¬ (k : Int) < 0 := by omega
        have hvb := valF_b (s := S.getD k .zero) HZ.out HSP.out.1 (HSP.out.2.1 k hkS) x y
        have HW : Hid (pairV (atR S F.zs x y (some k)) = .tuple #[.int .i64 (k : Int), .int .i64 (valF (S.getD k .zero) F.zs x y)]) := Lib.hid rfl
        rw [HW.out]
        obtain ⟨p, o, rfl, _, hpl, hc⟩ := H6.out.2.at_ (by omega)
        have HMS := Lib.hid (HM.out.trans (mixF_some F S x y k))
        have c5 : w6.cell? ⟨p, o + k * 6 + 5, none⟩ = some (.bool (S.getD k .zero).bh) := by
          have := hc k hkS 5 (.bool (S.getD k .zero).bh) rfl
          rwa [show o + (6 * k + 5) = o + k * 6 + 5 by omega] at this
        rw [HPB.out] at HMS
        generalize valF (S.getD k .zero) F.zs x y = v at hvb HMS HW
        have k5 := X6.out.cell 5
        obtain ⟨bh, hbh⟩ : ∃ bh, (S.getD k .zero).bh = bh := ⟨_, rfl⟩
        rw [hbh] at c5 HMS
        clear hc hbh HW HM
        have hw1 : IntKind.i64.wrap (4 + v) = 4 + v := by rw [IntKind.wrap_i64]; omega
        cases bh
        · obtain rfl : V = 4 + v := by rw [HMS.out]; rfl
          go_wp2_with fail
          go_ret
          exact ⟨rfl, B6.out⟩
        · by_cases hp0 : pb = 0
          · subst hp0
            obtain rfl : V = 4 + v := by rw [HMS.out]; rfl
            go_wp2_with fail
            go_ret
            exact ⟨rfl, B6.out⟩
          · obtain rfl : V = pb := by rw [HMS.out]; simp [hp0]
            have hp0b : (V != 0) = true := by simp [hp0]
            go_wp2_with fail
            go_ret
            exact ⟨rfl, B6.out⟩
  · have hs' : 1048576 < len0 := by omega
    go_enter Try.func5, Try.ntmps5
    go_wp2_with fail
    go_ret
    exact ⟨rfl, Below.refl _ _⟩
set_option maxRecDepth 100000 in
set_option maxHeartbeats 8000000 in
theorem walk_FnSceneLine (a0 : Option Addr) (len0 cap0 : Nat) (z0 : List Int) (w : World) (w0 : IsRow .u8 w a0 len0 cap0 z0) :
    Calls Try.prog 6 #[.slice a0 len0 cap0] w fun e w' => e = .returned (.bool true) ∧ Below w.heap.size w w' := by
  have H := Lib.hid w0
  have hl := isRow_len w0
  clear w0
  by_cases hs : len0 ≤ 1048576
  · go_enter Try.func6, Try.ntmps6
    go_wp2_with fail
    refine (draw_sceneLine _ _ _ _ _ H.out).mono ?_; rintro e w1 ⟨F, S, A, c, T, d, O, e0, fa, ft, fo, y, rfl, hyy, hg⟩
    have hx1 := hg.x1
    have ht1 := hg.t1
    have hs1 := hg.s1
    have hxc := hg.xc
    have htd := hg.td
    have hse := hg.se
    have HS : Hid (SSmall F S) := Lib.hid ⟨⟨by omega, by omega⟩, by omega⟩
    obtain ⟨w2, hw2⟩ : ∃ W, W = w1.alloc (.cells #[.int .i64 F.w, .slice A F.xs.length c, .slice T F.nt d, .int .i64 F.sx, .int .i64 F.sy, .slice O S.length e0] 41) := ⟨_, rfl⟩
    have hbt : w.heap.size ≤ w1.heap.size := hg.below.size
    have X2 : Hid (Box w2 w1.heap.size 41 (ccs F.w A F.xs.length c T F.nt d F.sx F.sy O S.length e0)) := Lib.hid (by rw [hw2]; exact Box.new _ _ _)
    have H2 : Hid (SHas w2 A T O F S fa ft fo) := Lib.hid (by rw [hw2]; exact hg.has.below (below1 _ _))
    have B2 : Hid (Below w.heap.size w w2) := Lib.hid (by rw [hw2]; exact hg.below.alloc hg.below.size _)
    clear hg
    go_upto_region 4 with (fail)
    rw [← hw2]
    generalize w1.heap.size = bs at X2 hbt
    clear hw2
    go_wp2_with (first | (refine sc_load (by rfl) _ rfl bs rfl X2.out ?_))
    refine (im_scnLine F A c T d S O e0 fa ft fo y _ H2.out HS.out).mono ?_; rintro e w3 ⟨R, r, l, rfl, hr, hi, hn, bl⟩
    have I3 := Lib.hid hi
    clear hn hi
    have X3 := Lib.hid (X2.out.below bl)
    have H3 := Lib.hid (H2.out.below bl)
    have B3 := Lib.hid (below_then B2.out bl)
    clear X2 H2 B2 bl
    go_wp2_with (first | (refine sc_load (by rfl) _ rfl bs rfl X3.out ?_))
    refine (spec_scnLine F A c T d S O e0 fa ft fo y _ H3.out HS.out).mono ?_; rintro e w4 ⟨R', r', l', rfl, _, hi', _, bl⟩
    have J4 := Lib.hid hi'
    clear hi'
    have X4 := Lib.hid (X3.out.below bl)
    have H4 := Lib.hid (H3.out.below bl)
    have B4 := Lib.hid (below_then B3.out bl)
    have I4 := Lib.hid (I3.out.below bl)
    clear X3 H3 B3 I3 bl
    go_wp2_with fail
    refine (same_ints R R' _ r r' (scLT F S y) l l' _ I4.out J4.out (by unfold scLT; split <;> simp [scL_len])).mono ?_; rintro e w5 ⟨rfl, q, hq⟩
    have bl : Below w4.heap.size w4 w5 := by rw [hq]; exact below_drewN (Below.refl _ _) _
    clear hq J4
    have X5 := Lib.hid (X4.out.below bl)
    have H5 := Lib.hid (H4.out.below bl)
    have B5 := Lib.hid (below_then B4.out bl)
    have I5 := Lib.hid (I4.out.below bl)
    clear X4 H4 B4 I4 bl
    cases hok : (scnB F S && betB y 0 15)
    · have HT : Hid (scLT F S y = []) := Lib.hid (scLT_no hok)
      rw [HT.out]
      clear hok
      go_wp2_with fail
      refine (alive_any _).mono ?_; rintro e w' ⟨rfl, rfl⟩
      go_wp2_with fail
      go_ret
      exact ⟨rfl, B5.out⟩
    · have hok' := hok
      rw [Bool.and_eq_true] at hok'
      obtain ⟨hv, hy⟩ := hok'
      have hfb := (scn_both hv).1
      have I5' := I5.out
      rw [scLT_yes hv hy, scL_len] at I5' hr ⊢
      obtain ⟨p, o, rfl, _, hpl, hc⟩ := I5'.at_ (by omega)
      have HC5 := Lib.hid hc
      have HSC : Hid (∀ k : Nat, k < 32 → scT F S k y = scF F S k y) := Lib.hid fun k hk => scT_yes hv (betB_iff.2 ⟨by omega, by omega⟩) hy
      have HGL : Hid (∀ k : Nat, k < 32 → (scL F S y).getD k 0 = scF F S k y) := Lib.hid fun k hk => scL_get F S y k hk
      have HB1 : Hid (scLT F [] y = lineF F y) := Lib.hid (by rw [scLT_yes (by rw [scnB_nil]; exact hfb) hy]; rfl)
      have HB2 : Hid (lineT F y = lineF F y) := Lib.hid (lineT_yes hfb hy)
      have HPL := Lib.hid hpl
      clear hok hv hy hfb hc hpl I5 I5'
      go_wp2_with fail
      go_loopw [6] (fun i wr => ∃ k : Nat, k ≤ 32 ∧ i = .int .i64 k ∧ Below w5.heap.size w5 wr) (fun i _ => 32 - (intOf i).toNat)
      case atStart => exact ⟨0, by omega, rfl, Below.refl _ _⟩
      case round =>
        obtain ⟨k, hk, rfl, hbl⟩ := hrel
        have BR := Lib.hid hbl
        clear hbl
        by_cases h32 : k < 32
        · have i32 : (k : Int) < 32 := by omega
          have XR := Lib.hid (X5.out.below BR.out)
          have HR := Lib.hid (H5.out.below BR.out)
          have HC : Hid (∀ j, j < 32 → ∀ W, Below wr.heap.size wr W → W.cell? ⟨p, o + j, none⟩ = some (.int .i64 (scF F S j y))) := Lib.hid fun j hj W hb => by
            rw [(below_then BR.out hb).cell (by exact HPL.out), HC5.out j hj, HGL.out j hj]
          go_wp2_with fail
          refine wp_region_typed (ClB wr) RlB (Ty [TV (.slice (some ⟨p, o, none⟩) 32 r), TV (.int .i64 (k : Int)), TV (.pointer (some ⟨p, o + k, none⟩)), TV (.int .i64 (scF F S k y)), TV (sv F A c T d S O e0), TV (.int .i64 (k : Int)), TV (.int .i64 y), TV (.int .i64 (scF F S k y)), TV (.bool false)])
            (by kernel_rfl) (by kernel_rfl) (stab_ty _ ⟨stabB_k _, stabB_k _, stabB_k _, stabB_k _, stabB_k _, stabB_k _, stabB_k _, stabB_k _, stabB_k _, trivial⟩) (Below.refl _ _).drew ?_ ?_
          · refine ⟨?_, ?_, ?_, ?_, ?_, ?_, ?_, ?_, ?_, trivial⟩
            · exact lb_move (.tmp 5) (.inl rfl) (fun _ _ _ => want_none rfl) fun ρ wx hc hx hp => hx 5 rfl
            · exact lb_move (.tmp 6) (.inl rfl) (fun _ _ _ => want_none rfl) fun ρ wx hc hx hp => hx 6 rfl
            · refine lb_val (.pointer (some ⟨p, o + k, none⟩)) (fun _ _ _ => want_none rfl) fun ρ wx hb hc hx hp => ⟨?_, rfl⟩
              have h34 : ρ (.tmp 34) = .slice (some ⟨p, o, none⟩) 32 r := hp.1 rfl
              have h35 : ρ (.tmp 35) = .int .i64 (k : Int) := hp.2.1 rfl
              unfold execOp
              simp only [h34, h35]
              clear h34 h35 hx hp hc hb
              go_simp
            · refine lb_val (.int .i64 (scF F S k y)) (fun _ _ _ => want_none rfl) fun ρ wx hb hc hx hp => ⟨?_, rfl⟩
              have h36 : ρ (.tmp 36) = .pointer (some ⟨p, o + k, none⟩) := hp.1 rfl
              have c1 := HC.out k h32 wx hb
              unfold execOp
              simp only [h36]
              clear h36 hx hp hc hb
              go_simp
            · exact lb_scn (.tmp 3) bs rfl XR.out (fun _ _ _ => want_none rfl) fun ρ wx hx hp => ⟨hx 3 rfl, rfl⟩
            · exact lb_move (.tmp 6) (.inl rfl) (fun _ _ _ => want_none rfl) fun ρ wx hc hx hp => hx 6 rfl
            · exact lb_move (.tmp 4) (.inl rfl) (fun _ _ _ => want_none rfl) fun ρ wx hc hx hp => hx 4 rfl
            · refine lb_known _ _ _ (.int .i64 (scF F S k y)) (fun _ _ => by simp [go_sem]) rfl (fun _ _ _ => want_none rfl) #[sv F A c T d S O e0, .int .i64 (k : Int), .int .i64 y] (fun wq hb => ?_) (fun ρ wx hc hx hp => ?_) (fun _ => rfl)
              · rw [← HSC.out k (by omega)]
                exact im_scnPixel F A c T d S O e0 fa ft fo (k : Int) y wq (HR.out.below hb) HS.out
              · have h0 : ρ (.tmp 38) = sv F A c T d S O e0 := hp.1 rfl
                have h1 : ρ (.tmp 39) = .int .i64 (k : Int) := hp.2.1 rfl
                have h2 : ρ (.tmp 40) = .int .i64 y := hp.2.2.1 rfl
                simp only [List.map_toArray, List.map_cons, List.map_nil, h0, h1, h2]
            · refine lb_val (.bool false) (fun _ _ _ => want_none rfl) fun ρ wx hb hc hx hp => ⟨?_, rfl⟩
              have h37 : ρ (.tmp 37) = .int .i64 (scF F S k y) := hp.1 rfl
              have h41 : ρ (.tmp 41) = .int .i64 (scF F S k y) := hp.2.1 rfl
              unfold execOp
              simp only [h37, h41]
              clear h37 h41 hx hp hc hb
              go_simp
          intro vs wx hI hF
          obtain ⟨-, -, -, -, -, -, -, -, h8, -⟩ := hF
          replace h8 : vs 8 = .bool false := h8
          have bl : Below wr.heap.size wr wx := hI
          simp only [putAll, Act.put, List.setIfInBounds_toArray, List.set_cons_zero, List.set_cons_succ, h8]
          clear hI h8
          have BX := Lib.hid (below_then BR.out bl)
          clear bl XR HR HC
          go_wp2_with fail
          go_roundw
          case rel => exact ⟨k + 1, by omega, by go_num, BX.out⟩
          case measure => simp [intOf]; omega
        · obtain rfl : k = 32 := by omega
          have X6 := Lib.hid (X5.out.below BR.out)
          have H6 := Lib.hid (H5.out.below BR.out)
          have B6 := Lib.hid (below_then B5.out BR.out)
          go_wp2_with fail
          refine wp_region_typed (ClB wr) RlB (Ty [TV (.slice (some ⟨p, o, none⟩) 32 r), TV (.int .i64 32), TV (.bool true), TV (.bool true), TV (.pointer (some ⟨bs, 0, none⟩)), TV (fv F A c T d), TV (sv F A c T d [] none 0), TV (.int .i64 y), TInts (lineF F y) 32, TV (.pointer (some ⟨bs, 0, none⟩)), TV (fv F A c T d), TV (.int .i64 y), TInts (lineF F y) 32, TV (.bool true), TV (.bool true), TV (.bool true)])
            (by kernel_rfl) (by kernel_rfl) (stab_ty _ ⟨stabB_k _, stabB_k _, stabB_k _, stabB_k _, stabB_k _, stabB_k _, stabB_k _, stabB_k _, stabB_ints _ _, stabB_k _, stabB_k _, stabB_k _, stabB_ints _ _, stabB_k _, stabB_k _, stabB_k _, trivial⟩) (Below.refl _ _).drew ?_ ?_
          · refine ⟨?_, ?_, ?_, ?_, ?_, ?_, ?_, ?_, ?_, ?_, ?_, ?_, ?_, ?_, ?_, ?_, trivial⟩
            · exact lb_move (.tmp 5) (.inl rfl) (fun _ _ _ => want_none rfl) fun ρ wx hc hx hp => hx 5 rfl
            · refine lb_val (.int .i64 32) (fun _ _ _ => want_none rfl) fun ρ wx hb hc hx hp => ⟨?_, rfl⟩
              have h43 : ρ (.tmp 43) = .slice (some ⟨p, o, none⟩) 32 r := hp.1 rfl
              unfold execOp
              clear hx hp hc hb
              go_simp
            · refine lb_val (.bool true) (fun _ _ _ => want_none rfl) fun ρ wx hb hc hx hp => ⟨?_, rfl⟩
              have h44 : ρ (.tmp 44) = .int .i64 32 := hp.1 rfl
              have hk0 := hc (.int .i64 32)
              unfold execOp
              simp only [h44, hk0]
              clear h44 hk0 hx hp hc hb
              go_simp
            · exact lb_move (.tmp 45) (.inl rfl) (fun _ _ _ => want_none rfl) fun ρ wx hc hx hp => hp.1 rfl
            · refine lb_val (.pointer (some ⟨bs, 0, none⟩)) (fun ρ wx hp => want_of 3 true 46 rfl rfl (hp.1 rfl)) fun ρ wx hb hc hx hp => ⟨?_, rfl⟩
              have h3 : ρ (.tmp 3) = .pointer (some ⟨bs, 0, none⟩) := hx 3 rfl
              unfold execOp
              simp only [h3]
              clear h3 hx hp hc hb
              go_simp
            · refine lb_back (.tmp 47) bs rfl X6.out (fun ρ wx hp => want_of 3 true 46 rfl rfl (hp.2.1 rfl)) fun ρ wx hx hp => ⟨hp.1 rfl, rfl⟩
            · refine lb_val (sv F A c T d [] none 0) (fun ρ wx hp => want_of 3 true 46 rfl rfl (hp.2.1 rfl)) fun ρ wx hb hc hx hp => ⟨?_, rfl⟩
              have h48 : ρ (.tmp 48) = fv F A c T d := hp.1 rfl
              unfold execOp
              simp only [List.map_toArray, List.map_cons, List.map_nil, h48]
              clear h48 hx hp hc hb
              go_simp
            · exact lb_move (.tmp 4) (.inl rfl) (fun ρ wx hp => want_of 3 true 46 rfl rfl (hp.1 rfl)) fun ρ wx hc hx hp => hx 4 rfl
            · refine lb_call _ _ _ (fun _ _ => by simp [go_sem]) rfl (fun ρ wx hp => want_of 3 true 46 rfl rfl (hp.2.2.1 rfl)) fun ρ wx hb hc hp => ?_
              have h0 : ρ (.tmp 49) = sv F A c T d [] none 0 := hp.1 rfl
              have h1 : ρ (.tmp 50) = .int .i64 y := hp.2.1 rfl
              refine ⟨_, by simp only [List.map_toArray, List.map_cons, List.map_nil, h0, h1], (im_scnLine F A c T d [] none 0 fa ft [] y wx (has_bare (H6.out.below hb)) (small_bare HS.out)).mono ?_⟩
              rw [HB1.out, lineF_len]
              rintro e w' ⟨R2, r2, l2, rfl, _, hi2, _, bl⟩
              exact ⟨_, rfl, bl, R2, r2, l2, rfl, hi2⟩
            · refine lb_val (.pointer (some ⟨bs, 0, none⟩)) (fun ρ wx hp => want_of 3 true 46 rfl rfl (hp.1 rfl)) fun ρ wx hb hc hx hp => ⟨?_, rfl⟩
              have h3 : ρ (.tmp 3) = .pointer (some ⟨bs, 0, none⟩) := hx 3 rfl
              unfold execOp
              simp only [h3]
              clear h3 hx hp hc hb
              go_simp
            · refine lb_back (.tmp 52) bs rfl X6.out (fun ρ wx hp => want_of 3 true 46 rfl rfl (hp.2.1 rfl)) fun ρ wx hx hp => ⟨hp.1 rfl, rfl⟩
            · exact lb_move (.tmp 4) (.inl rfl) (fun ρ wx hp => want_of 3 true 46 rfl rfl (hp.1 rfl)) fun ρ wx hc hx hp => hx 4 rfl
            · refine lb_call _ _ _ (fun _ _ => by simp [go_sem]) rfl (fun ρ wx hp => want_of 3 true 46 rfl rfl (hp.2.2.2.1 rfl)) fun ρ wx hb hc hp => ?_
              have h0 : ρ (.tmp 53) = fv F A c T d := hp.1 rfl
              have h1 : ρ (.tmp 54) = .int .i64 y := hp.2.1 rfl
              refine ⟨_, by simp only [List.map_toArray, List.map_cons, List.map_nil, h0, h1], (im_fieldLine F A c T d fa ft y wx (H6.out.below hb).1 HS.out.1).mono ?_⟩
              rw [HB2.out, lineF_len]
              rintro e w' ⟨R2, r2, l2, rfl, _, hi2, _, bl⟩
              exact ⟨_, rfl, bl, R2, r2, l2, rfl, hi2⟩
            · refine lb_call _ _ _ (fun _ _ => by simp [go_sem]) rfl (fun ρ wx hp => want_of 3 true 46 rfl rfl (hp.2.2.2.1 rfl)) fun ρ wx hb hc hp => ?_
              obtain ⟨R2, r2, l2, h0, hi2⟩ : TInts (lineF F y) 32 (ρ (.tmp 51)) wx := hp.1 rfl
              obtain ⟨R3, r3, l3, h1, hi3⟩ : TInts (lineF F y) 32 (ρ (.tmp 55)) wx := hp.2.1 rfl
              refine ⟨_, by simp only [List.map_toArray, List.map_cons, List.map_nil, h0, h1], (same_ints R2 R3 32 r2 r3 (lineF F y) l2 l3 wx hi2 hi3 (by omega)).mono ?_⟩
              rintro e w' ⟨rfl, q, rfl⟩
              exact ⟨_, rfl, below_drewN (Below.refl _ _) _, rfl⟩
            · exact lb_pick (.tmp 46) (.tmp 56) (.const (.bool false)) rfl true (fun _ _ _ => want_none rfl) fun ρ wx hc hp => ⟨hp.1 rfl, hp.2.1 rfl⟩
            · exact lb_move (.tmp 57) (.inr rfl) (fun _ _ _ => want_none rfl) fun ρ wx hc hx hp => hp.1 rfl
          intro vs wx hI hF
          obtain ⟨-, -, -, -, -, -, -, -, -, -, -, -, -, -, -, h15, -⟩ := hF
          replace h15 : vs 15 = .bool true := h15
          have bl : Below wr.heap.size wr wx := hI
          simp only [putAll, Act.put, List.setIfInBounds_toArray, List.set_cons_zero, List.set_cons_succ, h15]
          clear hI h15
          have B7 := Lib.hid (below_then B6.out bl)
          go_wp2_with fail
          go_ret
          exact ⟨rfl, B7.out⟩
  · have hs' : 1048576 < len0 := by omega
    go_enter Try.func6, Try.ntmps6
    go_wp2_with fail
    go_ret
    exact ⟨rfl, Below.refl _ _⟩
/-- A scene of a background and one new sprite. -/
def TScnN (F : Fld) (A : Option Addr) (c : Nat) (T : Option Addr) (d : Nat) (s : Spr) : Value → World → Prop := fun v w => ∃ b, v = sv F A c T d [s] (some ⟨b, 0, none⟩) 1 ∧ Sprs w (some ⟨b, 0, none⟩) 1 [s] [b]
theorem stabB_scnN (F : Fld) (A : Option Addr) (c : Nat) (T : Option Addr) (d : Nat) (s : Spr) : Stab RlB (TScnN F A c T d s) := fun _ _ _ (hR : Below _ _ _) ⟨b, hv, hi⟩ => ⟨b, hv, hi.below hR⟩
end Go.Proofs.Ytacebhncecninaa
