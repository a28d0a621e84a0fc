/- The law on the numbers of pictures, walked. -/
import Derived.Test.YtacebhncecninaaScnK
import Derived.Test.YtacebhncecninaaScnI
import Derived.Test.YtacebhncecninaaScnT
import Derived.Test.YtacebhncecninaaScnJ
import Derived.Test.YtacebhncecninaaScnL
namespace Go.Proofs.Ytacebhncecninaa
open Go.ChangeShapes Go.WideShapes Go.ChangeAt Go.RowKit
set_option linter.unusedVariables false

theorem own_block6 {w : World} {L n : Nat} {v : Value} {xs : List Spr} (h : w.ownsRow L 48 6 v n (svs xs)) {b : Nat} {fp : List Nat} (hb : b ∈ fp) (hs : ∃ A c, v = .slice A n c ∧ Sprs w A n xs fp) : ∀ {cs : List Value}, w.heap[b]? = some (.cells cs.toArray 41 (0, 0)) → False := by
  intro cs hh
  obtain ⟨A, c, rfl, hsp⟩ := hs
  rcases h.2 with ⟨hv, h0⟩ | ⟨g, cap, cur, hv, _, hg, _⟩
  · rcases hsp.2 with ⟨_, hf⟩ | ⟨hn, _⟩
    · rw [hf] at hb; cases hb
    · omega
  · rcases hsp.2 with ⟨_, hf⟩ | ⟨hn, p, o, hA, hf, _⟩
    · rw [hf] at hb; cases hb
    · rw [hf] at hb
      simp at hb
      subst hb
      injection hv with e1 _ _
      rw [hA] at e1
      injection e1 with e1
      injection e1 with e1 _ _
      subst e1
      rw [hg] at hh
      injection hh with hh
      injection hh with _ ht
      exact scn_not_spr ht.symm
set_option maxRecDepth 100000 in
set_option maxHeartbeats 8000000 in
theorem walk_FnSceneHash (a0 : Option Addr) (len0 cap0 : Nat) (z0 : List Int) (w : World) (w0 : IsRow .u8 w a0 len0 cap0 z0) :
    Calls Try.prog 7 #[.slice a0 len0 cap0] w fun e w' => e = .returned (.bool true) ∧ Below w.heap.size w w' := by
  have H := Lib.hid w0
  have hl := isRow_len w0
  clear w0
  by_cases hs : len0 ≤ 1048576
  · go_enter Try.func7, Try.ntmps7
    go_wp2_with fail
    refine (draw_sceneHash _ _ _ _ _ H.out).mono ?_; rintro e w1 ⟨F, S, A, c, T, d, O, e0, fa, ft, fo, rfl, hg⟩
    have hx1 := hg.x1
    have ht1 := hg.t1
    have hs1 := hg.s1
    have hxc := hg.xc
    have htd := hg.td
    have hse := hg.se
    have HS : Hid (SSmall F S) := Lib.hid ⟨⟨by omega, by omega⟩, by omega⟩
    obtain ⟨w2, hw2⟩ : ∃ W, W = w1.alloc (.cells #[.int .i64 F.w, .slice A F.xs.length c, .slice T F.nt d, .int .i64 F.sx, .int .i64 F.sy, .slice O S.length e0] 41) := ⟨_, rfl⟩
    have hbt : w.heap.size ≤ w1.heap.size := hg.below.size
    have X2 : Hid (Box w2 w1.heap.size 41 (ccs F.w A F.xs.length c T F.nt d F.sx F.sy O S.length e0)) := Lib.hid (by rw [hw2]; exact Box.new _ _ _)
    have H2 : Hid (SHas w2 A T O F S fa ft fo) := Lib.hid (by rw [hw2]; exact hg.has.below (below1 _ _))
    have B2 : Hid (Below w.heap.size w w2) := Lib.hid (by rw [hw2]; exact hg.below.alloc hg.below.size _)
    clear hg
    go_upto_region 4 with (fail)
    rw [← hw2]
    generalize w1.heap.size = bs at X2 hbt
    clear hw2
    go_wp2_with (first | (refine sc_load (by rfl) _ rfl bs rfl X2.out ?_))
    refine (im_scnHash F A c T d S O e0 fa ft fo _ H2.out HS.out).mono ?_; rintro e w3 ⟨rfl, bl⟩
    obtain ⟨V, hV⟩ : ∃ V, hashT F S = V := ⟨_, rfl⟩
    have HV := Lib.hid hV
    rw [hV]
    clear hV
    have X3 := Lib.hid (X2.out.below bl)
    have H3 := Lib.hid (H2.out.below bl)
    have B3 := Lib.hid (below_then B2.out bl)
    clear X2 H2 B2 bl
    go_wp2_with (first | (refine sc_load (by rfl) _ rfl bs rfl X3.out ?_))
    refine (spec_scnHash F A c T d S O e0 fa ft fo _ H3.out HS.out).mono ?_; rintro e w4 ⟨rfl, bl⟩
    rw [HV.out]
    have X4 := Lib.hid (X3.out.below bl)
    have H4 := Lib.hid (H3.out.below bl)
    have B4 := Lib.hid (below_then B3.out bl)
    clear X3 H3 B3 bl
    cases hv : scnB F S
    · obtain rfl : V = -1 := by rw [← HV.out]; unfold hashT; rw [hv]; rfl
      clear hv
      go_wp2_with fail
      refine (alive_any _).mono ?_; rintro e w' ⟨rfl, rfl⟩
      go_wp2_with fail
      go_ret
      exact ⟨rfl, B4.out⟩
    · have hz := H4.out.1.2.1
      have hV : hashN F S 16 = V := by rw [← HV.out]; unfold hashT; rw [hv]; rfl
      have hVb := hashN_b hz hv 16
      rw [hV] at hVb
      have hVn : ¬ V < 0 := by omega
      have hVm : V ≤ 65520 := hVb.2
      have hw8 := fldB_w (scn_both hv).1
      have hs12 := (sprB_iff.1 (scn_both hv).2).2.2.1
      have HV16 := Lib.hid hV
      have HVAL := Lib.hid hv
      obtain ⟨G, hG⟩ : ∃ G, shF F (8 * F.w) 0 = G := ⟨_, rfl⟩
      have HGS : Hid (shT F (8 * F.w) 0 = G) := Lib.hid (by rw [shT_yes (scn_both hv).1 (betB_iff.2 ⟨by omega, by omega⟩) (betB_iff.2 ⟨by omega, by omega⟩)]; exact hG)
      have HGH : Hid (hashT G S = V) := Lib.hid (by
        unfold hashT
        rw [← hG, scnB_size hv, if_pos rfl, ← hV]
        exact hash_same fun x y _ _ => scF_size F S x y)
      have HGM : Hid (SSmall G S) := Lib.hid (by rw [← hG]; exact HS.out)
      clear hv hz hV hVb hG
      go_upto_region 10 with (first | (refine sc_load (by rfl) _ rfl bs rfl X4.out ?_))
      obtain ⟨w5, hw5⟩ : ∃ W, W = w4.alloc (.cells #[.int .i64 F.w, .slice A F.xs.length c, .slice T F.nt d, .int .i64 F.sx, .int .i64 F.sy, .slice O S.length e0] 41) := ⟨_, rfl⟩
      obtain ⟨bg, hbg⟩ : ∃ b, b = w4.heap.size := ⟨_, rfl⟩
      have Y5 : Hid (Box w5 bg 41 (ccs F.w A F.xs.length c T F.nt d F.sx F.sy O S.length e0)) := Lib.hid (by rw [hw5, hbg]; exact Box.new _ _ _)
      have L5 : Hid (Below w4.heap.size w4 w5) := Lib.hid (by rw [hw5]; exact below1 _ _)
      have hsg : bs < bg := by have := X4.out.lt; omega
      have HFG : Hid (∀ b ∈ fa ++ ft ++ fo, b < bg) := Lib.hid fun b hb => by
        rcases List.mem_append.1 hb with h | h
        · rcases List.mem_append.1 h with h | h
          · have := H4.out.1.1.lt b h; omega
          · have := H4.out.1.2.lt b h; omega
        · have := H4.out.2.lt b h; omega
      have hwg : w.heap.size ≤ bg := by have := B4.out.size; omega
      rw [← hw5, ← hbg]
      clear hw5 hbg
      have X5 := Lib.hid (X4.out.below L5.out)
      have H5 := Lib.hid (H4.out.below L5.out)
      have B5 := Lib.hid (below_then B4.out L5.out)
      clear L5 X4 H4 B4
      have k0 := X5.out.cell 0
      have hwr : IntKind.i64.wrap (8 * F.w) = 8 * F.w := by rw [IntKind.wrap_i64]; omega
      go_wp2_with (first | (refine sc_back (by rfl) _ rfl bs rfl X5.out ?_))
      clear k0
      refine (im_shiftField F A c T d fa ft (8 * F.w) 0 _ H5.out.1 HS.out.1).mono ?_
      rw [HGS.out]
      rintro e w6 ⟨A6, c6, T6, d6, fa6, ft6, rfl, _, _, hf6, hn6, bl⟩
      have X6 := Lib.hid (X5.out.below bl)
      have Y6 := Lib.hid (Y5.out.below bl)
      have H6 := Lib.hid (H5.out.below bl)
      have B6 := Lib.hid (below_then B5.out bl)
      have F6 := Lib.hid hf6
      have hyl : bg < w5.heap.size := Y5.out.lt
      have HN6 : Hid (∀ b ∈ fa6 ++ ft6, bg < b) := Lib.hid fun b hb => by have := (hn6.lt b hb).1; omega
      clear hf6 hn6 bl X5 Y5 H5 B5
      go_upto_region 11 with (first | (refine sc_put (W := G.w) (A := A6) (n := G.xs.length) (c := c6) (T := T6) (m := G.nt) (d := d6) (sx := G.sx) (sy := G.sy) (by rfl) _ _ rfl bg rfl rfl _ Y6.out ?_))
      obtain ⟨w7, hw7⟩ : ∃ w7, w7 = w6.setRow bg (ccs G.w A6 G.xs.length c6 T6 G.nt d6 G.sx G.sy O S.length e0).toArray := ⟨_, rfl⟩
      have o7 : Only [bg] w6 w7 := by rw [hw7]; exact (Only.refl _ _).row (.inl (by simp)) _
      have X7 : Hid (Box w7 bs 41 (ccs F.w A F.xs.length c T F.nt d F.sx F.sy O S.length e0)) := Lib.hid (X6.out.only o7 (by simp; omega))
      have Y7 : Hid (Box w7 bg 41 (ccs G.w A6 G.xs.length c6 T6 G.nt d6 G.sx G.sy O S.length e0)) := Lib.hid (by rw [hw7]; exact Box.row Y6.out)
      have H7 : Hid (SHas w7 A T O F S fa ft fo) := Lib.hid (H6.out.stay o7 fun b hb hx => by have := HFG.out b hb; simp at hx; omega)
      have G7 : Hid (SHas w7 A6 T6 O G S fa6 ft6 fo) := Lib.hid ⟨⟨F6.out.1.keep (.of_only o7 fun b hb hx => by have := HN6.out b (List.mem_append_left _ hb); simp at hx; omega), F6.out.2.keep (.of_only o7 fun b hb hx => by have := HN6.out b (List.mem_append_right _ hb); simp at hx; omega)⟩, H7.out.2⟩
      have B7 : Hid (Below w.heap.size w w7) := Lib.hid (by rw [hw7]; exact below_row B6.out hwg _)
      rw [← hw7]
      clear hw7 o7 X6 Y6 H6 B6 F6
      go_wp2_with fail
      refine wp_region_end (by dsimp only [List.dropLast]) rfl (ClB w7) (RlG w7.heap.size S.length S (⟨64, 64, 0, false, false, false⟩ : Spr))
        (Ty [TV (.pointer (some ⟨bs, 0, none⟩)), TV (fv F A c T d), TEmpG w7.heap.size, TV (.pointer (some ⟨bs, 5, none⟩)), TV (.slice O S.length e0), TRowG w7.heap.size S.length S, TV (sprV (⟨64, 64, 0, false, false, false⟩ : Spr)), TOneG (⟨64, 64, 0, false, false, false⟩ : Spr), TMoreG w7.heap.size S.length S (⟨64, 64, 0, false, false, false⟩ : Spr), TScnG w7.heap.size S.length S (⟨64, 64, 0, false, false, false⟩ : Spr) F A c T d, TVar w7.heap.size 41 (ccs 0 none 0 0 none 0 0 0 0 none 0 0)])
        (by kernel_rfl) (by kernel_rfl) (by kernel_rfl) (stab_ty _ ⟨stabG_k _, stabG_k _, stabG_emp, stabG_k _, stabG_k _, stabG_row rfl, stabG_k _, stabG_one _, stabG_more, stabG_scn _ _ _ _ _, stabG_var, trivial⟩) (Below.refl _ _).drew ?_ ?_
      · refine ⟨?_, ?_, ?_, ?_, ?_, ?_, ?_, ?_, ?_, ?_, ?_, trivial⟩
        · refine ob_wide ?_
          refine lb_val (.pointer (some ⟨bs, 0, none⟩)) (fun _ _ _ => want_none rfl) fun ρ wx hb hc hx hp => ⟨?_, rfl⟩
          have h3 : ρ (.tmp 3) = .pointer (some ⟨bs, 0, none⟩) := hx 3 rfl
          unfold execOp
          simp only [h3]
          clear h3 hx hp hc hb
          go_simp
        · refine ob_wide ?_
          refine lb_back (.tmp 34) bs rfl X7.out (fun _ _ _ => want_none rfl) fun ρ wx hx hp => ⟨hp.1 rfl, rfl⟩
        · exact lg_emp rfl (fun _ _ _ => want_none rfl) (fun _ _ h => h)
        · refine ob_wide ?_
          refine lb_val (.pointer (some ⟨bs, 5, none⟩)) (fun _ _ _ => want_none rfl) fun ρ wx hb hc hx hp => ⟨?_, rfl⟩
          have h3 : ρ (.tmp 3) = .pointer (some ⟨bs, 0, none⟩) := hx 3 rfl
          unfold execOp
          simp only [h3]
          clear h3 hx hp hc hb
          go_simp
        · refine ob_wide ?_
          refine lb_val (.slice O S.length e0) (fun _ _ _ => want_none rfl) fun ρ wx hb hc hx hp => ⟨?_, rfl⟩
          have h37 : ρ (.tmp 37) = .pointer (some ⟨bs, 5, none⟩) := hp.1 rfl
          have c1 : wx.cell? ⟨bs, 5, none⟩ = some (.slice O S.length e0) := (X7.out.below hb).cell 5
          unfold execOp
          simp only [h37]
          clear h37 hx hp hc hb
          go_simp
        · refine ob_wide ?_
          refine lb_gen (fun _ _ _ => want_none rfl) fun ρ wx hb hc hf hx hp => ?_
          have h36 : TEmpG w7.heap.size (ρ (.tmp 36)) wx := hp.1 rfl
          have h38 : ρ (.tmp 38) = .slice O S.length e0 := hp.2.1 rfl
          obtain ⟨v', w', hr, hB, ht⟩ := run_app_first wx w7.heap.size S.length S 39 (ρ (.tmp 36)) h36 O e0 fo (H7.out.2.below hb) (by omega) hb.size
          unfold execOp
          simp only [resolve, invoke, builtin, Sem.run_bind, Sem.run_pure, Result.andThen_ok, List.map_toArray, List.map_cons, List.map_nil, h38, hr]
          exact ⟨hB, ht⟩
        · refine ob_wide ?_
          refine lb_val (sprV (⟨64, 64, 0, false, false, false⟩ : Spr)) (fun _ _ _ => want_none rfl) fun ρ wx hb hc hx hp => ⟨?_, rfl⟩
          have hk0 := hc (.int .i64 64)
          unfold execOp
          simp only [hk0, List.map_toArray, List.map_cons, List.map_nil]
          clear hk0 hx hp hc hb
          go_simp
        · exact lg_one (.tmp 40) (⟨64, 64, 0, false, false, false⟩ : Spr) rfl (fun _ _ _ => want_none rfl) (fun ρ wx hp => hp.1 rfl) (fun _ _ h => h)
        · refine lg_gen (fun _ _ _ => want_none rfl) fun ρ wx hb hp => ?_
          have h39 : TRowG w7.heap.size S.length S (ρ (.tmp 39)) wx := hp.1 rfl
          have h41 : TOneG (⟨64, 64, 0, false, false, false⟩ : Spr) (ρ (.tmp 41)) wx := hp.2.1 rfl
          obtain ⟨v', w', hr, hG, hB, ht⟩ := run_app_more wx w7.heap.size S.length S (⟨64, 64, 0, false, false, false⟩ : Spr) 39 (ρ (.tmp 39)) (ρ (.tmp 41)) h39 h41 rfl (by omega) hb.size
          unfold execOp
          simp only [resolve, invoke, builtin, Sem.run_bind, Sem.run_pure, Result.andThen_ok, List.map_toArray, List.map_cons, List.map_nil, hr]
          exact ⟨hG, hb.trans hB, ht⟩
        · refine ob_wide ?_
          refine lb_some (fun _ _ _ => want_none rfl) fun ρ wx hb hc hx hp => ?_
          have h35 : ρ (.tmp 35) = fv F A c T d := hp.1 rfl
          obtain ⟨A', c', h42, hi⟩ : TMoreG w7.heap.size S.length S (⟨64, 64, 0, false, false, false⟩ : Spr) (ρ (.tmp 42)) wx := hp.2.1 rfl
          refine ⟨scV F.w A F.xs.length c T F.nt d F.sx F.sy A' (S.length + 1) c', ?_, A', c', rfl, hi⟩
          unfold execOp
          simp only [List.map_toArray, List.map_cons, List.map_nil, h35, h42]
          clear h35 h42 hx hp hc hb hi
          go_simp
        · refine ob_wide ?_
          exact lb_var (fun _ _ _ => want_none rfl) (fun ρ wx => by unfold execOp; go_simp) (fun _ _ h => h)
      intro vs wx hI hF
      obtain ⟨-, -, -, -, -, -, -, -, -, ⟨A', c', h9, ho9⟩, ⟨b6, h10, hL6, hb6⟩, -⟩ := hF
      replace h9 : vs 9 = scV F.w A F.xs.length c T F.nt d F.sx F.sy A' (S.length + 1) c' := h9
      replace h10 : vs 10 = .pointer (some ⟨b6, 0, none⟩) := h10
      refine ⟨_, exec_storeScn (W := F.w) (A := A) (n := F.xs.length) (c := c) (T := T) (m := F.nt) (d := d) (sx := F.sx) (sy := F.sy) (O := A') (k := S.length + 1) (e := c') (.tmp 6) (.tmp 43) b6 rfl (by simp only [putAll, Act.put, List.setIfInBounds_toArray, List.set_cons_zero, List.set_cons_succ, h10]; rfl) (by simp only [putAll, Act.put, List.setIfInBounds_toArray, List.set_cons_zero, List.set_cons_succ, h9]; rfl) hb6 rfl, ?_⟩
      simp only [putAll, Act.put, List.setIfInBounds_toArray, List.set_cons_zero, List.set_cons_succ, h9, h10]
      obtain ⟨A5, c5, f5, he5, _, hsp, hns, _⟩ := own_sprs ho9
      injection he5 with e1 _ e3
      subst e1 e3
      have hne : ∀ b ∈ f5, b ≠ b6 := by
        rintro b hb rfl
        exact own_block6 ho9 hb ⟨_, _, rfl, hsp⟩ hb6
      have o8 : Only [b6] wx (wx.setRow b6 (ccs F.w A F.xs.length c T F.nt d F.sx F.sy A' (S.length + 1) c').toArray) := (Only.refl _ _).row (.inl (by simp)) _
      have hL8 : Below w7.heap.size w7 (wx.setRow b6 (ccs F.w A F.xs.length c T F.nt d F.sx F.sy A' (S.length + 1) c').toArray) := below_row hI hL6 _
      obtain ⟨R, hR⟩ : ∃ R, S ++ [(⟨64, 64, 0, false, false, false⟩ : Spr)] = R := ⟨_, rfl⟩
      have HR := Lib.hid hR
      have hlen : S.length + 1 = R.length := by rw [← hR]; simp
      have M8 : Hid (Box (wx.setRow b6 (ccs F.w A F.xs.length c T F.nt d F.sx F.sy A' (S.length + 1) c').toArray) b6 41 (ccs F.w A F.xs.length c T F.nt d F.sx F.sy A' (S.length + 1) c')) := Lib.hid (Box.row hb6)
      have HM8 : Hid (Sprs (wx.setRow b6 (ccs F.w A F.xs.length c T F.nt d F.sx F.sy A' (S.length + 1) c').toArray) A' (S.length + 1) (S ++ [(⟨64, 64, 0, false, false, false⟩ : Spr)]) f5) := Lib.hid (hsp.keep (.of_only o8 fun b hb hx => by simp at hx; exact hne b hb hx))
      generalize wx.setRow b6 (ccs F.w A F.xs.length c T F.nt d F.sx F.sy A' (S.length + 1) c').toArray = w8 at M8 HM8 hL8 ⊢
      rw [hlen] at M8
      rw [hlen, hR] at HM8
      have X8 := Lib.hid (X7.out.below hL8)
      have Y8 := Lib.hid (Y7.out.below hL8)
      have G8 := Lib.hid (G7.out.below hL8)
      have H8 := Lib.hid (H7.out.below hL8)
      have B8 := Lib.hid (below_then B7.out hL8)
      have HMS : Hid (SHas w8 A T A' F R fa ft f5) := Lib.hid ⟨H8.out.1, HM8.out⟩
      have HMM : Hid (SSmall F R) := Lib.hid ⟨HS.out.1, by rw [← hlen]; omega⟩
      have HB6 := Lib.hid hL8.size
      clear hI h9 h10 ho9 hb6 hsp hns hne o8 hL8 hlen hR X7 Y7 G7 H7 B7
      have k5 := X8.out.cell 5
      go_wp2_with (first | (refine sc_load (by rfl) _ rfl bg rfl Y8.out ?_))
      refine (im_scnHash G A6 c6 T6 d6 S O e0 fa6 ft6 fo _ G8.out HGM.out).mono ?_; rintro e w9 ⟨rfl, bl⟩
      rw [HGH.out]
      have X9 := Lib.hid (X8.out.below bl)
      have M9 := Lib.hid (M8.out.below bl)
      have HM9 := Lib.hid (HMS.out.below bl)
      have B9 := Lib.hid (below_then B8.out bl)
      clear bl k5 X8 Y8 G8 H8 B8 M8 HM8 HMS
      have k5 := X9.out.cell 5
      by_cases h12 : S.length = 12
      · have h12' : (S.length : Int) = 12 := by omega
        go_wp2_with fail
        go_ret
        exact ⟨rfl, B9.out⟩
      · have h12' : ¬ (S.length : Int) = 12 := by omega
        have h12b : ((S.length : Int) == 12) = false := by simp; omega
        have HMH : Hid (hashT F R = V) := Lib.hid (by
          rw [← HR.out]
          have hm : scnB F (S ++ [(⟨64, 64, 0, false, false, false⟩ : Spr)]) = true := scnB_more HVAL.out (by omega) (by
            have hb := fldB_spec F
            rw [(scn_both HVAL.out).1] at hb
            have hb := hb.symm
            simp only [Bool.and_eq_true] at hb
            have hn := betB_iff.1 hb.1.1.1.1.2
            show (betB 64 (-16) 64 && betB 64 (-16) 64 && betB 0 0 ((F.nt : Int) - 1)) = true
            rw [betB_iff.2 (show (0 : Int) ≤ 0 ∧ (0 : Int) ≤ (F.nt : Int) - 1 by omega)]
            rfl)
          unfold hashT
          rw [hm, if_pos rfl, ← HV16.out]
          exact hash_same fun x y _ hy => scF_out (by
            cases h : betB ((y : Int) - 64) 0 7
            · rfl
            · have := betB_iff.1 h; omega))
        go_wp2_with (first | (refine sc_load (by rfl) _ rfl b6 rfl M9.out ?_))
        refine (im_scnHash F A c T d R A' c' fa ft f5 _ HM9.out HMM.out).mono ?_; rintro e w10 ⟨rfl, bl⟩
        rw [HMH.out]
        have B10 := Lib.hid (below_then B9.out bl)
        clear bl
        go_wp2_with fail
        go_ret
        exact ⟨rfl, B10.out⟩
  · have hs' : 1048576 < len0 := by omega
    go_enter Try.func7, Try.ntmps7
    go_wp2_with fail
    go_ret
    exact ⟨rfl, Below.refl _ _⟩
end Go.Proofs.Ytacebhncecninaa
