/- The program's real changes. -/
import Derived.Test.YtddllcgbdgpkbaaBmN
import Derived.BigRegion
namespace Go.Proofs.Ytddllcgbdgpkbaa
open Go.ChangeShapes Go.WideShapes Go.ChangeAt Go.RowKit
set_option linter.unusedVariables false

theorem own_none3 (w : World) (base : Nat) (e : TypeId) (s : Nat) : w.ownsRow base e s (.slice none 0 0) 0 (iv []) := ⟨by simp [iv], .inl ⟨rfl, rfl⟩⟩
theorem own_lt3 {w : World} {base : Nat} {e : TypeId} {s : Nat} {v : Value} {n : Nat} {xs : List Value} (h : w.ownsRow base e s v n xs) : ∀ g, v.ownBlock = some g → base ≤ g ∧ g < w.heap.size := by
  intro g hg
  rcases h.2 with ⟨rfl, _⟩ | ⟨g', cap, cur, rfl, hb, hh, _⟩
  · simp [Value.ownBlock] at hg
  · have e : some g' = some g := hg
    injection e with e
    subst e
    refine ⟨hb, ?_⟩
    by_cases hl : g' < w.heap.size
    · exact hl
    · rw [Array.getElem?_eq_none (by omega)] at hh; cases hh
theorem own_heap {w w' : World} {base : Nat} {e : TypeId} {s : Nat} {v : Value} {n : Nat} {xs : List Value} (h : w.ownsRow base e s v n xs) (k : ∀ i, base ≤ i → w'.heap[i]? = w.heap[i]?) : w'.ownsRow base e s v n xs := by
  rcases h with ⟨hl, h | ⟨g, cap, cur, rfl, hb, hh, hr⟩⟩
  · exact ⟨hl, .inl h⟩
  · exact ⟨hl, .inr ⟨g, cap, cur, rfl, hb, (k g hb).trans hh, hr⟩⟩
set_option maxRecDepth 100000 in
set_option maxHeartbeats 4000000 in
theorem im_real (x y : Int) (Al : Option Addr) (n c' : Nat) (L : List Int) (fl : List Nat) (w : World) (h : Ints w Al (3 * n) L fl) (hn : n ≤ 1000000000) :
    Calls Try.prog 43 #[.int .i64 x, .int .i64 y, .slice Al n c'] w fun e w' => ∃ m, m ≤ n ∧ CopiedC (rcK L n x y n) m w e w' := by
  have H := Lib.hid h
  have HLT0 := Lib.hid h.lt
  clear h
  have X1 := Lib.hid (chg_new w 0 x y)
  have B1 := Lib.hid (below1 w (chgO 0 x y))
  obtain ⟨bb, hbb⟩ : ∃ bb, bb = w.heap.size := ⟨_, rfl⟩
  have HBB := Lib.hid hbb
  go_enter Try.func43, Try.ntmps43
  go_wp2_with fail
  rw [← hbb] at X1
  try rw [← hbb]
  generalize w.alloc (chgO 0 x y) = w1 at X1 B1 ⊢
  clear hbb
  go_loopw [7, 17] (fun v i wr => ∃ (k m : Nat) (z s t : Int), k ≤ n ∧ m ≤ k ∧ i = .int .i64 k ∧ (ptK L n x y k).2 = (s, t) ∧ wr.ownsRow (bb + 1) 27 3 v m (iv (rcK L n x y k)) ∧ Box wr bb 27 (iv [z, s, t]) ∧ Below w.heap.size w wr) (fun _ i _ => n - (intOf i).toNat)
  case atStart => exact ⟨0, 0, 0, x, y, by omega, by omega, rfl, rfl, own_none3 _ _ _ _, X1.out, B1.out⟩
  case round =>
    obtain ⟨k, m, z, s, t, hk, hmk, rfl, hp, how, hx, hb⟩ := hrel
    have HP := Lib.hid hp
    have OW := Lib.hid how
    have XR := Lib.hid hx
    have BR := Lib.hid hb
    clear hp how hx hb X1 B1
    obtain ⟨A2, c2, rfl⟩ := own_lenC OW.out
    by_cases hkn : k < n
    · have IR := Lib.hid (H.out.below BR.out)
      obtain ⟨p, o, rfl, _, _, hc⟩ := IR.out.at_ (by omega)
      clear hc
      have hkn' : (k : Int) < n := by omega
      have hk1 : (k : Int) ≤ 1000000000 := by omega
      have RG := Lib.hid (chg_range IR.out hkn)
      have HSK : Hid (skipB L n k = true → rcK L n x y (k + 1) = rcK L n x y k ∧ (ptK L n x y (k + 1)).2 = (s, t)) := Lib.hid fun hh => ⟨rcK_skip hh, by rw [pt_skip hh]; exact HP.out⟩
      have HGO : Hid (skipB L n k = false → ((cX L k ≠ s ∨ cY L k ≠ t) → rcK L n x y (k + 1) = rcK L n x y k ++ [cC L k, cX L k, cY L k]) ∧ (cX L k = s ∧ cY L k = t → rcK L n x y (k + 1) = rcK L n x y k)) := Lib.hid fun hh => rcK_go hh HP.out
      have HPT : Hid (skipB L n k = false → (ptK L n x y (k + 1)).2 = (cX L k, cY L k)) := Lib.hid fun hh => pt_go hh
      have HCQ : Hid (k + 1 < n → ∀ wx, Below wr.heap.size wr wx → wx.cell? ⟨p, o + (k + 1) * 3, none⟩ = some (.int .i64 (cC L (k + 1)))) := Lib.hid fun hl wx hb => (chg_cell (IR.out.below hb) hl).1
      have HS0 : Hid (skipB L n k = (decide (k + 1 < n) && decide (cC L (k + 1) = cC L k))) := Lib.hid rfl
      generalize cC L (k + 1) = cq at HCQ HS0
      generalize cC L k = u at RG HGO HS0
      generalize cX L k = v at RG HGO HPT
      generalize cY L k = q at RG HGO HPT
      obtain ⟨R1, hR1⟩ : ∃ R1, rcK L n x y (k + 1) = R1 := ⟨_, rfl⟩
      have HR1 := Lib.hid hR1
      rw [hR1] at HSK HGO
      clear hR1
      generalize rcK L n x y k = R at HSK HGO OW
      have HOB : Hid (∀ i, (Value.slice A2 m c2).ownBlock = some i → bb + 1 ≤ i ∧ i < wr.heap.size) := Lib.hid (own_lt3 OW.out)
      generalize skipB L n k = sb at HSK HGO HPT HS0
      have XC := Lib.hid (chg_made wr u v q)
      have BC := Lib.hid (below_chg wr u v q)
      have HWG := Lib.hid XR.out.lt
      go_upto_region 6 with (first | (refine ch_loadm (by rfl) _ rfl _ _ rfl u v q RG.out ?_) | (refine ch_store (by rfl) _ _ rfl _ rfl u v q rfl _ (Box.new _ _ _) (by rfl) ?_))
      simp only [Act.put]
      have HC2 : Hid (k + 1 < n → _) := Lib.hid fun hl => HCQ.out hl _ BC.out
      have XH := Lib.hid (XR.out.below BC.out)
      have OC := Lib.hid (own_keep_any OW.out BC.out)
      have BW := Lib.hid (below_then BR.out BC.out)
      have HLB : Hid (bb < wr.heap.size) := HWG
      generalize ((wr.alloc (chgO 0 0 0)).setRow wr.heap.size (iv [u, v, q]).toArray) = wc at XC HC2 XH OC BW ⊢
      generalize hgg : wr.heap.size = g at XC HLB HOB ⊢
      clear hgg RG BC HCQ OW BR IR XR HWG
      have c0 := XC.out.cell 0
      by_cases hl1 : k + 1 < n
      · have hl1' : (k : Int) + 1 < n := by omega
        have c1 := HC2.out hl1
        by_cases he : cq = u
        · have HN := Lib.hid (HSK.out (by rw [HS0.out, decide_eq_true hl1, decide_eq_true he]; rfl))
          go_quiet (fail)
          replace XC := Lib.hid (Box.drewN XC.out nq)
          replace XH := Lib.hid (Box.drewN XH.out nq)
          replace OC : Hid ((wc.drewN nq).ownsRow (bb + 1) 27 3 (.slice A2 m c2) m (iv R)) := Lib.hid OC.out
          replace BW := Lib.hid (below_drewN BW.out nq)
          clear HC2
          generalize wc.drewN nq = wd at XC XH OC BW ⊢
          go_wp2_with fail
          go_roundw
          case rel => exact ⟨k + 1, m, z, s, t, by omega, by omega, by go_num, HN.out.2, by rw [HR1.out, HN.out.1]; exact OC.out, XH.out, BW.out⟩
          case measure => simp [intOf]; omega
        · have HSB : Hid (sb = false) := Lib.hid (by rw [HS0.out, decide_eq_true hl1, decide_eq_false he]; rfl)
          have heb : (cq == u) = false := by simpa using he
          go_quiet (fail)
          replace XC := Lib.hid (Box.drewN XC.out nq)
          replace XH := Lib.hid (Box.drewN XH.out nq)
          replace OC : Hid ((wc.drewN nq).ownsRow (bb + 1) 27 3 (.slice A2 m c2) m (iv R)) := Lib.hid OC.out
          replace BW := Lib.hid (below_drewN BW.out nq)
          clear HC2
          generalize wc.drewN nq = wd at XC XH OC BW ⊢
          have HG := Lib.hid (HGO.out HSB.out)
          have HQ := Lib.hid (HPT.out HSB.out)
          clear c0
          go_wp2_with (first | (refine ch_load (by rfl) _ rfl _ rfl u v q XC.out ?_) | (refine ch_load (by rfl) _ rfl _ rfl z s t XH.out ?_))
          refine (im_same u v q z s t _).mono ?_; rintro e w2 ⟨rfl, b2⟩
          have XC2 := Lib.hid (XC.out.below b2)
          have XH2 := Lib.hid (XH.out.below b2)
          have O2 := Lib.hid (own_keep_any OC.out b2)
          have B2 := Lib.hid (below_then BW.out b2)
          clear b2 XC XH OC BW
          cases hd : (decide (v = s) && decide (q = t))
          · have HN := Lib.hid (HG.out.1 (by
              by_cases h1 : v = s
              · by_cases h2 : q = t
                · rw [decide_eq_true h1, decide_eq_true h2] at hd; cases hd
                · exact .inr h2
              · exact .inl h1))
            clear hd
            have B6 : Hid (Below w.heap.size w (w2.alloc (chgO u v q))) := Lib.hid (B2.out.alloc B2.out.size _)
            have O6 := Lib.hid (own_keep_any O2.out (below1 w2 (chgO u v q)))
            have HB6 : Hid (bb + 1 ≤ (w2.alloc (chgO u v q)).heap.size) := Lib.hid (by have := XH2.out.lt; simp; omega)
            have XC3 := Lib.hid (XC2.out.alloc (chgO u v q))
            have XH3 := Lib.hid (XH2.out.alloc (chgO u v q))
            go_wp2_with (first | (refine ch_load (by rfl) _ rfl _ rfl u v q XC2.out ?_) | (at_builtin; refine wpList_append_chgs rfl _ _ rfl (bb + 1) (.slice A2 m c2) m R rfl O6.out _ 1 1 [u, v, q] [w2.heap.size] rfl (lone_chg w2 u v q) (by omega) HB6.out ?_; intro v' w3 own3 gr3 ob3; have O7 := Lib.hid own3; have GR := Lib.hid gr3; obtain ⟨A7, c7, rfl⟩ := own_lenC O7.out; clear own3 gr3 ob3; have XC7 := Lib.hid (grown_box XC3.out GR.out fun i e => by have := HOB.out i e; omega); have XH7 := Lib.hid (grown_box XH3.out GR.out fun i e => by have := HOB.out i e; omega); have B7 := Lib.hid (below_grown B6.out GR.out B6.out.size fun i e => by have := HOB.out i e; have := HBB.out; omega)) | (refine ch_load (by rfl) _ rfl _ rfl u v q XC7.out ?_) | (refine ch_store (by rfl) _ _ rfl _ rfl u v q rfl _ XH7.out (by rfl) ?_))
            have O8 : Hid ((w3.setRow bb (iv [u, v, q]).toArray).ownsRow (bb + 1) 27 3 (.slice A7 (m + 1) c7) (m + 1) (iv (R ++ [u, v, q]))) := Lib.hid (own_heap O7.out fun i hi => setRow_other w3 bb i _ (by omega))
            go_roundw
            case rel => exact ⟨k + 1, m + 1, u, v, q, by omega, by omega, by go_num, HQ.out, by rw [HR1.out, HN.out]; exact O8.out, Box.row XH7.out, below_row B7.out (by have := HBB.out; omega) _⟩
            case measure => simp [intOf]; omega
          · have hd2 : v = s ∧ q = t := by
              rw [Bool.and_eq_true, decide_eq_true_iff, decide_eq_true_iff] at hd
              exact hd
            have HN := Lib.hid (HG.out.2 hd2)
            have HQ2 : Hid ((ptK L n x y (k + 1)).2 = (s, t)) := Lib.hid (by rw [HQ.out, hd2.1, hd2.2])
            clear hd hd2
            go_wp2_with fail
            go_roundw
            case rel => exact ⟨k + 1, m, z, s, t, by omega, by omega, by go_num, HQ2.out, by rw [HR1.out, HN.out]; exact O2.out, XH2.out, B2.out⟩
            case measure => simp [intOf]; omega
      · have hl1' : ¬ (k : Int) + 1 < n := by omega
        have HSB : Hid (sb = false) := Lib.hid (by rw [HS0.out, decide_eq_false hl1]; rfl)
        go_quiet (fail)
        replace XC := Lib.hid (Box.drewN XC.out nq)
        replace XH := Lib.hid (Box.drewN XH.out nq)
        replace OC : Hid ((wc.drewN nq).ownsRow (bb + 1) 27 3 (.slice A2 m c2) m (iv R)) := Lib.hid OC.out
        replace BW := Lib.hid (below_drewN BW.out nq)
        clear HC2
        generalize wc.drewN nq = wd at XC XH OC BW ⊢
        have HG := Lib.hid (HGO.out HSB.out)
        have HQ := Lib.hid (HPT.out HSB.out)
        clear c0
        go_wp2_with (first | (refine ch_load (by rfl) _ rfl _ rfl u v q XC.out ?_) | (refine ch_load (by rfl) _ rfl _ rfl z s t XH.out ?_))
        refine (im_same u v q z s t _).mono ?_; rintro e w2 ⟨rfl, b2⟩
        have XC2 := Lib.hid (XC.out.below b2)
        have XH2 := Lib.hid (XH.out.below b2)
        have O2 := Lib.hid (own_keep_any OC.out b2)
        have B2 := Lib.hid (below_then BW.out b2)
        clear b2 XC XH OC BW
        cases hd : (decide (v = s) && decide (q = t))
        · have HN := Lib.hid (HG.out.1 (by
            by_cases h1 : v = s
            · by_cases h2 : q = t
              · rw [decide_eq_true h1, decide_eq_true h2] at hd; cases hd
              · exact .inr h2
            · exact .inl h1))
          clear hd
          have B6 : Hid (Below w.heap.size w (w2.alloc (chgO u v q))) := Lib.hid (B2.out.alloc B2.out.size _)
          have O6 := Lib.hid (own_keep_any O2.out (below1 w2 (chgO u v q)))
          have HB6 : Hid (bb + 1 ≤ (w2.alloc (chgO u v q)).heap.size) := Lib.hid (by have := XH2.out.lt; simp; omega)
          have XC3 := Lib.hid (XC2.out.alloc (chgO u v q))
          have XH3 := Lib.hid (XH2.out.alloc (chgO u v q))
          go_wp2_with (first | (refine ch_load (by rfl) _ rfl _ rfl u v q XC2.out ?_) | (at_builtin; refine wpList_append_chgs rfl _ _ rfl (bb + 1) (.slice A2 m c2) m R rfl O6.out _ 1 1 [u, v, q] [w2.heap.size] rfl (lone_chg w2 u v q) (by omega) HB6.out ?_; intro v' w3 own3 gr3 ob3; have O7 := Lib.hid own3; have GR := Lib.hid gr3; obtain ⟨A7, c7, rfl⟩ := own_lenC O7.out; clear own3 gr3 ob3; have XC7 := Lib.hid (grown_box XC3.out GR.out fun i e => by have := HOB.out i e; omega); have XH7 := Lib.hid (grown_box XH3.out GR.out fun i e => by have := HOB.out i e; omega); have B7 := Lib.hid (below_grown B6.out GR.out B6.out.size fun i e => by have := HOB.out i e; have := HBB.out; omega)) | (refine ch_load (by rfl) _ rfl _ rfl u v q XC7.out ?_) | (refine ch_store (by rfl) _ _ rfl _ rfl u v q rfl _ XH7.out (by rfl) ?_))
          have O8 : Hid ((w3.setRow bb (iv [u, v, q]).toArray).ownsRow (bb + 1) 27 3 (.slice A7 (m + 1) c7) (m + 1) (iv (R ++ [u, v, q]))) := Lib.hid (own_heap O7.out fun i hi => setRow_other w3 bb i _ (by omega))
          go_roundw
          case rel => exact ⟨k + 1, m + 1, u, v, q, by omega, by omega, by go_num, HQ.out, by rw [HR1.out, HN.out]; exact O8.out, Box.row XH7.out, below_row B7.out (by have := HBB.out; omega) _⟩
          case measure => simp [intOf]; omega
        · have hd2 : v = s ∧ q = t := by
            rw [Bool.and_eq_true, decide_eq_true_iff, decide_eq_true_iff] at hd
            exact hd
          have HN := Lib.hid (HG.out.2 hd2)
          have HQ2 : Hid ((ptK L n x y (k + 1)).2 = (s, t)) := Lib.hid (by rw [HQ.out, hd2.1, hd2.2])
          clear hd hd2
          go_wp2_with fail
          go_roundw
          case rel => exact ⟨k + 1, m, z, s, t, by omega, by omega, by go_num, HQ2.out, by rw [HR1.out, HN.out]; exact O2.out, XH2.out, B2.out⟩
          case measure => simp [intOf]; omega
    · obtain rfl : k = n := by omega
      go_wp2_with fail
      go_ret
      obtain ⟨A, c, fp, he, hc, hi, hn2, _⟩ := own_chgs OW.out
      exact ⟨m, hmk, A, c, fp, congrArg Ending.returned he, hc, hi, hn2.mono (by have := HBB.out; omega), BR.out⟩
end Go.Proofs.Ytddllcgbdgpkbaa
