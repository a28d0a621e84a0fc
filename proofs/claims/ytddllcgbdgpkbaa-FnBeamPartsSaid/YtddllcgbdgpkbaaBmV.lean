/- The model's BeamParts. -/
import Derived.Test.YtddllcgbdgpkbaaBmU
namespace Go.Proofs.Ytddllcgbdgpkbaa
open Go.ChangeShapes Go.WideShapes Go.ChangeAt Go.RowKit
set_option linter.unusedVariables false

/-- Whether change k is followed by one at its column. -/
def skipB (L : List Int) (n k : Nat) : Bool := decide (k + 1 < n) && decide (cC L (k + 1) = cC L k)
/-- The columns of real changes among the first k, and the shifts behind them. -/
def ptK (L : List Int) (n : Nat) (x y : Int) : Nat → List Int × Int × Int
  | 0 => ([], x, y)
  | k + 1 => if skipB L n k = true then ptK L n x y k else (if cX L k ≠ (ptK L n x y k).2.1 ∨ cY L k ≠ (ptK L n x y k).2.2 then (ptK L n x y k).1 ++ [cC L k] else (ptK L n x y k).1, cX L k, cY L k)
def ptT (L : List Int) (n : Nat) (x y : Int) : List Int := if (chgB L n && betB x 0 255 && betB y 0 255) = true then (ptK L n x y n).1 else []
theorem ptT_no {L : List Int} {n : Nat} {x y : Int} (h : (chgB L n && betB x 0 255 && betB y 0 255) = false) : ptT L n x y = [] := by unfold ptT; rw [h]; rfl
theorem ptT_yes {L : List Int} {n : Nat} {x y : Int} (h1 : chgB L n = true) (h2 : betB x 0 255 = true) (h3 : betB y 0 255 = true) : ptT L n x y = (ptK L n x y n).1 := by unfold ptT; rw [h1, h2, h3]; rfl
theorem ptK_skip {L : List Int} {n k : Nat} {x y : Int} (h : skipB L n k = true) : ptK L n x y (k + 1) = ptK L n x y k := by rw [ptK, if_pos h]
theorem ptK_go {L : List Int} {n k : Nat} {x y s t : Int} {P : List Int} (h : skipB L n k = false) (hp : ptK L n x y k = (P, s, t)) : ((cX L k ≠ s ∨ cY L k ≠ t) → ptK L n x y (k + 1) = (P ++ [cC L k], cX L k, cY L k)) ∧ (cX L k = s ∧ cY L k = t → ptK L n x y (k + 1) = (P, cX L k, cY L k)) := by
  constructor
  · intro hd
    rw [ptK, if_neg (by rw [h]; simp), hp, if_pos hd]
  · rintro ⟨h1, h2⟩
    rw [ptK, if_neg (by rw [h]; simp), hp, if_neg (by rintro (h3 | h3); exact h3 h1; exact h3 h2)]
theorem Ints.keep_below {w w' : World} {A : Option Addr} {n B : Nat} {xs : List Int} {fp : List Nat} (h : Ints w A n xs fp) (k : Below B w w') (hb : ∀ b ∈ fp, b < B) : Ints w' A n xs fp :=
  h.keep ⟨k.size, fun b hb' _ => k.block b (hb b hb')⟩
set_option maxRecDepth 100000 in
set_option maxHeartbeats 4000000 in
theorem spec_bmParts (A : Option Addr) (n c : Nat) (L : List Int) (fp : List Nat) (x y : Int) (w : World) (h : Ints w A (3 * n) L fp) (hn : n ≤ 1000000000) :
    Calls Try.prog 21 #[.int .i64 x, .int .i64 y, .slice A n c] w (Copied (ptT L n x y) (ptT L n x y).length w) := by
  have H := Lib.hid h
  have HLTW := Lib.hid h.lt
  have E1 := Lib.hid (own_empty w 3 w.heap.size (Nat.le_refl _))
  have B1 := Lib.hid (below1 w (.cells #[] 3))
  clear h
  go_enter Try.func21, Try.ntmps21
  go_upto_region 2 with (fail)
  generalize w.alloc (.cells #[] 3) = w1 at E1 B1 ⊢
  go_wp2_with fail
  refine (spec_chgValid A n c L fp _ (H.out.below B1.out) hn).mono ?_; rintro e w2 ⟨rfl, bl⟩
  have E2 := Lib.hid (own_keep E1.out bl)
  have B2 := Lib.hid (below_then B1.out bl)
  clear bl E1 B1
  cases hv : chgB L n
  · have HT : Hid (ptT L n x y = []) := Lib.hid (ptT_no (by rw [hv]; rfl))
    clear hv
    go_wp2_with fail
    go_ret
    rw [HT.out]
    show Copied [] 0 w _ _
    exact ⟨_, 0, [], rfl, by omega, Ints.nil _ _, .nil _ _, B2.out⟩
  have HV := Lib.hid hv
  clear hv
  go_wp2_with fail
  refine (l1In_any x 0 255 _).mono ?_; rintro e w3 ⟨rfl, rfl⟩
  cases hx : betB x 0 255
  · have HT : Hid (ptT L n x y = []) := Lib.hid (ptT_no (by rw [hx]; simp))
    clear hx
    go_wp2_with fail
    go_ret
    rw [HT.out]
    show Copied [] 0 w _ _
    exact ⟨_, 0, [], rfl, by omega, Ints.nil _ _, .nil _ _, B2.out⟩
  have HX := Lib.hid hx
  clear hx
  go_wp2_with fail
  refine (l1In_any y 0 255 _).mono ?_; rintro e w3 ⟨rfl, rfl⟩
  cases hy : betB y 0 255
  · have HT : Hid (ptT L n x y = []) := Lib.hid (ptT_no (by rw [hy, Bool.and_false]))
    clear hy
    go_wp2_with fail
    go_ret
    rw [HT.out]
    show Copied [] 0 w _ _
    exact ⟨_, 0, [], rfl, by omega, Ints.nil _ _, .nil _ _, B2.out⟩
  have HT := Lib.hid (ptT_yes HV.out HX.out hy)
  clear hy
  go_wp2_with fail
  go_loopw [0, 1, 7, 8] (fun a b v i wr => ∃ (k : Nat) (A2 : Option Addr) (d2 : Nat) (P : List Int) (s t : Int), k ≤ n ∧ ptK L n x y k = (P, s, t) ∧ v = .slice A2 P.length d2 ∧ i = .int .i64 k ∧ a = .int .i64 s ∧ b = .int .i64 t ∧ wr.ownsRow w.heap.size 3 1 (.slice A2 P.length d2) P.length (iv P) ∧ P.length ≤ k ∧ Below w.heap.size w wr) (fun _ _ _ i _ => n - (intOf i).toNat)
  case atStart => exact ⟨0, _, _, [], x, y, by omega, rfl, rfl, rfl, rfl, rfl, E2.out, by simp, B2.out⟩
  case round =>
    obtain ⟨k, A2, d2, P, s, t, hk, hp, rfl, rfl, rfl, rfl, ho, hpk, hb⟩ := hrel
    have HP := Lib.hid hp
    have OR := Lib.hid ho
    have BR := Lib.hid hb
    clear hp ho hb E2 B2
    by_cases hkn : k < n
    · have IR := Lib.hid (H.out.below BR.out)
      obtain ⟨p, o, rfl, _, _, hc⟩ := IR.out.at_ (by omega)
      clear hc
      have hkn' : (k : Int) < n := by omega
      have HLP := Lib.hid hkn'
      have HW : Hid (IntKind.i64.wrap ((k : Int) + 1) = ((k + 1 : Nat) : Int)) := Lib.hid (by rw [IntKind.wrap_i64]; omega)
      have HC0 : Hid (∀ wx, Below wr.heap.size wr wx → wx.cell? ⟨p, o + k * 3, none⟩ = some (.int .i64 (cC L k))) := Lib.hid fun wx hb => (chg_cell (IR.out.below hb) hkn).1
      have HSK := Lib.hid (ptK_skip (L := L) (n := n) (k := k) (x := x) (y := y))
      have HGO : Hid (skipB L n k = false → _) := Lib.hid fun hh => ptK_go hh HP.out
      obtain ⟨ck, hck⟩ : ∃ ck, cC L k = ck := ⟨_, rfl⟩
      have HCK := Lib.hid hck
      rw [hck] at HC0 HGO
      clear hck
      go_upto_region 7 with fail
      by_cases hl1 : k + 1 < n
      · have hl1' : ((k + 1 : Nat) : Int) < n := by omega
        have HLT : Hid ((k : Int) + 1 < n) := Lib.hid (by omega)
        have HLQ : Hid ((k : Int) + 1 < n) := Lib.hid (by omega)
        have HCQ : Hid (∀ wx, Below wr.heap.size wr wx → wx.cell? ⟨p, o + (k + 1) * 3, none⟩ = some (.int .i64 (cC L (k + 1)))) := Lib.hid fun wx hb => (chg_cell (IR.out.below hb) hl1).1
        have HS0 : Hid (skipB L n k = decide (cC L (k + 1) = ck)) := Lib.hid (by unfold skipB; rw [decide_eq_true hl1, HCK.out]; rfl)
        generalize cC L (k + 1) = cq at HCQ HS0
        clear hl1 hl1'
        by_cases he : cq = ck
        · have HEQ : Hid (cq = ck) := Lib.hid he
          have HSB : Hid (skipB L n k = true) := Lib.hid (by rw [HS0.out]; exact decide_eq_true he)
          clear he
          refine wp_region_typed (ClB wr) RlB (Ty [TV (.int .i64 (k : Int)), TV (.int .i64 ((k + 1 : Nat) : Int)), TV (.slice (some ⟨p, o, none⟩) n c), TV (.int .i64 (n : Int)), TV (.bool true), TV (.bool true), TV (.slice (some ⟨p, o, none⟩) n c), TV (.int .i64 (k : Int)), TV (.int .i64 ((k + 1 : Nat) : Int)), TV (.pointer (some ⟨p, o + (k + 1) * 3, none⟩)), TV (.pointer (some ⟨p, o + (k + 1) * 3, none⟩)), TV (.int .i64 cq), TV (.slice (some ⟨p, o, none⟩) n c), TV (.int .i64 (k : Int)), TV (.pointer (some ⟨p, o + k * 3, none⟩)), TV (.pointer (some ⟨p, o + k * 3, none⟩)), TV (.int .i64 ck), TV (.bool true), TV (.bool true)])
            (by kernel_rfl) (by kernel_rfl) (stab_ty _ ⟨stabB_k _, stabB_k _, stabB_k _, stabB_k _, stabB_k _, stabB_k _, stabB_k _, stabB_k _, stabB_k _, stabB_k _, stabB_k _, stabB_k _, stabB_k _, stabB_k _, stabB_k _, stabB_k _, stabB_k _, stabB_k _, stabB_k _, trivial⟩) (Below.refl _ _).drew ?_ ?_
          · refine ⟨?_, ?_, ?_, ?_, ?_, ?_, ?_, ?_, ?_, ?_, ?_, ?_, ?_, ?_, ?_, ?_, ?_, ?_, ?_, trivial⟩
            · exact lb_move (.tmp 8) (.inl rfl) (fun _ _ _ => want_none rfl) fun ρ wx hc hx hp => hx 8 rfl
            · refine lb_val (.int .i64 ((k + 1 : Nat) : Int)) (fun _ _ _ => want_none rfl) fun ρ wx hb hc hx hp => ⟨?_, rfl⟩
              have h30 : ρ (.tmp 30) = .int .i64 (k : Int) := hp.1 rfl
              have hk0 := hc (.int .i64 1)
              have h0 := HW.out
              unfold execOp
              simp only [h30, hk0]
              clear h30 hk0 hx hp hc hb
              go_simp
            · exact lb_move (.tmp 2) (.inl rfl) (fun _ _ _ => want_none rfl) fun ρ wx hc hx hp => hx 2 rfl
            · refine lb_val (.int .i64 (n : Int)) (fun _ _ _ => want_none rfl) fun ρ wx hb hc hx hp => ⟨?_, rfl⟩
              have h32 : ρ (.tmp 32) = .slice (some ⟨p, o, none⟩) n c := hp.1 rfl
              unfold execOp
              clear hx hp hc hb
              go_simp
            · refine lb_val (.bool true) (fun _ _ _ => want_none rfl) fun ρ wx hb hc hx hp => ⟨?_, rfl⟩
              have h31 : ρ (.tmp 31) = .int .i64 ((k + 1 : Nat) : Int) := hp.1 rfl
              have h33 : ρ (.tmp 33) = .int .i64 (n : Int) := hp.2.1 rfl
              have h0 := HLT.out
              unfold execOp
              simp only [h31, h33]
              clear h31 h33 hx hp hc hb
              go_simp
            · exact lb_move (.tmp 34) (.inl rfl) (fun _ _ _ => want_none rfl) fun ρ wx hc hx hp => hp.1 rfl
            · exact lb_move (.tmp 2) (.inl rfl) (fun ρ wx hp => want_of 5 true 35 rfl rfl (hp.1 rfl)) fun ρ wx hc hx hp => hx 2 rfl
            · exact lb_move (.tmp 8) (.inl rfl) (fun ρ wx hp => want_of 5 true 35 rfl rfl (hp.1 rfl)) fun ρ wx hc hx hp => hx 8 rfl
            · refine lb_val (.int .i64 ((k + 1 : Nat) : Int)) (fun ρ wx hp => want_of 5 true 35 rfl rfl (hp.2.1 rfl)) fun ρ wx hb hc hx hp => ⟨?_, rfl⟩
              have h37 : ρ (.tmp 37) = .int .i64 (k : Int) := hp.1 rfl
              have hk0 := hc (.int .i64 1)
              have h0 := HW.out
              unfold execOp
              simp only [h37, hk0]
              clear h37 hk0 hx hp hc hb
              go_simp
            · refine lb_val (.pointer (some ⟨p, o + (k + 1) * 3, none⟩)) (fun ρ wx hp => want_of 5 true 35 rfl rfl (hp.2.2.1 rfl)) fun ρ wx hb hc hx hp => ⟨?_, rfl⟩
              have h36 : ρ (.tmp 36) = .slice (some ⟨p, o, none⟩) n c := hp.1 rfl
              have h38 : ρ (.tmp 38) = .int .i64 ((k + 1 : Nat) : Int) := hp.2.1 rfl
              have h0 := HLQ.out
              have h00 : 0 ≤ (k : Int) + 1 := by omega
              unfold execOp
              simp only [h36, h38]
              clear h36 h38 hx hp hc hb
              go_simp
            · refine lb_val (.pointer (some ⟨p, o + (k + 1) * 3, none⟩)) (fun ρ wx hp => want_of 5 true 35 rfl rfl (hp.2.1 rfl)) fun ρ wx hb hc hx hp => ⟨?_, rfl⟩
              have h39 : ρ (.tmp 39) = .pointer (some ⟨p, o + (k + 1) * 3, none⟩) := hp.1 rfl
              unfold execOp
              simp only [h39]
              clear h39 hx hp hc hb
              go_simp
            · refine lb_val (.int .i64 cq) (fun ρ wx hp => want_of 5 true 35 rfl rfl (hp.2.1 rfl)) fun ρ wx hb hc hx hp => ⟨?_, rfl⟩
              have h40 : ρ (.tmp 40) = .pointer (some ⟨p, o + (k + 1) * 3, none⟩) := hp.1 rfl
              have c1 := HCQ.out wx hb
              unfold execOp
              simp only [h40]
              clear h40 hx hp hc hb
              go_simp
            · exact lb_move (.tmp 2) (.inl rfl) (fun ρ wx hp => want_of 5 true 35 rfl rfl (hp.1 rfl)) fun ρ wx hc hx hp => hx 2 rfl
            · exact lb_move (.tmp 8) (.inl rfl) (fun ρ wx hp => want_of 5 true 35 rfl rfl (hp.1 rfl)) fun ρ wx hc hx hp => hx 8 rfl
            · refine lb_val (.pointer (some ⟨p, o + k * 3, none⟩)) (fun ρ wx hp => want_of 5 true 35 rfl rfl (hp.2.2.1 rfl)) fun ρ wx hb hc hx hp => ⟨?_, rfl⟩
              have h42 : ρ (.tmp 42) = .slice (some ⟨p, o, none⟩) n c := hp.1 rfl
              have h43 : ρ (.tmp 43) = .int .i64 (k : Int) := hp.2.1 rfl
              have h0 := HLP.out
              unfold execOp
              simp only [h42, h43]
              clear h42 h43 hx hp hc hb
              go_simp
            · refine lb_val (.pointer (some ⟨p, o + k * 3, none⟩)) (fun ρ wx hp => want_of 5 true 35 rfl rfl (hp.2.1 rfl)) fun ρ wx hb hc hx hp => ⟨?_, rfl⟩
              have h44 : ρ (.tmp 44) = .pointer (some ⟨p, o + k * 3, none⟩) := hp.1 rfl
              unfold execOp
              simp only [h44]
              clear h44 hx hp hc hb
              go_simp
            · refine lb_val (.int .i64 ck) (fun ρ wx hp => want_of 5 true 35 rfl rfl (hp.2.1 rfl)) fun ρ wx hb hc hx hp => ⟨?_, rfl⟩
              have h45 : ρ (.tmp 45) = .pointer (some ⟨p, o + k * 3, none⟩) := hp.1 rfl
              have c1 := HC0.out wx hb
              unfold execOp
              simp only [h45]
              clear h45 hx hp hc hb
              go_simp
            · refine lb_val (.bool true) (fun ρ wx hp => want_of 5 true 35 rfl rfl (hp.2.2.1 rfl)) fun ρ wx hb hc hx hp => ⟨?_, rfl⟩
              have h41 : ρ (.tmp 41) = .int .i64 cq := hp.1 rfl
              have h46 : ρ (.tmp 46) = .int .i64 ck := hp.2.1 rfl
              have h0 := HEQ.out
              unfold execOp
              simp only [h41, h46]
              clear h41 h46 hx hp hc hb
              go_simp
            · exact lb_pick (.tmp 35) (.tmp 47) (.const (.bool false)) rfl true (fun _ _ _ => want_none rfl) fun ρ wx hc hp => ⟨hp.1 rfl, hp.2.1 rfl⟩
          intro vs wx hI hF
          obtain ⟨-, -, -, -, -, -, -, -, -, -, -, -, -, -, -, -, -, -, h18, -⟩ := hF
          replace h18 : vs 18 = .bool true := h18
          have bl : Below wr.heap.size wr wx := hI
          simp only [putAll, Act.put, List.setIfInBounds_toArray, List.set_cons_zero, List.set_cons_succ, h18]
          clear hI h18
          have BX := Lib.hid (below_then BR.out bl)
          have OX := Lib.hid (own_keep_any OR.out bl)
          have HN := Lib.hid (HSK.out (by rw [HSB.out]))
          clear bl
          go_wp2_with fail
          go_roundw
          case rel => exact ⟨k + 1, A2, d2, P, s, t, by omega, by rw [HN.out]; exact HP.out, rfl, by go_num, rfl, rfl, OX.out, by omega, BX.out⟩
          case measure => simp [intOf]; omega
        · have HEQ : Hid (¬ cq = ck) := Lib.hid he
          have HSB : Hid (skipB L n k = false) := Lib.hid (by rw [HS0.out]; exact decide_eq_false he)
          clear he
          refine wp_region_typed (ClB wr) RlB (Ty [TV (.int .i64 (k : Int)), TV (.int .i64 ((k + 1 : Nat) : Int)), TV (.slice (some ⟨p, o, none⟩) n c), TV (.int .i64 (n : Int)), TV (.bool true), TV (.bool true), TV (.slice (some ⟨p, o, none⟩) n c), TV (.int .i64 (k : Int)), TV (.int .i64 ((k + 1 : Nat) : Int)), TV (.pointer (some ⟨p, o + (k + 1) * 3, none⟩)), TV (.pointer (some ⟨p, o + (k + 1) * 3, none⟩)), TV (.int .i64 cq), TV (.slice (some ⟨p, o, none⟩) n c), TV (.int .i64 (k : Int)), TV (.pointer (some ⟨p, o + k * 3, none⟩)), TV (.pointer (some ⟨p, o + k * 3, none⟩)), TV (.int .i64 ck), TV (.bool false), TV (.bool false)])
            (by kernel_rfl) (by kernel_rfl) (stab_ty _ ⟨stabB_k _, stabB_k _, stabB_k _, stabB_k _, stabB_k _, stabB_k _, stabB_k _, stabB_k _, stabB_k _, stabB_k _, stabB_k _, stabB_k _, stabB_k _, stabB_k _, stabB_k _, stabB_k _, stabB_k _, stabB_k _, stabB_k _, trivial⟩) (Below.refl _ _).drew ?_ ?_
          · refine ⟨?_, ?_, ?_, ?_, ?_, ?_, ?_, ?_, ?_, ?_, ?_, ?_, ?_, ?_, ?_, ?_, ?_, ?_, ?_, trivial⟩
            · exact lb_move (.tmp 8) (.inl rfl) (fun _ _ _ => want_none rfl) fun ρ wx hc hx hp => hx 8 rfl
            · refine lb_val (.int .i64 ((k + 1 : Nat) : Int)) (fun _ _ _ => want_none rfl) fun ρ wx hb hc hx hp => ⟨?_, rfl⟩
              have h30 : ρ (.tmp 30) = .int .i64 (k : Int) := hp.1 rfl
              have hk0 := hc (.int .i64 1)
              have h0 := HW.out
              unfold execOp
              simp only [h30, hk0]
              clear h30 hk0 hx hp hc hb
              go_simp
            · exact lb_move (.tmp 2) (.inl rfl) (fun _ _ _ => want_none rfl) fun ρ wx hc hx hp => hx 2 rfl
            · refine lb_val (.int .i64 (n : Int)) (fun _ _ _ => want_none rfl) fun ρ wx hb hc hx hp => ⟨?_, rfl⟩
              have h32 : ρ (.tmp 32) = .slice (some ⟨p, o, none⟩) n c := hp.1 rfl
              unfold execOp
              clear hx hp hc hb
              go_simp
            · refine lb_val (.bool true) (fun _ _ _ => want_none rfl) fun ρ wx hb hc hx hp => ⟨?_, rfl⟩
              have h31 : ρ (.tmp 31) = .int .i64 ((k + 1 : Nat) : Int) := hp.1 rfl
              have h33 : ρ (.tmp 33) = .int .i64 (n : Int) := hp.2.1 rfl
              have h0 := HLT.out
              unfold execOp
              simp only [h31, h33]
              clear h31 h33 hx hp hc hb
              go_simp
            · exact lb_move (.tmp 34) (.inl rfl) (fun _ _ _ => want_none rfl) fun ρ wx hc hx hp => hp.1 rfl
            · exact lb_move (.tmp 2) (.inl rfl) (fun ρ wx hp => want_of 5 true 35 rfl rfl (hp.1 rfl)) fun ρ wx hc hx hp => hx 2 rfl
            · exact lb_move (.tmp 8) (.inl rfl) (fun ρ wx hp => want_of 5 true 35 rfl rfl (hp.1 rfl)) fun ρ wx hc hx hp => hx 8 rfl
            · refine lb_val (.int .i64 ((k + 1 : Nat) : Int)) (fun ρ wx hp => want_of 5 true 35 rfl rfl (hp.2.1 rfl)) fun ρ wx hb hc hx hp => ⟨?_, rfl⟩
              have h37 : ρ (.tmp 37) = .int .i64 (k : Int) := hp.1 rfl
              have hk0 := hc (.int .i64 1)
              have h0 := HW.out
              unfold execOp
              simp only [h37, hk0]
              clear h37 hk0 hx hp hc hb
              go_simp
            · refine lb_val (.pointer (some ⟨p, o + (k + 1) * 3, none⟩)) (fun ρ wx hp => want_of 5 true 35 rfl rfl (hp.2.2.1 rfl)) fun ρ wx hb hc hx hp => ⟨?_, rfl⟩
              have h36 : ρ (.tmp 36) = .slice (some ⟨p, o, none⟩) n c := hp.1 rfl
              have h38 : ρ (.tmp 38) = .int .i64 ((k + 1 : Nat) : Int) := hp.2.1 rfl
              have h0 := HLQ.out
              have h00 : 0 ≤ (k : Int) + 1 := by omega
              unfold execOp
              simp only [h36, h38]
              clear h36 h38 hx hp hc hb
              go_simp
            · refine lb_val (.pointer (some ⟨p, o + (k + 1) * 3, none⟩)) (fun ρ wx hp => want_of 5 true 35 rfl rfl (hp.2.1 rfl)) fun ρ wx hb hc hx hp => ⟨?_, rfl⟩
              have h39 : ρ (.tmp 39) = .pointer (some ⟨p, o + (k + 1) * 3, none⟩) := hp.1 rfl
              unfold execOp
              simp only [h39]
              clear h39 hx hp hc hb
              go_simp
            · refine lb_val (.int .i64 cq) (fun ρ wx hp => want_of 5 true 35 rfl rfl (hp.2.1 rfl)) fun ρ wx hb hc hx hp => ⟨?_, rfl⟩
              have h40 : ρ (.tmp 40) = .pointer (some ⟨p, o + (k + 1) * 3, none⟩) := hp.1 rfl
              have c1 := HCQ.out wx hb
              unfold execOp
              simp only [h40]
              clear h40 hx hp hc hb
              go_simp
            · exact lb_move (.tmp 2) (.inl rfl) (fun ρ wx hp => want_of 5 true 35 rfl rfl (hp.1 rfl)) fun ρ wx hc hx hp => hx 2 rfl
            · exact lb_move (.tmp 8) (.inl rfl) (fun ρ wx hp => want_of 5 true 35 rfl rfl (hp.1 rfl)) fun ρ wx hc hx hp => hx 8 rfl
            · refine lb_val (.pointer (some ⟨p, o + k * 3, none⟩)) (fun ρ wx hp => want_of 5 true 35 rfl rfl (hp.2.2.1 rfl)) fun ρ wx hb hc hx hp => ⟨?_, rfl⟩
              have h42 : ρ (.tmp 42) = .slice (some ⟨p, o, none⟩) n c := hp.1 rfl
              have h43 : ρ (.tmp 43) = .int .i64 (k : Int) := hp.2.1 rfl
              have h0 := HLP.out
              unfold execOp
              simp only [h42, h43]
              clear h42 h43 hx hp hc hb
              go_simp
            · refine lb_val (.pointer (some ⟨p, o + k * 3, none⟩)) (fun ρ wx hp => want_of 5 true 35 rfl rfl (hp.2.1 rfl)) fun ρ wx hb hc hx hp => ⟨?_, rfl⟩
              have h44 : ρ (.tmp 44) = .pointer (some ⟨p, o + k * 3, none⟩) := hp.1 rfl
              unfold execOp
              simp only [h44]
              clear h44 hx hp hc hb
              go_simp
            · refine lb_val (.int .i64 ck) (fun ρ wx hp => want_of 5 true 35 rfl rfl (hp.2.1 rfl)) fun ρ wx hb hc hx hp => ⟨?_, rfl⟩
              have h45 : ρ (.tmp 45) = .pointer (some ⟨p, o + k * 3, none⟩) := hp.1 rfl
              have c1 := HC0.out wx hb
              unfold execOp
              simp only [h45]
              clear h45 hx hp hc hb
              go_simp
            · refine lb_val (.bool false) (fun ρ wx hp => want_of 5 true 35 rfl rfl (hp.2.2.1 rfl)) fun ρ wx hb hc hx hp => ⟨?_, rfl⟩
              have h41 : ρ (.tmp 41) = .int .i64 cq := hp.1 rfl
              have h46 : ρ (.tmp 46) = .int .i64 ck := hp.2.1 rfl
              have h0 := HEQ.out
              unfold execOp
              simp only [h41, h46]
              clear h41 h46 hx hp hc hb
              go_simp
            · exact lb_pick (.tmp 35) (.tmp 47) (.const (.bool false)) rfl true (fun _ _ _ => want_none rfl) fun ρ wx hc hp => ⟨hp.1 rfl, hp.2.1 rfl⟩
          intro vs wx hI hF
          obtain ⟨-, -, -, -, -, -, -, -, -, -, -, -, -, -, -, -, -, -, h18, -⟩ := hF
          replace h18 : vs 18 = .bool false := h18
          have bl : Below wr.heap.size wr wx := hI
          simp only [putAll, Act.put, List.setIfInBounds_toArray, List.set_cons_zero, List.set_cons_succ, h18]
          clear hI h18
          have BX := Lib.hid (below_then BR.out bl)
          have OX := Lib.hid (own_keep_any OR.out bl)
          have IX := Lib.hid (IR.out.below bl)
          have HG := Lib.hid (HGO.out (by rw [HSB.out]))
          clear bl
          have c1 := (chg_cell IX.out hkn).2.1
          have c2 := (chg_cell IX.out hkn).2.2
          have c3 := (chg_cell IX.out hkn).1
          rw [HCK.out] at c3
          by_cases hx : cX L k = s
          · by_cases hy : cY L k = t
            · have HN := Lib.hid (HG.out.2 ⟨hx, hy⟩)
              rw [hx] at c1
              rw [hy] at c2
              have HXY := Lib.hid (And.intro hx hy)
              clear hx hy
              go_wp2_with fail
              go_roundw
              case rel => exact ⟨k + 1, A2, d2, P, s, t, by omega, by rw [HN.out, HXY.out.1, HXY.out.2], rfl, by go_num, rfl, rfl, OX.out, by omega, BX.out⟩
              case measure => simp [intOf]; omega
            · have HN := Lib.hid (HG.out.1 (.inr hy))
              rw [hx] at c1
              have hyb : (cY L k == t) = false := by simpa using hy
              have HXE := Lib.hid hx
              clear hx
              have s4 : w.heap.size ≤ wx.heap.size := BX.out.size
              have O6 := Lib.hid (own_keep OX.out (below1 wx (.cells #[.int .i64 ck] 3)))
              have I6 : Hid (Ints (wx.alloc (.cells #[.int .i64 ck] 3)) (some ⟨wx.heap.size, 0, none⟩) 1 [ck] [wx.heap.size]) := Lib.hid (lone_int wx ck)
              have B6 : Hid (Below w.heap.size w (wx.alloc (.cells #[.int .i64 ck] 3))) := Lib.hid (BX.out.alloc s4 (.cells #[.int .i64 ck] 3))
              have hb1 : w.heap.size ≤ (wx.alloc (.cells #[.int .i64 ck] 3)).heap.size := by simp; omega
              have J6 := Lib.hid (IX.out.below (below1 wx (.cells #[.int .i64 ck] 3)))
              have HFP : Hid (∀ b ∈ fp, b < w.heap.size) := Lib.hid HLTW.out
              go_upto_region 10 with (at_builtin; refine wpList_append_ints rfl _ _ rfl w.heap.size _ P.length _ rfl O6.out _ _ _ [ck] _ rfl I6.out (by have := hn; omega) hb1 ?_; intro v' w7 own7 gr7 ob7; obtain ⟨A7, d7, _, rfl, _⟩ := own_ints own7; have b7 := below_grown (Below.refl w.heap.size _) gr7 hb1 (fun b hb => (own_lt O6.out b hb).1); have J7 := Lib.hid (J6.out.keep_below b7 HFP.out); have B7 := Lib.hid (B6.out.trans b7); have O7 := Lib.hid own7; clear own7 gr7 b7 B6 O6 I6 J6 ob7)
              have c1 := (chg_cell J7.out hkn).2.1
              have c2 := (chg_cell J7.out hkn).2.2
              go_wp2_with fail
              go_roundw
              case rel => exact ⟨k + 1, A7, d7, P ++ [ck], cX L k, cY L k, by omega, by rw [HN.out], by simp, by go_num, rfl, rfl, by simpa using O7.out, by simp; omega, B7.out⟩
              case measure => simp [intOf]; omega
          · have HN := Lib.hid (HG.out.1 (.inl hx))
            have hxb : (cX L k == s) = false := by simpa using hx
            have s4 : w.heap.size ≤ wx.heap.size := BX.out.size
            have O6 := Lib.hid (own_keep OX.out (below1 wx (.cells #[.int .i64 ck] 3)))
            have I6 : Hid (Ints (wx.alloc (.cells #[.int .i64 ck] 3)) (some ⟨wx.heap.size, 0, none⟩) 1 [ck] [wx.heap.size]) := Lib.hid (lone_int wx ck)
            have B6 : Hid (Below w.heap.size w (wx.alloc (.cells #[.int .i64 ck] 3))) := Lib.hid (BX.out.alloc s4 (.cells #[.int .i64 ck] 3))
            have hb1 : w.heap.size ≤ (wx.alloc (.cells #[.int .i64 ck] 3)).heap.size := by simp; omega
            have J6 := Lib.hid (IX.out.below (below1 wx (.cells #[.int .i64 ck] 3)))
            have HFP : Hid (∀ b ∈ fp, b < w.heap.size) := Lib.hid HLTW.out
            go_upto_region 10 with (at_builtin; refine wpList_append_ints rfl _ _ rfl w.heap.size _ P.length _ rfl O6.out _ _ _ [ck] _ rfl I6.out (by have := hn; omega) hb1 ?_; intro v' w7 own7 gr7 ob7; obtain ⟨A7, d7, _, rfl, _⟩ := own_ints own7; have b7 := below_grown (Below.refl w.heap.size _) gr7 hb1 (fun b hb => (own_lt O6.out b hb).1); have J7 := Lib.hid (J6.out.keep_below b7 HFP.out); have B7 := Lib.hid (B6.out.trans b7); have O7 := Lib.hid own7; clear own7 gr7 b7 B6 O6 I6 J6 ob7)
            have c1 := (chg_cell J7.out hkn).2.1
            have c2 := (chg_cell J7.out hkn).2.2
            go_wp2_with fail
            go_roundw
            case rel => exact ⟨k + 1, A7, d7, P ++ [ck], cX L k, cY L k, by omega, by rw [HN.out], by simp, by go_num, rfl, rfl, by simpa using O7.out, by simp; omega, B7.out⟩
            case measure => simp [intOf]; omega
      · have HLT : Hid ((n : Int) ≤ (k : Int) + 1) := Lib.hid (by omega)
        have HSB : Hid (skipB L n k = false) := Lib.hid (by unfold skipB; rw [decide_eq_false hl1]; rfl)
        clear hl1
        refine wp_region_typed (ClB wr) RlB (Ty [TV (.int .i64 (k : Int)), TV (.int .i64 ((k + 1 : Nat) : Int)), TV (.slice (some ⟨p, o, none⟩) n c), TV (.int .i64 (n : Int)), TV (.bool false), TV (.bool false), TV undef, TV undef, TV undef, TV undef, TV undef, TV undef, TV undef, TV undef, TV undef, TV undef, TV undef, TV undef, TV (.bool false)])
          (by kernel_rfl) (by kernel_rfl) (stab_ty _ ⟨stabB_k _, stabB_k _, stabB_k _, stabB_k _, stabB_k _, stabB_k _, stabB_k _, stabB_k _, stabB_k _, stabB_k _, stabB_k _, stabB_k _, stabB_k _, stabB_k _, stabB_k _, stabB_k _, stabB_k _, stabB_k _, stabB_k _, trivial⟩) (Below.refl _ _).drew ?_ ?_
        · refine ⟨?_, ?_, ?_, ?_, ?_, ?_, ?_, ?_, ?_, ?_, ?_, ?_, ?_, ?_, ?_, ?_, ?_, ?_, ?_, trivial⟩
          · exact lb_move (.tmp 8) (.inl rfl) (fun _ _ _ => want_none rfl) fun ρ wx hc hx hp => hx 8 rfl
          · refine lb_val (.int .i64 ((k + 1 : Nat) : Int)) (fun _ _ _ => want_none rfl) fun ρ wx hb hc hx hp => ⟨?_, rfl⟩
            have h30 : ρ (.tmp 30) = .int .i64 (k : Int) := hp.1 rfl
            have hk0 := hc (.int .i64 1)
            have h0 := HW.out
            unfold execOp
            simp only [h30, hk0]
            clear h30 hk0 hx hp hc hb
            go_simp
          · exact lb_move (.tmp 2) (.inl rfl) (fun _ _ _ => want_none rfl) fun ρ wx hc hx hp => hx 2 rfl
          · refine lb_val (.int .i64 (n : Int)) (fun _ _ _ => want_none rfl) fun ρ wx hb hc hx hp => ⟨?_, rfl⟩
            have h32 : ρ (.tmp 32) = .slice (some ⟨p, o, none⟩) n c := hp.1 rfl
            unfold execOp
            clear hx hp hc hb
            go_simp
          · refine lb_val (.bool false) (fun _ _ _ => want_none rfl) fun ρ wx hb hc hx hp => ⟨?_, rfl⟩
            have h31 : ρ (.tmp 31) = .int .i64 ((k + 1 : Nat) : Int) := hp.1 rfl
            have h33 : ρ (.tmp 33) = .int .i64 (n : Int) := hp.2.1 rfl
            have h0 := HLT.out
            unfold execOp
            simp only [h31, h33]
            clear h31 h33 hx hp hc hb
            go_simp
          · exact lb_move (.tmp 34) (.inl rfl) (fun _ _ _ => want_none rfl) fun ρ wx hc hx hp => hp.1 rfl
          · exact lb_not (fun ρ wx hp => want_not 5 true 35 rfl rfl (hp.1 rfl)) (fun _ => rfl)
          · exact lb_not (fun ρ wx hp => want_not 5 true 35 rfl rfl (hp.1 rfl)) (fun _ => rfl)
          · exact lb_not (fun ρ wx hp => want_not 5 true 35 rfl rfl (hp.2.1 rfl)) (fun _ => rfl)
          · exact lb_not (fun ρ wx hp => want_not 5 true 35 rfl rfl (hp.2.2.1 rfl)) (fun _ => rfl)
          · exact lb_not (fun ρ wx hp => want_not 5 true 35 rfl rfl (hp.2.1 rfl)) (fun _ => rfl)
          · exact lb_not (fun ρ wx hp => want_not 5 true 35 rfl rfl (hp.2.1 rfl)) (fun _ => rfl)
          · exact lb_not (fun ρ wx hp => want_not 5 true 35 rfl rfl (hp.1 rfl)) (fun _ => rfl)
          · exact lb_not (fun ρ wx hp => want_not 5 true 35 rfl rfl (hp.1 rfl)) (fun _ => rfl)
          · exact lb_not (fun ρ wx hp => want_not 5 true 35 rfl rfl (hp.2.2.1 rfl)) (fun _ => rfl)
          · exact lb_not (fun ρ wx hp => want_not 5 true 35 rfl rfl (hp.2.1 rfl)) (fun _ => rfl)
          · exact lb_not (fun ρ wx hp => want_not 5 true 35 rfl rfl (hp.2.1 rfl)) (fun _ => rfl)
          · exact lb_not (fun ρ wx hp => want_not 5 true 35 rfl rfl (hp.2.2.1 rfl)) (fun _ => rfl)
          · exact lb_pick (.tmp 35) (.tmp 47) (.const (.bool false)) rfl false (fun _ _ _ => want_none rfl) fun ρ wx hc hp => ⟨hp.1 rfl, hc _⟩
        intro vs wx hI hF
        obtain ⟨-, -, -, -, -, -, -, -, -, -, -, -, -, -, -, -, -, -, h18, -⟩ := hF
        replace h18 : vs 18 = .bool false := h18
        have bl : Below wr.heap.size wr wx := hI
        simp only [putAll, Act.put, List.setIfInBounds_toArray, List.set_cons_zero, List.set_cons_succ, h18]
        clear hI h18
        have BX := Lib.hid (below_then BR.out bl)
        have OX := Lib.hid (own_keep_any OR.out bl)
        have IX := Lib.hid (IR.out.below bl)
        have HG := Lib.hid (HGO.out (by rw [HSB.out]))
        clear bl
        have c1 := (chg_cell IX.out hkn).2.1
        have c2 := (chg_cell IX.out hkn).2.2
        have c3 := (chg_cell IX.out hkn).1
        rw [HCK.out] at c3
        by_cases hx : cX L k = s
        · by_cases hy : cY L k = t
          · have HN := Lib.hid (HG.out.2 ⟨hx, hy⟩)
            rw [hx] at c1
            rw [hy] at c2
            have HXY := Lib.hid (And.intro hx hy)
            clear hx hy
            go_wp2_with fail
            go_roundw
            case rel => exact ⟨k + 1, A2, d2, P, s, t, by omega, by rw [HN.out, HXY.out.1, HXY.out.2], rfl, by go_num, rfl, rfl, OX.out, by omega, BX.out⟩
            case measure => simp [intOf]; omega
          · have HN := Lib.hid (HG.out.1 (.inr hy))
            rw [hx] at c1
            have hyb : (cY L k == t) = false := by simpa using hy
            have HXE := Lib.hid hx
            clear hx
            have s4 : w.heap.size ≤ wx.heap.size := BX.out.size
            have O6 := Lib.hid (own_keep OX.out (below1 wx (.cells #[.int .i64 ck] 3)))
            have I6 : Hid (Ints (wx.alloc (.cells #[.int .i64 ck] 3)) (some ⟨wx.heap.size, 0, none⟩) 1 [ck] [wx.heap.size]) := Lib.hid (lone_int wx ck)
            have B6 : Hid (Below w.heap.size w (wx.alloc (.cells #[.int .i64 ck] 3))) := Lib.hid (BX.out.alloc s4 (.cells #[.int .i64 ck] 3))
            have hb1 : w.heap.size ≤ (wx.alloc (.cells #[.int .i64 ck] 3)).heap.size := by simp; omega
            have J6 := Lib.hid (IX.out.below (below1 wx (.cells #[.int .i64 ck] 3)))
            have HFP : Hid (∀ b ∈ fp, b < w.heap.size) := Lib.hid HLTW.out
            go_upto_region 10 with (at_builtin; refine wpList_append_ints rfl _ _ rfl w.heap.size _ P.length _ rfl O6.out _ _ _ [ck] _ rfl I6.out (by have := hn; omega) hb1 ?_; intro v' w7 own7 gr7 ob7; obtain ⟨A7, d7, _, rfl, _⟩ := own_ints own7; have b7 := below_grown (Below.refl w.heap.size _) gr7 hb1 (fun b hb => (own_lt O6.out b hb).1); have J7 := Lib.hid (J6.out.keep_below b7 HFP.out); have B7 := Lib.hid (B6.out.trans b7); have O7 := Lib.hid own7; clear own7 gr7 b7 B6 O6 I6 J6 ob7)
            have c1 := (chg_cell J7.out hkn).2.1
            have c2 := (chg_cell J7.out hkn).2.2
            go_wp2_with fail
            go_roundw
            case rel => exact ⟨k + 1, A7, d7, P ++ [ck], cX L k, cY L k, by omega, by rw [HN.out], by simp, by go_num, rfl, rfl, by simpa using O7.out, by simp; omega, B7.out⟩
            case measure => simp [intOf]; omega
        · have HN := Lib.hid (HG.out.1 (.inl hx))
          have hxb : (cX L k == s) = false := by simpa using hx
          have s4 : w.heap.size ≤ wx.heap.size := BX.out.size
          have O6 := Lib.hid (own_keep OX.out (below1 wx (.cells #[.int .i64 ck] 3)))
          have I6 : Hid (Ints (wx.alloc (.cells #[.int .i64 ck] 3)) (some ⟨wx.heap.size, 0, none⟩) 1 [ck] [wx.heap.size]) := Lib.hid (lone_int wx ck)
          have B6 : Hid (Below w.heap.size w (wx.alloc (.cells #[.int .i64 ck] 3))) := Lib.hid (BX.out.alloc s4 (.cells #[.int .i64 ck] 3))
          have hb1 : w.heap.size ≤ (wx.alloc (.cells #[.int .i64 ck] 3)).heap.size := by simp; omega
          have J6 := Lib.hid (IX.out.below (below1 wx (.cells #[.int .i64 ck] 3)))
          have HFP : Hid (∀ b ∈ fp, b < w.heap.size) := Lib.hid HLTW.out
          go_upto_region 10 with (at_builtin; refine wpList_append_ints rfl _ _ rfl w.heap.size _ P.length _ rfl O6.out _ _ _ [ck] _ rfl I6.out (by have := hn; omega) hb1 ?_; intro v' w7 own7 gr7 ob7; obtain ⟨A7, d7, _, rfl, _⟩ := own_ints own7; have b7 := below_grown (Below.refl w.heap.size _) gr7 hb1 (fun b hb => (own_lt O6.out b hb).1); have J7 := Lib.hid (J6.out.keep_below b7 HFP.out); have B7 := Lib.hid (B6.out.trans b7); have O7 := Lib.hid own7; clear own7 gr7 b7 B6 O6 I6 J6 ob7)
          have c1 := (chg_cell J7.out hkn).2.1
          have c2 := (chg_cell J7.out hkn).2.2
          go_wp2_with fail
          go_roundw
          case rel => exact ⟨k + 1, A7, d7, P ++ [ck], cX L k, cY L k, by omega, by rw [HN.out], by simp, by go_num, rfl, rfl, by simpa using O7.out, by simp; omega, B7.out⟩
          case measure => simp [intOf]; omega
    · obtain rfl : k = n := by omega
      have OF : Hid (Copied (ptT L k x y) (ptT L k x y).length w (.returned (.slice A2 P.length d2)) wr) := by
        rw [HT.out, HP.out]
        exact copied_own OR.out BR.out
      go_wp2_with fail
      go_ret
      exact OF.out
end Go.Proofs.Ytddllcgbdgpkbaa
