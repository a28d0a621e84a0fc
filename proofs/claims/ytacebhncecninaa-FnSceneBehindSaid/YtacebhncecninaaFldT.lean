/- The model's drawn backgrounds: the first half of the draw. -/
import Derived.Test.YtacebhncecninaaGF
import Derived.Deep.RegionLaw
import Derived.Deep.Cut
namespace Go.Proofs.Ytacebhncecninaa
open Go.ChangeShapes Go.WideShapes Go.ChangeAt Go.RowKit
set_option linter.unusedVariables false

/-- A background of which the width and the shifts are laid. -/
def TFresh : Value → World → Prop := fun v _ => ∃ W sx sy : Int, v = fldV W none 0 0 none 0 0 sx sy ∧ 1 ≤ W ∧ W ≤ 5 ∧ 0 ≤ sx ∧ sx ≤ 255 ∧ 0 ≤ sy ∧ sy ≤ 255
theorem stab_tfresh {S : List Nat} {D : World → Prop} : Stab (Rel S D) TFresh := fun _ _ _ _ h => h
theorem own_nil (w : World) (base : Nat) (e : TypeId) (s : Nat) : w.ownsRow base e s (.slice none 0 0) 0 (iv []) := ⟨by simp, .inl ⟨rfl, rfl⟩⟩
theorem mul_b (W v : Int) (h1 : 1 ≤ W) (h5 : W ≤ 5) (v0 : 0 ≤ v) (v1 : v < 4) : 1 ≤ W * (1 + v) ∧ W * (1 + v) ≤ 20 := by
  have h : v = 0 ∨ v = 1 ∨ v = 2 ∨ v = 3 := by omega
  rcases h with rfl | rfl | rfl | rfl <;> omega
set_option maxRecDepth 100000 in
set_option maxHeartbeats 8000000 in
theorem field_any (q m : Nat) (n : Int) (w : World) (h : Rd w q m) (hm : m ≤ 90000) (hn : 1 ≤ n) (hn2 : n ≤ 1000) : Calls Try.prog 52 #[.pointer (some ⟨q, 0, none⟩), .int .i64 n] w (FldDrawn q m w) := by
  have hq := h.lt
  obtain ⟨r, hr⟩ : ∃ r, r = w.heap.size := ⟨_, rfl⟩
  obtain ⟨w1, hw1⟩ : ∃ w1, w1 = w.alloc (.cells #[.int .i64 0, .slice none 0 0, .slice none 0 0, .int .i64 0, .int .i64 0] 26) := ⟨_, rfl⟩
  have R1 : Hid (Rd w1 q m) := by rw [hw1]; exact h.alloc _
  have X1 : Hid (Box w1 r 26 (fcs 0 none 0 0 none 0 0 0 0)) := by rw [hw1, hr]; exact Box.new w _ _
  have O1 : Hid (Only [q] w w1) := by rw [hw1]; exact (Only.refl _ w).alloc _
  have z1 : r < w1.heap.size := X1.out.lt
  clear h
  go_enter Try.func52, Try.ntmps52
  go_upto_region 1 with (fail)
  rw [← hw1]
  have HR0 := Lib.hid hr
  have hqr : q < r := by omega
  try rw [← hr]
  clear hw1 hr
  have hqS : q ∈ [q] := by simp
  have hS1 : ∀ b ∈ [q], b < w1.heap.size := by simp; omega
  have hJ : Kept q (fun _ => True) := fun _ _ _ _ => trivial
  refine wp_region_end (by dsimp only [List.dropLast]) rfl (Cls [q] q m w1 fun _ => True) (Rel [q] fun _ => True)
    (Ty [TV (.pointer (some ⟨q, 0, none⟩)), TI 0 4, TI 1 5, TV (.pointer (some ⟨q, 0, none⟩)), TI 0 255, TL [q] 2 0 255, TV (.pointer (some ⟨q, 0, none⟩)), TI 0 1, TP [q] 0 255, TI 0 255, TV (.pointer (some ⟨q, 0, none⟩)), TI 0 255, TL [q] 2 0 255, TV (.pointer (some ⟨q, 0, none⟩)), TI 0 1, TP [q] 0 255, TI 0 255, TFresh, TVar w1.heap.size 26 (fcs 0 none 0 0 none 0 0 0 0)])
    (by kernel_rfl) (by kernel_rfl) (by kernel_rfl) (stab_ty _ ⟨stab_tv _, stab_ti _ _, stab_ti _ _, stab_tv _, stab_ti _ _, stab_tl _ _ _, stab_tv _, stab_ti _ _, stab_tp _ _, stab_ti _ _, stab_tv _, stab_ti _ _, stab_tl _ _ _, stab_tv _, stab_ti _ _, stab_tp _ _, stab_ti _ _, stab_tfresh, stab_tvar hS1, trivial⟩)
    ⟨(Only.refl _ w1).trans (.of_below (Below.refl _ _).drew), R1.out.stay (Below.refl _ _).drew, trivial⟩ ?_ ?_
  · refine ⟨?_, ?_, ?_, ?_, ?_, ?_, ?_, ?_, ?_, ?_, ?_, ?_, ?_, ?_, ?_, ?_, ?_, ?_, ?_, trivial⟩
    · exact ob_move rfl (.tmp 0) (.inl rfl) hqS hJ hJ fun ρ wx _ hx _ => hx 0 rfl
    · exact ob_pick rfl (.tmp 8) 5 _ rfl hqS hJ hJ (by simp; omega) (by omega) (by omega) (fun ρ wx hp => hp.1 rfl) (fun _ _ h => h)
    · exact ob_add rfl (.const (.int .i64 1)) (.tmp 9) 1 0 4 1 5 _ _ rfl rfl hqS hJ hJ (fun ρ wx hc hp => .inr ⟨hp.1 rfl, hc _⟩) rfl rfl (by omega) (by omega) (fun _ _ h => h)
    · exact ob_move rfl (.tmp 0) (.inl rfl) hqS hJ hJ fun ρ wx _ hx _ => hx 0 rfl
    · exact ob_pick rfl (.tmp 11) 256 _ rfl hqS hJ hJ (by simp; omega) (by omega) (by omega) (fun ρ wx hp => hp.1 rfl) (fun _ _ h => h)
    · refine ob_build rfl 2 0 255 hqS hJ hJ hS1 (fun ρ wx hc hx hp => ?_) (fun _ _ h => h)
      obtain ⟨z, hz, z0, z1⟩ : TI 0 255 (ρ (.tmp 12)) wx := hp.1 rfl
      refine ⟨#[.int .i64 0, .int .i64 z], ?_, ?_⟩
      · unfold execOp
        simp only [List.map_toArray, List.map_cons, List.map_nil, hc, hz]
        clear hx hp hc
        go_simp
      · intro j hj
        have h : j = 0 ∨ j = 1 := by omega
        rcases h with rfl | rfl <;> exact ⟨_, rfl, by omega, by omega⟩
    · exact ob_move rfl (.tmp 0) (.inl rfl) hqS hJ hJ fun ρ wx _ hx _ => hx 0 rfl
    · exact ob_pick rfl (.tmp 14) 2 _ rfl hqS hJ hJ (by simp; omega) (by omega) (by omega) (fun ρ wx hp => hp.1 rfl) (fun _ _ h => h)
    · exact ob_index rfl (.tmp 13) (.tmp 15) 2 0 255 rfl hqS hJ hJ (fun ρ wx hp => ⟨hp.1 rfl, hp.2.1 rfl⟩) (fun _ _ h => h)
    · exact ob_load rfl (.tmp 16) 0 255 rfl hqS hJ hJ (fun ρ wx hp => hp.1 rfl) (fun _ _ h => h)
    · exact ob_move rfl (.tmp 0) (.inl rfl) hqS hJ hJ fun ρ wx _ hx _ => hx 0 rfl
    · exact ob_pick rfl (.tmp 18) 256 _ rfl hqS hJ hJ (by simp; omega) (by omega) (by omega) (fun ρ wx hp => hp.1 rfl) (fun _ _ h => h)
    · refine ob_build rfl 2 0 255 hqS hJ hJ hS1 (fun ρ wx hc hx hp => ?_) (fun _ _ h => h)
      obtain ⟨z, hz, z0, z1⟩ : TI 0 255 (ρ (.tmp 19)) wx := hp.1 rfl
      refine ⟨#[.int .i64 0, .int .i64 z], ?_, ?_⟩
      · unfold execOp
        simp only [List.map_toArray, List.map_cons, List.map_nil, hc, hz]
        clear hx hp hc
        go_simp
      · intro j hj
        have h : j = 0 ∨ j = 1 := by omega
        rcases h with rfl | rfl <;> exact ⟨_, rfl, by omega, by omega⟩
    · exact ob_move rfl (.tmp 0) (.inl rfl) hqS hJ hJ fun ρ wx _ hx _ => hx 0 rfl
    · exact ob_pick rfl (.tmp 21) 2 _ rfl hqS hJ hJ (by simp; omega) (by omega) (by omega) (fun ρ wx hp => hp.1 rfl) (fun _ _ h => h)
    · exact ob_index rfl (.tmp 20) (.tmp 22) 2 0 255 rfl hqS hJ hJ (fun ρ wx hp => ⟨hp.1 rfl, hp.2.1 rfl⟩) (fun _ _ h => h)
    · exact ob_load rfl (.tmp 23) 0 255 rfl hqS hJ hJ (fun ρ wx hp => hp.1 rfl) (fun _ _ h => h)
    · refine ob_some rfl hqS hJ hJ fun ρ kk wx hI hc hx hp => ?_
      obtain ⟨W, hW, W1, W5⟩ : TI 1 5 (ρ (.tmp 10)) wx := hp.1 rfl
      obtain ⟨sx, hsx, sx0, sx1⟩ : TI 0 255 (ρ (.tmp 17)) wx := hp.2.1 rfl
      obtain ⟨sy, hsy, sy0, sy1⟩ : TI 0 255 (ρ (.tmp 24)) wx := hp.2.2.1 rfl
      refine ⟨fldV W none 0 0 none 0 0 sx sy, ?_, W, sx, sy, rfl, W1, W5, sx0, sx1, sy0, sy1⟩
      unfold execOp
      simp only [List.map_toArray, List.map_cons, List.map_nil, hW, hsx, hsy]
      clear hW hsx hsy hx hp hc hI
      go_simp
    · exact ob_var rfl hqS hJ hJ (fun ρ wx => by unfold execOp; go_simp) (fun _ _ h => h)
  intro vs wx hI hF
  obtain ⟨-, -, -, -, -, -, -, -, -, -, -, -, -, -, -, -, -, ⟨W, sx, sy, h17, W1, W5, sx0, sx1, sy0, sy1⟩, ⟨b, h18, hL, hb⟩, -⟩ := hF
  have HO := Lib.hid hI.only
  have HRD := Lib.hid hI.rd
  replace h17 : vs 17 = fldV W none 0 0 none 0 0 sx sy := h17
  replace h18 : vs 18 = .pointer (some ⟨b, 0, none⟩) := h18
  refine ⟨_, exec_storeF _ _ (.tmp 5) (.tmp 25) wx b (W := W) (A := none) (n := 0) (c := 0) (Tt := none) (m := 0) (d := 0) (sx := sx) (sy := sy) rfl (by simp only [putAll, Act.put, List.setIfInBounds_toArray, List.set_cons_zero, List.set_cons_succ, h18]; rfl) (by simp only [putAll, Act.put, List.setIfInBounds_toArray, List.set_cons_zero, List.set_cons_succ, h17]; rfl) hb rfl, ?_⟩
  simp only [putAll, Act.put, List.setIfInBounds_toArray, List.set_cons_zero, List.set_cons_succ, h17, h18]
  have hrb : r < b := by omega
  have D2 : Hid (FD w q r b (m + 20) W sx sy 0 0 [] [] (.slice none 0 0) (.slice none 0 0) (wx.setRow b (fcs W none 0 0 none 0 0 sx sy).toArray)) := Lib.hid
    ⟨Box.row hb, (X1.out.only HO.out (by simp; omega)).rowFar (by omega), own_nil _ _ _ _, own_nil _ _ _ _, (O1.out.trans HO.out).row (.inr (by rw [← HR0.out]; omega)) _, (HRD.out.mono (by simp)).stay (below_row (Below.refl _ _) (by omega) _), hqr, hrb, by rw [HR0.out]; exact Nat.le_refl _⟩
  clear hI h17 h18 hb HO HRD R1 X1 O1 hJ hS1
  generalize wx.setRow b (fcs W none 0 0 none 0 0 sx sy).toArray = w2 at D2 ⊢
  go_wp2_with fail
  refine (pick_any q _ 4 _ D2.out.rd (by omega) (by omega) (by omega)).mono ?_
  rintro e w3 ⟨v, v0, v1, rfl, s3, r3⟩
  have D3 := Lib.hid (D2.out.drawn s3.only r3)
  clear s3 r3 D2
  obtain ⟨K, hK⟩ : ∃ K : Nat, 1 + v = K := ⟨(1 + v).toNat, by omega⟩
  have K1 : 1 ≤ K := by omega
  have K4 : K ≤ 4 := by omega
  go_wp2_with fail
  clear hK v0 v1
  go_loopw [6] (fun i wr => ∃ (rr j : Nat) (zs : List Int) (tv : Value), i = .int .i64 rr ∧ rr + j = K ∧ FD w q r b (m + 21 + 140 * j) W sx sy 0 j [] zs (.slice none 0 0) tv wr) (fun i _ => (intOf i).toNat)
  case atStart => exact ⟨K, 0, [], .slice none 0 0, rfl, by omega, D3.out⟩
  case round =>
    obtain ⟨rr, j, zs, tv, rfl, hrj, hd⟩ := hrel
    have DR := Lib.hid hd
    clear hd D3
    by_cases h0 : 0 < rr
    · have i0 : (0 : Int) < rr := by omega
      obtain ⟨T, d, ft, rfl, hdt, _, _, _⟩ := own_tiles DR.out.tw
      have hne : b ≠ q := by omega
      have x2 : wr.cell? ⟨b, 2, none⟩ = some (.slice T j d) := DR.out.box.cell 2
      have DD : Hid (FD w q r b (m + 21 + 140 * j) W sx sy 0 j [] zs (.slice none 0 0) (.slice T j d) wr.drew) := Lib.hid (DR.out.below (Below.refl _ _).drew)
      go_wp2_with fail
      go_region_law (first
        | (go_simp; go_at_call 92; refine (tile_any q (m + 21 + 140 * j) 0 _ DD.out.rd (by omega) (by omega) (by omega)).mono ?_; rintro e w5 ⟨px, hpx, rfl, o5, r5⟩; have D5 := Lib.hid (DD.out.drawn o5 r5); have P5 := Lib.hid hpx.1; have hp64 := hpx.1; have HE : Hid (∀ Z : Array Value, Z.size = 64 → List.foldl (fun cs (x : Value × Nat) => cs.setIfInBounds x.snd x.fst) Z ((iv px).zipIdx) = (iv px).toArray) := Lib.hid (fold_tile px hpx.1); have y2 : w5.cell? ⟨b, 2, none⟩ = some (.slice T j d) := D5.out.box.cell 2; have lb5 : b < w5.heap.size := D5.out.box.lt; clear hpx o5 r5)
        | (rw [HE.out _ (by rfl)]; refine step_append_tiles rfl _ _ rfl (b + 1) (.slice T j d) j zs rfl (D5.out.below (below1 _ _)).tw _ 1 1 px [w5.heap.size] rfl (lone_tile w5 px P5.out) (by omega) (by have := D5.out.box.lt; simp; omega) ?_; intro v' w6 own6 gr6 _; obtain ⟨T6, d6, f6, rfl, _⟩ := own_tiles own6; have D6 := Lib.hid ((D5.out.below (below1 _ _)).tiles own6 gr6); have bx6 := (D5.out.below (below1 _ _)).boxT gr6; have y3 : w6.cell? ⟨b, 2, none⟩ = some (.slice T j d) := bx6.cell 2; have u3 := bx6.frozen 2; clear own6 gr6 bx6))
      all_goals
        clear y2 y3 u3 x2 hp64 HE P5 D5 lb5
        generalize w6.setCell ⟨b, 2, none⟩ (.slice T6 (j + 1) d6) = w7 at D6 ⊢
        go_wp2_with fail
        go_roundw
        case rel => exact ⟨rr - 1, j + 1, _, _, by go_num, by omega, D6.out.mono (by omega)⟩
        case measure => simp [intOf]; omega
    · obtain rfl : rr = 0 := by omega
      obtain rfl : j = K := by omega
      -- HALF
      clear h0
      rw [show ((0 : Nat) : Int) = 0 from rfl]
      have D0 := Lib.hid (DR.out.mono (m' := m + 600) (by omega))
      clear DR
      obtain ⟨T, dT, fT, rfl, hdt, _, _, _⟩ := own_tiles D0.out.tw
      have hS6 : ∀ b ∈ [q], b < wr.heap.size := by have := D0.out.rd.lt; simpa using this
      have hb6 : b ∉ [q] := by simp; omega
      have hJ : Kept q (fun _ => True) := fun _ _ _ _ => trivial
      go_wp2_with fail
      refine wp_region_typed (Cls [q] q (m + 600) wr fun _ => True) (Rel [q] fun _ => True) (Ty [TV (.pointer (some ⟨b, 0, none⟩)), TV (.int .i64 W), TV (.pointer (some ⟨q, 0, none⟩)), TI 0 3, TI 1 4, TI 1 20, TI 1 20])
        (by kernel_rfl) (by kernel_rfl) (stab_ty _ ⟨stab_tv _, stab_tv _, stab_tv _, stab_ti _ _, stab_ti _ _, stab_ti _ _, stab_ti _ _, trivial⟩) ⟨(Only.refl _ wr).trans (.of_below (Below.refl _ _).drew), D0.out.rd.stay (Below.refl _ _).drew, trivial⟩ ?_ ?_
      · refine ⟨?_, ?_, ?_, ?_, ?_, ?_, ?_, trivial⟩
        · refine ob_val rfl (.pointer (some ⟨b, 0, none⟩)) hqS hJ hJ fun ρ kk wx hI hc hx hp => ⟨?_, rfl⟩
          have h1 : ρ (.tmp 5) = .pointer (some ⟨b, 0, none⟩) := hx 5 rfl
          unfold execOp
          simp only [h1]
          clear h1 hx hc hI hp
          go_simp
        · refine ob_val rfl (.int .i64 W) hqS hJ hJ fun ρ kk wx hI hc hx hp => ⟨?_, rfl⟩
          have h1 : ρ (.tmp 40) = .pointer (some ⟨b, 0, none⟩) := hp.1 rfl
          have c1 : wx.cell? ⟨b, 0, none⟩ = some (.int .i64 W) := (D0.out.box.only hI.only hb6).cell 0
          unfold execOp
          simp only [h1]
          clear h1 hx hc hI hp
          go_simp
        · exact ob_move rfl (.tmp 0) (.inl rfl) hqS hJ hJ fun ρ wx _ hx _ => hx 0 rfl
        · exact ob_pick rfl (.tmp 42) 4 _ rfl hqS hJ hJ (by simp; omega) (by omega) (by omega) (fun ρ wx hp => hp.1 rfl) (fun _ _ h => h)
        · exact ob_add rfl (.const (.int .i64 1)) (.tmp 43) 1 0 3 1 4 _ _ rfl rfl hqS hJ hJ (fun ρ wx hc hp => .inr ⟨hp.1 rfl, hc _⟩) rfl rfl (by omega) (by omega) (fun _ _ h => h)
        · refine ob_some rfl hqS hJ hJ fun ρ kk wx hI hc hx hp => ?_
          have h1 : ρ (.tmp 41) = .int .i64 W := hp.1 rfl
          obtain ⟨z, h2, z0, z1⟩ : TI 1 4 (ρ (.tmp 44)) wx := hp.2.1 rfl
          have hm2 := mul_b W (z - 1) W1 W5 (by omega) (by omega)
          rw [show 1 + (z - 1) = z by omega] at hm2
          have hm3 := wrap_small (W * z) (by omega) (by omega)
          refine ⟨.int .i64 (W * z), ?_, W * z, rfl, hm2.1, hm2.2⟩
          unfold execOp
          simp only [h1, h2]
          clear h1 h2 hx hc hI hp
          go_simp
        · exact ob_move rfl (.tmp 45) (.inr rfl) hqS hJ hJ fun ρ wx _ hx hp => hp.1 rfl
      intro vs wx hI hF
      obtain ⟨-, -, -, -, -, -, ⟨P0, h6, P1', P20'⟩, -⟩ := hF
      obtain ⟨P, rfl⟩ : ∃ P : Nat, P0 = P := ⟨P0.toNat, by omega⟩
      replace h6 : vs 6 = .int .i64 P := h6
      have P1 : 1 ≤ P := by omega
      have P20 : P ≤ 20 := by omega
      have D5 := Lib.hid (D0.out.drawn hI.only hI.rd)
      simp only [putAll, Act.put, List.setIfInBounds_toArray, List.set_cons_zero, List.set_cons_succ, h6, Nat.zero_add, Nat.reduceAdd]
      clear hI h6 P1' P20' D0 hS6 hb6 hJ
      go_wp2_with fail
      go_loopw [7] (fun i wr => ∃ (rr k : Nat) (xs : List Int) (mv : Value), i = .int .i64 rr ∧ rr + k = P ∧ FD w q r b (m + 610 + k) W sx sy k j xs zs mv (.slice T j dT) wr) (fun i _ => (intOf i).toNat)
      case atStart => exact ⟨P, 0, [], .slice none 0 0, rfl, by omega, D5.out.mono (by simp)⟩
      case round =>
        obtain ⟨rr, k, xs, mv, rfl, hrk, hd⟩ := hrel
        have DR := Lib.hid hd
        clear hd D5
        by_cases h0 : 0 < rr
        · have i0 : (0 : Int) < rr := by omega
          obtain ⟨A, c, fA, rfl, hcA, _, _, _⟩ := own_ints DR.out.mo
          have DD : Hid (FD w q r b (m + 610 + k) W sx sy k j xs zs (.slice A k c) (.slice T j dT) wr.drew) := Lib.hid (DR.out.below (Below.refl _ _).drew)
          have x1 : wr.cell? ⟨b, 1, none⟩ = some (.slice A k c) := DR.out.box.cell 1
          have x2 : wr.cell? ⟨b, 2, none⟩ = some (.slice T j dT) := DR.out.box.cell 2
          go_wp2_with fail
          go_region_law (first
            | (go_simp; go_at_call 53; refine (pick_any q (m + 610 + k) (j : Int) _ DD.out.rd (by omega) (by omega) (by omega)).mono ?_; rintro e w5 ⟨v, v0, v1, rfl, s5, r5⟩; have D5 := Lib.hid (DD.out.drawn s5.only r5); have y1 : w5.cell? ⟨b, 1, none⟩ = some (.slice A k c) := D5.out.box.cell 1; have y2 : w5.cell? ⟨b, 2, none⟩ = some (.slice T j dT) := D5.out.box.cell 2; have lb5 : b < w5.heap.size := D5.out.box.lt; clear s5 r5)
            | (refine step_append_ints rfl _ _ rfl (b + 1) (.slice A k c) k xs rfl (D5.out.below (below1 _ _)).mo _ 1 1 [v] [w5.heap.size] rfl (lone_num w5 v) (by omega) (by have := D5.out.box.lt; simp; omega) ?_; intro v' w6 own6 gr6 _; obtain ⟨A6, c6, f6, rfl, _⟩ := own_ints own6; have D6 := Lib.hid ((D5.out.below (below1 _ _)).nums own6 gr6); have bx6 := (D5.out.below (below1 _ _)).boxI gr6; have y3 : w6.cell? ⟨b, 1, none⟩ = some (.slice A k c) := bx6.cell 1; have u3 := bx6.frozen 1; clear own6 gr6 bx6))
          all_goals
            clear y1 y2 y3 u3 x1 x2 D5 lb5
            generalize w6.setCell ⟨b, 1, none⟩ (.slice A6 (k + 1) c6) = w7 at D6 ⊢
            go_wp2_with fail
            go_roundw
            case rel => exact ⟨rr - 1, k + 1, _, _, by go_num, by omega, D6.out.mono (by omega)⟩
            case measure => simp [intOf]; omega
        · obtain rfl : rr = 0 := by omega
          obtain rfl : k = P := by omega
          clear h0
          obtain ⟨A, c, T', dT', fa, ft, rfl, hcA, hTT, hdT', hE⟩ := DR.out.ends
          injection hTT with e1 _ e3
          subst e1 e3
          have E0 := Lib.hid (FE.mono hE (m' := m + 630) (by omega))
          clear DR hE
          go_wp2_with fail
          refine (odd_any q (m + 630) n _ E0.out.rd (by omega) hn (by omega)).mono ?_
          rintro e w3 ⟨od, rfl, s3, r3⟩
          have E3 := Lib.hid (E0.out.drawn s3.only r3)
          clear s3 r3 E0
          cases od
          · skip
            go_wp2_with (first | (refine fs_load (by rfl) _ rfl b rfl E3.out.box ?_) | (refine fs_store (by rfl) _ _ rfl r rfl rfl _ E3.out.res rfl ?_))
            refine bodyPost_ret (v := fldV W A k c T j dT sx sy) (fld_ret rfl rfl (Box.row E3.out.res)) rfl ?_
            exact E3.out.out (by omega) (by omega) (by omega) (by omega) (by omega)
          · go_wp2_with fail
            refine (pick_any q (m + 631) 6 _ E3.out.rd (by omega) (by omega) (by omega)).mono ?_
            rintro e w4 ⟨sw, sw0, sw1, rfl, s4, r4⟩
            have E4 := Lib.hid (E3.out.drawn s4.only r4)
            clear s4 r4 E3
            have zq4 : q < w4.heap.size := E4.out.rd.lt
            have zb4 : b < w4.heap.size := E4.out.box.lt
            have hsw : sw = 0 ∨ sw = 1 ∨ sw = 2 ∨ sw = 3 ∨ sw = 4 ∨ sw = 5 := by omega
            rcases hsw with rfl | rfl | rfl | rfl | rfl | rfl
            · -- case 0
              clear sw0 sw1
              go_wp2_with fail
              refine (pick_any q (m + 632) 2 _ (E4.out.below (below1 _ _)).rd (by omega) (by omega) (by omega)).mono ?_
              rintro e w5 ⟨v, v0, v1, rfl, s5, r5⟩
              obtain ⟨u, hu, u0, u1⟩ : ∃ u : Int, (#[Value.int .i64 (0), .int .i64 9] : Array Value)[v.toNat]? = some (.int .i64 u) ∧ 0 ≤ u ∧ u ≤ 9 := by
                have h : v = 0 ∨ v = 1 := by omega
                rcases h with rfl | rfl <;> exact ⟨_, rfl, by omega, by omega⟩
              have cu := lit_at2 s5 zq4 hu
              have E5 := Lib.hid ((E4.out.below (below1 _ _)).drawn s5.only r5)
              clear s5 r5 E4
              have k0 := E5.out.box.cell 0
              have k1 := E5.out.box.frozen 0
              have vn : v < ((2 : Nat) : Int) := by omega
              go_upto_region 23 with (fail)
              have E6 : Hid (FE w q r b (m + 633) u sx sy A k c T j dT xs zs fa ft (w5.setCell ⟨b, 0, none⟩ (.int .i64 u))) := Lib.hid (E5.out.store 0 (.int .i64 u) u sx sy A k c T j dT xs zs fa ft rfl E5.out.ia E5.out.it E5.out.nw)
              generalize w5.setCell ⟨b, 0, none⟩ (.int .i64 u) = w6 at E6 ⊢
              clear k0 k1 cu E5
              go_wp2_with (first | (refine fs_load (by rfl) _ rfl b rfl E6.out.box ?_) | (refine fs_store (by rfl) _ _ rfl r rfl rfl _ E6.out.res rfl ?_))
              refine bodyPost_ret (v := fldV u A k c T j dT sx sy) (fld_ret rfl rfl (Box.row E6.out.res)) rfl ?_
              exact E6.out.out (by omega) (by omega) (by omega) (by omega) (by omega)
            · -- case 1
              clear sw0 sw1
              obtain ⟨pA, oA, rfl, hfA, hpA, hcA2⟩ := E4.out.ia.at_ (by omega)
              have HFA := Lib.hid (And.intro hfA hcA2)
              have hS4 : ∀ x ∈ [q], x < w4.heap.size := by simpa using zq4
              have hb4 : b ∉ [q] := by simp; omega
              have hJ4 : Kept q (fun _ => True) := fun _ _ _ _ => trivial
              clear hcA2 hpA hfA
              go_upto_region 16 with (fail)
              refine wp_region_end (by dsimp only [List.dropLast]) rfl (Cls [q] q (m + 632) w4 fun _ => True) (Rel [q] fun _ => True)
                (Ty [TV (.pointer (some ⟨b, 1, none⟩)), TV (.slice (some ⟨pA, oA, none⟩) k c), TV (.pointer (some ⟨q, 0, none⟩)), TV (.pointer (some ⟨b, 1, none⟩)), TV (.slice (some ⟨pA, oA, none⟩) k c), TV (.int .i64 k), TI 0 ((k : Int) - 1), TV (.pointer (some ⟨b, 2, none⟩)), TV (.slice T j dT), TV (.int .i64 j), TL [q] 2 (-1) 4, TV (.pointer (some ⟨q, 0, none⟩)), TI 0 1, TP [q] (-1) 4, TI (-1) 4, TAt pA oA k])
                (by kernel_rfl) (by kernel_rfl) (by kernel_rfl) (stab_ty _ ⟨stab_tv _, stab_tv _, stab_tv _, stab_tv _, stab_tv _, stab_tv _, stab_ti _ _, stab_tv _, stab_tv _, stab_tv _, stab_tl _ _ _, stab_tv _, stab_ti _ _, stab_tp _ _, stab_ti _ _, stab_tat _ _ _, trivial⟩)
                ⟨(Only.refl _ w4).trans (.of_below (Below.refl _ _).drew), E4.out.rd.stay (Below.refl _ _).drew, trivial⟩ ?_ ?_
              · refine ⟨?_, ?_, ?_, ?_, ?_, ?_, ?_, ?_, ?_, ?_, ?_, ?_, ?_, ?_, ?_, ?_, trivial⟩
                · refine ob_val rfl (.pointer (some ⟨b, 1, none⟩)) hqS hJ4 hJ4 fun ρ kk wx hI hc hx hp => ⟨?_, rfl⟩
                  have h1 : ρ (.tmp 5) = .pointer (some ⟨b, 0, none⟩) := hx 5 rfl
                  unfold execOp
                  simp only [h1]
                  clear h1 hx hc hI hp
                  go_simp
                · refine ob_val rfl (.slice (some ⟨pA, oA, none⟩) k c) hqS hJ4 hJ4 fun ρ kk wx hI hc hx hp => ⟨?_, rfl⟩
                  have h1 : ρ (.tmp 77) = .pointer (some ⟨b, 1, none⟩) := hp.1 rfl
                  have c1 : wx.cell? ⟨b, 1, none⟩ = some (.slice (some ⟨pA, oA, none⟩) k c) := (E4.out.box.only hI.only hb4).cell 1
                  unfold execOp
                  simp only [h1]
                  clear h1 hx hc hI hp
                  go_simp
                · exact ob_move rfl (.tmp 0) (.inl rfl) hqS hJ4 hJ4 fun ρ wx _ hx _ => hx 0 rfl
                · refine ob_val rfl (.pointer (some ⟨b, 1, none⟩)) hqS hJ4 hJ4 fun ρ kk wx hI hc hx hp => ⟨?_, rfl⟩
                  have h1 : ρ (.tmp 5) = .pointer (some ⟨b, 0, none⟩) := hx 5 rfl
                  unfold execOp
                  simp only [h1]
                  clear h1 hx hc hI hp
                  go_simp
                · refine ob_val rfl (.slice (some ⟨pA, oA, none⟩) k c) hqS hJ4 hJ4 fun ρ kk wx hI hc hx hp => ⟨?_, rfl⟩
                  have h1 : ρ (.tmp 80) = .pointer (some ⟨b, 1, none⟩) := hp.1 rfl
                  have c1 : wx.cell? ⟨b, 1, none⟩ = some (.slice (some ⟨pA, oA, none⟩) k c) := (E4.out.box.only hI.only hb4).cell 1
                  unfold execOp
                  simp only [h1]
                  clear h1 hx hc hI hp
                  go_simp
                · refine ob_val rfl (.int .i64 k) hqS hJ4 hJ4 fun ρ kk wx hI hc hx hp => ⟨?_, rfl⟩
                  have h1 : ρ (.tmp 81) = .slice (some ⟨pA, oA, none⟩) k c := hp.1 rfl
                  unfold execOp
                  clear hx hc hI hp
                  go_simp
                · exact ob_pickv rfl (.tmp 79) (.tmp 82) (k : Int) _ rfl hqS hJ4 hJ4 (by simp; omega) (by omega) (by omega) (fun ρ wx hp => ⟨hp.1 rfl, hp.2.1 rfl⟩) (fun _ _ h => h)
                · refine ob_val rfl (.pointer (some ⟨b, 2, none⟩)) hqS hJ4 hJ4 fun ρ kk wx hI hc hx hp => ⟨?_, rfl⟩
                  have h1 : ρ (.tmp 5) = .pointer (some ⟨b, 0, none⟩) := hx 5 rfl
                  unfold execOp
                  simp only [h1]
                  clear h1 hx hc hI hp
                  go_simp
                · refine ob_val rfl (.slice T j dT) hqS hJ4 hJ4 fun ρ kk wx hI hc hx hp => ⟨?_, rfl⟩
                  have h1 : ρ (.tmp 84) = .pointer (some ⟨b, 2, none⟩) := hp.1 rfl
                  have c1 : wx.cell? ⟨b, 2, none⟩ = some (.slice T j dT) := (E4.out.box.only hI.only hb4).cell 2
                  unfold execOp
                  simp only [h1]
                  clear h1 hx hc hI hp
                  go_simp
                · refine ob_val rfl (.int .i64 j) hqS hJ4 hJ4 fun ρ kk wx hI hc hx hp => ⟨?_, rfl⟩
                  have h1 : ρ (.tmp 85) = .slice T j dT := hp.1 rfl
                  unfold execOp
                  clear hx hc hI hp
                  go_simp
                · refine ob_build rfl 2 (-1) 4 hqS hJ4 hJ4 hS4 (fun ρ wx hc hx hp => ?_) (fun _ _ h => h)
                  have hz : ρ (.tmp 86) = .int .i64 j := hp.1 rfl
                  refine ⟨#[.int .i64 (-1), .int .i64 j], ?_, ?_⟩
                  · unfold execOp
                    simp only [List.map_toArray, List.map_cons, List.map_nil, hc, hz]
                    clear hx hp hc hz
                    go_simp
                  · intro i hi
                    have h : i = 0 ∨ i = 1 := by omega
                    rcases h with rfl | rfl <;> exact ⟨_, rfl, by omega, by omega⟩
                · exact ob_move rfl (.tmp 0) (.inl rfl) hqS hJ4 hJ4 fun ρ wx _ hx _ => hx 0 rfl
                · exact ob_pick rfl (.tmp 88) 2 _ rfl hqS hJ4 hJ4 (by simp; omega) (by omega) (by omega) (fun ρ wx hp => hp.1 rfl) (fun _ _ h => h)
                · exact ob_index rfl (.tmp 87) (.tmp 89) 2 (-1) 4 rfl hqS hJ4 hJ4 (fun ρ wx hp => ⟨hp.1 rfl, hp.2.1 rfl⟩) (fun _ _ h => h)
                · exact ob_load rfl (.tmp 90) (-1) 4 rfl hqS hJ4 hJ4 (fun ρ wx hp => hp.1 rfl) (fun _ _ h => h)
                · refine ob_some rfl hqS hJ4 hJ4 fun ρ kk wx hI hc hx hp => ?_
                  have h1 : ρ (.tmp 78) = .slice (some ⟨pA, oA, none⟩) k c := hp.1 rfl
                  obtain ⟨z, h2, z0, z1⟩ : TI 0 ((k : Int) - 1) (ρ (.tmp 83)) wx := hp.2.1 rfl
                  obtain ⟨i, rfl⟩ : ∃ i : Nat, z = i := ⟨z.toNat, by omega⟩
                  have hik : (i : Int) < k := by omega
                  have hik2 : i < k := by omega
                  refine ⟨.pointer (some ⟨pA, oA + i, none⟩), ?_, i, hik2, rfl⟩
                  unfold execOp
                  simp only [h1, h2]
                  clear h1 h2 hx hc hI hp
                  go_simp
              intro vs wx hI hF
              obtain ⟨-, -, -, -, -, -, -, -, -, -, -, -, -, -, ⟨u, h14, u0, u1⟩, ⟨i, hik, h15⟩, -⟩ := hF
              replace h14 : vs 14 = .int .i64 u := h14
              replace h15 : vs 15 = .pointer (some ⟨pA, oA + i, none⟩) := h15
              have E5 := Lib.hid (E4.out.drawn hI.only (hI.rd.mono (show _ ≤ m + 700 by simp)))
              have E6 := Lib.hid (E5.out.numSet i hik u)
              have c5 : wx.cell? ⟨pA, oA + i, none⟩ = some (.int .i64 (xs.getD i 0)) := by
                obtain ⟨p', o', he, _, _, hcc⟩ := E5.out.ia.at_ (by omega)
                injection he with he
                injection he with e1 e2 _
                subst e1 e2
                exact hcc i hik
              have g5 : wx.frozen? ⟨pA, oA + i, none⟩ = false := E5.out.nw.free pA (List.mem_append_left _ (by rw [HFA.out.1]; simp)) _
              simp only [putAll, Act.put, List.setIfInBounds_toArray, List.set_cons_zero, List.set_cons_succ, h14, h15, Nat.zero_add, Nat.reduceAdd]
              clear hI h14 h15
              refine ⟨wx.setCell ⟨pA, oA + i, none⟩ (.int .i64 u), ?_, ?_⟩
              · unfold execOp
                go_simp
              clear c5 g5 E5 E4 hS4 hb4 hJ4
              generalize wx.setCell ⟨pA, oA + i, none⟩ (.int .i64 u) = w6 at E6 ⊢
              go_wp2_with (first | (refine fs_load (by rfl) _ rfl b rfl E6.out.box ?_) | (refine fs_store (by rfl) _ _ rfl r rfl rfl _ E6.out.res rfl ?_))
              refine bodyPost_ret (v := fldV W (some ⟨pA, oA, none⟩) k c T j dT sx sy) (fld_ret rfl rfl (Box.row E6.out.res)) rfl ?_
              exact E6.out.out (by omega) (by omega) (by omega) (by omega) (by omega)
            · -- case 2
              clear sw0 sw1
              have x2 : w4.cell? ⟨b, 2, none⟩ = some (.slice T j dT) := E4.out.box.cell 2
              obtain ⟨pT, oT, rfl, hfT, hpT, hcT⟩ := E4.out.it.at_ (by omega)
              have HFT := Lib.hid hfT
              clear hcT hfT hpT
              have hj0 : (0 : Int) < j := by omega
              have hj1 : 0 < j := by omega
              have ED : Hid (FE w q r b (m + 632) W sx sy A k c (some ⟨pT, oT, none⟩) j dT xs zs fa ft w4.drew) := Lib.hid (E4.out.below (Below.refl _ _).drew)
              go_upto_region 18 with (fail)
              go_region_law (first
                | (go_simp; go_at_call 92; refine (tile_any q (m + 632) 1 _ ED.out.rd (by omega) (by omega) (by omega)).mono ?_; rintro e w5 ⟨px, hpx, rfl, o5, r5⟩; have E5 := Lib.hid (ED.out.drawn o5 r5); have hp64 := hpx.1; have hst := E5.out.tileRun px hpx.1 hj1; have y2 : w5.cell? ⟨b, 2, none⟩ = some (.slice (some ⟨pT, oT, none⟩) j dT) := E5.out.box.cell 2; clear hpx o5 r5))
              all_goals
                have E6 := Lib.hid (E5.out.tileSet px hp64 hj1)
                clear y2 x2 hst hp64 E5 ED E4
                generalize w5.setCells pT oT (iv px) = w6 at E6 ⊢
                go_wp2_with (first | (refine fs_load (by rfl) _ rfl b rfl E6.out.box ?_) | (refine fs_store (by rfl) _ _ rfl r rfl rfl _ E6.out.res rfl ?_))
                refine bodyPost_ret (v := fldV W A k c (some ⟨pT, oT, none⟩) j dT sx sy) (fld_ret rfl rfl (Box.row E6.out.res)) rfl ?_
                exact E6.out.out (by omega) (by omega) (by omega) (by omega) (by omega)
            · -- case 3
              clear sw0 sw1
              go_wp2_with fail
              refine (pick_any q (m + 632) 2 _ (E4.out.below (below1 _ _)).rd (by omega) (by omega) (by omega)).mono ?_
              rintro e w5 ⟨v, v0, v1, rfl, s5, r5⟩
              obtain ⟨u, hu, u0, u1⟩ : ∃ u : Int, (#[Value.int .i64 (-1), .int .i64 256] : Array Value)[v.toNat]? = some (.int .i64 u) ∧ -1 ≤ u ∧ u ≤ 256 := by
                have h : v = 0 ∨ v = 1 := by omega
                rcases h with rfl | rfl <;> exact ⟨_, rfl, by omega, by omega⟩
              have cu := lit_at2 s5 zq4 hu
              have E5 := Lib.hid ((E4.out.below (below1 _ _)).drawn s5.only r5)
              clear s5 r5 E4
              have k0 := E5.out.box.cell 3
              have k1 := E5.out.box.frozen 3
              have vn : v < ((2 : Nat) : Int) := by omega
              go_upto_region 23 with (fail)
              have E6 : Hid (FE w q r b (m + 633) W u sy A k c T j dT xs zs fa ft (w5.setCell ⟨b, 3, none⟩ (.int .i64 u))) := Lib.hid (E5.out.store 3 (.int .i64 u) W u sy A k c T j dT xs zs fa ft rfl E5.out.ia E5.out.it E5.out.nw)
              generalize w5.setCell ⟨b, 3, none⟩ (.int .i64 u) = w6 at E6 ⊢
              clear k0 k1 cu E5
              go_wp2_with (first | (refine fs_load (by rfl) _ rfl b rfl E6.out.box ?_) | (refine fs_store (by rfl) _ _ rfl r rfl rfl _ E6.out.res rfl ?_))
              refine bodyPost_ret (v := fldV W A k c T j dT u sy) (fld_ret rfl rfl (Box.row E6.out.res)) rfl ?_
              exact E6.out.out (by omega) (by omega) (by omega) (by omega) (by omega)
            · -- case 4
              clear sw0 sw1
              have x1 : w4.cell? ⟨b, 1, none⟩ = some (.slice A k c) := E4.out.box.cell 1
              have g1 := E4.out.box.frozen 1
              have hk1 : (1 : Int) ≤ k := by omega
              have hk2 : 1 ≤ k := by omega
              obtain ⟨pA, oA, rfl, rfl, _, _⟩ := E4.out.ia.at_ (by omega)
              obtain ⟨fa', hia, hfa⟩ := ints_tail E4.out.ia hk2
              have HNW := Lib.hid (E4.out.nw.part hfa)
              have HIA := Lib.hid hia
              clear hia hfa
              by_cases hc1 : c = 1
              · subst hc1
                obtain rfl : k = 1 := by omega
                go_upto_region 23 with (fail)
                have E6 := Lib.hid (E4.out.store 1 (.slice (some ⟨pA, oA, none⟩) 0 0) W sx sy (some ⟨pA, oA, none⟩) 0 0 T j dT [] zs [] ft rfl (.nil _ _) E4.out.it E4.out.nw.right)
                generalize w4.setCell ⟨b, 1, none⟩ (.slice (some ⟨pA, oA, none⟩) 0 0) = w6 at E6 ⊢
                clear x1 g1 E4 HNW HIA
                go_wp2_with (first | (refine fs_load (by rfl) _ rfl b rfl E6.out.box ?_) | (refine fs_store (by rfl) _ _ rfl r rfl rfl _ E6.out.res rfl ?_))
                refine bodyPost_ret (v := fldV W (some ⟨pA, oA, none⟩) 0 0 T j dT sx sy) (fld_ret rfl rfl (Box.row E6.out.res)) rfl ?_
                exact E6.out.out (by omega) (by omega) (by omega) (by omega) (by omega)
              · have hc2 : ¬ c = 1 := hc1
                go_upto_region 23 with (fail)
                have E6 := Lib.hid (E4.out.store 1 (.slice (some ⟨pA, oA + 1, none⟩) (k - 1) (c - 1)) W sx sy (some ⟨pA, oA + 1, none⟩) (k - 1) (c - 1) T j dT (xs.drop 1) zs fa' ft rfl HIA.out E4.out.it HNW.out)
                generalize w4.setCell ⟨b, 1, none⟩ (.slice (some ⟨pA, oA + 1, none⟩) (k - 1) (c - 1)) = w6 at E6 ⊢
                clear x1 g1 E4 HNW HIA
                go_wp2_with (first | (refine fs_load (by rfl) _ rfl b rfl E6.out.box ?_) | (refine fs_store (by rfl) _ _ rfl r rfl rfl _ E6.out.res rfl ?_))
                refine bodyPost_ret (v := fldV W (some ⟨pA, oA + 1, none⟩) (k - 1) (c - 1) T j dT sx sy) (fld_ret rfl rfl (Box.row E6.out.res)) rfl ?_
                exact E6.out.out (by omega) (by omega) (by omega) (by omega) (by omega)
            · -- case 5
              clear sw0 sw1
              have x1 := E4.out.box.cell 2
              have g1 := E4.out.box.frozen 2
              go_upto_region 23 with (fail)
              have E5 := Lib.hid (E4.out.store 2 (.slice (some ⟨w4.heap.size, 0, none⟩) 0 0) W sx sy A k c (some ⟨w4.heap.size, 0, none⟩) 0 0 xs [] fa [] rfl E4.out.ia (.nil _ _) E4.out.nw.left)
              have E6 := Lib.hid (E5.out.below (below1 _ (.cells #[] 57)))
              clear x1 g1 E4 E5
              generalize (w4.setCell ⟨b, 2, none⟩ (.slice (some ⟨w4.heap.size, 0, none⟩) 0 0)).alloc (.cells #[] 57) = w6 at E6 ⊢
              generalize w4.heap.size = g0 at E6 ⊢
              go_wp2_with (first | (refine fs_load (by rfl) _ rfl b rfl E6.out.box ?_) | (refine fs_store (by rfl) _ _ rfl r rfl rfl _ E6.out.res rfl ?_))
              refine bodyPost_ret (v := fldV W A k c (some ⟨g0, 0, none⟩) 0 0 sx sy) (fld_ret rfl rfl (Box.row E6.out.res)) rfl ?_
              exact E6.out.out (by omega) (by omega) (by omega) (by omega) (by omega)
end Go.Proofs.Ytacebhncecninaa
