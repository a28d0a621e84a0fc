/- The exact laws of chapter 9 on colors, walked; a color that came in. -/
import Derived.Test.YtbboebmfdahgpaaColS
import Derived.Test.YtbboebmfdahgpaaTypedC
import Derived.Lib.SmallJoins
import Derived.Deep.DeepCutAuto
namespace Go.Proofs.Ytbboebmfdahgpaa
open Go.ChangeShapes Go.WideShapes Go.ChangeAt Go.RowKit
set_option linter.unusedVariables false

section
variable {H : Type} {enc : TypeId × Value → H} {w : World} {base : Nat} {held : Bool}
set_option maxRecDepth 100000 in
theorem color_in {r : Reach} {b0 : Nat} {v : Value} {dd : DataW H} {p : List MemPlace} (hv : Value.okWide Try.prog w r b0 39 v) (h : DataW.Trod enc Try.prog w base (fun _ => true) held 39 v dd p) : ∃ l r f : Int, v = .agg #[.int .i64 l, .int .i64 r, .int .i64 f] := by
  obtain ⟨v0, v1, v2, y0, y1, y2, m, rfl, _, _, t0, t1, t2⟩ := Go.Joins.open_agg3 (P := Try.prog) (t := 39) Try.underlying39 (by kernel_rfl) (by kernel_rfl) hv h
  obtain ⟨z0, h0, _⟩ := DataW.trod_int Try.underlying3 t0
  obtain ⟨z1, h1, _⟩ := DataW.trod_int Try.underlying3 t1
  obtain ⟨z2, h2, _⟩ := DataW.trod_int Try.underlying3 t2
  obtain rfl : v0 = .int .i64 z0 := by simpa using h0
  obtain rfl : v1 = .int .i64 z1 := by simpa using h1
  obtain rfl : v2 = .int .i64 z2 := by simpa using h2
  exact ⟨z0, z1, z2, rfl⟩
end
theorem walk_FnExactColorValid (r g b : Int) (w : World) : Calls Try.prog 9 #[.agg #[.int .i64 r, .int .i64 g, .int .i64 b]] w fun e w' => e = .returned (.bool true) ∧ Below w.heap.size w w' := by
  go_enter Try.func9, Try.ntmps9
  go_wp2_with fail
  refine (toColor_any _ _ _ _).mono ?_; rintro e w1 ⟨rfl, b1⟩
  have X1 : Hid (Box w1 w.heap.size 39 [.int .i64 r, .int .i64 g, .int .i64 b]) := (Box.new w _ _).below b1
  have B1 : Hid (Below w.heap.size w w1) := (below1 w _).trans (b1.mono (by simp))
  clear b1
  go_wp2_with fail
  refine (spec_valid _ _ _ _).mono ?_; rintro e w2 ⟨rfl, b2⟩
  have X2 := Lib.hid (X1.out.below b2)
  have B2 := Lib.hid (below_then B1.out b2)
  clear b2
  have c0 : w2.cell? ⟨w.heap.size, 0, none⟩ = some (.int .i64 r) := X2.out.cell 0
  have c1 : w2.cell? ⟨w.heap.size, 1, none⟩ = some (.int .i64 g) := X2.out.cell 1
  have c2 : w2.cell? ⟨w.heap.size, 2, none⟩ = some (.int .i64 b) := X2.out.cell 2
  go_wp2_with fail
  refine (toColor_any _ _ _ _).mono ?_; rintro e w3 ⟨rfl, b3⟩
  have B3 := Lib.hid (below_then B2.out b3)
  clear b3 c0 c1 c2
  go_wp2_with fail
  refine (impl_valid _ _ _ _).mono ?_; rintro e w4 ⟨rfl, b4⟩
  have B4 := Lib.hid (below_then B3.out b4)
  clear b4
  generalize colB r g b = V
  cases V
  · go_wp2_with fail
    go_ret
    exact ⟨rfl, B4.out⟩
  · go_wp2_with fail
    go_ret
    exact ⟨rfl, B4.out⟩
theorem walk_FnExactPackColor (r g b : Int) (w : World) : Calls Try.prog 10 #[.agg #[.int .i64 r, .int .i64 g, .int .i64 b]] w fun e w' => e = .returned (.bool true) ∧ Below w.heap.size w w' := by
  go_enter Try.func10, Try.ntmps10
  go_wp2_with fail
  refine (toColor_any _ _ _ _).mono ?_; rintro e w1 ⟨rfl, b1⟩
  have X1 : Hid (Box w1 w.heap.size 39 [.int .i64 r, .int .i64 g, .int .i64 b]) := (Box.new w _ _).below b1
  have B1 : Hid (Below w.heap.size w w1) := (below1 w _).trans (b1.mono (by simp))
  clear b1
  go_wp2_with fail
  refine (spec_pack _ _ _ _).mono ?_; rintro e w2 ⟨rfl, b2⟩
  have X2 := Lib.hid (X1.out.below b2)
  have B2 := Lib.hid (below_then B1.out b2)
  clear b2
  have c0 : w2.cell? ⟨w.heap.size, 0, none⟩ = some (.int .i64 r) := X2.out.cell 0
  have c1 : w2.cell? ⟨w.heap.size, 1, none⟩ = some (.int .i64 g) := X2.out.cell 1
  have c2 : w2.cell? ⟨w.heap.size, 2, none⟩ = some (.int .i64 b) := X2.out.cell 2
  go_wp2_with fail
  refine (toColor_any _ _ _ _).mono ?_; rintro e w3 ⟨rfl, b3⟩
  have B3 := Lib.hid (below_then B2.out b3)
  clear b3 c0 c1 c2
  go_wp2_with fail
  refine (impl_pack _ _ _ _).mono ?_; rintro e w4 ⟨rfl, b4⟩
  have B4 := Lib.hid (below_then B3.out b4)
  clear b4
  generalize packT r g b = V
  go_wp2_with fail
  go_ret
  exact ⟨rfl, B4.out⟩
theorem walk_FnExactUnpackColor (n : Int) (w : World) : Calls Try.prog 11 #[.int .i64 n] w fun e w' => e = .returned (.bool true) ∧ Below w.heap.size w w' := by
  obtain ⟨x0, x1, x2, v, h⟩ := unp_to n
  have H := Lib.hid h
  clear h
  go_enter Try.func11, Try.ntmps11
  go_wp2_with fail
  refine (spec_unp _ _ _ _ _ _ H.out).mono ?_; rintro e w2 ⟨rfl, b2⟩
  have Y2 : Hid (Box (w2.alloc (.cells #[.int .i64 x0, .int .i64 x1, .int .i64 x2] 24)) w2.heap.size 24 [.int .i64 x0, .int .i64 x1, .int .i64 x2]) := Box.new w2 _ _
  have B2 := Lib.hid (b2.alloc b2.size (.cells #[.int .i64 x0, .int .i64 x1, .int .i64 x2] 24))
  clear b2
  go_wp2_with fail
  refine (impl_unp _ _ _ _ _ _ H.out).mono ?_; rintro e w4 ⟨rfl, b4⟩
  have B4 := Lib.hid (below_then B2.out b4)
  have Y4 := Lib.hid (Y2.out.below b4)
  have Z4 : Hid (Box (w4.alloc (.cells #[.int .i64 x0, .int .i64 x1, .int .i64 x2] 24)) w2.heap.size 24 [.int .i64 x0, .int .i64 x1, .int .i64 x2]) := Y4.out.alloc _
  have B5 := Lib.hid (B4.out.alloc B4.out.size (.cells #[.int .i64 x0, .int .i64 x1, .int .i64 x2] 24))
  have d0 : (w4.alloc (.cells #[.int .i64 x0, .int .i64 x1, .int .i64 x2] 24)).cell? ⟨w2.heap.size, 0, none⟩ = some (.int .i64 x0) := Z4.out.cell 0
  have d1 : (w4.alloc (.cells #[.int .i64 x0, .int .i64 x1, .int .i64 x2] 24)).cell? ⟨w2.heap.size, 1, none⟩ = some (.int .i64 x1) := Z4.out.cell 1
  have d2 : (w4.alloc (.cells #[.int .i64 x0, .int .i64 x1, .int .i64 x2] 24)).cell? ⟨w2.heap.size, 2, none⟩ = some (.int .i64 x2) := Z4.out.cell 2
  clear b4
  go_wp2_with fail
  refine (eqColor_any _ _ _ _).mono ?_; rintro e w6 ⟨rfl, b6⟩
  have B6 := Lib.hid (below_then B5.out b6)
  clear b6
  cases v
  · go_wp2_with fail
    go_ret
    exact ⟨rfl, B6.out⟩
  · go_wp2_with fail
    go_ret
    exact ⟨rfl, B6.out⟩
theorem walk_FnExactFadeColor (r g b l : Int) (w : World) : Calls Try.prog 13 #[.agg #[.int .i64 r, .int .i64 g, .int .i64 b], .int .i64 l] w fun e w' => e = .returned (.bool true) ∧ Below w.heap.size w w' := by
  obtain ⟨x0, x1, x2, h⟩ := fade_to r g b l
  have H := Lib.hid h
  clear h
  go_enter Try.func13, Try.ntmps13
  go_wp2_with fail
  refine (toColor_any _ _ _ _).mono ?_; rintro e w1 ⟨rfl, b1⟩
  have X1 : Hid (Box w1 w.heap.size 39 [.int .i64 r, .int .i64 g, .int .i64 b]) := (Box.new w _ _).below b1
  have B1 : Hid (Below w.heap.size w w1) := (below1 w _).trans (b1.mono (by simp))
  clear b1
  go_wp2_with fail
  refine (spec_fade _ _ _ _ _ _ _ _ H.out).mono ?_; rintro e w2 ⟨rfl, b2⟩
  have X2 := Lib.hid ((X1.out.below b2).alloc (.cells #[.int .i64 x0, .int .i64 x1, .int .i64 x2] 24))
  have Y2 : Hid (Box (w2.alloc (.cells #[.int .i64 x0, .int .i64 x1, .int .i64 x2] 24)) w2.heap.size 24 [.int .i64 x0, .int .i64 x1, .int .i64 x2]) := Box.new w2 _ _
  have B2 := Lib.hid ((below_then B1.out b2).alloc (below_then B1.out b2).size (.cells #[.int .i64 x0, .int .i64 x1, .int .i64 x2] 24))
  clear b2
  have c0 : (w2.alloc (.cells #[.int .i64 x0, .int .i64 x1, .int .i64 x2] 24)).cell? ⟨w.heap.size, 0, none⟩ = some (.int .i64 r) := X2.out.cell 0
  have c1 : (w2.alloc (.cells #[.int .i64 x0, .int .i64 x1, .int .i64 x2] 24)).cell? ⟨w.heap.size, 1, none⟩ = some (.int .i64 g) := X2.out.cell 1
  have c2 : (w2.alloc (.cells #[.int .i64 x0, .int .i64 x1, .int .i64 x2] 24)).cell? ⟨w.heap.size, 2, none⟩ = some (.int .i64 b) := X2.out.cell 2
  go_wp2_with fail
  refine (toColor_any _ _ _ _).mono ?_; rintro e w3 ⟨rfl, b3⟩
  have B3 := Lib.hid (below_then B2.out b3)
  have Y3 := Lib.hid (Y2.out.below b3)
  clear b3 c0 c1 c2
  go_wp2_with fail
  refine (impl_fade _ _ _ _ _ _ _ _ H.out).mono ?_; rintro e w4 ⟨rfl, b4⟩
  have B4 := Lib.hid (below_then B3.out b4)
  have Y4 := Lib.hid (Y3.out.below b4)
  have Z4 : Hid (Box (w4.alloc (.cells #[.int .i64 x0, .int .i64 x1, .int .i64 x2] 24)) w2.heap.size 24 [.int .i64 x0, .int .i64 x1, .int .i64 x2]) := Y4.out.alloc _
  have B5 := Lib.hid (B4.out.alloc B4.out.size (.cells #[.int .i64 x0, .int .i64 x1, .int .i64 x2] 24))
  have d0 : (w4.alloc (.cells #[.int .i64 x0, .int .i64 x1, .int .i64 x2] 24)).cell? ⟨w2.heap.size, 0, none⟩ = some (.int .i64 x0) := Z4.out.cell 0
  have d1 : (w4.alloc (.cells #[.int .i64 x0, .int .i64 x1, .int .i64 x2] 24)).cell? ⟨w2.heap.size, 1, none⟩ = some (.int .i64 x1) := Z4.out.cell 1
  have d2 : (w4.alloc (.cells #[.int .i64 x0, .int .i64 x1, .int .i64 x2] 24)).cell? ⟨w2.heap.size, 2, none⟩ = some (.int .i64 x2) := Z4.out.cell 2
  clear b4
  go_wp2_with fail
  refine (eqColor_any _ _ _ _).mono ?_; rintro e w6 ⟨rfl, b6⟩
  have B6 := Lib.hid (below_then B5.out b6)
  clear b6
  go_wp2_with fail
  go_ret
  exact ⟨rfl, B6.out⟩
set_option maxRecDepth 100000 in
set_option maxHeartbeats 4000000 in
theorem walk_FnExactMixColors (r g b r' g' b' : Int) (w : World) : Calls Try.prog 12 #[.agg #[.int .i64 r, .int .i64 g, .int .i64 b], .agg #[.int .i64 r', .int .i64 g', .int .i64 b']] w fun e w' => e = .returned (.bool true) ∧ Below w.heap.size w w' := by
  obtain ⟨x0, x1, x2, h⟩ := mix_to r g b r' g' b'
  have H := Lib.hid h
  clear h
  go_enter Try.func12, Try.ntmps12
  go_upto_region 1 with (fail)
  obtain ⟨W1, hW1⟩ : ∃ W1, W1 = (w.alloc (.cells #[.int .i64 r, .int .i64 g, .int .i64 b] 39)).alloc (.cells #[.int .i64 r', .int .i64 g', .int .i64 b'] 39) := ⟨_, rfl⟩
  have V1 : Hid (Box W1 w.heap.size 39 [.int .i64 r, .int .i64 g, .int .i64 b]) := by rw [hW1]; exact (Box.new w _ _).alloc _
  have U1 : Hid (Box W1 (w.heap.size + 1) 39 [.int .i64 r', .int .i64 g', .int .i64 b']) := by rw [hW1]; exact Box.new_at _ _ _ _ (by simp)
  have B1 : Hid (Below w.heap.size w W1) := by rw [hW1]; exact below2 w _ _
  rw [← hW1]
  clear hW1
  refine wp_region_end (by dsimp only [List.dropLast]) rfl (ClB W1) RlB (Ty [TV (.agg #[.int .i64 r, .int .i64 g, .int .i64 b]), TV (.agg #[.int .i64 r, .int .i64 g, .int .i64 b]), TV (.agg #[.int .i64 r', .int .i64 g', .int .i64 b']), TV (.agg #[.int .i64 r', .int .i64 g', .int .i64 b']), TV (.agg #[.int .i64 x0, .int .i64 x1, .int .i64 x2]), TVar W1.heap.size 24 [.int .i64 0, .int .i64 0, .int .i64 0]])
    (by kernel_rfl) (by kernel_rfl) (by kernel_rfl) (stab_ty _ ⟨stabB_k _, stabB_k _, stabB_k _, stabB_k _, stabB_k _, stabB_var, trivial⟩) (Below.refl _ _).drew ?_ ?_
  · refine ⟨?_, ?_, ?_, ?_, ?_, ?_, trivial⟩
    · exact lb_lcol (.tmp 2) w.heap.size r g b rfl V1.out (fun _ _ _ => want_none rfl) fun ρ wx hx hp => ⟨hx 2 rfl, rfl⟩
    · refine lb_known _ _ _ (.agg #[.int .i64 r, .int .i64 g, .int .i64 b]) (fun _ _ => by simp [go_sem]) rfl (fun _ _ _ => want_none rfl) #[.agg #[.int .i64 r, .int .i64 g, .int .i64 b]] (fun w hb => toColor_any _ _ _ w) (fun ρ wx hc hx hp => ?_) (fun _ => rfl)
      have h0 : ρ (.tmp 7) = .agg #[.int .i64 r, .int .i64 g, .int .i64 b] := hp.1 rfl
      simp only [List.map_toArray, List.map_cons, List.map_nil, h0]
    · exact lb_lcol (.tmp 3) (w.heap.size + 1) r' g' b' rfl U1.out (fun _ _ _ => want_none rfl) fun ρ wx hx hp => ⟨hx 3 rfl, rfl⟩
    · refine lb_known _ _ _ (.agg #[.int .i64 r', .int .i64 g', .int .i64 b']) (fun _ _ => by simp [go_sem]) rfl (fun _ _ _ => want_none rfl) #[.agg #[.int .i64 r', .int .i64 g', .int .i64 b']] (fun w hb => toColor_any _ _ _ w) (fun ρ wx hc hx hp => ?_) (fun _ => rfl)
      have h0 : ρ (.tmp 9) = .agg #[.int .i64 r', .int .i64 g', .int .i64 b'] := hp.1 rfl
      simp only [List.map_toArray, List.map_cons, List.map_nil, h0]
    · refine lb_known _ _ _ (.agg #[.int .i64 x0, .int .i64 x1, .int .i64 x2]) (fun _ _ => by simp [go_sem]) rfl (fun _ _ _ => want_none rfl) #[.agg #[.int .i64 r, .int .i64 g, .int .i64 b], .agg #[.int .i64 r', .int .i64 g', .int .i64 b']] (fun w hb => spec_mix _ _ _ _ _ _ _ _ _ w H.out) (fun ρ wx hc hx hp => ?_) (fun _ => rfl)
      have h0 : ρ (.tmp 8) = .agg #[.int .i64 r, .int .i64 g, .int .i64 b] := hp.1 rfl
      have h1 : ρ (.tmp 10) = .agg #[.int .i64 r', .int .i64 g', .int .i64 b'] := hp.2.1 rfl
      simp only [List.map_toArray, List.map_cons, List.map_nil, h0, h1]
    · exact lb_var (fun _ _ _ => want_none rfl) (fun ρ w => by unfold execOp; go_simp) (fun _ _ h => h)
  intro vs wx hI hF
  obtain ⟨_, _, _, _, h4, h5, _⟩ := hF
  replace h4 : vs 4 = .agg #[.int .i64 x0, .int .i64 x1, .int .i64 x2] := h4
  have HI : Hid (Below W1.heap.size W1 wx) := hI
  obtain ⟨bv, hv, hL, hB⟩ : TVar W1.heap.size 24 [.int .i64 0, .int .i64 0, .int .i64 0] (vs 5) wx := h5
  refine ⟨_, exec_storeC _ _ (.tmp 5) (.tmp 11) wx bv _ _ _ x0 x1 x2 rfl (by simp only [putAll, Act.put, List.setIfInBounds_toArray, List.set_cons_zero, List.set_cons_succ, hv]; rfl) (by simp only [putAll, Act.put, List.setIfInBounds_toArray, List.set_cons_zero, List.set_cons_succ, h4]; rfl) hB, ?_⟩
  simp only [putAll, Act.put, List.setIfInBounds_toArray, List.set_cons_zero, List.set_cons_succ, hv, h4]
  clear hI hv h4
  obtain ⟨W2, hW2⟩ : ∃ W2, W2 = ((wx.setCell ⟨bv, 0, none⟩ (.int .i64 x0)).setCell ⟨bv, 1, none⟩ (.int .i64 x1)).setCell ⟨bv, 2, none⟩ (.int .i64 x2) := ⟨_, rfl⟩
  have zb := V1.out.lt
  have zu := U1.out.lt
  have Y2 : Hid (Box W2 bv 24 [.int .i64 x0, .int .i64 x1, .int .i64 x2]) := by rw [hW2]; exact ((hB.set 0 _).set 1 _).set 2 _
  have BX : Hid (Below W1.heap.size W1 W2) := by rw [hW2]; exact ((HI.out.setCell hL _).setCell hL _).setCell hL _
  have V2 := Lib.hid (V1.out.below BX.out)
  have U2 := Lib.hid (U1.out.below BX.out)
  have B2 := Lib.hid (below_then B1.out BX.out)
  rw [← hW2]
  clear hW2 hB BX HI V1 U1 B1
  go_upto_region 2 with (fail)
  refine wp_region_end (by dsimp only [List.dropLast]) rfl (ClB W2) RlB (Ty [TV (.agg #[.int .i64 r, .int .i64 g, .int .i64 b]), TV (.agg #[.int .i64 r, .int .i64 g, .int .i64 b]), TV (.agg #[.int .i64 r', .int .i64 g', .int .i64 b']), TV (.agg #[.int .i64 r', .int .i64 g', .int .i64 b']), TV (.agg #[.int .i64 x0, .int .i64 x1, .int .i64 x2]), TVar W2.heap.size 24 [.int .i64 0, .int .i64 0, .int .i64 0]])
    (by kernel_rfl) (by kernel_rfl) (by kernel_rfl) (stab_ty _ ⟨stabB_k _, stabB_k _, stabB_k _, stabB_k _, stabB_k _, stabB_var, trivial⟩) (Below.refl _ _).drew ?_ ?_
  · refine ⟨?_, ?_, ?_, ?_, ?_, ?_, trivial⟩
    · exact lb_lcol (.tmp 2) w.heap.size r g b rfl V2.out (fun _ _ _ => want_none rfl) fun ρ wy hx hp => ⟨hx 2 rfl, rfl⟩
    · refine lb_known _ _ _ (.agg #[.int .i64 r, .int .i64 g, .int .i64 b]) (fun _ _ => by simp [go_sem]) rfl (fun _ _ _ => want_none rfl) #[.agg #[.int .i64 r, .int .i64 g, .int .i64 b]] (fun w hb => toColor_any _ _ _ w) (fun ρ wy hc hx hp => ?_) (fun _ => rfl)
      have h0 : ρ (.tmp 12) = .agg #[.int .i64 r, .int .i64 g, .int .i64 b] := hp.1 rfl
      simp only [List.map_toArray, List.map_cons, List.map_nil, h0]
    · exact lb_lcol (.tmp 3) (w.heap.size + 1) r' g' b' rfl U2.out (fun _ _ _ => want_none rfl) fun ρ wy hx hp => ⟨hx 3 rfl, rfl⟩
    · refine lb_known _ _ _ (.agg #[.int .i64 r', .int .i64 g', .int .i64 b']) (fun _ _ => by simp [go_sem]) rfl (fun _ _ _ => want_none rfl) #[.agg #[.int .i64 r', .int .i64 g', .int .i64 b']] (fun w hb => toColor_any _ _ _ w) (fun ρ wy hc hx hp => ?_) (fun _ => rfl)
      have h0 : ρ (.tmp 14) = .agg #[.int .i64 r', .int .i64 g', .int .i64 b'] := hp.1 rfl
      simp only [List.map_toArray, List.map_cons, List.map_nil, h0]
    · refine lb_known _ _ _ (.agg #[.int .i64 x0, .int .i64 x1, .int .i64 x2]) (fun _ _ => by simp [go_sem]) rfl (fun _ _ _ => want_none rfl) #[.agg #[.int .i64 r, .int .i64 g, .int .i64 b], .agg #[.int .i64 r', .int .i64 g', .int .i64 b']] (fun w hb => impl_mix _ _ _ _ _ _ _ _ _ w H.out) (fun ρ wy hc hx hp => ?_) (fun _ => rfl)
      have h0 : ρ (.tmp 13) = .agg #[.int .i64 r, .int .i64 g, .int .i64 b] := hp.1 rfl
      have h1 : ρ (.tmp 15) = .agg #[.int .i64 r', .int .i64 g', .int .i64 b'] := hp.2.1 rfl
      simp only [List.map_toArray, List.map_cons, List.map_nil, h0, h1]
    · exact lb_var (fun _ _ _ => want_none rfl) (fun ρ w => by unfold execOp; go_simp) (fun _ _ h => h)
  intro vs wy hI hF
  obtain ⟨_, _, _, _, h4, h5, _⟩ := hF
  replace h4 : vs 4 = .agg #[.int .i64 x0, .int .i64 x1, .int .i64 x2] := h4
  have HI : Hid (Below W2.heap.size W2 wy) := hI
  obtain ⟨bz, hv, hL, hB⟩ : TVar W2.heap.size 24 [.int .i64 0, .int .i64 0, .int .i64 0] (vs 5) wy := h5
  refine ⟨_, exec_storeC _ _ (.tmp 6) (.tmp 16) wy bz _ _ _ x0 x1 x2 rfl (by simp only [putAll, Act.put, List.setIfInBounds_toArray, List.set_cons_zero, List.set_cons_succ, hv]; rfl) (by simp only [putAll, Act.put, List.setIfInBounds_toArray, List.set_cons_zero, List.set_cons_succ, h4]; rfl) hB, ?_⟩
  simp only [putAll, Act.put, List.setIfInBounds_toArray, List.set_cons_zero, List.set_cons_succ, hv, h4]
  clear hI hv h4
  obtain ⟨W3, hW3⟩ : ∃ W3, W3 = ((wy.setCell ⟨bz, 0, none⟩ (.int .i64 x0)).setCell ⟨bz, 1, none⟩ (.int .i64 x1)).setCell ⟨bz, 2, none⟩ (.int .i64 x2) := ⟨_, rfl⟩
  have Y3 : Hid (Box W3 bz 24 [.int .i64 x0, .int .i64 x1, .int .i64 x2]) := by rw [hW3]; exact ((hB.set 0 _).set 1 _).set 2 _
  have BX : Hid (Below W2.heap.size W2 W3) := by rw [hW3]; exact ((HI.out.setCell hL _).setCell hL _).setCell hL _
  have Z3 := Lib.hid (Y2.out.below BX.out)
  have B5 := Lib.hid (below_then B2.out BX.out)
  rw [← hW3]
  clear hW3 hB BX HI V2 U2 B2 Y2
  have c0 : W3.cell? ⟨bv, 0, none⟩ = some (.int .i64 x0) := Z3.out.cell 0
  have c1 : W3.cell? ⟨bv, 1, none⟩ = some (.int .i64 x1) := Z3.out.cell 1
  have c2 : W3.cell? ⟨bv, 2, none⟩ = some (.int .i64 x2) := Z3.out.cell 2
  have d0 : W3.cell? ⟨bz, 0, none⟩ = some (.int .i64 x0) := Y3.out.cell 0
  have d1 : W3.cell? ⟨bz, 1, none⟩ = some (.int .i64 x1) := Y3.out.cell 1
  have d2 : W3.cell? ⟨bz, 2, none⟩ = some (.int .i64 x2) := Y3.out.cell 2
  go_wp2_with fail
  refine (eqColor_any _ _ _ _).mono ?_; rintro e w6 ⟨rfl, b6⟩
  have B6 := Lib.hid (below_then B5.out b6)
  clear b6
  go_wp2_with fail
  go_ret
  exact ⟨rfl, B6.out⟩
end Go.Proofs.Ytbboebmfdahgpaa
