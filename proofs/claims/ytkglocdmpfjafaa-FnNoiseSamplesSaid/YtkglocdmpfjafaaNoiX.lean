/- The exact laws of chapter 15, walked. -/
import Derived.Test.YtkglocdmpfjafaaNoiE
import Derived.Test.YtkglocdmpfjafaaNoiF
namespace Go.Proofs.Ytkglocdmpfjafaa
open Go.ChangeShapes Go.WideShapes Go.ChangeAt Go.RowKit
set_option linter.unusedVariables false

set_option maxRecDepth 100000 in
set_option maxHeartbeats 4000000 in
theorem walk_FnExactNextNoise (x : Int) (w : World) : Calls Try.prog 7 #[.int .i64 x] w fun e w' => e = .returned (.bool true) ∧ Below w.heap.size w w' := by
  obtain ⟨z, hz⟩ : ∃ z, nxT x = z := ⟨_, rfl⟩
  have HZ := Lib.hid hz
  clear hz
  go_enter Try.func7, Try.ntmps7
  go_wp2_with fail
  refine (spec_next x _).mono ?_; rintro e w' ⟨rfl, rfl⟩
  rw [HZ.out]
  go_wp2_with fail
  refine (im_next x _).mono ?_; rintro e w' ⟨rfl, rfl⟩
  rw [HZ.out]
  go_wp2_with fail
  go_ret
  exact ⟨rfl, Below.refl _ _⟩
set_option maxRecDepth 100000 in
set_option maxHeartbeats 4000000 in
theorem walk_FnExactNoiseDistance (x y : Int) (w : World) : Calls Try.prog 9 #[.int .i64 x, .int .i64 y] w fun e w' => e = .returned (.bool true) ∧ Below w.heap.size w w' := by
  obtain ⟨z, hz⟩ : ∃ z, dsT x y = z := ⟨_, rfl⟩
  have HZ := Lib.hid hz
  clear hz
  go_enter Try.func9, Try.ntmps9
  go_wp2_with fail
  refine (spec_dist x y _).mono ?_; rintro e w' ⟨rfl, rfl⟩
  rw [HZ.out]
  go_wp2_with fail
  refine (im_dist x y _).mono ?_; rintro e w1 ⟨rfl, bl⟩
  have B1 := Lib.hid bl
  clear bl
  rw [HZ.out]
  go_wp2_with fail
  go_ret
  exact ⟨rfl, B1.out⟩
set_option maxRecDepth 100000 in
set_option maxHeartbeats 4000000 in
theorem walk_FnExactNoiseSamples (x n : Int) (w : World) : Calls Try.prog 8 #[.int .i64 x, .int .i64 n] w fun e w' => e = .returned (.bool true) ∧ Below w.heap.size w w' := by
  have q4 := smT_le x n
  obtain ⟨X, hX⟩ : ∃ X, smT x n = X := ⟨_, rfl⟩
  have HX := Lib.hid hX
  rw [hX] at q4
  clear hX
  go_enter Try.func8, Try.ntmps8
  go_wp2_with fail
  refine (spec_samples x n _).mono ?_; rw [HX.out]; rintro e w1 ⟨Aw, cw, fw, rfl, hcw, hsw, hnw, bl⟩
  have Rw := Lib.hid (fun b (hb : b ∈ fw) => hnw.lt b hb)
  have BB1 := Lib.hid bl
  have Iw1 := Lib.hid hsw
  clear hsw hnw hcw bl
  go_wp2_with fail
  refine (im_samples x n _).mono ?_; rw [HX.out]; rintro e w2 ⟨Ag, cg, fg, rfl, hcg, hsg, hng, bl⟩
  have Rg := Lib.hid (fun b (hb : b ∈ fg) => hng.lt b hb)
  have BB2 := Lib.hid (below_then BB1.out bl)
  have Iw2 := Lib.hid (Iw1.out.below bl)
  have Ig2 := Lib.hid hsg
  have Ng2 := Lib.hid hng
  have HZ1 := Lib.hid BB1.out.size
  have HZ2 := Lib.hid bl.size
  clear hsg hng hcg bl BB1 Iw1
  go_wp2_with fail
  refine (eq_ints Ag Aw X.length cg cw X fg fw _ Ig2.out Iw2.out (by omega)).mono ?_; rintro e w3 ⟨rfl, qq, hqq⟩
  have bl : Below w2.heap.size w2 w3 := by rw [hqq]; exact below_drewN (Below.refl _ _) _
  clear hqq
  have BB3 := Lib.hid (below_then BB2.out bl)
  have Iw3 := Lib.hid (Iw2.out.below bl)
  have Ig3 := Lib.hid (Ig2.out.below bl)
  have Ng3 := Lib.hid (Ng2.out.keep (.of_below bl))
  have HZ3 := Lib.hid bl.size
  clear BB2 Iw2 Ig2 Ng2 bl
  go_wp2_with fail
  refine (mark_ints Ag X.length cg 1 X fg _ Ig3.out (fun b hb o => Ng3.out.free b hb o) (by omega) (by omega) (by omega)).mono ?_; rintro e w4 ⟨rfl, o, hig, frg⟩
  have Iw4 := Lib.hid (Iw3.out.keep (.of_only o fun b hb hx => by have h1 := Rw.out b hb; have h2 := Rg.out b hx; omega))
  have BB4 := Lib.hid (BB3.out.trans (o.below (fun b hb => by have h1 := Rg.out b hb; have z1 := HZ1.out; omega) BB3.out.size))
  clear o BB3 Iw3 Ig3 Ng3
  have Ig4 := Lib.hid hig
  clear hig frg
  have hn1 : 0 ≤ (1 : Int) + X.length := by omega
  go_wp2_with fail
  refine (held_ints Ag X.length cg 1 fg _ Ig4.out (by omega) (by omega) (by omega)).mono ?_; rintro e w5 ⟨rfl, rfl⟩
  go_wp2_with fail
  refine (im_samples x n _).mono ?_; rw [HX.out]; rintro e w6 ⟨Ah, ch, fh, rfl, hch, hsh, hnh, bl⟩
  have BB6 := Lib.hid (below_then BB4.out bl)
  have Iw6 := Lib.hid (Iw4.out.below bl)
  have Ig6 := Lib.hid (Ig4.out.below bl)
  have Ih6 := Lib.hid hsh
  clear hsh hnh hch bl BB4 Iw4 Ig4
  go_wp2_with fail
  refine (eq_ints Ah Aw X.length ch cw X fh fw _ Ih6.out Iw6.out (by omega)).mono ?_; rintro e w7 ⟨rfl, qq, hqq⟩
  have bl : Below w6.heap.size w6 w7 := by rw [hqq]; exact below_drewN (Below.refl _ _) _
  clear hqq
  have BB7 := Lib.hid (below_then BB6.out bl)
  have Ig7 := Lib.hid (Ig6.out.below bl)
  clear BB6 Iw6 Ig6 Ih6 bl
  go_wp2_with fail
  refine (held_ints Ag X.length cg 1 fg _ Ig7.out (by omega) (by omega) (by omega)).mono ?_; rintro e w8 ⟨rfl, rfl⟩
  go_wp2_with fail
  go_ret
  exact ⟨rfl, BB7.out⟩
end Go.Proofs.Ytkglocdmpfjafaa
