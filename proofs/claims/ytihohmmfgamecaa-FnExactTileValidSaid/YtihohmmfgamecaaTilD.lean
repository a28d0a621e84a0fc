/- The model's turned tiles and used values. -/
import Derived.Test.YtihohmmfgamecaaTilC
namespace Go.Proofs.Ytihohmmfgamecaa
open Go.ChangeShapes Go.WideShapes Go.ChangeAt Go.RowKit
set_option linter.unusedVariables false

/-- The place that a turn takes pixel i from; the place to which it brings pixel k. -/
def turnG (i : Nat) : Nat := 8 * (7 - i % 8) + i / 8
def turnP (k : Nat) : Nat := k % 8 * 8 + (7 - k / 8)
theorem turnG_iff (k i : Nat) (hk : k < 64) (hi : i < 64) : turnG i = k ↔ i = turnP k := by unfold turnG turnP; omega
theorem turnP_lt (k : Nat) (hk : k < 64) : turnP k < 64 := by unfold turnP; omega
theorem turnG_lt (k : Nat) (hk : k < 64) : turnG k < 64 := by unfold turnG; omega
def turnT (px : List Int) : List Int := if tilB px = true then mkT turnG (fun i => px.getD (turnG i) 0) 64 else z64
set_option maxHeartbeats 4000000 in
theorem spec_turn (px : List Int) (hp : px.length = 64) (w : World) : Calls Try.prog 33 #[tilV px] w fun e w' => e = .returned (tilV (turnT px)) ∧ Below w.heap.size w w' := by
  go_enter Try.func33, Try.ntmps33
  go_wp2_with (first | (refine st_alloc (by rfl) rfl ?_) | (refine st_build (by rfl) rfl ?_) | (refine st_store (by rfl) _ _ rfl _ rfl z64 rfl z64_len (iv z64) (Box.new_at _ _ _ _ (by simp)) (by simp [z64_len]) ?_))
  obtain ⟨w1, hw1⟩ : ∃ w1, w1 = (((w.alloc (.cells (iv px).toArray 25)).alloc (.cells (iv z64).toArray 25)).alloc (.cells (iv z64).toArray 25)).setRow (w.heap.size + 1 + 1) (iv z64).toArray := ⟨_, rfl⟩
  have X1 : Hid (Box w1 w.heap.size 25 (iv px)) := by rw [hw1]; exact (((Box.new w _ _).alloc _).alloc _).rowFar (by omega)
  have R1 : Hid (Box w1 (w.heap.size + 1) 25 (iv z64)) := by rw [hw1]; exact ((Box.new_at _ _ _ _ (by simp)).alloc _).rowFar (by omega)
  have Y1 : Hid (Box w1 (w.heap.size + 1 + 1) 25 (iv z64)) := by rw [hw1]; exact Box.row (cs := iv z64) (Box.new_at _ _ _ _ (by simp))
  have B1 : Hid (Below w.heap.size w w1) := by rw [hw1]; exact below_row (below3 w _ _ _) (by omega) _
  rw [← hw1]
  clear hw1
  have HL : Hid (w.heap.size ≤ w.heap.size + 1 ∧ w.heap.size ≤ w.heap.size + 1 + 1) := ⟨by omega, by omega⟩
  obtain ⟨f, hf⟩ : ∃ f : Nat → Int, f = fun i => px.getD (turnG i) 0 := ⟨_, rfl⟩
  have HF := Lib.hid hf
  clear hf
  by_cases hv : tilB px = true
  · have HV := Lib.hid hv
    have HR := Lib.hid (show turnT px = mkT turnG f 64 by rw [HF.out]; exact if_pos hv)
    clear hv
    go_loopw [4] (fun i wr => ∃ k : Nat, k ≤ 64 ∧ i = .int .i64 k ∧ Box wr w.heap.size 25 (iv px) ∧ Box wr (w.heap.size + 1) 25 (iv z64) ∧ Box wr (w.heap.size + 1 + 1) 25 (iv (mkT turnG f k)) ∧ Below w.heap.size w wr) (fun i _ => 64 - (intOf i).toNat)
    case atStart => exact ⟨0, by omega, rfl, X1.out, R1.out, by rw [mkT_zero]; exact Y1.out, B1.out⟩
    case round =>
      obtain ⟨k, hk, rfl, hx, hr, hy, hb⟩ := hrel
      have XR := Lib.hid hx
      have RR := Lib.hid hr
      have YR := Lib.hid hy
      have BR := Lib.hid hb
      clear hx hr hy hb X1 R1 Y1 B1
      by_cases h64 : k < 64
      · have i64' : (k : Int) < 64 := by omega
        have k0 : 0 ≤ (k : Int) := by omega
        go_wp2_with (first | (refine st_load (by rfl) _ rfl _ rfl px hp XR.out ?_))
        refine (spec_tileValid px hp _).mono ?_; rintro e w2 ⟨rfl, b2⟩
        rw [HV.out]
        have X2 := Lib.hid (XR.out.below b2)
        have R2 := Lib.hid (RR.out.below b2)
        have Y2 := Lib.hid (YR.out.below b2)
        have B2 := Lib.hid (below_then BR.out b2)
        clear b2 XR RR YR BR
        obtain ⟨s, hs⟩ : ∃ s, s = turnP k := ⟨_, rfl⟩
        have s64 : s < 64 := by rw [hs]; exact turnP_lt k h64
        have hg : turnG s = k := (turnG_iff k s h64 s64).2 hs
        obtain ⟨x, hx⟩ : ∃ x, f s = x := ⟨_, rfl⟩
        have c0 := til_cell X2.out k (by rw [hp]; exact h64)
        rw [show px.getD k 0 = x by rw [← hx, HF.out]; simp only [hg]] at c0
        have HX := Lib.hid hx
        clear hx
        have y0 := til_cell Y2.out s (by rw [mkT_len]; exact s64)
        rw [mkT_get _ _ _ _ s64, if_neg (by omega)] at y0
        have g0 := Y2.out.frozen s
        have HG : Hid (∀ i, i < 64 → (turnG i = k ↔ i = s)) := fun i hi => by rw [hs]; exact turnG_iff k i h64 hi
        obtain ⟨q, r, hq, hr, q8, r8, hf⟩ : ∃ q r : Nat, (k : Int) / 8 = q ∧ (k : Int) % 8 = r ∧ q < 8 ∧ r < 8 ∧ s = r * 8 + (7 - q) := ⟨k / 8, k % 8, by omega, by omega, by omega, by omega, hs⟩
        have s64' : (s : Int) < 64 := by omega
        have s0 : 0 ≤ (s : Int) := by omega
        have e3 : (r : Int) * 8 + 7 - q = s := by omega
        clear hs hf hg
        go_wp2_with fail
        go_roundw
        case rel => exact ⟨k + 1, by omega, by go_num, X2.out.far (by omega) _, R2.out.far (by omega) _, by rw [← mkT_set turnG f k s s64 HG.out, ← iv_set, HX.out]; exact Y2.out.set s (.int .i64 x), B2.out.setCell HL.out.2 _⟩
        case measure => simp [intOf]; omega
      · obtain rfl : k = 64 := by omega
        have hl : (mkT turnG f 64).length = 64 := mkT_len _ _ _
        go_wp2_with (first | (refine st_load (by rfl) _ rfl _ rfl (mkT turnG f 64) hl YR.out ?_) | (refine st_store (by rfl) _ _ rfl _ rfl (mkT turnG f 64) rfl hl (iv z64) RR.out (by simp [z64_len]) ?_))
        have RF : Hid (Box (wr.setRow (w.heap.size + 1) (iv (mkT turnG f 64)).toArray) (w.heap.size + 1) 25 (iv (mkT turnG f 64))) := Box.row RR.out
        refine bodyPost_ret (v := tilV (mkT turnG f 64)) (til_ret rfl rfl RF.out hl) rfl ⟨by rw [HR.out], below_row BR.out (by omega) _⟩
  · have HV := Lib.hid (show tilB px = false by simpa using hv)
    have HR := Lib.hid (show turnT px = z64 from if_neg hv)
    clear hv
    go_loopw [4] (fun i wr => i = .int .i64 0 ∧ wr = w1) (fun _ _ => 0)
    case atStart => exact ⟨rfl, rfl⟩
    case round =>
      obtain ⟨rfl, rfl⟩ := hrel
      go_wp2_with (first | (refine st_load (by rfl) _ rfl _ rfl px hp X1.out ?_))
      refine (spec_tileValid px hp _).mono ?_; rintro e w2 ⟨rfl, b2⟩
      rw [HV.out]
      have RR := Lib.hid (R1.out.below b2)
      have YR := Lib.hid (Y1.out.below b2)
      have BR := Lib.hid (below_then B1.out b2)
      clear b2 X1 R1 Y1 B1
      have hl : z64.length = 64 := z64_len
      go_wp2_with (first | (refine st_load (by rfl) _ rfl _ rfl z64 hl YR.out ?_) | (refine st_store (by rfl) _ _ rfl _ rfl z64 rfl hl (iv z64) RR.out (by simp [z64_len]) ?_))
      have RF : Hid (Box (w2.setRow (w.heap.size + 1) (iv z64).toArray) (w.heap.size + 1) 25 (iv z64)) := Box.row RR.out
      refine bodyPost_ret (v := tilV z64) (til_ret rfl rfl RF.out hl) rfl ⟨by rw [HR.out], below_row BR.out (by omega) _⟩
end Go.Proofs.Ytihohmmfgamecaa
