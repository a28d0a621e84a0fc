/- The model's flipped and turned tiles. -/
import Derived.Test.YtihohmmfgamecaaTilB
namespace Go.Proofs.Ytihohmmfgamecaa
open Go.ChangeShapes Go.WideShapes Go.ChangeAt Go.RowKit
set_option linter.unusedVariables false

/-- A tile made pixel by pixel: pixel i stands once the round g i has been. -/
def mkT (g : Nat → Nat) (f : Nat → Int) (k : Nat) : List Int := (List.range 64).map fun i => if g i < k then f i else 0
theorem mkT_len (g : Nat → Nat) (f : Nat → Int) (k : Nat) : (mkT g f k).length = 64 := by simp [mkT]
theorem mkT_get (g : Nat → Nat) (f : Nat → Int) (k i : Nat) (hi : i < 64) : (mkT g f k).getD i 0 = if g i < k then f i else 0 := by
  unfold mkT
  rw [List.getD_eq_getElem?_getD, List.getElem?_map, List.getElem?_range hi]
  rfl
theorem mkT_ext {a b : List Int} (ha : a.length = 64) (hb : b.length = 64) (h : ∀ i, i < 64 → a.getD i 0 = b.getD i 0) : a = b := by
  apply List.ext_getElem (by omega)
  intro i h1 h2
  have := h i (by omega)
  rwa [List.getD_eq_getElem?_getD, List.getD_eq_getElem?_getD, List.getElem?_eq_getElem h1, List.getElem?_eq_getElem h2] at this
theorem mkT_zero (g : Nat → Nat) (f : Nat → Int) : mkT g f 0 = z64 :=
  mkT_ext (mkT_len _ _ _) z64_len fun i hi => by rw [mkT_get _ _ _ _ hi, z64_get, if_neg (by omega)]
theorem mkT_set (g : Nat → Nat) (f : Nat → Int) (k p : Nat) (hp : p < 64) (hg : ∀ i, i < 64 → (g i = k ↔ i = p)) : (mkT g f k).set p (f p) = mkT g f (k + 1) := by
  refine mkT_ext (by simp [mkT_len]) (mkT_len _ _ _) fun i hi => ?_
  rw [mkT_get _ _ _ _ hi, List.getD_eq_getElem?_getD, List.getElem?_set]
  have h := hg i hi
  by_cases e : p = i
  · subst e
    have : g p = k := h.2 rfl
    rw [if_pos rfl, if_pos (by rw [mkT_len]; exact hi), if_pos (by omega)]
    rfl
  · have : ¬ g i = k := fun c => e (h.1 c).symm
    rw [if_neg e, ← List.getD_eq_getElem?_getD, mkT_get _ _ _ _ hi]
    by_cases l : g i < k
    · rw [if_pos l, if_pos (by omega)]
    · rw [if_neg l, if_neg (by omega)]
theorem iv_set (px : List Int) (i : Nat) (v : Int) : (iv px).set i (.int .i64 v) = iv (px.set i v) := by simp [List.map_set]
/-- The place that a flip takes pixel k from. -/
def flipP (a d : Bool) (k : Nat) : Nat := 8 * (if d then 7 - k / 8 else k / 8) + (if a then 7 - k % 8 else k % 8)
theorem flipP_lt (a d : Bool) (k : Nat) (h : k < 64) : flipP a d k < 64 := by unfold flipP; split <;> split <;> omega
def flipT (px : List Int) (a d : Bool) : List Int := if tilB px = true then mkT id (fun i => px.getD (flipP a d i) 0) 64 else z64
set_option maxHeartbeats 4000000 in
theorem spec_flip (px : List Int) (hp : px.length = 64) (a d : Bool) (w : World) : Calls Try.prog 30 #[tilV px, .bool a, .bool d] w fun e w' => e = .returned (tilV (flipT px a d)) ∧ Below w.heap.size w w' := by
  go_enter Try.func30, Try.ntmps30
  go_wp2_with (first | (refine st_alloc (by rfl) rfl ?_) | (refine st_build (by rfl) rfl ?_) | (refine st_store (by rfl) _ _ rfl _ rfl z64 rfl z64_len (iv z64) (Box.new_at _ _ _ _ (by simp)) (by simp [z64_len]) ?_))
  obtain ⟨w1, hw1⟩ : ∃ w1, w1 = (((w.alloc (.cells (iv px).toArray 25)).alloc (.cells (iv z64).toArray 25)).alloc (.cells (iv z64).toArray 25)).setRow (w.heap.size + 1 + 1) (iv z64).toArray := ⟨_, rfl⟩
  have X1 : Hid (Box w1 w.heap.size 25 (iv px)) := by rw [hw1]; exact (((Box.new w _ _).alloc _).alloc _).rowFar (by omega)
  have R1 : Hid (Box w1 (w.heap.size + 1) 25 (iv z64)) := by rw [hw1]; exact ((Box.new_at _ _ _ _ (by simp)).alloc _).rowFar (by omega)
  have Y1 : Hid (Box w1 (w.heap.size + 1 + 1) 25 (iv z64)) := by rw [hw1]; exact Box.row (cs := iv z64) (Box.new_at _ _ _ _ (by simp))
  have B1 : Hid (Below w.heap.size w w1) := by rw [hw1]; exact below_row (below3 w _ _ _) (by omega) _
  rw [← hw1]
  clear hw1
  have HL : Hid (w.heap.size ≤ w.heap.size + 1 ∧ w.heap.size ≤ w.heap.size + 1 + 1) := ⟨by omega, by omega⟩
  obtain ⟨f, hf⟩ : ∃ f : Nat → Int, f = fun i => px.getD (flipP a d i) 0 := ⟨_, rfl⟩
  have HF := Lib.hid hf
  clear hf
  by_cases hv : tilB px = true
  · have HV := Lib.hid hv
    have HR := Lib.hid (show flipT px a d = mkT id f 64 by rw [HF.out]; exact if_pos hv)
    clear hv
    go_loopw [8] (fun i wr => ∃ k : Nat, k ≤ 64 ∧ i = .int .i64 k ∧ Box wr w.heap.size 25 (iv px) ∧ Box wr (w.heap.size + 1) 25 (iv z64) ∧ Box wr (w.heap.size + 1 + 1) 25 (iv (mkT id f k)) ∧ Below w.heap.size w wr) (fun i _ => 64 - (intOf i).toNat)
    case atStart => exact ⟨0, by omega, rfl, X1.out, R1.out, by rw [mkT_zero]; exact Y1.out, B1.out⟩
    case round =>
      obtain ⟨k, hk, rfl, hx, hr, hy, hb⟩ := hrel
      have XR := Lib.hid hx
      have RR := Lib.hid hr
      have YR := Lib.hid hy
      have BR := Lib.hid hb
      clear hx hr hy hb X1 R1 Y1 B1
      by_cases h64 : k < 64
      · have i64' : (k : Int) < 64 := by omega
        have k0 : 0 ≤ (k : Int) := by omega
        go_wp2_with (first | (refine st_load (by rfl) _ rfl _ rfl px hp XR.out ?_))
        refine (spec_tileValid px hp _).mono ?_; rintro e w2 ⟨rfl, b2⟩
        rw [HV.out]
        have X2 := Lib.hid (XR.out.below b2)
        have R2 := Lib.hid (RR.out.below b2)
        have Y2 := Lib.hid (YR.out.below b2)
        have B2 := Lib.hid (below_then BR.out b2)
        clear b2 XR RR YR BR
        obtain ⟨x, hx⟩ : ∃ x, f k = x := ⟨_, rfl⟩
        have c0 := til_cell X2.out (flipP a d k) (by rw [hp]; exact flipP_lt a d k h64)
        rw [show px.getD (flipP a d k) 0 = x by rw [← hx, HF.out]] at c0
        have HX := Lib.hid hx
        clear hx
        have y0 := til_cell Y2.out k (by rw [mkT_len]; exact h64)
        rw [mkT_get _ _ _ _ h64, id, if_neg (by omega)] at y0
        have g0 := Y2.out.frozen k
        obtain ⟨q, r, hq, hr, q8, r8, hf⟩ : ∃ q r : Nat, (k : Int) / 8 = q ∧ (k : Int) % 8 = r ∧ q < 8 ∧ r < 8 ∧ flipP a d k = 8 * (if d then 7 - q else q) + (if a then 7 - r else r) := ⟨k / 8, k % 8, by omega, by omega, by omega, by omega, rfl⟩
        obtain ⟨q', hq'⟩ : ∃ q' : Nat, q' = 7 - q := ⟨_, rfl⟩
        obtain ⟨r', hr'⟩ : ∃ r' : Nat, r' = 7 - r := ⟨_, rfl⟩
        rw [← hq', ← hr'] at hf
        have e1 : (7 : Int) - q = q' := by omega
        have e2 : (7 : Int) - r = r' := by omega
        obtain ⟨s, hs⟩ : ∃ s, s = flipP a d k := ⟨_, rfl⟩
        have s64 : s < 64 := by rw [hs]; exact flipP_lt a d k h64
        have s64' : (s : Int) < 64 := by omega
        have s0 : 0 ≤ (s : Int) := by omega
        rw [← hs] at c0 hf
        clear hq' hr' hs
        cases a <;> cases d <;> simp only [Bool.false_eq_true, if_true, if_false] at hf
        · have e3 : (8 : Int) * q + r = s := by omega
          clear hf e1 e2
          go_wp2_with fail
          go_roundw
          case rel => exact ⟨k + 1, by omega, by go_num, X2.out.far (by omega) _, R2.out.far (by omega) _, by rw [← mkT_set id f k k h64 (fun i _ => Iff.rfl), ← iv_set, HX.out]; exact Y2.out.set k (.int .i64 x), B2.out.setCell HL.out.2 _⟩
          case measure => simp [intOf]; omega
        · have e3 : (8 : Int) * q' + r = s := by omega
          clear hf e2
          go_wp2_with fail
          go_roundw
          case rel => exact ⟨k + 1, by omega, by go_num, X2.out.far (by omega) _, R2.out.far (by omega) _, by rw [← mkT_set id f k k h64 (fun i _ => Iff.rfl), ← iv_set, HX.out]; exact Y2.out.set k (.int .i64 x), B2.out.setCell HL.out.2 _⟩
          case measure => simp [intOf]; omega
        · have e3 : (8 : Int) * q + r' = s := by omega
          clear hf e1
          go_wp2_with fail
          go_roundw
          case rel => exact ⟨k + 1, by omega, by go_num, X2.out.far (by omega) _, R2.out.far (by omega) _, by rw [← mkT_set id f k k h64 (fun i _ => Iff.rfl), ← iv_set, HX.out]; exact Y2.out.set k (.int .i64 x), B2.out.setCell HL.out.2 _⟩
          case measure => simp [intOf]; omega
        · have e3 : (8 : Int) * q' + r' = s := by omega
          clear hf
          go_wp2_with fail
          go_roundw
          case rel => exact ⟨k + 1, by omega, by go_num, X2.out.far (by omega) _, R2.out.far (by omega) _, by rw [← mkT_set id f k k h64 (fun i _ => Iff.rfl), ← iv_set, HX.out]; exact Y2.out.set k (.int .i64 x), B2.out.setCell HL.out.2 _⟩
          case measure => simp [intOf]; omega
      · obtain rfl : k = 64 := by omega
        have hl : (mkT id f 64).length = 64 := mkT_len _ _ _
        go_wp2_with (first | (refine st_load (by rfl) _ rfl _ rfl (mkT id f 64) hl YR.out ?_) | (refine st_store (by rfl) _ _ rfl _ rfl (mkT id f 64) rfl hl (iv z64) RR.out (by simp [z64_len]) ?_))
        have RF : Hid (Box (wr.setRow (w.heap.size + 1) (iv (mkT id f 64)).toArray) (w.heap.size + 1) 25 (iv (mkT id f 64))) := Box.row RR.out
        refine bodyPost_ret (v := tilV (mkT id f 64)) (til_ret rfl rfl RF.out hl) rfl ⟨by rw [HR.out], below_row BR.out (by omega) _⟩
  · have HV := Lib.hid (show tilB px = false by simpa using hv)
    have HR := Lib.hid (show flipT px a d = z64 from if_neg hv)
    clear hv
    go_loopw [8] (fun i wr => i = .int .i64 0 ∧ wr = w1) (fun _ _ => 0)
    case atStart => exact ⟨rfl, rfl⟩
    case round =>
      obtain ⟨rfl, rfl⟩ := hrel
      go_wp2_with (first | (refine st_load (by rfl) _ rfl _ rfl px hp X1.out ?_))
      refine (spec_tileValid px hp _).mono ?_; rintro e w2 ⟨rfl, b2⟩
      rw [HV.out]
      have RR := Lib.hid (R1.out.below b2)
      have YR := Lib.hid (Y1.out.below b2)
      have BR := Lib.hid (below_then B1.out b2)
      clear b2 X1 R1 Y1 B1
      have hl : z64.length = 64 := z64_len
      go_wp2_with (first | (refine st_load (by rfl) _ rfl _ rfl z64 hl YR.out ?_) | (refine st_store (by rfl) _ _ rfl _ rfl z64 rfl hl (iv z64) RR.out (by simp [z64_len]) ?_))
      have RF : Hid (Box (w2.setRow (w.heap.size + 1) (iv z64).toArray) (w.heap.size + 1) 25 (iv z64)) := Box.row RR.out
      refine bodyPost_ret (v := tilV z64) (til_ret rfl rfl RF.out hl) rfl ⟨by rw [HR.out], below_row BR.out (by omega) _⟩
end Go.Proofs.Ytihohmmfgamecaa
