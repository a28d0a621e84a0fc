/- Which values a tile uses: the model's function. -/
import Derived.Test.YtihohmmfgamecaaTilC
import Derived.Laws.Bits64
namespace Go.Proofs.Ytihohmmfgamecaa
open Go.ChangeShapes Go.WideShapes Go.ChangeAt Go.RowKit
set_option linter.unusedVariables false

/-- The values of the first k pixels, as digits. -/
def usedU (px : List Int) : Nat → Nat
  | 0 => 0
  | k + 1 => usedU px k ||| 2 ^ (px.getD k 0).toNat
def usedT (px : List Int) : Int := if tilB px = true then (usedU px 64 : Int) else 0
theorem til_px {px : List Int} (hp : px.length = 64) (hv : tilB px = true) (k : Nat) (hk : k < 64) : 0 ≤ px.getD k 0 ∧ px.getD k 0 ≤ 3 := betB_yes (tilB_iff.1 hv k (by omega))
theorem usedU_lt {px : List Int} (hp : px.length = 64) (hv : tilB px = true) : ∀ k, k ≤ 64 → usedU px k < 16
  | 0, _ => by simp [usedU]
  | k + 1, h => by
    have ih := usedU_lt hp hv k (by omega)
    obtain ⟨x0, x1⟩ := til_px hp hv k (by omega)
    have h2 : 2 ^ (px.getD k 0).toNat < 2 ^ 4 := Nat.pow_lt_pow_right (by omega) (by omega)
    exact Nat.or_lt_two_pow (n := 4) ih h2
theorem or_64 (a b : Nat) (ha : a < 9223372036854775808) (hb : b < 9223372036854775808) : bits .or .i64 (a : Int) (b : Int) = ((a ||| b : Nat) : Int) := by
  have e : ∀ x : Nat, x < 9223372036854775808 → (BitVec.ofInt 64 (x : Int)).toNat = x := fun x hx => by
    rw [BitVec.ofInt_natCast, BitVec.toNat_ofNat]; exact Nat.mod_eq_of_lt (by omega)
  have hx : a ||| b < 2 ^ 63 := Nat.or_lt_two_pow (by omega) (by omega)
  show IntKind.i64.wrap ((BitVec.ofInt 64 (a : Int) ||| BitVec.ofInt 64 (b : Int)).toNat : Int) = _
  rw [BitVec.toNat_or, e a ha, e b hb, IntKind.wrap_i64]
  omega
set_option maxHeartbeats 4000000 in
theorem spec_used (px : List Int) (hp : px.length = 64) (w : World) : Calls Try.prog 36 #[tilV px] w fun e w' => e = .returned (.int .i64 (usedT px)) ∧ Below w.heap.size w w' := by
  have X1 : Hid (Box (w.alloc (.cells (iv px).toArray 25)) w.heap.size 25 (iv px)) := Box.new w _ _
  have B1 := Lib.hid (below1 w (.cells (iv px).toArray 25))
  go_enter Try.func36, Try.ntmps36
  go_wp2_with fail
  generalize w.alloc (.cells (iv px).toArray 25) = w1 at X1 B1 ⊢
  by_cases hv : tilB px = true
  · have HV := Lib.hid hv
    have HR := Lib.hid (show usedT px = (usedU px 64 : Int) from if_pos hv)
    go_loopw [3, 4] (fun u i wr => ∃ k : Nat, k ≤ 64 ∧ u = .int .i64 (usedU px k : Nat) ∧ i = .int .i64 k ∧ Box wr w.heap.size 25 (iv px) ∧ Below w.heap.size w wr) (fun _ i _ => 64 - (intOf i).toNat)
    case atStart => exact ⟨0, by omega, rfl, rfl, X1.out, B1.out⟩
    case round =>
      obtain ⟨k, hk, rfl, rfl, hx, hb⟩ := hrel
      have XR := Lib.hid hx
      have BR := Lib.hid hb
      clear hx hb X1 B1
      by_cases h64 : k < 64
      · have i64' : (k : Int) < 64 := by omega
        have k0 : 0 ≤ (k : Int) := by omega
        go_wp2_with (refine st_load (by rfl) _ rfl _ rfl px hp XR.out ?_)
        refine (spec_tileValid px hp _).mono ?_; rintro e w2 ⟨rfl, b2⟩
        rw [HV.out]
        have X2 := Lib.hid (XR.out.below b2)
        have B2 := Lib.hid (below_then BR.out b2)
        clear b2 XR BR
        obtain ⟨x, hx⟩ : ∃ x, px.getD k 0 = x := ⟨_, rfl⟩
        have c0 := til_cell X2.out k (by omega)
        obtain ⟨x0, x1⟩ := til_px hp hv k h64
        rw [hx] at c0 x0 x1
        have hu := usedU_lt hp hv k hk
        have HU : Hid (usedU px (k + 1) = usedU px k ||| 2 ^ x.toNat) := by rw [← hx]; exact Lib.hid rfl
        generalize usedU px k = m at hu HU
        clear hx hv
        have hx4 : x = 0 ∨ x = 1 ∨ x = 2 ∨ x = 3 := by omega
        rcases hx4 with rfl | rfl | rfl | rfl
        all_goals
          go_wp2_with fail
          go_roundw
          case rel => exact ⟨k + 1, by omega, by rw [HU.out]; congr 1; exact or_64 m _ (by omega) (by decide), by go_num, X2.out, B2.out⟩
          case measure => simp [intOf]; omega
      · obtain rfl : k = 64 := by omega
        go_wp2_with fail
        go_ret
        exact ⟨ret_int HR.out.symm, BR.out⟩
  · have HV := Lib.hid (show tilB px = false by simpa using hv)
    have HR := Lib.hid (show usedT px = 0 from if_neg hv)
    clear hv
    go_loopw [3, 4] (fun u i wr => u = .int .i64 0 ∧ i = .int .i64 0 ∧ wr = w1) (fun _ _ _ => 0)
    case atStart => exact ⟨rfl, rfl, rfl⟩
    case round =>
      obtain ⟨rfl, rfl, rfl⟩ := hrel
      go_wp2_with (refine st_load (by rfl) _ rfl _ rfl px hp X1.out ?_)
      refine (spec_tileValid px hp _).mono ?_; rintro e w2 ⟨rfl, b2⟩
      rw [HV.out]
      have B2 := Lib.hid (below_then B1.out b2)
      clear b2 X1 B1
      go_wp2_with fail
      go_ret
      exact ⟨ret_int HR.out.symm, B2.out⟩
end Go.Proofs.Ytihohmmfgamecaa
