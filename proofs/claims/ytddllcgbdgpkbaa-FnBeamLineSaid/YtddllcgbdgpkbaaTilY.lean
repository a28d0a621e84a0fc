/- The program's TileValid. -/
import Derived.Test.YtddllcgbdgpkbaaArrA
import Derived.Test.YtddllcgbdgpkbaaTilA
namespace Go.Proofs.Ytddllcgbdgpkbaa
open Go.ChangeShapes Go.WideShapes Go.ChangeAt Go.RowKit
set_option linter.unusedVariables false

set_option maxHeartbeats 2000000 in
theorem im_valid (px : List Int) (hp : px.length = 64) (w : World) : Calls Try.prog 71 #[tilV px] w fun e w' => e = .returned (.bool (tilB px)) ∧ Below w.heap.size w w' := by
  go_enter Try.func71, Try.ntmps71
  go_wp2_with (refine sa_load ty_pixels (by rfl) _ rfl w.heap.size 0 rfl _ (iv px) (iv px) (Box.new w _ _) (by simp [hp]) (fun j v h => by simpa using h) ?_)
  have BB := Lib.hid (below1 w (.cells (iv px).toArray 74))
  generalize w.alloc (.cells (iv px).toArray 74) = w1 at BB ⊢
  go_loopw [7] (fun i wr => ∃ k : Nat, k ≤ 64 ∧ i = .int .i64 k ∧ wr = w1 ∧ ∀ j, j < k → betB (px.getD j 0) 0 3 = true) (fun i _ => 64 - (intOf i).toNat)
  case atStart => exact ⟨0, by omega, rfl, rfl, fun j hj => by omega⟩
  case round =>
    obtain ⟨k, hk, rfl, rfl, hall⟩ := hrel
    have HA := Lib.hid hall
    clear hall
    by_cases h64 : k < 64
    · have i64' : (k : Int) < 64 := by omega
      have k0 : 0 ≤ (k : Int) := by omega
      obtain ⟨x, hx⟩ : ∃ x, px.getD k 0 = x := ⟨_, rfl⟩
      have hI : ∀ wq, (Instr.index 72 (tilV px) (.int .i64 (k : Int))).run Try.prog wq = .ok (.int .i64 x) wq := fun wq => by rw [← hx]; exact run_index_pixels wq px hp k h64
      have HX := Lib.hid hx
      clear hx
      by_cases hb : betB x 0 3 = true
      · have HB := Lib.hid hb
        obtain ⟨x0, x3⟩ := betB_yes hb
        have nx0 : ¬ x < 0 := by omega
        have nx3 : ¬ 3 < x := by omega
        clear hb
        go_wp2_with fail
        go_roundw
        case rel => exact ⟨k + 1, by omega, by go_num, trivial, fun j hj => by
          by_cases e : j = k
          · subst e; rw [HX.out]; exact HB.out
          · exact HA.out j (by omega)⟩
        case measure => simp [intOf]; omega
      · have hb' : betB x 0 3 = false := by simpa using hb
        have HF := Lib.hid (tilB_no (px := px) k (by omega) (by rw [HX.out]; exact hb'))
        have hx : x < 0 ∨ ¬ x < 0 ∧ 3 < x := by
          have : ¬ (0 ≤ x ∧ x ≤ 3) := fun ⟨h0, h3⟩ => hb (by simp [betB, h0, h3])
          omega
        clear hb hb'
        rcases hx with hx | ⟨hx, hy⟩
        all_goals
          go_wp2_with fail
          go_ret
          exact ⟨ret_bool HF.out.symm, BB.out⟩
    · obtain rfl : k = 64 := by omega
      have HF := Lib.hid (tilB_iff.2 fun j hj => HA.out j (by omega))
      go_wp2_with fail
      go_ret
      exact ⟨ret_bool HF.out.symm, BB.out⟩
end Go.Proofs.Ytddllcgbdgpkbaa
