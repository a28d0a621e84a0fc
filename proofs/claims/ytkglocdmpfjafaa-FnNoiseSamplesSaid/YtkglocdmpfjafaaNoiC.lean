/- Noise: the program's leap: fifteen numbers, and what a state becomes by them. -/
import Derived.Test.YtkglocdmpfjafaaNoiB
namespace Go.Proofs.Ytkglocdmpfjafaa
open Go.ChangeShapes Go.WideShapes Go.ChangeAt Go.RowKit
set_option linter.unusedVariables false

theorem ty_leap : ArrTy 52 15 := ⟨⟨_, Try.underlying52, rfl⟩, by kernel_rfl⟩
theorem lp_lit : (#[.int .i64 0, .int .i64 0, .int .i64 0, .int .i64 0, .int .i64 0, .int .i64 0, .int .i64 0, .int .i64 0, .int .i64 0, .int .i64 0, .int .i64 0, .int .i64 0, .int .i64 0, .int .i64 0, .int .i64 0] : Array Value) = (iv (lpK 0)).toArray := by rw [lpK_zero]; rfl
theorem ivSetZ (S : List Int) (k : Nat) (a : Int) : (iv S).set k (.int .i64 a) = iv (S.set k a) := by simp [iv, List.map_set]
theorem lp_cell {w : World} {b p k : Nat} {t : TypeId} (h : Box w b t (iv (lpK k))) (hp : p < 15) : w.cell? ⟨b, p, none⟩ = some (.int .i64 ((lpK k).getD p 0)) := (h.cell p).trans (iv_at (lpK k) p (by rw [lpK_len]; exact hp))
set_option maxRecDepth 100000 in
set_option maxHeartbeats 4000000 in
theorem im_newLeap (w : World) : Calls Try.prog 36 #[] w fun e w' => e = .returned (.agg (iv (lpK 15)).toArray) ∧ Below w.heap.size w w' := by
  go_enter Try.func36, Try.ntmps36
  go_wp2_with fail
  rw [lp_lit]
  obtain ⟨w1, hw1⟩ : ∃ w1, w1 = w.alloc (.cells (iv (lpK 0)).toArray 52) := ⟨_, rfl⟩
  have X1 : Hid (Box w1 w.heap.size 52 (iv (lpK 0))) := by rw [hw1]; exact Box.new w _ _
  have B1 : Hid (Below w.heap.size w w1) := by rw [hw1]; exact below1 w _
  rw [← hw1]
  clear hw1
  go_loopw [1, 4] (fun s i wr => ∃ k : Nat, k ≤ 217 ∧ s = .int .i64 (nxK k 1 : Nat) ∧ i = .int .i64 k ∧ wr = w1) (fun _ i _ => 217 - (intOf i).toNat)
  case atStart => exact ⟨0, by omega, rfl, rfl, rfl⟩
  case round =>
    obtain ⟨k, hk, rfl, rfl, hw⟩ := hrel
    obtain rfl : w1 = wr := hw.symm
    by_cases h7 : k < 217
    · have k7 : (k : Int) < 217 := by omega
      have k0 : 0 ≤ (k : Int) := by omega
      have HL := Lib.hid (nxK_le k (show 1 ≤ 32767 by omega))
      have HN := Lib.hid (nxK_succ k 1)
      generalize nxK k 1 = s at HL HN ⊢
      go_wp2_with fail
      refine (im_step s HL.out _).mono ?_; rintro e w' ⟨rfl, rfl⟩
      go_wp2_with fail
      go_roundw
      case rel => exact ⟨k + 1, by omega, by rw [HN.out], by go_num, trivial⟩
      case measure => simp [intOf]; omega
    · obtain rfl : k = 217 := by omega
      go_wp2_with fail
      rw [lp_lit]
      obtain ⟨g, hg⟩ : ∃ g, g = w1.heap.size := ⟨_, rfl⟩
      have HG : Hid (w.heap.size < g) := by rw [hg]; exact X1.out.lt
      obtain ⟨w2, hw2⟩ : ∃ w2, w2 = w1.alloc (.cells (iv (lpK 0)).toArray 52) := ⟨_, rfl⟩
      have X2 : Hid (Box w2 w.heap.size 52 (iv (lpK 0))) := by rw [hw2]; exact X1.out.alloc _
      have Y2 : Hid (Box w2 g 52 (iv (lpK 0))) := by rw [hw2, hg]; exact Box.new w1 _ _
      have B2 : Hid (Below w.heap.size w w2) := by rw [hw2]; exact below_then B1.out (below1 w1 _)
      rw [← hw2, ← hg]
      clear hw2 hg X1 B1 h7 hk hw
      go_loopw [1, 9] (fun s i wr => ∃ k : Nat, k ≤ 15 ∧ s = .int .i64 (nxK (217 + k) 1 : Nat) ∧ i = .int .i64 k ∧ Box wr w.heap.size 52 (iv (lpK 0)) ∧ Box wr g 52 (iv (lpK k)) ∧ Below w.heap.size w wr) (fun _ i _ => 15 - (intOf i).toNat)
      case atStart => exact ⟨0, by omega, rfl, rfl, X2.out, Y2.out, B2.out⟩
      case round =>
        obtain ⟨k, hk, rfl, rfl, hx, hy, hb⟩ := hrel
        have XR := Lib.hid hx
        have YR := Lib.hid hy
        have BR := Lib.hid hb
        clear hx hy hb X2 Y2 B2
        by_cases h15 : k < 15
        · have k15 : (k : Int) < 15 := by omega
          have k0 : 0 ≤ (k : Int) := by omega
          have HL := Lib.hid (nxK_le (217 + k) (show 1 ≤ 32767 by omega))
          have HN := Lib.hid (nxK_succ (217 + k) 1)
          have HA := Lib.hid (lp_at h15)
          have HT := Lib.hid (lpK_set h15)
          generalize nxK (217 + k) 1 = s at HL HN HA ⊢
          obtain ⟨q, hq⟩ : ∃ q, (15 - k) % 15 = q := ⟨_, rfl⟩
          have hm : ((15 : Int) - (k : Int)).tmod 15 = (q : Int) := by rw [Int.tmod_eq_emod_of_nonneg (by omega)]; omega
          have q15 : (q : Int) < 15 := by omega
          have q0 : 0 ≤ (q : Int) := by omega
          have hqn : q < 15 := by omega
          have YS : Hid (Box (wr.setCell ⟨g, q, none⟩ (.int .i64 (s : Int))) g 52 (iv (lpK (k + 1)))) := by
            rw [← HT.out, ← HA.out, ← ivSetZ, hq]
            exact Lib.hid (YR.out.set q _)
          have c0 := lp_cell YR.out hqn
          have g0 := YR.out.frozen q
          clear hq HA HT
          go_wp2_with fail
          refine (im_step s HL.out _).mono ?_; rintro e w' ⟨rfl, rfl⟩
          go_wp2_with fail
          go_roundw
          case rel => exact ⟨k + 1, by omega, by rw [show 217 + (k + 1) = 217 + k + 1 by omega, HN.out], by go_num, XR.out.far (by have := HG.out; omega) _, YS.out, BR.out.setCell (Nat.le_of_lt HG.out) _⟩
          case measure => simp [intOf]; omega
        · obtain rfl : k = 15 := by omega
          go_wp2_with (first | (refine sa_load ty_leap (by rfl) _ rfl g 0 rfl _ (iv (lpK 15)) (iv (lpK 15)) YR.out (by simp [lpK_len]) (fun j v h => by simpa using h) ?_) | (refine sa_store ty_leap (by rfl) _ _ rfl w.heap.size rfl _ (iv (lpK 0)) (iv (lpK 15)) rfl XR.out (by simp [lpK_len]) (by simp [lpK_len]) (iv_all _) ?_))
          have RF : Hid (Box (wr.setRow w.heap.size (iv (lpK 15)).toArray) w.heap.size 52 (iv (lpK 15))) := Box.row XR.out
          exact bodyPost_ret (v := .agg (iv (lpK 15)).toArray) (arr_ret ty_leap rfl rfl RF.out (by simp [lpK_len])) rfl ⟨rfl, below_row BR.out (Nat.le_refl _) _⟩
end Go.Proofs.Ytkglocdmpfjafaa
