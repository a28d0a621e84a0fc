/- Noise: the program's leap carried out, the counts filled, the distance. -/
import Derived.Test.YtkglocdmpfjafaaNoiC
namespace Go.Proofs.Ytkglocdmpfjafaa
open Go.ChangeShapes Go.WideShapes Go.ChangeAt Go.RowKit
set_option linter.unusedVariables false

theorem aft_val {S p : Nat} (hs : S ≤ 32767) (hp : p < 15) : bits .xor .i64 (aftK S p : Int) (wrap64 ((leapF p : Int) * bits .and .i64 ((S : Int) / 2 ^ p) 1)) = (aftK S (p + 1) : Int) := by
  have e1 : (S : Int) / 2 ^ p = ((S / 2 ^ p : Nat) : Int) := by
    rw [Int.natCast_ediv, Int.natCast_pow]; rfl
  have hd : S / 2 ^ p ≤ S := Nat.div_le_self _ _
  have hl := leap_le hp
  have ha := aft_le hs p
  have h2 := Nat.mod_two_eq_zero_or_one (S / 2 ^ p)
  have hm : leapF p * (S / 2 ^ p % 2) ≤ 32767 := by rcases h2 with h2 | h2 <;> rw [h2] <;> omega
  rw [e1, and1_i64 _ (by omega), ← Int.natCast_mul, IntWalk.wrap64_in _ (by omega), xor_i64_nat _ _ (by omega) (by omega), aft_step hs hp]
set_option maxRecDepth 100000 in
set_option maxHeartbeats 4000000 in
theorem im_after (S : Nat) (hS : S ≤ 32767) (b : Nat) (w : World) (hb : Box w b 52 (iv (lpK 15))) : Calls Try.prog 37 #[.pointer (some ⟨b, 0, none⟩), .int .i64 (S : Int)] w fun e w' => e = .returned (.int .i64 (nxK 217 S : Nat)) ∧ ∃ m, w' = w.drewN m := by
  have HS := Lib.hid hS
  have HB := Lib.hid hb
  have S0 : 0 ≤ (S : Int) := by omega
  have HE := Lib.hid (aft_all hS)
  clear hS hb
  go_enter Try.func37, Try.ntmps37
  go_wp2_with fail
  go_loopw [5, 9] (fun s i wr => ∃ (k m : Nat), k ≤ 15 ∧ s = .int .i64 (aftK S k : Nat) ∧ i = .int .i64 k ∧ wr = w.drewN m) (fun _ i _ => 15 - (intOf i).toNat)
  case atStart => exact ⟨0, 0, by omega, by rw [aft_none]; rfl, rfl, rfl⟩
  case round =>
    obtain ⟨k, m, hk, rfl, rfl, rfl⟩ := hrel
    by_cases h15 : k < 15
    · have k15 : (k : Int) < 15 := by omega
      have k0 : 0 ≤ (k : Int) := by omega
      have HV := Lib.hid (aft_val HS.out h15)
      have c0 : w.cell? ⟨b, k, none⟩ = some (.int .i64 (leapF k : Int)) := by rw [← lpK_get h15]; exact lp_cell HB.out h15
      generalize (leapF k : Int) = v at HV c0
      go_wp2_with fail
      go_quiet (fail)
      go_wp2_with fail
      go_roundw
      case rel => exact ⟨k + 1, _, by omega, by rw [← HV.out], by go_num, rfl⟩
      case measure => simp [intOf]; omega
    · obtain rfl : k = 15 := by omega
      go_wp2_with fail
      go_ret
      exact ⟨by rw [← HE.out]; rfl, m, rfl⟩
end Go.Proofs.Ytkglocdmpfjafaa
