/- Marks in a slice of texts are found again. -/
import Derived.Test.YtmdldoofljdakaaDoorStrK
import Derived.Deep.RegionHeld3
import Derived.Deep.DeepCutAuto
namespace Go.Proofs.YtmdldoofljdakaaDoor
open Go.ChangeShapes Go.WideShapes Go.ChangeAt Go.RowKit

set_option maxHeartbeats 1000000 in
theorem held_strs (A : Option Addr) (n c k0 : Nat) (fp : List Nat) (w : World) (ha : Strs w A n (marks k0 n) fp) (hn : n ≤ 1048576) (h0 : 0 < k0) (h1 : k0 ≤ 1000) :
    Calls Tryd.prog 38 #[.slice A n c, .int .i64 k0] w fun e w' => e = .returned (.int .i64 ((k0 : Int) + n)) ∧ Below w.heap.size w w' := by
  have HA := Lib.hid ha
  clear ha
  go_enter Tryd.func38, Tryd.ntmps38
  go_wp2
  go_loopw [1, 5] (fun q i wr => ∃ (k : Nat), k ≤ n ∧ i = .int .i64 k ∧ q = .int .i64 ((k0 + k : Nat) : Int) ∧ Below w.heap.size w wr) (fun _ i _ => n - (intOf i).toNat)
  case atStart => exact ⟨0, Nat.zero_le _, rfl, rfl, Below.refl _ _⟩
  case round =>
    obtain ⟨k, hk, rfl, rfl, hb⟩ := hrel
    have HB := Lib.hid hb
    clear hb
    by_cases hlt : k < n
    · obtain ⟨p, o, rfl, _, hp, hc⟩ := (HA.out.below HB.out).at_ (by omega)
      have c1 := hc k hlt
      rw [marks_at _ _ _ hlt] at c1
      clear hc
      obtain ⟨K, hK⟩ : ∃ K : Nat, K = k0 + k := ⟨_, rfl⟩
      rw [← hK] at c1 ⊢
      have HK := Lib.hid hK
      have hK0 : 0 < K := by omega
      have hK1 : K ≤ 2000000 := by omega
      clear hK
      obtain ⟨T, hT⟩ : ∃ T, T = markT K := ⟨_, rfl⟩
      rw [← hT] at c1
      have HT := Lib.hid hT
      clear hT
      have HMk := Lib.hid (fun w' => mark_text K hK0 (by omega) w')
      rw [← HT.out] at HMk
      have K1 : Hid (wr.cell? ⟨p, o + k, none⟩ = some (.string T)) := c1
      have K1d : Hid (wr.drew.cell? ⟨p, o + k, none⟩ = some (.string T)) := c1
      go_upto_region 4 with (fail)
      go_region_held3 (fun w' => w'.cell? ⟨p, o + k, none⟩ = some (.string T))
        (first
          | (with_reducible exact K1.out)
          | (with_reducible exact K1d.out)
          | (with_reducible exact K2.out)
          | go_keep)
        (first
          | (go_at_call 60; ((with_reducible refine (HMk.out _).mono ?_)); rintro e w2 ⟨rfl, b2⟩; have K2 : Hid (w2.cell? ⟨p, o + k, none⟩ = some (.string T)) := (b2.cell (p := ⟨p, o + k, none⟩) (by simpa using hp)).trans c1; have B2 := Lib.hid (HB.out.drew.trans (b2.mono (by have := HB.out.size; simpa using this))); clear b2))
      all_goals
        go_wp2
        go_roundw
        case rel => exact ⟨k + 1, by omega, by go_num, by rw [HK.out]; go_num, B2.out⟩
        case measure => simp [intOf]; omega
    · obtain rfl : k = n := by omega
      go_wp2
      go_ret
      exact ⟨by simp, HB.out⟩
end Go.Proofs.YtmdldoofljdakaaDoor
