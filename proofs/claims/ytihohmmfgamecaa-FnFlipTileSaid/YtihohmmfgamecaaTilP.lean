/- A tile's bytes: the model's function. -/
import Derived.Test.YtihohmmfgamecaaTilU
import Derived.Test.YtihohmmfgamecaaGrow
namespace Go.Proofs.Ytihohmmfgamecaa
open Go.ChangeShapes Go.WideShapes Go.ChangeAt Go.RowKit
set_option linter.unusedVariables false

theorem lone_cell (w : World) (u : Int) : Ints (w.alloc (.cells #[.int .i64 u] 3)) (some ⟨w.heap.size, 0, none⟩) 1 [u] [w.heap.size] := by
  refine ⟨rfl, .inr ⟨by omega, w.heap.size, 0, rfl, rfl, by simp, fun i hi => ?_⟩⟩
  obtain rfl : i = 0 := by omega
  rw [World.cell?_alloc_new]
  rfl
/-- The first x digits of the k-th byte of a tile. -/
def plane (px : List Int) (k : Nat) : Nat → Int
  | 0 => 0
  | x + 1 => 2 * plane px k x + px.getD (k % 8 * 8 + x) 0 / 2 ^ (k / 8) % 2
theorem plane_bd (px : List Int) (k : Nat) : ∀ x, 0 ≤ plane px k x ∧ plane px k x < 2 ^ x
  | 0 => by simp [plane]
  | x + 1 => by
    have ih := plane_bd px k x
    have e : (2 : Int) ^ (x + 1) = 2 * 2 ^ x := by rw [Int.pow_succ]; omega
    unfold plane
    omega
theorem plane_255 (px : List Int) (k x : Nat) (hx : x ≤ 8) : 0 ≤ plane px k x ∧ plane px k x ≤ 255 := by
  obtain ⟨h0, h1⟩ := plane_bd px k x
  have h2 : (2 : Int) ^ x ≤ 2 ^ 8 := by
    have := Nat.pow_le_pow_right (show 0 < 2 by omega) hx
    exact_mod_cast this
  omega
def bytT (px : List Int) : List Int := (List.range 16).map fun k => plane px k 8
theorem bytT_len (px : List Int) : (bytT px).length = 16 := by simp [bytT]
theorem bytT_get (px : List Int) (k : Nat) (hk : k < 16) : (bytT px).getD k 0 = plane px k 8 := by
  unfold bytT
  rw [List.getD_eq_getElem?_getD, List.getElem?_map, List.getElem?_range hk]
  rfl
theorem bytT_take (px : List Int) (k : Nat) (hk : k < 16) : (bytT px).take (k + 1) = (bytT px).take k ++ [plane px k 8] := by
  rw [List.take_succ_eq_append_getElem (by rw [bytT_len]; exact hk)]
  congr 2
  have := bytT_get px k hk
  rwa [List.getD_eq_getElem?_getD, List.getElem?_eq_getElem (by rw [bytT_len]; exact hk)] at this
/-- The bytes of a valid tile; none of another. -/
def bytesT (px : List Int) : List Int := if tilB px = true then bytT px else []
set_option maxHeartbeats 4000000 in
theorem spec_bytes (px : List Int) (hp : px.length = 64) (w : World) : Calls Try.prog 24 #[tilV px] w (Copied (bytesT px) (bytesT px).length w) := by
  go_enter Try.func24, Try.ntmps24
  go_wp2_with fail
  obtain ⟨w1, hw1⟩ : ∃ w1, w1 = (w.alloc (.cells (iv px).toArray 25)).alloc (.cells #[] 3) := ⟨_, rfl⟩
  have X1 : Hid (Box w1 w.heap.size 25 (iv px)) := by rw [hw1]; exact (Box.new w _ _).alloc _
  have E1 : Hid (w1.ownsRow (w.heap.size + 1) 3 1 (.slice (some ⟨w.heap.size + 1, 0, none⟩) 0 0) 0 []) := by
    rw [hw1]
    have h := own_empty (w.alloc (.cells (iv px).toArray 25)) 3 (w.heap.size + 1) (by simp)
    exact Lib.hid (by simpa using h)
  have B1 : Hid (Below w.heap.size w w1) := by rw [hw1]; exact below2 w _ _
  rw [← hw1]
  clear hw1
  by_cases hv : tilB px = true
  · have HV := Lib.hid hv
    have HR := Lib.hid (show bytesT px = bytT px from if_pos hv)
    go_loopw [3, 4] (fun v i wr => ∃ (k : Nat) (A2 : Option Addr) (d2 : Nat), k ≤ 16 ∧ i = .int .i64 k ∧ v = .slice A2 k d2 ∧ wr.ownsRow (w.heap.size + 1) 3 1 v k (iv ((bytT px).take k)) ∧ Box wr w.heap.size 25 (iv px) ∧ Below w.heap.size w wr) (fun _ i _ => 16 - (intOf i).toNat)
    case atStart => exact ⟨0, _, _, by omega, rfl, rfl, E1.out, X1.out, B1.out⟩
    case round =>
      obtain ⟨k, A2, d2, hk, rfl, rfl, ho, hx, hb⟩ := hrel
      have OR := Lib.hid ho
      have XR := Lib.hid hx
      have BR := Lib.hid hb
      clear ho hx hb X1 E1 B1
      by_cases h16 : k < 16
      · have i16 : (k : Int) < 16 := by omega
        have k0 : 0 ≤ (k : Int) := by omega
        go_wp2_with (refine st_load (by rfl) _ rfl _ rfl px hp XR.out ?_)
        refine (spec_tileValid px hp _).mono ?_; rintro e w2 ⟨rfl, b2⟩
        rw [HV.out]
        have X2 := Lib.hid (XR.out.below b2)
        have O2 := Lib.hid (own_keep OR.out b2)
        have B2 := Lib.hid (below_then BR.out b2)
        clear b2 XR OR BR
        go_wp2_with fail
        obtain ⟨q, r, hq, hr, q2, r8, hq', hr'⟩ : ∃ q r : Nat, (k : Int) / 8 = q ∧ (k : Int) % 8 = r ∧ q < 2 ∧ r < 8 ∧ k / 8 = q ∧ k % 8 = r := ⟨k / 8, k % 8, by omega, by omega, by omega, by omega, rfl, rfl⟩
        have HQ := Lib.hid (And.intro hq' hr')
        clear hq' hr'
        go_loopw [5, 6] (fun u j wr => ∃ x : Nat, x ≤ 8 ∧ u = .int .i64 (plane px k x) ∧ j = .int .i64 x ∧ wr = w2) (fun _ j _ => 8 - (intOf j).toNat)
        case atStart => exact ⟨0, by omega, rfl, rfl, rfl⟩
        case round =>
          obtain ⟨x, hx8, rfl, rfl, rfl⟩ := hrel
          obtain ⟨p0, p1⟩ := plane_255 px k x hx8
          by_cases h8 : x < 8
          · have i8 : (x : Int) < 8 := by omega
            have x0 : 0 ≤ (x : Int) := by omega
            obtain ⟨s, hs⟩ : ∃ s, s = r * 8 + x := ⟨_, rfl⟩
            have s64 : s < 64 := by omega
            have s64' : (s : Int) < 64 := by omega
            have s0 : 0 ≤ (s : Int) := by omega
            have e3 : (r : Int) * 8 + x = s := by omega
            have c0 := til_cell X2.out s (by omega)
            obtain ⟨y0, y1⟩ := til_px hp hv s s64
            obtain ⟨y, hy⟩ : ∃ y, px.getD s 0 = y := ⟨_, rfl⟩
            have HN : Hid (plane px k (x + 1) = 2 * plane px k x + y / 2 ^ q % 2) := by
              rw [← hy, hs, ← HQ.out.1, ← HQ.out.2]; exact Lib.hid rfl
            rw [hy] at c0 y0 y1
            clear hy hs hv
            obtain ⟨n, hn⟩ : ∃ n, plane px k x = n := ⟨_, rfl⟩
            rw [hn] at p0 p1 HN ⊢
            clear hn
            have hy4 : y = 0 ∨ y = 1 ∨ y = 2 ∨ y = 3 := by omega
            have hq2 : q = 0 ∨ q = 1 := by omega
            rcases hq2 with rfl | rfl <;> rcases hy4 with rfl | rfl | rfl | rfl
            all_goals
              go_wp2_with fail
              go_roundw
              case rel => exact ⟨x + 1, by omega, by rw [HN.out]; simp, by go_num, trivial⟩
              case measure => simp [intOf]; omega
          · obtain rfl : x = 8 := by omega
            clear h8
            have HB := Lib.hid (bytT_take px k h16)
            generalize plane px k 8 = n at p0 p1 HB ⊢
            have hx1 : w.heap.size + 1 ≤ wr.heap.size := X2.out.lt
            have O3 := Lib.hid (own_keep O2.out (below1 wr (.cells #[.int .i64 n] 3)))
            have I3 : Hid (Ints (wr.alloc (.cells #[.int .i64 n] 3)) (some ⟨wr.heap.size, 0, none⟩) 1 [n] [wr.heap.size]) := lone_cell wr n
            have X3 := Lib.hid (X2.out.alloc (.cells #[.int .i64 n] 3))
            have B3 := Lib.hid (B2.out.alloc B2.out.size (.cells #[.int .i64 n] 3))
            have hb1 : w.heap.size + 1 ≤ (wr.alloc (.cells #[.int .i64 n] 3)).heap.size := by simp; omega
            go_wp2_with (at_builtin; refine wpList_append_ints rfl _ _ rfl (w.heap.size + 1) _ k _ rfl O3.out _ _ _ [n] _ rfl I3.out (by omega) hb1 ?_; intro v' w5 own5 gr5 _; obtain ⟨A3, d3, _, rfl, _⟩ := own_ints own5; have b5 := below_grown (Below.refl (w.heap.size + 1) _) gr5 hb1 (fun b hb => (own_lt O3.out b hb).1); have X5 := Lib.hid (X3.out.keep b5 (by omega)); have B5 := Lib.hid (B3.out.trans (b5.mono (by omega))); have O5 := Lib.hid own5; clear own5 gr5 b5 X3 B3 O3 I3)
            go_roundw
            case rel => exact ⟨k + 1, _, _, by omega, by go_num, rfl, by rw [HB.out]; exact O5.out, X5.out, B5.out⟩
            case measure => simp [intOf]; omega
      · obtain rfl : k = 16 := by omega
        have OF : Hid (Copied (bytesT px) (bytesT px).length w (.returned (.slice A2 16 d2)) wr) := by
          have h := OR.out
          rw [List.take_of_length_le (by rw [bytT_len]; omega)] at h
          rw [HR.out, bytT_len]
          exact copied_own (by
            obtain ⟨h1, h2⟩ := h
            exact ⟨h1, by
              rcases h2 with h2 | ⟨g, cap, cur, a, b, c⟩
              · exact .inl h2
              · exact .inr ⟨g, cap, cur, a, by omega, c⟩⟩) BR.out
        go_wp2_with fail
        go_ret
        exact OF.out
  · have HV := Lib.hid (show tilB px = false by simpa using hv)
    have HR := Lib.hid (show bytesT px = [] from if_neg hv)
    clear hv
    go_loopw [3, 4] (fun v i wr => v = .slice (some ⟨w.heap.size + 1, 0, none⟩) 0 0 ∧ i = .int .i64 0 ∧ wr = w1) (fun _ _ _ => 0)
    case atStart => exact ⟨rfl, rfl, rfl⟩
    case round =>
      obtain ⟨rfl, rfl, rfl⟩ := hrel
      go_wp2_with (refine st_load (by rfl) _ rfl _ rfl px hp X1.out ?_)
      refine (spec_tileValid px hp _).mono ?_; rintro e w2 ⟨rfl, b2⟩
      rw [HV.out]
      have B2 := Lib.hid (below_then B1.out b2)
      clear b2 X1 B1
      go_wp2_with fail
      go_ret
      rw [HR.out]
      show Copied [] 0 w _ _
      exact ⟨_, 0, [], rfl, by omega, Ints.nil _ _, .nil _ _, B2.out⟩
end Go.Proofs.Ytihohmmfgamecaa
