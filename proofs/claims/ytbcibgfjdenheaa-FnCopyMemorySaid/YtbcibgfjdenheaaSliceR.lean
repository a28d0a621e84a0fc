/- The laws' own functions on slices of slices of integers. -/
import Derived.Test.YtbcibgfjdenheaaSliceE
namespace Go.Proofs.Ytbcibgfjdenheaa
open Go.ChangeShapes Go.WideShapes Go.ChangeAt Go.RowKit

theorem Ints.drawn {w w' : World} {A : Option Addr} {n : Nat} {xs : List Int} {fp : List Nat} (h : Ints w A n xs fp) (k : ∃ m, w' = w.drewN m) : Ints w' A n xs fp := by
  obtain ⟨m, rfl⟩ := k
  exact h
theorem Grid.drawn {w w' : World} {A : Option Addr} {n : Nat} {xs : List (List Int)} {fp : List Nat} (h : Grid w A n xs fp) (k : ∃ m, w' = w.drewN m) : Grid w' A n xs fp := by
  obtain ⟨m, rfl⟩ := k
  exact h
theorem drawn_more {w w' : World} (k : ∃ m, w' = w.drewN m) (n : Nat) : ∃ m, w'.drewN n = w.drewN m := by
  obtain ⟨m, rfl⟩ := k
  exact ⟨m + n, World.drewN_drewN ..⟩
theorem drawn_below {w w' : World} (k : ∃ m, w' = w.drewN m) : Below w.heap.size w w' := by
  obtain ⟨m, rfl⟩ := k
  exact below_drewN (Below.refl _ _) _
theorem eq_rows (A B : Option Addr) (n c d : Nat) (rs : List (List Int)) (fa fb : List Nat) (w : World) (ha : Grid w A n rs fa) (hb : Grid w B n rs fb) (hn : n ≤ 1000000000) (hs : ∀ i, (rs.getD i []).length ≤ 1000000000) :
    Calls Try.prog 49 #[.slice A n c, .slice B n d] w fun e w' => e = .returned (.bool true) ∧ ∃ m, w' = w.drewN m := by
  have HA := Lib.hid ha
  have HB := Lib.hid hb
  have HS := Lib.hid hs
  clear ha hb hs
  go_enter Try.func49, Try.ntmps49
  go_wp2
  go_loopw [5] (fun i wr => ∃ k : Nat, k ≤ n ∧ i = .int .i64 k ∧ ∃ m, wr = w.drewN m) (fun i _ => n - (intOf i).toNat)
  case atStart => exact ⟨0, Nat.zero_le _, rfl, 0, rfl⟩
  case round =>
    obtain ⟨k, hk, rfl, hq⟩ := hrel
    have HQ := Lib.hid hq
    clear hq
    by_cases hlt : k < n
    · obtain ⟨p, o, a, m, e, fr, rfl, _, c1, _, i1, _⟩ := (HA.out.drawn HQ.out).row hlt
      obtain ⟨q, u, a', m', e', fr', rfl, _, c2, _, i2, _⟩ := (HB.out.drawn HQ.out).row hlt
      obtain rfl : m = m' := by have := i1.1; have := i2.1; omega
      have hm : m ≤ 1000000000 := by have := i1.1; have := HS.out k; omega
      have I1 := Lib.hid i1
      have I2 := Lib.hid i2
      clear i1 i2
      go_wp2
      go_quiet ((go_at_call 48; exact Calls.quiet_of (eq_ints _ _ _ _ _ _ _ _ _ (by exact I1.out) (by exact I2.out) hm)))
      go_wp2
      go_roundw
      case rel => exact ⟨k + 1, by omega, by go_num, drawn_more HQ.out _⟩
      case measure => simp [intOf]; omega
    · go_wp2
      go_ret
      exact ⟨rfl, HQ.out⟩
theorem same_rows (A B : Option Addr) (n c d : Nat) (rs : List (List Int)) (fa fb : List Nat) (w : World) (ha : Grid w A n rs fa) (hb : Grid w B n rs fb) (hn : n ≤ 1000000000) (hs : ∀ i, (rs.getD i []).length ≤ 1000000000) :
    Calls Try.prog 33 #[.slice A n c, .slice B n d] w fun e w' => e = .returned (.bool true) ∧ ∃ m, w' = w.drewN m := by
  have HA := Lib.hid ha
  have HB := Lib.hid hb
  have HS := Lib.hid hs
  clear ha hb hs
  go_enter Try.func33, Try.ntmps33
  go_wp2
  go_loopw [5] (fun i wr => ∃ k : Nat, k ≤ n ∧ i = .int .i64 k ∧ ∃ m, wr = w.drewN m) (fun i _ => n - (intOf i).toNat)
  case atStart => exact ⟨0, Nat.zero_le _, rfl, 0, rfl⟩
  case round =>
    obtain ⟨k, hk, rfl, hq⟩ := hrel
    have HQ := Lib.hid hq
    clear hq
    by_cases hlt : k < n
    · obtain ⟨p, o, a, m, e, fr, rfl, _, c1, _, i1, _⟩ := (HA.out.drawn HQ.out).row hlt
      obtain ⟨q, u, a', m', e', fr', rfl, _, c2, _, i2, _⟩ := (HB.out.drawn HQ.out).row hlt
      obtain rfl : m = m' := by have := i1.1; have := i2.1; omega
      have hm : m ≤ 1000000000 := by have := i1.1; have := HS.out k; omega
      have I1 := Lib.hid i1
      have I2 := Lib.hid i2
      clear i1 i2
      go_wp2
      go_quiet ((go_at_call 32; exact Calls.quiet_of (same_ints _ _ _ _ _ _ _ _ _ (by exact I1.out) (by exact I2.out) hm)))
      go_wp2
      go_roundw
      case rel => exact ⟨k + 1, by omega, by go_num, drawn_more HQ.out _⟩
      case measure => simp [intOf]; omega
    · go_wp2
      go_ret
      exact ⟨rfl, HQ.out⟩

/-- How many numbers there are in all rows. -/
def sumLen (rs : List (List Int)) : Nat := (rs.map List.length).sum
theorem sumLen_take (rs : List (List Int)) (i : Nat) (h : i < rs.length) : sumLen (rs.take (i + 1)) = sumLen (rs.take i) + (rs.getD i []).length := by
  have e : rs.getD i [] = rs[i] := by simp [List.getD, List.getElem?_eq_getElem h]
  unfold sumLen
  rw [e, List.take_succ_eq_append_getElem h, List.map_append, List.sum_append]
  simp only [List.map_cons, List.map_nil, List.sum_cons, List.sum_nil, Nat.add_zero]
theorem sumLen_le (rs : List (List Int)) (i : Nat) : sumLen (rs.take i) ≤ sumLen rs := by
  unfold sumLen
  rw [List.map_take]
  have := List.sum_append (l₁ := (rs.map List.length).take i) (l₂ := (rs.map List.length).drop i)
  rw [List.take_append_drop] at this
  omega
theorem sumLen_row (rs : List (List Int)) (i : Nat) : (rs.getD i []).length ≤ sumLen rs := by
  by_cases h : i < rs.length
  · have := sumLen_take rs i h
    have := sumLen_le rs (i + 1)
    omega
  · simp [List.getD, List.getElem?_eq_none (Nat.le_of_not_lt h)]
theorem sumLen_whole (rs : List (List Int)) (n : Nat) (h : rs.length = n) : sumLen (rs.take n) = sumLen rs := by
  rw [List.take_of_length_le (by omega)]

/-- What counting leaves: a negative number, or what is left. -/
def Sized (n : Nat) (rs : List (List Int)) (left : Int) (w : World) (e : Ending) (w' : World) : Prop :=
  ∃ v : Int, e = .returned (.int .i64 v) ∧ w = w' ∧ (v < 0 ∨ (0 ≤ v ∧ v = left - n - sumLen rs))
theorem sz_rows (A : Option Addr) (n c : Nat) (left : Int) (rs : List (List Int)) (fa : List Nat) (w : World) (ha : Grid w A n rs fa) (hn : n ≤ 9223372036854775807) (hs : ∀ i, (rs.getD i []).length ≤ 9223372036854775807) (h0 : -1 ≤ left) (h1 : left ≤ 1000000000) :
    Calls Try.prog 45 #[.slice A n c, .int .i64 left] w (Sized n rs left w) := by
  have HA := Lib.hid ha
  have HS := Lib.hid hs
  clear ha hs
  by_cases h : left < n
  · go_enter Try.func45, Try.ntmps45
    go_wp2
    go_ret
    exact ⟨-1, rfl, rfl, .inl (by omega)⟩
  · go_enter Try.func45, Try.ntmps45
    go_wp2
    go_loop [1, 5] (fun q i => ∃ (k : Nat) (l : Int), k ≤ n ∧ i = .int .i64 k ∧ q = .int .i64 l ∧ 0 ≤ l ∧ l = left - n - sumLen (rs.take k)) (fun _ i => n - (intOf i).toNat)
    case atStart => exact ⟨0, _, Nat.zero_le _, rfl, rfl, by omega, by simp [sumLen]⟩
    case round =>
      obtain ⟨k, l, hk, rfl, rfl, l0, hl⟩ := hrel
      have HL := Lib.hid hl
      have l1 : l ≤ 1000000000 := by omega
      clear hl
      by_cases hlt : k < n
      · obtain ⟨p, o, a, m, e, fr, rfl, _, c1, _, i1, _⟩ := HA.out.row hlt
        have I1 := Lib.hid i1
        have hm : m ≤ 9223372036854775807 := by have := i1.1; have := HS.out k; omega
        clear i1
        by_cases hml : (m : Int) ≤ l
        · go_wp2_with fail
          refine (sz_ints_yes _ _ _ _ _ hml l1).mono ?_; rintro e w' ⟨rfl, rfl⟩
          go_wp2_with fail
          go_round
          case rel => exact ⟨k + 1, _, by omega, by go_num, rfl, by omega, by rw [sumLen_take _ _ (by have := HA.out.len; omega)]; have := HL.out; have := I1.out.1; omega⟩
          case measure => simp [intOf]; omega
        · go_wp2_with fail
          refine (sz_ints_no _ _ _ _ _ (by omega) (by omega) hm).mono ?_; rintro e w' ⟨rfl, rfl⟩
          go_wp2_with fail
          go_ret
          exact ⟨-1, rfl, rfl, .inl (by omega)⟩
      · obtain rfl : k = n := by omega
        go_wp2
        go_ret
        exact ⟨l, rfl, rfl, .inr ⟨l0, by have := HL.out; rw [sumLen_whole _ _ HA.out.len] at this; exact this⟩⟩
end Go.Proofs.Ytbcibgfjdenheaa
