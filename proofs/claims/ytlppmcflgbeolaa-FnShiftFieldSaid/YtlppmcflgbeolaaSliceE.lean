/- The laws' own functions on slices of integers: the same numbers are equal; a copy is new and reads the same; numbers written in order are found again. -/
import Derived.Test.YtlppmcflgbeolaaHeap
import Derived.Deep.QuietTactic
import Derived.Deep.OwnRows
import Derived.BigQuiet
namespace Go.Proofs.Ytlppmcflgbeolaa
open Go.ChangeShapes Go.WideShapes Go.ChangeAt Go.RowKit

theorem eq_ints (A B : Option Addr) (n c d : Nat) (xs : List Int) (fa fb : List Nat) (w : World) (ha : Ints w A n xs fa) (hb : Ints w B n xs fb) (hn : n ≤ 1000000000) :
    Calls Try.prog 30 #[.slice A n c, .slice B n d] w fun e w' => e = .returned (.bool true) ∧ ∃ m, w' = w.drewN m := by
  have HA := Lib.hid ha
  have HB := Lib.hid hb
  clear ha hb
  go_enter Try.func30, Try.ntmps30
  go_wp2
  go_loopw [5] (fun i wr => ∃ k m : Nat, k ≤ n ∧ i = .int .i64 k ∧ wr = w.drewN m) (fun i _ => n - (intOf i).toNat)
  case atStart => exact ⟨0, 0, Nat.zero_le _, rfl, rfl⟩
  case round =>
    obtain ⟨k, m, hk, rfl, rfl⟩ := hrel
    by_cases hlt : k < n
    · obtain ⟨p, o, rfl, _, _, hc⟩ := HA.out.at_ (by omega)
      obtain ⟨q, u, rfl, _, _, hd⟩ := HB.out.at_ (by omega)
      have c1 := hc k hlt
      have c2 := hd k hlt
      clear hc hd
      generalize xs.getD k 0 = x at c1 c2
      go_wp2
      go_quiet (fail)
      go_wp2
      go_roundw
      case rel => exact ⟨k + 1, _, by omega, by go_num, rfl⟩
      case measure => simp [intOf]; omega
    · go_wp2
      go_ret
      exact ⟨rfl, m, rfl⟩
theorem same_ints (A B : Option Addr) (n c d : Nat) (xs : List Int) (fa fb : List Nat) (w : World) (ha : Ints w A n xs fa) (hb : Ints w B n xs fb) (hn : n ≤ 1000000000) :
    Calls Try.prog 21 #[.slice A n c, .slice B n d] w fun e w' => e = .returned (.bool true) ∧ ∃ m, w' = w.drewN m := by
  have HA := Lib.hid ha
  have HB := Lib.hid hb
  clear ha hb
  go_enter Try.func21, Try.ntmps21
  go_wp2
  go_loopw [5] (fun i wr => ∃ k m : Nat, k ≤ n ∧ i = .int .i64 k ∧ wr = w.drewN m) (fun i _ => n - (intOf i).toNat)
  case atStart => exact ⟨0, 0, Nat.zero_le _, rfl, rfl⟩
  case round =>
    obtain ⟨k, m, hk, rfl, rfl⟩ := hrel
    by_cases hlt : k < n
    · obtain ⟨p, o, rfl, _, _, hc⟩ := HA.out.at_ (by omega)
      obtain ⟨q, u, rfl, _, _, hd⟩ := HB.out.at_ (by omega)
      have c1 := hc k hlt
      have c2 := hd k hlt
      clear hc hd
      generalize xs.getD k 0 = x at c1 c2
      go_wp2
      go_quiet (fail)
      go_wp2
      go_roundw
      case rel => exact ⟨k + 1, _, by omega, by go_num, rfl⟩
      case measure => simp [intOf]; omega
    · go_wp2
      go_ret
      exact ⟨rfl, m, rfl⟩
theorem sz_ints_yes (A : Option Addr) (n c : Nat) (left : Int) (w : World) (h : (n : Int) ≤ left) (hl : left ≤ 1000000000) :
    Calls Try.prog 56 #[.slice A n c, .int .i64 left] w fun e w' => e = .returned (.int .i64 (left - n)) ∧ w = w' := by
  go_enter Try.func56, Try.ntmps56
  go_wp2
  go_ret
  exact ⟨rfl, rfl⟩
theorem sz_ints_no (A : Option Addr) (n c : Nat) (left : Int) (w : World) (h : left < n) (hl : -1 ≤ left) (hn : n ≤ 9223372036854775807) :
    Calls Try.prog 56 #[.slice A n c, .int .i64 left] w fun e w' => e = .returned (.int .i64 (-1)) ∧ w = w' := by
  go_enter Try.func56, Try.ntmps56
  go_wp2
  go_ret
  exact ⟨rfl, rfl⟩

theorem infoInt : (Try.prog.info? 3).map (fun i => (i.zero, i.size, i.bytes)) = some (some (.int .i64 0), 1, 8) := by kernel_rfl
theorem ints_of_row {w : World} {g n : Nat} {t : TypeId} {xs : List Int} {f : Nat → Value} (h : w.rowIs g t n f) (hf : ∀ i, i < n → f i = .int .i64 (xs.getD i 0)) (hl : xs.length = n) (h0 : 0 < n) :
    Ints w (some ⟨g, 0, none⟩) n xs [g] :=
  ⟨hl, .inr ⟨h0, g, 0, rfl, rfl, h.lt, fun i hi => by rw [Nat.zero_add, h.cell hi, hf i hi]⟩⟩
theorem row_step {w : World} {g n k : Nat} {t : TypeId} {xs : List Int} (h : w.rowIs g t n (fun j => .int .i64 (if j < k then xs.getD j 0 else 0))) (v : Int) (hv : v = xs.getD k 0) :
    (w.setCell ⟨g, k, none⟩ (.int .i64 v)).rowIs g t n (fun j => .int .i64 (if j < k + 1 then xs.getD j 0 else 0)) :=
  (h.set k _).congr fun i _ => by
    by_cases h1 : i = k
    · subst h1; rw [if_pos rfl, if_pos (by omega), hv]
    · rw [if_neg h1]
      by_cases h2 : i < k
      · rw [if_pos h2, if_pos (by omega)]
      · rw [if_neg h2, if_neg (by omega)]
/-- What a copy leaves: a slice of its own. -/
def Copied (xs : List Int) (n : Nat) (w : World) (e : Ending) (w' : World) : Prop :=
  ∃ (A : Option Addr) (c : Nat) (fp : List Nat), e = .returned (.slice A n c) ∧ n ≤ c ∧ Ints w' A n xs fp ∧ New w.heap.size w' fp ∧ Below w.heap.size w w'
theorem copied_row {w w' : World} {n k : Nat} {t : TypeId} {xs : List Int} (h : w'.rowIs w.heap.size t n (fun j => .int .i64 (if j < k then xs.getD j 0 else 0))) (hk : n ≤ k) (hl : xs.length = n) (hb : Below w.heap.size w w') :
    Copied xs n w (.returned (.slice (some ⟨w.heap.size, 0, none⟩) n n)) w' := by
  by_cases h0 : n = 0
  · subst h0
    have : xs = [] := List.eq_nil_of_length_eq_zero hl
    subst this
    exact ⟨_, _, [], rfl, Nat.le_refl _, .nil _ _, .nil _ _, hb⟩
  · refine ⟨_, _, [w.heap.size], rfl, Nat.le_refl _, ints_of_row h (fun i hi => by rw [if_pos (by omega)]) hl (by omega), .one (Nat.le_refl _) h.lt h.frozen, hb⟩
theorem to_ints (A : Option Addr) (n c : Nat) (xs : List Int) (fa : List Nat) (w : World) (ha : Ints w A n xs fa) (hn : n ≤ 1000000000) :
    Calls Try.prog 58 #[.slice A n c] w (Copied xs n w) := by
  have HA := Lib.hid ha
  clear ha
  have hmk := Go.run_make_row' (P := Try.prog) 23 3 (.int .i64 0) 8 Try.underlying23 infoInt rfl .i64 .i64 n (by omega) (by omega)
  go_enter Try.func58, Try.ntmps58
  go_wp2
  go_loopw [4] (fun i wr => ∃ k : Nat, k ≤ n ∧ i = .int .i64 k ∧ wr.rowIs w.heap.size 3 n (fun j => .int .i64 (if j < k then xs.getD j 0 else 0)) ∧ Below w.heap.size w wr) (fun i _ => n - (intOf i).toNat)
  case atStart => exact ⟨0, Nat.zero_le _, rfl, by simpa using World.rowIs_made w (.int .i64 0) n 3, (Below.refl _ _).alloc (Nat.le_refl _) _⟩
  case round =>
    obtain ⟨k, hk, rfl, hr, hb⟩ := hrel
    have HR := Lib.hid hr
    have HB := Lib.hid hb
    clear hr hb hmk
    by_cases hlt : k < n
    · obtain ⟨p, o, rfl, _, hp, hc⟩ := HA.out.at_ (by omega)
      have c1 := (HB.out.cell (p := ⟨p, o + k, none⟩) hp).trans (hc k hlt)
      have c2 := HR.out.cell hlt
      have c3 := HR.out.frozen k
      clear hc
      obtain ⟨x, hx⟩ : ∃ x, x = xs.getD k 0 := ⟨_, rfl⟩
      rw [← hx] at c1
      have HX := Lib.hid hx
      clear hx
      rw [if_neg (by omega)] at c2
      go_wp2
      go_roundw
      case rel => exact ⟨k + 1, by omega, by go_num, row_step HR.out x HX.out, HB.out.setCell (Nat.le_refl _) _⟩
      case measure => simp [intOf]; omega
    · go_wp2
      go_ret
      exact copied_row HR.out (by omega) HA.out.1 HB.out

/-- The numbers from k on. -/
def upFrom (k : Int) (n : Nat) : List Int := (List.range n).map fun i : Nat => k + (i : Int)
theorem upFrom_len (k : Int) (n : Nat) : (upFrom k n).length = n := by simp [upFrom]
theorem upFrom_at (k : Int) (n i : Nat) (h : i < n) : (upFrom k n).getD i 0 = k + i := by simp [upFrom, List.getD, h]
theorem list_ext0 (xs ys : List Int) (h : xs.length = ys.length) (k : ∀ i, i < ys.length → xs.getD i 0 = ys.getD i 0) : xs = ys := by
  apply List.ext_getElem h
  intro i h1 h2
  have := k i h2
  simpa [List.getD, List.getElem?_eq_getElem h1, List.getElem?_eq_getElem h2] using this
theorem Ints.set {w : World} {b o n : Nat} {xs : List Int} {fp : List Nat} (h : Ints w (some ⟨b, o, none⟩) n xs fp) {k : Nat} (hk : k < n) (v : Int) : Ints (w.setCell ⟨b, o + k, none⟩ (.int .i64 v)) (some ⟨b, o, none⟩) n (xs.set k v) fp := by
  obtain ⟨hl, ⟨rfl, _⟩ | ⟨hn, b', o', he, rfl, hb, hc⟩⟩ := h
  · omega
  · injection he with he
    injection he with h1 h2 _
    subst h1 h2
    refine ⟨by simpa using hl, .inr ⟨hn, b, o, rfl, rfl, by simpa using hb, fun i hi => ?_⟩⟩
    simp only [List.getD_eq_getElem?_getD, List.getElem?_set]
    by_cases h : k = i
    · subst h
      rw [World.cell?_setCell_same _ _ _ (hc k hk)]
      simp [hl, hk]
    · rw [World.cell?_setCell_other _ _ _ _ (fun e => by injection e; omega), hc i hi, if_neg h]
      simp [List.getD_eq_getElem?_getD]
/-- What writing the numbers from k on leaves. -/
def MarkedI (A : Option Addr) (n : Nat) (k : Int) (fp : List Nat) (w : World) (e : Ending) (w' : World) : Prop :=
  e = .returned (.int .i64 (k + n)) ∧ Only fp w w' ∧ Ints w' A n (upFrom k n) fp ∧ (∀ b ∈ fp, ∀ o, w'.frozen? ⟨b, o, none⟩ = false)
theorem mark_ints (A : Option Addr) (n c : Nat) (k0 : Int) (xs : List Int) (fp : List Nat) (w : World) (ha : Ints w A n xs fp) (hf : ∀ b ∈ fp, ∀ o, w.frozen? ⟨b, o, none⟩ = false) (hn : n ≤ 1000000000) (h0 : 0 ≤ k0) (h1 : k0 ≤ 10000000000) :
    Calls Try.prog 32 #[.slice A n c, .int .i64 k0] w (MarkedI A n k0 fp w) := by
  have HA := Lib.hid ha
  have HF := Lib.hid hf
  clear ha hf
  go_enter Try.func32, Try.ntmps32
  go_wp2
  go_loopw [1, 5] (fun q i wr => ∃ (k : Nat) (cur : List Int), k ≤ n ∧ i = .int .i64 k ∧ q = .int .i64 (k0 + k) ∧ Ints wr A n cur fp ∧ (∀ j, j < k → cur.getD j 0 = k0 + j) ∧ Only fp w wr ∧ (∀ b ∈ fp, ∀ o, wr.frozen? ⟨b, o, none⟩ = false)) (fun _ i _ => n - (intOf i).toNat)
  case atStart => exact ⟨0, xs, Nat.zero_le _, rfl, by simp, HA.out, fun j hj => by omega, Only.refl _ _, HF.out⟩
  case round =>
    obtain ⟨k, cur, hk, rfl, rfl, hr, hm, hb, hf⟩ := hrel
    have HR := Lib.hid hr
    have HM := Lib.hid hm
    have HB := Lib.hid hb
    have HG := Lib.hid hf
    clear hr hb hf hm HA HF
    by_cases hlt : k < n
    · obtain ⟨p, o, rfl, hfp, hp, hc⟩ := HR.out.at_ (by omega)
      have HP := Lib.hid hfp
      have c1 := hc k hlt
      have c2 := HG.out p (by rw [HP.out]; simp) (o + k)
      clear hc hfp
      generalize cur.getD k 0 = x at c1
      go_wp2
      go_roundw
      case rel =>
        have hl := HR.out.1
        refine ⟨k + 1, cur.set k (k0 + k), by omega, by go_num, by go_num, HR.out.set hlt _, fun j hj => ?_, HB.out.setCell (.inl (by rw [HP.out]; simp)) _, fun b hb o' => by rw [World.frozen?_setCell]; exact HG.out b hb o'⟩
        simp only [List.getD_eq_getElem?_getD, List.getElem?_set]
        by_cases hjk : k = j
        · subst hjk; simp [hl, hlt]
        · rw [if_neg hjk, ← List.getD_eq_getElem?_getD]; exact HM.out j (by omega)
      case measure => simp [intOf]; omega
    · obtain rfl : k = n := by omega
      go_wp2
      go_ret
      refine ⟨rfl, HB.out, ?_, HG.out⟩
      have e : cur = upFrom k0 k := list_ext0 _ _ (by rw [upFrom_len]; exact HR.out.1) (fun i hi => by rw [upFrom_len] at hi; rw [upFrom_at _ _ _ hi, HM.out i hi])
      rw [← e]; exact HR.out
theorem held_ints (A : Option Addr) (n c : Nat) (k0 : Int) (fp : List Nat) (w : World) (ha : Ints w A n (upFrom k0 n) fp) (hn : n ≤ 1000000000) (h0 : 0 ≤ k0) (h1 : k0 ≤ 10000000000) :
    Calls Try.prog 33 #[.slice A n c, .int .i64 k0] w fun e w' => e = .returned (.int .i64 (k0 + n)) ∧ w = w' := by
  have HA := Lib.hid ha
  clear ha
  go_enter Try.func33, Try.ntmps33
  go_wp2
  go_loop [1, 5] (fun q i => ∃ (k : Nat), k ≤ n ∧ i = .int .i64 k ∧ q = .int .i64 (k0 + k)) (fun _ i => n - (intOf i).toNat)
  case atStart => exact ⟨0, Nat.zero_le _, rfl, by simp⟩
  case round =>
    obtain ⟨k, hk, rfl, rfl⟩ := hrel
    by_cases hlt : k < n
    · obtain ⟨p, o, rfl, hfp, hp, hc⟩ := HA.out.at_ (by omega)
      have c1 := hc k hlt
      rw [upFrom_at _ _ _ hlt] at c1
      clear hc hfp HA
      go_wp2
      go_round
      case rel => exact ⟨k + 1, by omega, by go_num, by go_num⟩
      case measure => simp [intOf]; omega
    · obtain rfl : k = n := by omega
      go_wp2
      go_ret
      exact ⟨rfl, rfl⟩
end Go.Proofs.Ytlppmcflgbeolaa
