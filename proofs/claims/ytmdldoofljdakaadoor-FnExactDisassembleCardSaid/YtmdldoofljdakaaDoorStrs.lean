/- Slices of texts: what lies in memory, and the laws' own functions on them. -/
import Derived.Test.YtmdldoofljdakaaDoorOwn
import Derived.Test.YtmdldoofljdakaaDoorTxt
import Derived.Test.YtmdldoofljdakaaDoorNam
namespace Go.Proofs.YtmdldoofljdakaaDoor
open Go.ChangeShapes Go.WideShapes Go.ChangeAt Go.RowKit

/-- The slice with address A and length n holds the texts xs; fp: the block, if there is one. -/
def Strs (w : World) (A : Option Addr) (n : Nat) (xs : List ByteArray) (fp : List Nat) : Prop :=
  xs.length = n ∧ ((n = 0 ∧ fp = []) ∨ (0 < n ∧ ∃ b o, A = some ⟨b, o, none⟩ ∧ fp = [b] ∧ b < w.heap.size ∧ ∀ i, i < n → w.cell? ⟨b, o + i, none⟩ = some (.string (xs.getD i ByteArray.empty))))
theorem Strs.keep {w w' : World} {A : Option Addr} {n : Nat} {xs : List ByteArray} {fp : List Nat} (h : Strs w A n xs fp) (k : Same fp w w') : Strs w' A n xs fp := by
  obtain ⟨hl, h | ⟨hn, b, o, rfl, rfl, hb, hc⟩⟩ := h
  · exact ⟨hl, .inl h⟩
  · have e := k.2 b (by simp) hb
    exact ⟨hl, .inr ⟨hn, b, o, rfl, rfl, Nat.lt_of_lt_of_le hb k.1, fun i hi => (World.cell?_of_block (a := ⟨b, o + i, none⟩) e).trans (hc i hi)⟩⟩
theorem Strs.below {w w' : World} {A : Option Addr} {n : Nat} {xs : List ByteArray} {fp : List Nat} (h : Strs w A n xs fp) (k : Below w.heap.size w w') : Strs w' A n xs fp := h.keep (.of_below k)
theorem Strs.at_ {w : World} {A : Option Addr} {n : Nat} {xs : List ByteArray} {fp : List Nat} (h : Strs w A n xs fp) (hn : 0 < n) :
    ∃ b o, A = some ⟨b, o, none⟩ ∧ fp = [b] ∧ b < w.heap.size ∧ ∀ i, i < n → w.cell? ⟨b, o + i, none⟩ = some (.string (xs.getD i ByteArray.empty)) := by
  obtain ⟨hl, ⟨rfl, _⟩ | ⟨_, h⟩⟩ := h
  · omega
  · exact h
theorem Strs.lt {w : World} {A : Option Addr} {n : Nat} {xs : List ByteArray} {fp : List Nat} (h : Strs w A n xs fp) : ∀ b ∈ fp, b < w.heap.size := by
  obtain ⟨hl, ⟨_, rfl⟩ | ⟨_, b, o, _, rfl, hb, _⟩⟩ := h
  · simp
  · simpa using hb
theorem Strs.nil (w : World) (A : Option Addr) : Strs w A 0 [] [] := ⟨rfl, .inl ⟨rfl, rfl⟩⟩
theorem eq_strs (A B : Option Addr) (n c d : Nat) (xs : List ByteArray) (fa fb : List Nat) (w : World) (ha : Strs w A n xs fa) (hb : Strs w B n xs fb) (hn : n ≤ 1000000000) :
    Calls Tryd.prog 33 #[.slice A n c, .slice B n d] w fun e w' => e = .returned (.bool true) ∧ ∃ m, w' = w.drewN m := by
  have HA := Lib.hid ha
  have HB := Lib.hid hb
  clear ha hb
  go_enter Tryd.func33, Tryd.ntmps33
  go_wp2
  go_loopw [5] (fun i wr => ∃ k m : Nat, k ≤ n ∧ i = .int .i64 k ∧ wr = w.drewN m) (fun i _ => n - (intOf i).toNat)
  case atStart => exact ⟨0, 0, Nat.zero_le _, rfl, rfl⟩
  case round =>
    obtain ⟨k, m, hk, rfl, rfl⟩ := hrel
    by_cases hlt : k < n
    · obtain ⟨p, o, rfl, _, _, hc⟩ := HA.out.at_ (by omega)
      obtain ⟨q, u, rfl, _, _, hd⟩ := HB.out.at_ (by omega)
      have c1 := hc k hlt
      have c2 := hd k hlt
      clear hc hd
      generalize xs.getD k ByteArray.empty = x at c1 c2
      go_wp2
      go_quiet (fail)
      go_wp2
      go_roundw
      case rel => exact ⟨k + 1, _, by omega, by go_num, rfl⟩
      case measure => simp [intOf]; omega
    · go_wp2
      go_ret
      exact ⟨rfl, m, rfl⟩
theorem same_strs (A B : Option Addr) (n c d : Nat) (xs : List ByteArray) (fa fb : List Nat) (w : World) (ha : Strs w A n xs fa) (hb : Strs w B n xs fb) (hn : n ≤ 1000000000) :
    Calls Tryd.prog 25 #[.slice A n c, .slice B n d] w fun e w' => e = .returned (.bool true) ∧ ∃ m, w' = w.drewN m := by
  have HA := Lib.hid ha
  have HB := Lib.hid hb
  clear ha hb
  go_enter Tryd.func25, Tryd.ntmps25
  go_wp2
  go_loopw [5] (fun i wr => ∃ k m : Nat, k ≤ n ∧ i = .int .i64 k ∧ wr = w.drewN m) (fun i _ => n - (intOf i).toNat)
  case atStart => exact ⟨0, 0, Nat.zero_le _, rfl, rfl⟩
  case round =>
    obtain ⟨k, m, hk, rfl, rfl⟩ := hrel
    by_cases hlt : k < n
    · obtain ⟨p, o, rfl, _, _, hc⟩ := HA.out.at_ (by omega)
      obtain ⟨q, u, rfl, _, _, hd⟩ := HB.out.at_ (by omega)
      have c1 := hc k hlt
      have c2 := hd k hlt
      clear hc hd
      generalize xs.getD k ByteArray.empty = x at c1 c2
      go_wp2
      go_quiet (fail)
      go_wp2
      go_roundw
      case rel => exact ⟨k + 1, _, by omega, by go_num, rfl⟩
      case measure => simp [intOf]; omega
    · go_wp2
      go_ret
      exact ⟨rfl, m, rfl⟩
theorem infoStr : (Tryd.prog.info? 9).map (fun i => (i.zero, i.size, i.bytes)) = some (some (.string ⟨#[]⟩), 1, 16) := by kernel_rfl
theorem strs_of_row {w : World} {g n : Nat} {t : TypeId} {xs : List ByteArray} {f : Nat → Value} (h : w.rowIs g t n f) (hf : ∀ i, i < n → f i = .string (xs.getD i ByteArray.empty)) (hl : xs.length = n) (h0 : 0 < n) :
    Strs w (some ⟨g, 0, none⟩) n xs [g] :=
  ⟨hl, .inr ⟨h0, g, 0, rfl, rfl, h.lt, fun i hi => by rw [Nat.zero_add, h.cell hi, hf i hi]⟩⟩
theorem row_stepS {w : World} {g n k : Nat} {t : TypeId} {xs : List ByteArray} (h : w.rowIs g t n (fun j => .string (if j < k then xs.getD j ByteArray.empty else ⟨#[]⟩))) (v : ByteArray) (hv : v = xs.getD k ByteArray.empty) :
    (w.setCell ⟨g, k, none⟩ (.string v)).rowIs g t n (fun j => .string (if j < k + 1 then xs.getD j ByteArray.empty else ⟨#[]⟩)) :=
  (h.set k _).congr fun i _ => by
    by_cases h1 : i = k
    · subst h1; rw [if_pos rfl, if_pos (by omega), hv]
    · rw [if_neg h1]
      by_cases h2 : i < k
      · rw [if_pos h2, if_pos (by omega)]
      · rw [if_neg h2, if_neg (by omega)]
/-- What a copy leaves: a slice of its own. -/
def CopiedS (xs : List ByteArray) (n : Nat) (w : World) (e : Ending) (w' : World) : Prop :=
  ∃ (A : Option Addr) (c : Nat) (fp : List Nat), e = .returned (.slice A n c) ∧ n ≤ c ∧ Strs w' A n xs fp ∧ New w.heap.size w' fp ∧ Below w.heap.size w w'
theorem copied_rowS {w w' : World} {n k : Nat} {t : TypeId} {xs : List ByteArray} (h : w'.rowIs w.heap.size t n (fun j => .string (if j < k then xs.getD j ByteArray.empty else ⟨#[]⟩))) (hk : n ≤ k) (hl : xs.length = n) (hb : Below w.heap.size w w') :
    CopiedS xs n w (.returned (.slice (some ⟨w.heap.size, 0, none⟩) n n)) w' := by
  by_cases h0 : n = 0
  · subst h0
    have : xs = [] := List.eq_nil_of_length_eq_zero hl
    subst this
    exact ⟨_, _, [], rfl, Nat.le_refl _, .nil _ _, .nil _ _, hb⟩
  · refine ⟨_, _, [w.heap.size], rfl, Nat.le_refl _, strs_of_row h (fun i hi => by rw [if_pos (by omega)]) hl (by omega), .one (Nat.le_refl _) h.lt h.frozen, hb⟩
theorem to_strs (A : Option Addr) (n c : Nat) (xs : List ByteArray) (fa : List Nat) (w : World) (ha : Strs w A n xs fa) (hn : n ≤ 1000000000) :
    Calls Tryd.prog 31 #[.slice A n c] w (CopiedS xs n w) := by
  have HA := Lib.hid ha
  clear ha
  have hmk := Go.run_make_row' (P := Tryd.prog) 34 9 (.string ⟨#[]⟩) 16 Tryd.underlying34 infoStr rfl .i64 .i64 n (by omega) (by omega)
  go_enter Tryd.func31, Tryd.ntmps31
  go_wp2
  go_loopw [4] (fun i wr => ∃ k : Nat, k ≤ n ∧ i = .int .i64 k ∧ wr.rowIs w.heap.size 9 n (fun j => .string (if j < k then xs.getD j ByteArray.empty else ⟨#[]⟩)) ∧ Below w.heap.size w wr) (fun i _ => n - (intOf i).toNat)
  case atStart => exact ⟨0, Nat.zero_le _, rfl, by simpa using World.rowIs_made w (.string ⟨#[]⟩) n 9, (Below.refl _ _).alloc (Nat.le_refl _) _⟩
  case round =>
    obtain ⟨k, hk, rfl, hr, hb⟩ := hrel
    have HR := Lib.hid hr
    have HB := Lib.hid hb
    clear hr hb hmk
    by_cases hlt : k < n
    · obtain ⟨p, o, rfl, _, hp, hc⟩ := HA.out.at_ (by omega)
      have c1 := (HB.out.cell (p := ⟨p, o + k, none⟩) hp).trans (hc k hlt)
      have c2 := HR.out.cell hlt
      have c3 := HR.out.frozen k
      clear hc
      obtain ⟨x, hx⟩ : ∃ x, x = xs.getD k ByteArray.empty := ⟨_, rfl⟩
      rw [← hx] at c1
      have HX := Lib.hid hx
      clear hx
      rw [if_neg (by omega)] at c2
      go_wp2
      go_roundw
      case rel => exact ⟨k + 1, by omega, by go_num, row_stepS HR.out x HX.out, HB.out.setCell (Nat.le_refl _) _⟩
      case measure => simp [intOf]; omega
    · go_wp2
      go_ret
      exact copied_rowS HR.out (by omega) HA.out.1 HB.out

end Go.Proofs.YtmdldoofljdakaaDoor
