/- A drawn tile. -/
import Derived.Test.YtfbpnneegenhgaaTilB
import Derived.Test.YtfbpnneegenhgaaGC
import Derived.Test.YtfbpnneegenhgaaRowIn
import Derived.Deep.DeepCutAuto
namespace Go.Proofs.Ytfbpnneegenhgaa
open Go.ChangeShapes Go.WideShapes Go.ChangeAt Go.RowKit
set_option linter.unusedVariables false

/-- All pixels are in l..h. -/
def PxIn (l h : Int) (px : List Int) : Prop := px.length = 64 ∧ ∀ i, i < 64 → l ≤ px.getD i 0 ∧ px.getD i 0 ≤ h
theorem PxIn.z64 : PxIn 0 3 z64 := ⟨z64_len, fun i _ => by rw [z64_get]; omega⟩
theorem PxIn.mono {l h l' h' : Int} {px : List Int} (p : PxIn l h px) (hl : l' ≤ l) (hh : h ≤ h') : PxIn l' h' px := ⟨p.1, fun i hi => by have := p.2 i hi; omega⟩
theorem PxIn.set {l h : Int} {px : List Int} (p : PxIn l h px) (k : Nat) (v : Int) (v0 : l ≤ v) (v1 : v ≤ h) : PxIn l h (px.set k v) := by
  refine ⟨by rw [List.length_set]; exact p.1, fun i hi => ?_⟩
  have hp := p.2 i hi
  rw [List.getD_eq_getElem?_getD, List.getElem?_set]
  by_cases e : k = i
  · rw [if_pos e]
    by_cases hk : k < px.length
    · rw [if_pos hk]; exact ⟨v0, v1⟩
    · have := p.1; omega
  · rw [if_neg e, ← List.getD_eq_getElem?_getD]; exact hp
theorem iv_put (px : List Int) (i : Nat) (v : Int) : (iv px).set i (.int .i64 v) = iv (px.set i v) := by simp [List.map_set]
theorem two_4 (v : Int) (d0 : 0 ≤ v) (d1 : v < 2) : ∃ u : Int, (#[Value.int .i64 (-1), .int .i64 4] : Array Value)[v.toNat]? = some (.int .i64 u) ∧ -1 ≤ u ∧ u ≤ 4 := by
  have h : v = 0 ∨ v = 1 := by omega
  rcases h with rfl | rfl <;> exact ⟨_, rfl, by omega, by omega⟩
theorem odd_le (q m : Nat) (n : Int) (w : World) (h : Rd w q m) (hm : m ≤ 1000000) (hn : 0 ≤ n) (hn2 : n ≤ 1000000) : Calls Try.prog 51 #[.pointer (some ⟨q, 0, none⟩), .int .i64 n] w (Odded q m w) := by
  by_cases h0 : n = 0
  · subst h0
    refine (odd_zero q w).mono ?_
    rintro e w' ⟨rfl, rfl⟩
    exact ⟨false, rfl, Sole.refl _ _, h.mono (by omega)⟩
  · exact odd_any q m n w h (by omega) (by omega) (by omega)
/-- What drawing a tile leaves. -/
def TilDrawn (q m : Nat) (w : World) (e : Ending) (w' : World) : Prop := ∃ px, PxIn (-1) 4 px ∧ e = .returned (tilV px) ∧ Only [q] w w' ∧ Rd w' q (m + 140)
end Go.Proofs.Ytfbpnneegenhgaa
