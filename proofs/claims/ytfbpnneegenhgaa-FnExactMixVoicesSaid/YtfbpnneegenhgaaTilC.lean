/- The model's flipped and turned tiles. -/
import Derived.Test.YtfbpnneegenhgaaTilB
namespace Go.Proofs.Ytfbpnneegenhgaa
open Go.ChangeShapes Go.WideShapes Go.ChangeAt Go.RowKit
set_option linter.unusedVariables false

/-- A tile made pixel by pixel: pixel i stands once the round g i has been. -/
def mkT (g : Nat → Nat) (f : Nat → Int) (k : Nat) : List Int := (List.range 64).map fun i => if g i < k then f i else 0
theorem mkT_len (g : Nat → Nat) (f : Nat → Int) (k : Nat) : (mkT g f k).length = 64 := by simp [mkT]
theorem mkT_get (g : Nat → Nat) (f : Nat → Int) (k i : Nat) (hi : i < 64) : (mkT g f k).getD i 0 = if g i < k then f i else 0 := by
  unfold mkT
  rw [List.getD_eq_getElem?_getD, List.getElem?_map, List.getElem?_range hi]
  rfl
theorem mkT_ext {a b : List Int} (ha : a.length = 64) (hb : b.length = 64) (h : ∀ i, i < 64 → a.getD i 0 = b.getD i 0) : a = b := by
  apply List.ext_getElem (by omega)
  intro i h1 h2
  have := h i (by omega)
  rwa [List.getD_eq_getElem?_getD, List.getD_eq_getElem?_getD, List.getElem?_eq_getElem h1, List.getElem?_eq_getElem h2] at this
theorem mkT_zero (g : Nat → Nat) (f : Nat → Int) : mkT g f 0 = z64 :=
  mkT_ext (mkT_len _ _ _) z64_len fun i hi => by rw [mkT_get _ _ _ _ hi, z64_get, if_neg (by omega)]
theorem mkT_set (g : Nat → Nat) (f : Nat → Int) (k p : Nat) (hp : p < 64) (hg : ∀ i, i < 64 → (g i = k ↔ i = p)) : (mkT g f k).set p (f p) = mkT g f (k + 1) := by
  refine mkT_ext (by simp [mkT_len]) (mkT_len _ _ _) fun i hi => ?_
  rw [mkT_get _ _ _ _ hi, List.getD_eq_getElem?_getD, List.getElem?_set]
  have h := hg i hi
  by_cases e : p = i
  · subst e
    have : g p = k := h.2 rfl
    rw [if_pos rfl, if_pos (by rw [mkT_len]; exact hi), if_pos (by omega)]
    rfl
  · have : ¬ g i = k := fun c => e (h.1 c).symm
    rw [if_neg e, ← List.getD_eq_getElem?_getD, mkT_get _ _ _ _ hi]
    by_cases l : g i < k
    · rw [if_pos l, if_pos (by omega)]
    · rw [if_neg l, if_neg (by omega)]
theorem iv_set (px : List Int) (i : Nat) (v : Int) : (iv px).set i (.int .i64 v) = iv (px.set i v) := by simp [List.map_set]
/-- The place that a flip takes pixel k from. -/
def flipP (a d : Bool) (k : Nat) : Nat := 8 * (if d then 7 - k / 8 else k / 8) + (if a then 7 - k % 8 else k % 8)
theorem flipP_lt (a d : Bool) (k : Nat) (h : k < 64) : flipP a d k < 64 := by unfold flipP; split <;> split <;> omega
def flipT (px : List Int) (a d : Bool) : List Int := if tilB px = true then mkT id (fun i => px.getD (flipP a d i) 0) 64 else z64
end Go.Proofs.Ytfbpnneegenhgaa
