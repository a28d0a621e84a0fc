/- Pictures as plain data: a full tile, sprites that are put behind. -/
import Derived.Test.YtacebhncecninaaScnM
namespace Go.Proofs.Ytacebhncecninaa
open Go.ChangeShapes Go.WideShapes Go.ChangeAt Go.RowKit
set_option linter.unusedVariables false

/-- A tile whose first k pixels are not 0. -/
def fullK (k : Nat) : List Int := (List.range 64).map fun i : Nat => if i < k then 1 + (i : Int) % 3 else 0
theorem fullK_len (k : Nat) : (fullK k).length = 64 := by simp [fullK]
theorem fullK_get (k i : Nat) (h : i < 64) : (fullK k)[i]? = some (if i < k then 1 + (i : Int) % 3 else 0) := by
  unfold fullK
  rw [List.getElem?_map, List.getElem?_range h]
  rfl
theorem fullK_zero : fullK 0 = z64 := by rfl
theorem fullK_step (k : Nat) (h : k < 64) : (fullK k).set k (1 + (k : Int) % 3) = fullK (k + 1) := by
  refine List.ext_getElem? fun i => ?_
  by_cases hi : i < 64
  · rw [fullK_get _ i hi, List.getElem?_set]
    by_cases he : k = i
    · subst he
      rw [if_pos rfl, if_pos (by rw [fullK_len]; exact h), if_pos (by omega)]
    · rw [if_neg he, fullK_get _ i hi]
      congr 1
      by_cases h1 : i < k
      · rw [if_pos h1, if_pos (by omega)]
      · rw [if_neg h1, if_neg (by omega)]
  · rw [List.getElem?_eq_none (by rw [List.length_set, fullK_len]; omega), List.getElem?_eq_none (by rw [fullK_len]; omega)]
def fullF : Fld := ⟨1, [0], 1, fullK 64, 0, 0⟩
theorem full_til : tilB (fullK 64) = true := by
  unfold tilB
  rw [List.all_eq_true]
  intro x hx
  obtain ⟨i, hi, rfl⟩ := List.mem_map.1 hx
  rw [List.mem_range] at hi
  rw [if_pos hi]
  exact betB_iff.2 ⟨by omega, by omega⟩
theorem fullF_ok : fldB fullF = true := by
  rw [fldB_spec]
  show (tblB 1 1 && betB ((1 : Nat) : Int) 1 16 && betB 0 0 255 && betB 0 0 255 && tilB (fullK 64) && knownB 1 [0]) = true
  rw [full_til]
  rfl
theorem full_pix (x y : Int) : pixF fullF x y ≠ 0 := by
  have hk := fldB_iff.1 fullF_ok
  have h1 := tileN_b hk x y
  have h2 := partN_b hk x y
  have h3 : ((fullF.nt : Nat) : Int) = 1 := rfl
  rw [h3] at h1
  have e : (64 * tileN fullF x y + partN fullF x y).toNat < 64 := by omega
  unfold pixF
  show (fullK 64).getD _ 0 ≠ 0
  rw [List.getD_eq_getElem?_getD, fullK_get 64 _ e, if_pos e]
  show 1 + _ ≠ (0 : Int)
  omega
/-- Sprites behind the background, of the first tile. -/
def behO (s : Spr) : Spr := ⟨s.x, s.y, 0, s.ac, s.dn, true⟩
def behS (S : List Spr) : List Spr := S.map behO
theorem behS_len (S : List Spr) : (behS S).length = S.length := by simp [behS]
theorem behS_get (S : List Spr) (k : Nat) (h : k < S.length) : (behS S).getD k .zero = behO (S.getD k .zero) := by
  unfold behS
  rw [List.getD_eq_getElem?_getD, List.getElem?_map, List.getElem?_eq_getElem h, List.getD_eq_getElem?_getD, List.getElem?_eq_getElem h]
  rfl
theorem behS_step (S : List Spr) (k : Nat) (h : k < S.length) : behS (S.take (k + 1)) = behS (S.take k) ++ [behO (S.getD k .zero)] := by
  rw [List.take_succ_eq_append_getElem h, behS, List.map_append, List.getD_eq_getElem?_getD, List.getElem?_eq_getElem h]
  rfl
theorem beh_ok {F : Fld} {S : List Spr} (h : scnB F S = true) : scnB fullF (behS S) = true := by
  unfold scnB at *
  rw [Bool.and_eq_true] at *
  obtain ⟨a1, a2, a3, a4⟩ := sprB_iff.1 h.2
  refine ⟨fullF_ok, sprB_iff.2 ⟨full_til, fun i hi => ?_, by rw [behS_len]; exact a3, by show 1 ≤ 16; omega⟩⟩
  rw [behS_len] at hi
  rw [behS_get S i hi]
  have hs := a2 i hi
  unfold sprOk at hs
  simp only [Bool.and_eq_true] at hs
  show (betB (S.getD i .zero).x (-16) 64 && betB (S.getD i .zero).y (-16) 64 && betB 0 0 (((1 : Nat) : Int) - 1)) = true
  rw [hs.1.1, hs.1.2]
  rfl
theorem scL_beh (S : List Spr) (y : Int) : scL fullF (behS S) y = lineF fullF y := by
  unfold scL lineF
  refine List.map_congr_left fun x _ => ?_
  exact scF_behind (fun k hk => by rw [behS_len] at hk; rw [behS_get S k hk]; rfl) (full_pix _ _)
end Go.Proofs.Ytacebhncecninaa
