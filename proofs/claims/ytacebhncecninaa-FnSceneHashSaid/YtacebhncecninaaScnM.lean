/- Pictures as plain data: a scene's pixels, lines, number. -/
import Derived.Test.YtacebhncecninaaGB
namespace Go.Proofs.Ytacebhncecninaa
open Go.ChangeShapes Go.WideShapes Go.ChangeAt Go.RowKit
set_option linter.unusedVariables false

/-- The test of a scene. -/
def scnB (F : Fld) (S : List Spr) : Bool := fldB F && sprB S F.nt F.zs
/-- A pixel of the background and one of the sprites. -/
def mixF (F : Fld) (S : List Spr) (x y : Int) : Option Nat → Int
  | none => pixF F x y
  | some k => if ((S.getD k .zero).bh && decide (pixF F x y ≠ 0)) = true then pixF F x y else 4 + valF (S.getD k .zero) F.zs x y
theorem mixF_some (F : Fld) (S : List Spr) (x y : Int) (k : Nat) : mixF F S x y (some k) = if ((S.getD k .zero).bh && decide (pixF F x y ≠ 0)) = true then pixF F x y else 4 + valF (S.getD k .zero) F.zs x y := rfl
def scF (F : Fld) (S : List Spr) (x y : Int) : Int := mixF F S x y (atF S F.zs x y)
def scT (F : Fld) (S : List Spr) (x y : Int) : Int := if (scnB F S && betB x 0 31 && betB y 0 15) = true then scF F S x y else -1
def scL (F : Fld) (S : List Spr) (y : Int) : List Int := (List.range 32).map fun x : Nat => scF F S x y
def scLT (F : Fld) (S : List Spr) (y : Int) : List Int := if (scnB F S && betB y 0 15) = true then scL F S y else []
/-- The number of a picture: of some pixels, of the first lines, of all. -/
def hashS (n p : Int) : Int := (31 * n + p) % 65521
def hashL (n : Int) (l : List Int) : Int := l.foldl hashS n
theorem hashL_nil (n : Int) : hashL n [] = n := rfl
theorem hashL_cons (n p : Int) (l : List Int) : hashL n (p :: l) = hashL (hashS n p) l := rfl
theorem hashL_append (n : Int) (l r : List Int) : hashL n (l ++ r) = hashL (hashL n l) r := by unfold hashL; exact List.foldl_append ..
attribute [irreducible] hashS hashL
def hashN (F : Fld) (S : List Spr) : Nat → Int
  | 0 => 1
  | k + 1 => hashL (hashN F S k) (scL F S (k : Int))
def hashT (F : Fld) (S : List Spr) : Int := if scnB F S = true then hashN F S 16 else -1
theorem scT_yes {F : Fld} {S : List Spr} {x y : Int} (h : scnB F S = true) (h1 : betB x 0 31 = true) (h2 : betB y 0 15 = true) : scT F S x y = scF F S x y := by unfold scT; rw [h, h1, h2]; rfl
theorem scLT_yes {F : Fld} {S : List Spr} {y : Int} (h : scnB F S = true) (h2 : betB y 0 15 = true) : scLT F S y = scL F S y := by unfold scLT; rw [h, h2]; rfl
theorem scLT_no {F : Fld} {S : List Spr} {y : Int} (h : (scnB F S && betB y 0 15) = false) : scLT F S y = [] := by unfold scLT; rw [h]; rfl
theorem scL_len (F : Fld) (S : List Spr) (y : Int) : (scL F S y).length = 32 := by simp [scL]
theorem scL_get (F : Fld) (S : List Spr) (y : Int) (k : Nat) (h : k < 32) : (scL F S y).getD k 0 = scF F S k y := by
  unfold scL
  rw [List.getD_eq_getElem?_getD, List.getElem?_map, List.getElem?_range h]
  rfl
theorem scL_take (F : Fld) (S : List Spr) (y : Int) (k : Nat) (h : k < 32) : (scL F S y).take (k + 1) = (scL F S y).take k ++ [scF F S k y] := by
  rw [List.take_succ_eq_append_getElem (by rw [scL_len]; exact h)]
  have := scL_get F S y k h
  rw [List.getD_eq_getElem?_getD, List.getElem?_eq_getElem (by rw [scL_len]; exact h)] at this
  rw [show (scL F S y)[k]'(by rw [scL_len]; exact h) = scF F S k y from this]
/-- A pixel's bounds. -/
theorem mixF_b {F : Fld} {S : List Spr} (hz : F.zs.length = 64 * F.nt) (h : scnB F S = true) (x y : Int) (o : Option Nat) (ho : ∀ k, o = some k → k < S.length) : 0 ≤ mixF F S x y o ∧ mixF F S x y o ≤ 7 := by
  have hh : fldB F = true ∧ sprB S F.nt F.zs = true := by unfold scnB at h; rwa [Bool.and_eq_true] at h
  have hp := pixF_b (fldB_iff.1 hh.1) hz x y
  cases o with
  | none => exact ⟨hp.1, by show pixF F x y ≤ 7; omega⟩
  | some k =>
    have hv := valF_b (s := S.getD k .zero) hz (sprB_iff.1 hh.2).1 ((sprB_iff.1 hh.2).2.1 k (ho k rfl)) x y
    rw [mixF_some]
    generalize valF (S.getD k .zero) F.zs x y = v at hv ⊢
    split <;> omega
theorem scF_b {F : Fld} {S : List Spr} (hz : F.zs.length = 64 * F.nt) (h : scnB F S = true) (x y : Int) : 0 ≤ scF F S x y ∧ scF F S x y ≤ 7 :=
  mixF_b hz h x y _ fun k hk => (onN_mem.1 (List.mem_of_mem_take (atF_some hk).1)).1
/-- Without sprites. -/
theorem onF_nil (y : Int) : onF [] y = [] := rfl
theorem scF_nil (F : Fld) (x y : Int) : scF F [] x y = pixF F x y := rfl
theorem scL_nil (F : Fld) (y : Int) : scL F [] y = lineF F y := rfl
theorem sprB_nil {F : Fld} (h : fldB F = true) : sprB [] F.nt F.zs = true := by
  have hk := fldB_iff.1 h
  have hb := fldB_spec F
  rw [h] at hb
  have hb := hb.symm
  simp only [Bool.and_eq_true] at hb
  have hn := betB_iff.1 hb.1.1.1.1.2
  exact sprB_iff.2 ⟨hb.1.2, fun i hi => by simp at hi, by simp, by omega⟩
theorem scnB_nil (F : Fld) : scnB F [] = fldB F := by
  unfold scnB
  cases h : fldB F
  · rfl
  · rw [sprB_nil h]; rfl
theorem scnB_minus (F : Fld) {s : Spr} (hs : s.n = -1) : scnB F [s] = false := by
  unfold scnB
  have : sprB [s] F.nt F.zs = false := by
    cases e : sprB [s] F.nt F.zs
    · rfl
    · have := (sprB_iff.1 e).2.1 0 (by simp)
      simp [sprOk, hs, betB] at this
  rw [this, Bool.and_false]
/-- The number's bounds, step by step. -/
theorem hashL_b : ∀ (l : List Int) (n : Int), 0 ≤ n ∧ n ≤ 65520 → (∀ p, p ∈ l → 0 ≤ p) → 0 ≤ hashL n l ∧ hashL n l ≤ 65520
  | [], n, h, _ => by rw [hashL_nil]; exact h
  | p :: l, n, h, hp => by
    rw [hashL_cons]
    exact hashL_b l (hashS n p) (by have := hp p (List.mem_cons_self ..); unfold hashS; omega) fun q hq => hp q (List.mem_cons_of_mem _ hq)
theorem hashL_take (n : Int) (l : List Int) (k : Nat) (h : k < l.length) : hashL n (l.take (k + 1)) = hashS (hashL n (l.take k)) (l.getD k 0) := by
  rw [List.take_succ_eq_append_getElem h, hashL_append, List.getD_eq_getElem?_getD, List.getElem?_eq_getElem h, hashL_cons, hashL_nil]
  rfl
theorem hashN_step (F : Fld) (S : List Spr) (k : Nat) : hashN F S (k + 1) = hashL (hashN F S k) (scL F S (k : Int)) := by rw [hashN]
theorem hashN_zero (F : Fld) (S : List Spr) : hashN F S 0 = 1 := by rw [hashN]
attribute [irreducible] hashN
theorem hashN_b {F : Fld} {S : List Spr} (hz : F.zs.length = 64 * F.nt) (h : scnB F S = true) : ∀ k, 0 ≤ hashN F S k ∧ hashN F S k ≤ 65520
  | 0 => by rw [hashN_zero]; omega
  | k + 1 => by
    rw [hashN_step]
    refine hashL_b _ _ (hashN_b hz h k) fun p hp => ?_
    obtain ⟨x, _, rfl⟩ := List.mem_map.1 hp
    exact (scF_b hz h _ _).1
theorem hash_same {F G : Fld} {S R : List Spr} (h : ∀ x y : Nat, x < 32 → y < 16 → scF F S x y = scF G R x y) : hashN F S 16 = hashN G R 16 := by
  have h1 : ∀ k, k ≤ 16 → hashN F S k = hashN G R k := by
    intro k
    induction k with
    | zero => intro _; rw [hashN_zero, hashN_zero]
    | succ k ih =>
      intro hk
      rw [hashN_step, hashN_step, ih (by omega)]
      congr 1
      unfold scL
      refine List.map_congr_left fun x hx => ?_
      rw [List.mem_range] at hx
      exact h x k hx (by omega)
  exact h1 16 (Nat.le_refl _)
/-- A background that is shifted by its size. -/
theorem shF_size (F : Fld) (x y : Int) : pixF (shF F (8 * F.w) 0) x y = pixF F x y := by
  obtain ⟨w, xs, nt, zs, sx, sy⟩ := F
  have h1 : atX (shF ⟨w, xs, nt, zs, sx, sy⟩ (8 * w) 0) x = atX ⟨w, xs, nt, zs, sx, sy⟩ x := by
    unfold atX shF
    show (x + (sx + 8 * w) % (8 * w)) % (8 * w) = (x + sx) % (8 * w)
    rw [mod_in2, ← Int.add_assoc, Int.add_emod_right]
  have h2 : atY (shF ⟨w, xs, nt, zs, sx, sy⟩ (8 * w) 0) y = atY ⟨w, xs, nt, zs, sx, sy⟩ y := by
    unfold atY shF Fld.rw_
    simp only [Int.add_zero]
    exact mod_in2 y sy _
  unfold pixF tileN partN cellN
  show (shF ⟨w, xs, nt, zs, sx, sy⟩ (8 * w) 0).zs.getD _ 0 = _
  rw [h1, h2]
  rfl
theorem scF_size (F : Fld) (S : List Spr) (x y : Int) : scF (shF F (8 * F.w) 0) S x y = scF F S x y := by
  unfold scF
  show mixF (shF F (8 * F.w) 0) S x y (atF S F.zs x y) = _
  cases atF S F.zs x y with
  | none => exact shF_size F x y
  | some k =>
    rw [mixF_some, mixF_some, shF_size]
    rfl
theorem scnB_size {F : Fld} {S : List Spr} (h : scnB F S = true) : scnB (shF F (8 * F.w) 0) S = true := by
  unfold scnB at *
  rw [Bool.and_eq_true] at *
  exact ⟨fldB_sh h.1 _ _, h.2⟩
theorem fldB_w {F : Fld} (h : fldB F = true) : 1 ≤ F.w ∧ F.w ≤ 8 := by
  have hb := fldB_spec F
  rw [h] at hb
  have hb := hb.symm
  simp only [Bool.and_eq_true] at hb
  exact (tblB_iff.1 hb.1.1.1.1.1).1
/-- A sprite outside the picture. -/
theorem onF_out {S : List Spr} {s : Spr} {y : Int} (h : betB (y - s.y) 0 7 = false) : onF (S ++ [s]) y = onF S y := by
  unfold onF allF
  rw [List.length_append]
  have hc : covB (S ++ [s]) y S.length = false := by
    unfold covB
    rw [List.getD_eq_getElem?_getD, List.getElem?_append_right (Nat.le_refl _)]
    simpa using h
  show ((onN (S ++ [s]) y (S.length + 1)).take 4) = _
  rw [onN_no hc, onN_more (Nat.le_refl _)]
theorem scF_out {F : Fld} {S : List Spr} {s : Spr} {x y : Int} (h : betB (y - s.y) 0 7 = false) : scF F (S ++ [s]) x y = scF F S x y := by
  have hm : ∀ j, j ∈ onF S y → (S ++ [s]).getD j .zero = S.getD j .zero := fun j hj => by
    have := (onN_mem.1 (List.mem_of_mem_take hj)).1
    rw [List.getD_eq_getElem?_getD, List.getElem?_append_left this, ← List.getD_eq_getElem?_getD]
  have e : atF (S ++ [s]) F.zs x y = atF S F.zs x y := by
    unfold atF
    rw [onF_out h]
    exact find_same _ fun j hj => by rw [hm j hj]
  unfold scF
  rw [e]
  cases hk : atF S F.zs x y with
  | none => rfl
  | some k => rw [mixF_some, mixF_some, hm k (atF_some hk).1]
theorem scnB_more {F : Fld} {S : List Spr} {s : Spr} (h : scnB F S = true) (hl : S.length < 12) (hs : sprOk F.nt s = true) : scnB F (S ++ [s]) = true := by
  unfold scnB at *
  rw [Bool.and_eq_true] at *
  obtain ⟨a1, a2, a3, a4⟩ := sprB_iff.1 h.2
  refine ⟨h.1, sprB_iff.2 ⟨a1, fun i hi => ?_, by rw [List.length_append]; simp; omega, a4⟩⟩
  by_cases hi' : i < S.length
  · rw [List.getD_eq_getElem?_getD, List.getElem?_append_left hi', ← List.getD_eq_getElem?_getD]
    exact a2 i hi'
  · rw [List.length_append] at hi
    simp at hi
    obtain rfl : i = S.length := by omega
    rw [List.getD_eq_getElem?_getD, List.getElem?_append_right (Nat.le_refl _)]
    simpa using hs
/-- Sprites behind a full background. -/
theorem scF_behind {F : Fld} {S : List Spr} {x y : Int} (hb : ∀ k, k < S.length → (S.getD k .zero).bh = true) (hp : pixF F x y ≠ 0) : scF F S x y = pixF F x y := by
  unfold scF
  cases hk : atF S F.zs x y with
  | none => rfl
  | some k =>
    have hks : k < S.length := (onN_mem.1 (List.mem_of_mem_take (atF_some hk).1)).1
    rw [mixF_some, hb k hks]
    simp [hp]
end Go.Proofs.Ytacebhncecninaa
