/- Backgrounds as plain data: tests, pixels, lines, shifts. -/
import Derived.Test.YtfbpnneegenhgaaTilA
namespace Go.Proofs.Ytfbpnneegenhgaa
open Go.ChangeShapes Go.WideShapes Go.ChangeAt Go.RowKit
set_option linter.unusedVariables false

/-- A background: its width, its table, its number of tiles, their pixels one after another, its shifts. -/
structure Fld where
  w : Int
  xs : List Int
  nt : Nat
  zs : List Int
  sx : Int
  sy : Int
/-- The pixels of one tile. -/
def tl (zs : List Int) (k : Nat) : List Int := (zs.drop (64 * k)).take 64
theorem tl_len {zs : List Int} {n k : Nat} (h : zs.length = 64 * n) (hk : k < n) : (tl zs k).length = 64 := by unfold tl; rw [List.length_take, List.length_drop]; omega
theorem tl_get (zs : List Int) (k j : Nat) (h : j < 64) : (tl zs k).getD j 0 = zs.getD (64 * k + j) 0 := by
  unfold tl
  rw [List.getD_eq_getElem?_getD, List.getD_eq_getElem?_getD, List.getElem?_take, if_pos h, List.getElem?_drop]
theorem tls_yes {zs : List Int} {n : Nat} (h : zs.length = 64 * n) (k : ∀ i, i < n → tilB (tl zs i) = true) : tilB zs = true := by
  rw [tilB_iff]
  intro i hi
  have := (tilB_iff.1 (k (i / 64) (by omega))) (i % 64) (by rw [tl_len h (by omega)]; omega)
  rwa [tl_get _ _ _ (by omega), show 64 * (i / 64) + i % 64 = i by omega] at this
theorem tls_one {zs : List Int} {n : Nat} (h : zs.length = 64 * n) (k : tilB zs = true) (i : Nat) (hi : i < n) : tilB (tl zs i) = true := by
  rw [tilB_iff]
  intro j hj
  rw [tl_len h hi] at hj
  rw [tl_get _ _ _ hj]
  exact tilB_iff.1 k _ (by omega)
theorem tls_no {zs : List Int} {n : Nat} (h : zs.length = 64 * n) (i : Nat) (hi : i < n) (k : tilB (tl zs i) = false) : tilB zs = false := by
  cases e : tilB zs
  · rfl
  · rw [tls_one h e i hi] at k; cases k
/-- All numbers are numbers of n tiles. -/
def knownB (n : Nat) (xs : List Int) : Bool := xs.all fun x => betB x 0 ((n : Int) - 1)
theorem knownB_iff {n : Nat} {xs : List Int} : knownB n xs = true ↔ ∀ i, i < xs.length → betB (xs.getD i 0) 0 ((n : Int) - 1) = true := by
  unfold knownB
  rw [List.all_eq_true]
  constructor
  · intro h i hi
    rw [List.getD_eq_getElem?_getD, List.getElem?_eq_getElem hi]
    exact h _ (List.getElem_mem hi)
  · intro h x hx
    obtain ⟨i, hi, rfl⟩ := List.mem_iff_getElem.1 hx
    have := h i hi
    rwa [List.getD_eq_getElem?_getD, List.getElem?_eq_getElem hi] at this
theorem knownB_no {n : Nat} {xs : List Int} (i : Nat) (hi : i < xs.length) (h : betB (xs.getD i 0) 0 ((n : Int) - 1) = false) : knownB n xs = false := by
  cases e : knownB n xs
  · rfl
  · rw [knownB_iff.1 e i hi] at h; cases h
/-- The table's shape: w columns, n numbers. -/
def tblB (w : Int) (n : Nat) : Bool := betB w 1 8 && decide ((n : Int) % w = 0) && betB ((n : Int) / w) 1 8
theorem betB_iff {a l h : Int} : betB a l h = true ↔ l ≤ a ∧ a ≤ h := by simp [betB]
theorem tblB_iff {w : Int} {n : Nat} : tblB w n = true ↔ (1 ≤ w ∧ w ≤ 8) ∧ (n : Int) % w = 0 ∧ (1 ≤ (n : Int) / w ∧ (n : Int) / w ≤ 8) := by
  unfold tblB
  simp [betB_iff, and_assoc]
def fldB (F : Fld) : Bool := tblB F.w F.xs.length && betB F.nt 1 16 && betB F.sx 0 255 && betB F.sy 0 255 && tilB F.zs && knownB F.nt F.xs
/-- What is known of a valid background. -/
structure FOk (F : Fld) : Prop where
  w1 : 1 ≤ F.w
  w8 : F.w ≤ 8
  rem : (F.xs.length : Int) % F.w = 0
  r1 : 1 ≤ (F.xs.length : Int) / F.w
  r8 : (F.xs.length : Int) / F.w ≤ 8
  n1 : 1 ≤ F.nt
  n16 : F.nt ≤ 16
  x0 : 0 ≤ F.sx
  x1 : F.sx ≤ 255
  y0 : 0 ≤ F.sy
  y1 : F.sy ≤ 255
  px : tilB F.zs = true
  known : knownB F.nt F.xs = true
theorem fldB_iff {F : Fld} : fldB F = true ↔ FOk F := by
  unfold fldB
  simp only [Bool.and_eq_true, tblB_iff, betB_iff]
  constructor
  · rintro ⟨⟨⟨⟨⟨⟨⟨a, b⟩, c, d, e⟩, f, g⟩, h, i⟩, j, k⟩, l⟩, m⟩
    exact ⟨a, b, c, d, e, by omega, by omega, h, i, j, k, l, m⟩
  · rintro ⟨a, b, c, d, e, f, g, h, i, j, k, l, m⟩
    exact ⟨⟨⟨⟨⟨⟨⟨a, b⟩, c, d, e⟩, by omega, by omega⟩, h, i⟩, j, k⟩, l⟩, m⟩
/-- The number of rows. -/
def Fld.rw_ (F : Fld) : Int := (F.xs.length : Int) / F.w
/-- The place of a pixel in the table, and in a tile. -/
def atX (F : Fld) (x : Int) : Int := (x + F.sx) % (8 * F.w)
def atY (F : Fld) (y : Int) : Int := (y + F.sy) % (8 * F.rw_)
def cellN (F : Fld) (x y : Int) : Int := atY F y / 8 * F.w + atX F x / 8
def partN (F : Fld) (x y : Int) : Int := atY F y % 8 * 8 + atX F x % 8
def tileN (F : Fld) (x y : Int) : Int := F.xs.getD (cellN F x y).toNat 0
def pixF (F : Fld) (x y : Int) : Int := F.zs.getD (64 * tileN F x y + partN F x y).toNat 0
theorem mul8 (a w : Int) (ha : 0 ≤ a) (k : Int) (hk : a < k) (hw : 0 ≤ w) : a * w + w ≤ k * w := by
  have := Int.mul_le_mul_of_nonneg_right (show a + 1 ≤ k by omega) hw
  rw [Int.add_mul, Int.one_mul] at this
  exact this
theorem FOk.rows {F : Fld} (h : FOk F) : F.rw_ * F.w = F.xs.length ∧ 1 ≤ F.rw_ ∧ F.rw_ ≤ 8 := by
  refine ⟨?_, h.r1, h.r8⟩
  have := Int.mul_ediv_add_emod (F.xs.length : Int) F.w
  rw [h.rem] at this
  unfold Fld.rw_
  rw [Int.mul_comm]; omega
theorem atX_b {F : Fld} (h : FOk F) (x : Int) : 0 ≤ atX F x ∧ atX F x < 8 * F.w := by
  have := h.w1
  exact ⟨Int.emod_nonneg _ (by omega), Int.emod_lt_of_pos _ (by omega)⟩
theorem atY_b {F : Fld} (h : FOk F) (y : Int) : 0 ≤ atY F y ∧ atY F y < 8 * F.rw_ := by
  have := h.rows.2.1
  exact ⟨Int.emod_nonneg _ (by omega), Int.emod_lt_of_pos _ (by omega)⟩
theorem cellN_b {F : Fld} (h : FOk F) (x y : Int) : 0 ≤ cellN F x y ∧ cellN F x y < F.xs.length := by
  obtain ⟨hl, r1, r8⟩ := h.rows
  obtain ⟨a0, a1⟩ := atX_b h x
  obtain ⟨b0, b1⟩ := atY_b h y
  have w1 := h.w1
  unfold cellN
  have p : 0 ≤ atY F y / 8 := by omega
  have q := mul8 (atY F y / 8) F.w p F.rw_ (by omega) (by omega)
  have q2 := Int.mul_nonneg p (show 0 ≤ F.w by omega)
  constructor <;> omega
theorem partN_b {F : Fld} (h : FOk F) (x y : Int) : 0 ≤ partN F x y ∧ partN F x y < 64 := by
  obtain ⟨a0, a1⟩ := atX_b h x
  obtain ⟨b0, b1⟩ := atY_b h y
  unfold partN
  omega
theorem tileN_b {F : Fld} (h : FOk F) (x y : Int) : 0 ≤ tileN F x y ∧ tileN F x y < F.nt := by
  obtain ⟨a, b⟩ := cellN_b h x y
  have := betB_iff.1 (knownB_iff.1 h.known (cellN F x y).toNat (by omega))
  unfold tileN
  omega
theorem pixF_b {F : Fld} (h : FOk F) (hz : F.zs.length = 64 * F.nt) (x y : Int) : 0 ≤ pixF F x y ∧ pixF F x y ≤ 3 := by
  obtain ⟨a, b⟩ := tileN_b h x y
  obtain ⟨c, d⟩ := partN_b h x y
  exact betB_iff.1 (tilB_iff.1 h.px _ (by rw [hz]; omega))
def pixT (F : Fld) (x y : Int) : Int := if (fldB F && betB x 0 31 && betB y 0 15) = true then pixF F x y else -1
def lineF (F : Fld) (y : Int) : List Int := (List.range 32).map fun x : Nat => pixF F x y
def lineT (F : Fld) (y : Int) : List Int := if (fldB F && betB y 0 15) = true then lineF F y else []
theorem lineF_len (F : Fld) (y : Int) : (lineF F y).length = 32 := by simp [lineF]
theorem lineF_get (F : Fld) (y : Int) (k : Nat) (h : k < 32) : (lineF F y).getD k 0 = pixF F k y := by
  unfold lineF
  rw [List.getD_eq_getElem?_getD, List.getElem?_map, List.getElem?_range h]
  rfl
def Fld.zero : Fld := ⟨0, [], 0, [], 0, 0⟩
def shF (F : Fld) (dx dy : Int) : Fld := ⟨F.w, F.xs, F.nt, F.zs, (F.sx + dx) % (8 * F.w), (F.sy + dy) % (8 * F.rw_)⟩
def shT (F : Fld) (dx dy : Int) : Fld := if (fldB F && betB dx (-255) 255 && betB dy (-255) 255) = true then shF F dx dy else Fld.zero
/-- The remainder as Go takes it, made positive. -/
theorem wrap_mod (a w : Int) (hw : 0 < w) : (a.tmod w + w).tmod w = a % w := by
  have h1 := Int.emod_nonneg a (show w ≠ 0 by omega)
  have h2 := Int.emod_lt_of_pos a hw
  have h3 : a.tmod w = a % w ∨ a.tmod w = a % w - w := by
    rw [Int.tmod_eq_emod]
    split
    · left; omega
    · right; omega
  rcases h3 with h3 | h3
  · rw [h3, Int.tmod_eq_emod_of_nonneg (by omega), Int.add_emod_right, Int.emod_emod_of_dvd _ (Int.dvd_refl w)]
  · rw [h3, show a % w - w + w = a % w by omega, Int.tmod_eq_emod_of_nonneg h1, Int.emod_emod_of_dvd _ (Int.dvd_refl w)]
theorem shF_ok {F : Fld} (h : FOk F) (dx dy : Int) : FOk (shF F dx dy) := by
  have w1 := h.w1
  have w8 := h.w8
  obtain ⟨hl, r1, r8⟩ := h.rows
  have a1 := Int.emod_nonneg (F.sx + dx) (show 8 * F.w ≠ 0 by omega)
  have a2 := Int.emod_lt_of_pos (F.sx + dx) (show 0 < 8 * F.w by omega)
  have b1 := Int.emod_nonneg (F.sy + dy) (show 8 * F.rw_ ≠ 0 by omega)
  have b2 := Int.emod_lt_of_pos (F.sy + dy) (show 0 < 8 * F.rw_ by omega)
  exact ⟨h.w1, h.w8, h.rem, h.r1, h.r8, h.n1, h.n16, a1, by show (F.sx + dx) % (8 * F.w) ≤ 255; omega, b1, by show (F.sy + dy) % (8 * F.rw_) ≤ 255; omega, h.px, h.known⟩
theorem mod_in (a b m : Int) : (a % m + b) % m = (a + b) % m := by rw [Int.add_emod, Int.emod_emod_of_dvd _ (Int.dvd_refl m), ← Int.add_emod]
theorem mod_in2 (a b m : Int) : (a + b % m) % m = (a + b) % m := by rw [Int.add_comm a, mod_in, Int.add_comm b]
theorem pix_eq {F G : Fld} (hw : F.w = G.w) (hx : F.xs = G.xs) (hz : F.zs = G.zs) {x y u v : Int} (h1 : atX F x = atX G u) (h2 : atY F y = atY G v) : pixF F x y = pixF G u v := by
  unfold pixF tileN partN cellN
  rw [h1, h2, hw, hx, hz]
theorem shF_shF (F : Fld) (a b c d : Int) : shF (shF F a b) c d = shF F (a + c) (b + d) := by
  have e : (shF F a b).rw_ = F.rw_ := rfl
  show Fld.mk F.w F.xs F.nt F.zs (((F.sx + a) % (8 * F.w) + c) % (8 * F.w)) (((F.sy + b) % (8 * (shF F a b).rw_) + d) % (8 * (shF F a b).rw_)) = _
  rw [e, mod_in, mod_in, Int.add_assoc, Int.add_assoc]
  rfl
theorem shF_back (F : Fld) (x y : Int) : pixF (shF F 0 0) x y = pixF F x y := by
  obtain ⟨w, xs, nt, zs, sx, sy⟩ := F
  have h1 : atX (shF ⟨w, xs, nt, zs, sx, sy⟩ 0 0) x = atX ⟨w, xs, nt, zs, sx, sy⟩ x := by
    unfold atX shF
    simp only [Int.add_zero]
    exact mod_in2 x sx (8 * w)
  have h2 : atY (shF ⟨w, xs, nt, zs, sx, sy⟩ 0 0) y = atY ⟨w, xs, nt, zs, sx, sy⟩ y := by
    unfold atY shF Fld.rw_
    simp only [Int.add_zero]
    exact mod_in2 y sy _
  unfold pixF tileN partN cellN
  rw [h1, h2]
  rfl
theorem fldB_sh {F : Fld} (h : fldB F = true) (dx dy : Int) : fldB (shF F dx dy) = true := fldB_iff.2 (shF_ok (fldB_iff.1 h) dx dy)
theorem shT_yes {F : Fld} {dx dy : Int} (h : fldB F = true) (h1 : betB dx (-255) 255 = true) (h2 : betB dy (-255) 255 = true) : shT F dx dy = shF F dx dy := by unfold shT; rw [h, h1, h2]; rfl
theorem lineT_yes {F : Fld} {y : Int} (h : fldB F = true) (h1 : betB y 0 15 = true) : lineT F y = lineF F y := by unfold lineT; rw [h, h1]; rfl
theorem pixT_yes {F : Fld} {x y : Int} (h : fldB F = true) (h1 : betB x 0 31 = true) (h2 : betB y 0 15 = true) : pixT F x y = pixF F x y := by unfold pixT; rw [h, h1, h2]; rfl
theorem fldB_prog (F : Fld) : fldB F = (betB F.sx 0 255 && betB F.sy 0 255 && (tblB F.w F.xs.length && knownB F.nt F.xs && (decide (F.nt ≤ 16) && tilB F.zs))) := by
  rw [Bool.eq_iff_iff]
  constructor
  · intro h
    have k := fldB_iff.1 h
    have ht : tblB F.w F.xs.length = true := tblB_iff.2 ⟨⟨k.w1, k.w8⟩, k.rem, k.r1, k.r8⟩
    rw [betB_iff.2 ⟨k.x0, k.x1⟩, betB_iff.2 ⟨k.y0, k.y1⟩, ht, k.known, decide_eq_true k.n16, k.px]
    rfl
  · intro h
    simp only [Bool.and_eq_true, decide_eq_true_eq] at h
    obtain ⟨⟨a, b⟩, ⟨c, d⟩, e, f⟩ := h
    obtain ⟨⟨w1, w8⟩, rem, r1, r8⟩ := tblB_iff.1 c
    obtain ⟨x0, x1⟩ := betB_iff.1 a
    obtain ⟨y0, y1⟩ := betB_iff.1 b
    have hl : 0 < F.xs.length := by
      rcases Nat.eq_zero_or_pos F.xs.length with h0 | h0
      · rw [h0] at r1; simp at r1
      · exact h0
    have hk := betB_iff.1 (knownB_iff.1 d 0 hl)
    exact fldB_iff.2 ⟨w1, w8, rem, r1, r8, by omega, e, x0, x1, y0, y1, f, d⟩
theorem fldB_spec (F : Fld) : fldB F = (tblB F.w F.xs.length && betB F.nt 1 16 && betB F.sx 0 255 && betB F.sy 0 255 && tilB F.zs && knownB F.nt F.xs) := rfl
/-- The pixels to the right of one within its tile. -/
theorem pix_right {F : Fld} (h : FOk F) (x y : Int) (j : Nat) (hj : atX F x % 8 + j < 8) : pixF F (x + j) y = F.zs.getD (64 * tileN F x y + partN F x y + j).toNat 0 := by
  obtain ⟨a0, a1⟩ := atX_b h x
  have e : atX F (x + j) = atX F x + j := by
    unfold atX at *
    rw [show x + (j : Int) + F.sx = (x + F.sx) + j by omega, ← mod_in, Int.emod_eq_of_lt (by omega) (by omega)]
  have c : cellN F (x + j) y = cellN F x y := by
    unfold cellN
    rw [e, show (atX F x + (j : Int)) / 8 = atX F x / 8 by omega]
  have p : partN F (x + j) y = partN F x y + j := by
    unfold partN
    rw [e]; omega
  unfold pixF tileN
  rw [c, p, Int.add_assoc]
/-- How many pixels there are from one to its tile's right edge; which. -/
def runN (F : Fld) (x : Int) : Nat := (8 - atX F x % 8).toNat
def runF (F : Fld) (x y : Int) : List Int := (List.range (runN F x)).map fun j : Nat => pixF F (x + j) y
theorem runF_len (F : Fld) (x y : Int) : (runF F x y).length = runN F x := by simp [runF]
theorem runF_get (F : Fld) (x y : Int) (j : Nat) (h : j < runN F x) : (runF F x y).getD j 0 = pixF F (x + j) y := by
  unfold runF
  rw [List.getD_eq_getElem?_getD, List.getElem?_map, List.getElem?_range h]
  rfl
theorem runN_b (F : Fld) (x : Int) : 1 ≤ runN F x ∧ runN F x ≤ 8 := by unfold runN; omega
end Go.Proofs.Ytfbpnneegenhgaa
