import Derived.Test.YtacebhncecninaaGA
import Derived.Deep.WholeRow
import Derived.IntWalk
import Derived.Deep.QuietTactic
import Derived.BigQuiet
import Derived.Deep.RegionLaw
import Derived.ChangeKeysEq
import Derived.Lib.SliceRun
import Derived.Deep.MidRow

section
/- Tiles as 64 plain numbers: the tests of the program and of the model. -/
namespace Go.Proofs.Ytacebhncecninaa
open Go.ChangeShapes Go.WideShapes Go.ChangeAt Go.RowKit
set_option linter.unusedVariables false

/-- A tile's value. -/
abbrev tilV (px : List Int) : Value := .agg (iv px).toArray
theorem tilV_lit : (.agg #[.int .i64 1, .int .i64 2] : Value) = tilV [1, 2] := rfl
def tilB (px : List Int) : Bool := px.all fun x => betB x 0 3
theorem tilB_iff {px : List Int} : tilB px = true ↔ ∀ i, i < px.length → betB (px.getD i 0) 0 3 = true := by
  unfold tilB
  rw [List.all_eq_true]
  constructor
  · intro h i hi
    rw [List.getD_eq_getElem?_getD, List.getElem?_eq_getElem hi]
    exact h _ (List.getElem_mem hi)
  · intro h x hx
    obtain ⟨i, hi, rfl⟩ := List.mem_iff_getElem.1 hx
    have := h i hi
    rwa [List.getD_eq_getElem?_getD, List.getElem?_eq_getElem hi] at this
theorem tilB_no {px : List Int} (i : Nat) (hi : i < px.length) (h : betB (px.getD i 0) 0 3 = false) : tilB px = false := by
  cases e : tilB px
  · rfl
  · rw [tilB_iff.1 e i hi] at h; cases h
theorem til_cell {w : World} {b : Nat} {t : TypeId} {px : List Int} (h : Box w b t (iv px)) (i : Nat) (hi : i < px.length) : w.cell? ⟨b, i, none⟩ = some (.int .i64 (px.getD i 0)) := (h.cell i).trans (iv_at px i hi)
set_option maxHeartbeats 2000000 in
theorem spec_tileValid (px : List Int) (hp : px.length = 64) (w : World) : Calls Try.prog 95 #[tilV px] w fun e w' => e = .returned (.bool (tilB px)) ∧ Below w.heap.size w w' := by
  have X1 : Hid (Box (w.alloc (.cells (iv px).toArray 57)) w.heap.size 57 (iv px)) := Box.new w _ _
  have BB := Lib.hid (below1 w (.cells (iv px).toArray 57))
  go_enter Try.func95, Try.ntmps95
  go_wp2_with fail
  generalize w.alloc (.cells (iv px).toArray 57) = w1 at X1 BB ⊢
  generalize w.heap.size = b at X1 ⊢
  go_loopw [2, 3] (fun u i wr => ∃ k : Nat, k ≤ 64 ∧ u = .bool false ∧ i = .int .i64 k ∧ wr = w1 ∧ ∀ j, j < k → betB (px.getD j 0) 0 3 = true) (fun _ i _ => 64 - (intOf i).toNat)
  case atStart => exact ⟨0, by omega, rfl, rfl, rfl, fun j hj => by omega⟩
  case round =>
    obtain ⟨k, hk, rfl, rfl, rfl, hall⟩ := hrel
    have HA := Lib.hid hall
    clear hall
    by_cases h64 : k < 64
    · have i64' : (k : Int) < 64 := by omega
      have c0 := til_cell X1.out k (by omega)
      obtain ⟨x, hx⟩ : ∃ x, px.getD k 0 = x := ⟨_, rfl⟩
      rw [hx] at c0
      have HX := Lib.hid hx
      clear hx
      go_wp2_with fail
      refine (l1In_any _ _ _ _).mono ?_; rintro e w' ⟨rfl, rfl⟩
      cases hb : betB x 0 3
      · have HF := Lib.hid (tilB_no (px := px) k (by omega) (by rw [HX.out]; exact hb))
        go_wp2_with fail
        go_ret
        exact ⟨ret_bool HF.out.symm, BB.out⟩
      · have HB := Lib.hid hb
        clear hb
        go_wp2_with fail
        go_roundw
        case rel => exact ⟨k + 1, by omega, rfl, by go_num, trivial, fun j hj => by
          by_cases e : j = k
          · subst e; rw [HX.out]; exact HB.out
          · exact HA.out j (by omega)⟩
        case measure => simp [intOf]; omega
    · obtain rfl : k = 64 := by omega
      have HF := Lib.hid (tilB_iff.2 fun j hj => HA.out j (by omega))
      go_wp2_with fail
      go_ret
      exact ⟨ret_bool HF.out.symm, BB.out⟩
end Go.Proofs.Ytacebhncecninaa
end

section
/- Backgrounds as plain data: tests, pixels, lines, shifts. -/
namespace Go.Proofs.Ytacebhncecninaa
open Go.ChangeShapes Go.WideShapes Go.ChangeAt Go.RowKit
set_option linter.unusedVariables false

/-- A background: its width, its table, its number of tiles, their pixels one after another, its shifts. -/
structure Fld where
  w : Int
  xs : List Int
  nt : Nat
  zs : List Int
  sx : Int
  sy : Int
/-- The pixels of one tile. -/
def tl (zs : List Int) (k : Nat) : List Int := (zs.drop (64 * k)).take 64
theorem tl_len {zs : List Int} {n k : Nat} (h : zs.length = 64 * n) (hk : k < n) : (tl zs k).length = 64 := by unfold tl; rw [List.length_take, List.length_drop]; omega
theorem tl_get (zs : List Int) (k j : Nat) (h : j < 64) : (tl zs k).getD j 0 = zs.getD (64 * k + j) 0 := by
  unfold tl
  rw [List.getD_eq_getElem?_getD, List.getD_eq_getElem?_getD, List.getElem?_take, if_pos h, List.getElem?_drop]
theorem tls_yes {zs : List Int} {n : Nat} (h : zs.length = 64 * n) (k : ∀ i, i < n → tilB (tl zs i) = true) : tilB zs = true := by
  rw [tilB_iff]
  intro i hi
  have := (tilB_iff.1 (k (i / 64) (by omega))) (i % 64) (by rw [tl_len h (by omega)]; omega)
  rwa [tl_get _ _ _ (by omega), show 64 * (i / 64) + i % 64 = i by omega] at this
theorem tls_one {zs : List Int} {n : Nat} (h : zs.length = 64 * n) (k : tilB zs = true) (i : Nat) (hi : i < n) : tilB (tl zs i) = true := by
  rw [tilB_iff]
  intro j hj
  rw [tl_len h hi] at hj
  rw [tl_get _ _ _ hj]
  exact tilB_iff.1 k _ (by omega)
theorem tls_no {zs : List Int} {n : Nat} (h : zs.length = 64 * n) (i : Nat) (hi : i < n) (k : tilB (tl zs i) = false) : tilB zs = false := by
  cases e : tilB zs
  · rfl
  · rw [tls_one h e i hi] at k; cases k
/-- All numbers are numbers of n tiles. -/
def knownB (n : Nat) (xs : List Int) : Bool := xs.all fun x => betB x 0 ((n : Int) - 1)
theorem knownB_iff {n : Nat} {xs : List Int} : knownB n xs = true ↔ ∀ i, i < xs.length → betB (xs.getD i 0) 0 ((n : Int) - 1) = true := by
  unfold knownB
  rw [List.all_eq_true]
  constructor
  · intro h i hi
    rw [List.getD_eq_getElem?_getD, List.getElem?_eq_getElem hi]
    exact h _ (List.getElem_mem hi)
  · intro h x hx
    obtain ⟨i, hi, rfl⟩ := List.mem_iff_getElem.1 hx
    have := h i hi
    rwa [List.getD_eq_getElem?_getD, List.getElem?_eq_getElem hi] at this
theorem knownB_no {n : Nat} {xs : List Int} (i : Nat) (hi : i < xs.length) (h : betB (xs.getD i 0) 0 ((n : Int) - 1) = false) : knownB n xs = false := by
  cases e : knownB n xs
  · rfl
  · rw [knownB_iff.1 e i hi] at h; cases h
/-- The table's shape: w columns, n numbers. -/
def tblB (w : Int) (n : Nat) : Bool := betB w 1 8 && decide ((n : Int) % w = 0) && betB ((n : Int) / w) 1 8
theorem betB_iff {a l h : Int} : betB a l h = true ↔ l ≤ a ∧ a ≤ h := by simp [betB]
theorem tblB_iff {w : Int} {n : Nat} : tblB w n = true ↔ (1 ≤ w ∧ w ≤ 8) ∧ (n : Int) % w = 0 ∧ (1 ≤ (n : Int) / w ∧ (n : Int) / w ≤ 8) := by
  unfold tblB
  simp [betB_iff, and_assoc]
def fldB (F : Fld) : Bool := tblB F.w F.xs.length && betB F.nt 1 16 && betB F.sx 0 255 && betB F.sy 0 255 && tilB F.zs && knownB F.nt F.xs
/-- What is known of a valid background. -/
structure FOk (F : Fld) : Prop where
  w1 : 1 ≤ F.w
  w8 : F.w ≤ 8
  rem : (F.xs.length : Int) % F.w = 0
  r1 : 1 ≤ (F.xs.length : Int) / F.w
  r8 : (F.xs.length : Int) / F.w ≤ 8
  n1 : 1 ≤ F.nt
  n16 : F.nt ≤ 16
  x0 : 0 ≤ F.sx
  x1 : F.sx ≤ 255
  y0 : 0 ≤ F.sy
  y1 : F.sy ≤ 255
  px : tilB F.zs = true
  known : knownB F.nt F.xs = true
theorem fldB_iff {F : Fld} : fldB F = true ↔ FOk F := by
  unfold fldB
  simp only [Bool.and_eq_true, tblB_iff, betB_iff]
  constructor
  · rintro ⟨⟨⟨⟨⟨⟨⟨a, b⟩, c, d, e⟩, f, g⟩, h, i⟩, j, k⟩, l⟩, m⟩
    exact ⟨a, b, c, d, e, by omega, by omega, h, i, j, k, l, m⟩
  · rintro ⟨a, b, c, d, e, f, g, h, i, j, k, l, m⟩
    exact ⟨⟨⟨⟨⟨⟨⟨a, b⟩, c, d, e⟩, by omega, by omega⟩, h, i⟩, j, k⟩, l⟩, m⟩
/-- The number of rows. -/
def Fld.rw_ (F : Fld) : Int := (F.xs.length : Int) / F.w
/-- The place of a pixel in the table, and in a tile. -/
def atX (F : Fld) (x : Int) : Int := (x + F.sx) % (8 * F.w)
def atY (F : Fld) (y : Int) : Int := (y + F.sy) % (8 * F.rw_)
def cellN (F : Fld) (x y : Int) : Int := atY F y / 8 * F.w + atX F x / 8
def partN (F : Fld) (x y : Int) : Int := atY F y % 8 * 8 + atX F x % 8
def tileN (F : Fld) (x y : Int) : Int := F.xs.getD (cellN F x y).toNat 0
def pixF (F : Fld) (x y : Int) : Int := F.zs.getD (64 * tileN F x y + partN F x y).toNat 0
theorem mul8 (a w : Int) (ha : 0 ≤ a) (k : Int) (hk : a < k) (hw : 0 ≤ w) : a * w + w ≤ k * w := by
  have := Int.mul_le_mul_of_nonneg_right (show a + 1 ≤ k by omega) hw
  rw [Int.add_mul, Int.one_mul] at this
  exact this
theorem FOk.rows {F : Fld} (h : FOk F) : F.rw_ * F.w = F.xs.length ∧ 1 ≤ F.rw_ ∧ F.rw_ ≤ 8 := by
  refine ⟨?_, h.r1, h.r8⟩
  have := Int.mul_ediv_add_emod (F.xs.length : Int) F.w
  rw [h.rem] at this
  unfold Fld.rw_
  rw [Int.mul_comm]; omega
theorem atX_b {F : Fld} (h : FOk F) (x : Int) : 0 ≤ atX F x ∧ atX F x < 8 * F.w := by
  have := h.w1
  exact ⟨Int.emod_nonneg _ (by omega), Int.emod_lt_of_pos _ (by omega)⟩
theorem atY_b {F : Fld} (h : FOk F) (y : Int) : 0 ≤ atY F y ∧ atY F y < 8 * F.rw_ := by
  have := h.rows.2.1
  exact ⟨Int.emod_nonneg _ (by omega), Int.emod_lt_of_pos _ (by omega)⟩
theorem cellN_b {F : Fld} (h : FOk F) (x y : Int) : 0 ≤ cellN F x y ∧ cellN F x y < F.xs.length := by
  obtain ⟨hl, r1, r8⟩ := h.rows
  obtain ⟨a0, a1⟩ := atX_b h x
  obtain ⟨b0, b1⟩ := atY_b h y
  have w1 := h.w1
  unfold cellN
  have p : 0 ≤ atY F y / 8 := by omega
  have q := mul8 (atY F y / 8) F.w p F.rw_ (by omega) (by omega)
  have q2 := Int.mul_nonneg p (show 0 ≤ F.w by omega)
  constructor <;> omega
theorem partN_b {F : Fld} (h : FOk F) (x y : Int) : 0 ≤ partN F x y ∧ partN F x y < 64 := by
  obtain ⟨a0, a1⟩ := atX_b h x
  obtain ⟨b0, b1⟩ := atY_b h y
  unfold partN
  omega
theorem tileN_b {F : Fld} (h : FOk F) (x y : Int) : 0 ≤ tileN F x y ∧ tileN F x y < F.nt := by
  obtain ⟨a, b⟩ := cellN_b h x y
  have := betB_iff.1 (knownB_iff.1 h.known (cellN F x y).toNat (by omega))
  unfold tileN
  omega
theorem pixF_b {F : Fld} (h : FOk F) (hz : F.zs.length = 64 * F.nt) (x y : Int) : 0 ≤ pixF F x y ∧ pixF F x y ≤ 3 := by
  obtain ⟨a, b⟩ := tileN_b h x y
  obtain ⟨c, d⟩ := partN_b h x y
  exact betB_iff.1 (tilB_iff.1 h.px _ (by rw [hz]; omega))
def pixT (F : Fld) (x y : Int) : Int := if (fldB F && betB x 0 31 && betB y 0 15) = true then pixF F x y else -1
def lineF (F : Fld) (y : Int) : List Int := (List.range 32).map fun x : Nat => pixF F x y
def lineT (F : Fld) (y : Int) : List Int := if (fldB F && betB y 0 15) = true then lineF F y else []
theorem lineF_len (F : Fld) (y : Int) : (lineF F y).length = 32 := by simp [lineF]
theorem lineF_get (F : Fld) (y : Int) (k : Nat) (h : k < 32) : (lineF F y).getD k 0 = pixF F k y := by
  unfold lineF
  rw [List.getD_eq_getElem?_getD, List.getElem?_map, List.getElem?_range h]
  rfl
def Fld.zero : Fld := ⟨0, [], 0, [], 0, 0⟩
def shF (F : Fld) (dx dy : Int) : Fld := ⟨F.w, F.xs, F.nt, F.zs, (F.sx + dx) % (8 * F.w), (F.sy + dy) % (8 * F.rw_)⟩
def shT (F : Fld) (dx dy : Int) : Fld := if (fldB F && betB dx (-255) 255 && betB dy (-255) 255) = true then shF F dx dy else Fld.zero
/-- The remainder as Go takes it, made positive. -/
theorem wrap_mod (a w : Int) (hw : 0 < w) : (a.tmod w + w).tmod w = a % w := by
  have h1 := Int.emod_nonneg a (show w ≠ 0 by omega)
  have h2 := Int.emod_lt_of_pos a hw
  have h3 : a.tmod w = a % w ∨ a.tmod w = a % w - w := by
    rw [Int.tmod_eq_emod]
    split
    · left; omega
    · right; omega
  rcases h3 with h3 | h3
  · rw [h3, Int.tmod_eq_emod_of_nonneg (by omega), Int.add_emod_right, Int.emod_emod_of_dvd _ (Int.dvd_refl w)]
  · rw [h3, show a % w - w + w = a % w by omega, Int.tmod_eq_emod_of_nonneg h1, Int.emod_emod_of_dvd _ (Int.dvd_refl w)]
theorem shF_ok {F : Fld} (h : FOk F) (dx dy : Int) : FOk (shF F dx dy) := by
  have w1 := h.w1
  have w8 := h.w8
  obtain ⟨hl, r1, r8⟩ := h.rows
  have a1 := Int.emod_nonneg (F.sx + dx) (show 8 * F.w ≠ 0 by omega)
  have a2 := Int.emod_lt_of_pos (F.sx + dx) (show 0 < 8 * F.w by omega)
  have b1 := Int.emod_nonneg (F.sy + dy) (show 8 * F.rw_ ≠ 0 by omega)
  have b2 := Int.emod_lt_of_pos (F.sy + dy) (show 0 < 8 * F.rw_ by omega)
  exact ⟨h.w1, h.w8, h.rem, h.r1, h.r8, h.n1, h.n16, a1, by show (F.sx + dx) % (8 * F.w) ≤ 255; omega, b1, by show (F.sy + dy) % (8 * F.rw_) ≤ 255; omega, h.px, h.known⟩
theorem mod_in (a b m : Int) : (a % m + b) % m = (a + b) % m := by rw [Int.add_emod, Int.emod_emod_of_dvd _ (Int.dvd_refl m), ← Int.add_emod]
theorem mod_in2 (a b m : Int) : (a + b % m) % m = (a + b) % m := by rw [Int.add_comm a, mod_in, Int.add_comm b]
theorem pix_eq {F G : Fld} (hw : F.w = G.w) (hx : F.xs = G.xs) (hz : F.zs = G.zs) {x y u v : Int} (h1 : atX F x = atX G u) (h2 : atY F y = atY G v) : pixF F x y = pixF G u v := by
  unfold pixF tileN partN cellN
  rw [h1, h2, hw, hx, hz]
theorem shF_shF (F : Fld) (a b c d : Int) : shF (shF F a b) c d = shF F (a + c) (b + d) := by
  have e : (shF F a b).rw_ = F.rw_ := rfl
  show Fld.mk F.w F.xs F.nt F.zs (((F.sx + a) % (8 * F.w) + c) % (8 * F.w)) (((F.sy + b) % (8 * (shF F a b).rw_) + d) % (8 * (shF F a b).rw_)) = _
  rw [e, mod_in, mod_in, Int.add_assoc, Int.add_assoc]
  rfl
theorem shF_back (F : Fld) (x y : Int) : pixF (shF F 0 0) x y = pixF F x y := by
  obtain ⟨w, xs, nt, zs, sx, sy⟩ := F
  have h1 : atX (shF ⟨w, xs, nt, zs, sx, sy⟩ 0 0) x = atX ⟨w, xs, nt, zs, sx, sy⟩ x := by
    unfold atX shF
    simp only [Int.add_zero]
    exact mod_in2 x sx (8 * w)
  have h2 : atY (shF ⟨w, xs, nt, zs, sx, sy⟩ 0 0) y = atY ⟨w, xs, nt, zs, sx, sy⟩ y := by
    unfold atY shF Fld.rw_
    simp only [Int.add_zero]
    exact mod_in2 y sy _
  unfold pixF tileN partN cellN
  rw [h1, h2]
  rfl
theorem fldB_sh {F : Fld} (h : fldB F = true) (dx dy : Int) : fldB (shF F dx dy) = true := fldB_iff.2 (shF_ok (fldB_iff.1 h) dx dy)
theorem shT_yes {F : Fld} {dx dy : Int} (h : fldB F = true) (h1 : betB dx (-255) 255 = true) (h2 : betB dy (-255) 255 = true) : shT F dx dy = shF F dx dy := by unfold shT; rw [h, h1, h2]; rfl
theorem lineT_yes {F : Fld} {y : Int} (h : fldB F = true) (h1 : betB y 0 15 = true) : lineT F y = lineF F y := by unfold lineT; rw [h, h1]; rfl
theorem pixT_yes {F : Fld} {x y : Int} (h : fldB F = true) (h1 : betB x 0 31 = true) (h2 : betB y 0 15 = true) : pixT F x y = pixF F x y := by unfold pixT; rw [h, h1, h2]; rfl
theorem fldB_prog (F : Fld) : fldB F = (betB F.sx 0 255 && betB F.sy 0 255 && (tblB F.w F.xs.length && knownB F.nt F.xs && (decide (F.nt ≤ 16) && tilB F.zs))) := by
  rw [Bool.eq_iff_iff]
  constructor
  · intro h
    have k := fldB_iff.1 h
    have ht : tblB F.w F.xs.length = true := tblB_iff.2 ⟨⟨k.w1, k.w8⟩, k.rem, k.r1, k.r8⟩
    rw [betB_iff.2 ⟨k.x0, k.x1⟩, betB_iff.2 ⟨k.y0, k.y1⟩, ht, k.known, decide_eq_true k.n16, k.px]
    rfl
  · intro h
    simp only [Bool.and_eq_true, decide_eq_true_eq] at h
    obtain ⟨⟨a, b⟩, ⟨c, d⟩, e, f⟩ := h
    obtain ⟨⟨w1, w8⟩, rem, r1, r8⟩ := tblB_iff.1 c
    obtain ⟨x0, x1⟩ := betB_iff.1 a
    obtain ⟨y0, y1⟩ := betB_iff.1 b
    have hl : 0 < F.xs.length := by
      rcases Nat.eq_zero_or_pos F.xs.length with h0 | h0
      · rw [h0] at r1; simp at r1
      · exact h0
    have hk := betB_iff.1 (knownB_iff.1 d 0 hl)
    exact fldB_iff.2 ⟨w1, w8, rem, r1, r8, by omega, e, x0, x1, y0, y1, f, d⟩
theorem fldB_spec (F : Fld) : fldB F = (tblB F.w F.xs.length && betB F.nt 1 16 && betB F.sx 0 255 && betB F.sy 0 255 && tilB F.zs && knownB F.nt F.xs) := rfl
/-- The pixels to the right of one within its tile. -/
theorem pix_right {F : Fld} (h : FOk F) (x y : Int) (j : Nat) (hj : atX F x % 8 + j < 8) : pixF F (x + j) y = F.zs.getD (64 * tileN F x y + partN F x y + j).toNat 0 := by
  obtain ⟨a0, a1⟩ := atX_b h x
  have e : atX F (x + j) = atX F x + j := by
    unfold atX at *
    rw [show x + (j : Int) + F.sx = (x + F.sx) + j by omega, ← mod_in, Int.emod_eq_of_lt (by omega) (by omega)]
  have c : cellN F (x + j) y = cellN F x y := by
    unfold cellN
    rw [e, show (atX F x + (j : Int)) / 8 = atX F x / 8 by omega]
  have p : partN F (x + j) y = partN F x y + j := by
    unfold partN
    rw [e]; omega
  unfold pixF tileN
  rw [c, p, Int.add_assoc]
/-- How many pixels there are from one to its tile's right edge; which. -/
def runN (F : Fld) (x : Int) : Nat := (8 - atX F x % 8).toNat
def runF (F : Fld) (x y : Int) : List Int := (List.range (runN F x)).map fun j : Nat => pixF F (x + j) y
theorem runF_len (F : Fld) (x y : Int) : (runF F x y).length = runN F x := by simp [runF]
theorem runF_get (F : Fld) (x y : Int) (j : Nat) (h : j < runN F x) : (runF F x y).getD j 0 = pixF F (x + j) y := by
  unfold runF
  rw [List.getD_eq_getElem?_getD, List.getElem?_map, List.getElem?_range h]
  rfl
theorem runN_b (F : Fld) (x : Int) : 1 ≤ runN F x ∧ runN F x ≤ 8 := by unfold runN; omega
end Go.Proofs.Ytacebhncecninaa
end

section
/- Whole tiles loaded, stored, made and handed back: one step each. -/
namespace Go.Proofs.Ytacebhncecninaa
open Go.ChangeShapes Go.WideShapes Go.ChangeAt Go.RowKit
set_option linter.unusedVariables false

/-- The tile of zeros. -/
def z64 : List Int := List.replicate 64 0
theorem z64_len : z64.length = 64 := by simp [z64]
theorem z64_get (i : Nat) : z64.getD i 0 = 0 := by
  unfold z64
  rw [List.getD_eq_getElem?_getD, List.getElem?_replicate]
  split <;> rfl
theorem z64_valid : tilB z64 = true := by rw [tilB_iff]; intro i _; rw [z64_get]; rfl
theorem til_info : (Try.prog.info? 57).map (·.size) = some 64 := by kernel_rfl
theorem iv_len (px : List Int) (hp : px.length = 64) : (iv px).toArray.size = 64 := by simp [hp]
theorem iv_all (px : List Int) : (iv px).toArray.all (·.oneCell') = true := by
  rw [Array.all_eq_true_iff_forall_mem]
  intro x hx
  exact iv_one px x (by simpa using hx)
theorem Box.row {w : World} {b : Nat} {t : TypeId} {cs ds : List Value} (h : Box w b t cs) : Box (w.setRow b ds.toArray) b t ds := by
  have := setRow_heap w b cs.toArray ds.toArray t (0, 0) h
  simpa [Box] using this
theorem Box.rowFar {w : World} {b g : Nat} {t : TypeId} {cs : List Value} {ds : Array Value} (h : Box w b t cs) (hb : b ≠ g) : Box (w.setRow g ds) b t cs := (setRow_other w g b ds hb).trans h
theorem below_row {B : Nat} {a w : World} (h : Below B a w) {g : Nat} (hg : B ≤ g) (cs : Array Value) : Below B a (w.setRow g cs) :=
  ⟨h.os, h.tape, h.output, by simpa using h.size, fun k hk => (setRow_other w g k cs (by omega)).trans (h.block k hk)⟩
theorem Only.row {S : List Nat} {a w : World} (h : Only S a w) {g : Nat} (hg : g ∈ S ∨ a.heap.size ≤ g) (cs : Array Value) : Only S a (w.setRow g cs) :=
  ⟨h.os, h.tape, h.output, by simpa using h.size, fun k hk hn => (setRow_other w g k cs (by rcases hg with hg | hg; · intro e; subst e; exact hn hg
                                                                                            · omega)).trans (h.block k hk hn)⟩
section
variable {ops : Array Oper} {rest : List Oper} {o : Oper} {a : Act} {w : World} {Q : Exit → Act → World → Prop}
theorem st_load {t : TypeId} (hw : Region.wanted o (yielded ops a.tmps) = true) (x : Operand) (ho : o.op = .load 57 x) (b : Nat) (hx : a.eval x = .pointer (some ⟨b, 0, none⟩)) (px : List Int) (hp : px.length = 64) (hb : Box w b t (iv px))
    (h : wpList Try.prog ops Q rest (a.put o.dst (tilV px)) w) : wpList Try.prog ops Q (o :: rest) a w :=
  wpList_step fun K hK => by
    rw [if_pos hw]
    exact wp_load_row _ x ho b hx t (iv px).toArray (0, 0) _ hb Try.underlying57 rfl (by rw [iv_len px hp]; exact til_info) (hK _ _ h)
theorem st_store {t : TypeId} (hw : Region.wanted o (yielded ops a.tmps) = true) (x y : Operand) (ho : o.op = .store 57 x y) (b : Nat) (hx : a.eval x = .pointer (some ⟨b, 0, none⟩)) (px : List Int) (hy : a.eval y = tilV px) (hp : px.length = 64) (cs : List Value) (hb : Box w b t cs) (hc : cs.length = 64)
    (h : wpList Try.prog ops Q rest (a.put o.dst undef) (w.setRow b (iv px).toArray)) : wpList Try.prog ops Q (o :: rest) a w :=
  wpList_step fun K hK => by
    rw [if_pos hw]
    exact wp_store_row _ x y ho b (iv px).toArray hx hy t cs.toArray hb (by rw [iv_len px hp]; exact til_info) (by rw [iv_len px hp]; simpa using hc) (iv_all px) (hK _ _ h)
theorem til_built : Try.prog.built 57 [] = some (iv z64).toArray := by kernel_rfl
theorem st_build (hw : Region.wanted o (yielded ops a.tmps) = true) (ho : o.op = .build 57 #[])
    (h : wpList Try.prog ops Q rest (a.put o.dst (tilV z64)) w) : wpList Try.prog ops Q (o :: rest) a w :=
  wpList_step fun K hK => by
    rw [if_pos hw]
    have e : Try.prog.built 57 ((#[] : Array (Nat × Operand)).map fun (i, x) => (i, a.eval x)).toList = some (iv z64).toArray := by rw [Array.map_empty]; exact til_built
    exact wp_build _ #[] ho (by rw [e]; rfl) (by rw [e]; exact hK _ _ h)
theorem run_allocTil (w : World) : (Instr.alloc 57 true (.tuple #[])).run Try.prog w = .ok (.pointer (some ⟨w.heap.size, 0, none⟩)) (w.alloc (.cells (iv z64).toArray 57)) := by
  have e : (iv z64).toArray = #[.int .i64 0, .int .i64 0, .int .i64 0, .int .i64 0, .int .i64 0, .int .i64 0, .int .i64 0, .int .i64 0, .int .i64 0, .int .i64 0, .int .i64 0, .int .i64 0, .int .i64 0, .int .i64 0, .int .i64 0, .int .i64 0, .int .i64 0, .int .i64 0, .int .i64 0, .int .i64 0, .int .i64 0, .int .i64 0, .int .i64 0, .int .i64 0, .int .i64 0, .int .i64 0, .int .i64 0, .int .i64 0, .int .i64 0, .int .i64 0, .int .i64 0, .int .i64 0, .int .i64 0, .int .i64 0, .int .i64 0, .int .i64 0, .int .i64 0, .int .i64 0, .int .i64 0, .int .i64 0, .int .i64 0, .int .i64 0, .int .i64 0, .int .i64 0, .int .i64 0, .int .i64 0, .int .i64 0, .int .i64 0, .int .i64 0, .int .i64 0, .int .i64 0, .int .i64 0, .int .i64 0, .int .i64 0, .int .i64 0, .int .i64 0, .int .i64 0, .int .i64 0, .int .i64 0, .int .i64 0, .int .i64 0, .int .i64 0, .int .i64 0, .int .i64 0] := by kernel_rfl
  rw [e]
  go_simp
theorem st_alloc (hw : Region.wanted o (yielded ops a.tmps) = true) (ho : o.op = .alloc 57)
    (h : wpList Try.prog ops Q rest (a.put o.dst (.pointer (some ⟨w.heap.size, 0, none⟩))) (w.alloc (.cells (iv z64).toArray 57))) : wpList Try.prog ops Q (o :: rest) a w :=
  wpList_step fun K hK => by
    rw [if_pos hw]
    unfold Oper.wp execOp
    simp only [ho, Sem.run_bind, run_allocTil, Result.andThen_ok, Sem.run_pure]
    exact hK _ _ h
end
/-- What a function with one tile for its result hands back. -/
theorem til_ret {fn : Func} {p : Tmp} {tmps : Array Value} {w : World} {b : Nat} {t : TypeId} {px : List Int} (hr : fn.results = #[.cell p 57]) (hp : tmps.getD p undef = .pointer (some ⟨b, 0, none⟩)) (hb : Box w b t (iv px)) (hl : px.length = 64) : (results fn tmps).run Try.prog w = .ok (tilV px) w :=
  results_cell_row hr tmps w b t (iv px).toArray (0, 0) _ hp hb Try.underlying57 rfl (by rw [iv_len px hl]; exact til_info)
end Go.Proofs.Ytacebhncecninaa
end

section
/- The model's flipped and turned tiles. -/
namespace Go.Proofs.Ytacebhncecninaa
open Go.ChangeShapes Go.WideShapes Go.ChangeAt Go.RowKit
set_option linter.unusedVariables false

/-- A tile made pixel by pixel: pixel i stands once the round g i has been. -/
def mkT (g : Nat → Nat) (f : Nat → Int) (k : Nat) : List Int := (List.range 64).map fun i => if g i < k then f i else 0
theorem mkT_len (g : Nat → Nat) (f : Nat → Int) (k : Nat) : (mkT g f k).length = 64 := by simp [mkT]
theorem mkT_get (g : Nat → Nat) (f : Nat → Int) (k i : Nat) (hi : i < 64) : (mkT g f k).getD i 0 = if g i < k then f i else 0 := by
  unfold mkT
  rw [List.getD_eq_getElem?_getD, List.getElem?_map, List.getElem?_range hi]
  rfl
theorem mkT_ext {a b : List Int} (ha : a.length = 64) (hb : b.length = 64) (h : ∀ i, i < 64 → a.getD i 0 = b.getD i 0) : a = b := by
  apply List.ext_getElem (by omega)
  intro i h1 h2
  have := h i (by omega)
  rwa [List.getD_eq_getElem?_getD, List.getD_eq_getElem?_getD, List.getElem?_eq_getElem h1, List.getElem?_eq_getElem h2] at this
theorem mkT_zero (g : Nat → Nat) (f : Nat → Int) : mkT g f 0 = z64 :=
  mkT_ext (mkT_len _ _ _) z64_len fun i hi => by rw [mkT_get _ _ _ _ hi, z64_get, if_neg (by omega)]
theorem mkT_set (g : Nat → Nat) (f : Nat → Int) (k p : Nat) (hp : p < 64) (hg : ∀ i, i < 64 → (g i = k ↔ i = p)) : (mkT g f k).set p (f p) = mkT g f (k + 1) := by
  refine mkT_ext (by simp [mkT_len]) (mkT_len _ _ _) fun i hi => ?_
  rw [mkT_get _ _ _ _ hi, List.getD_eq_getElem?_getD, List.getElem?_set]
  have h := hg i hi
  by_cases e : p = i
  · subst e
    have : g p = k := h.2 rfl
    rw [if_pos rfl, if_pos (by rw [mkT_len]; exact hi), if_pos (by omega)]
    rfl
  · have : ¬ g i = k := fun c => e (h.1 c).symm
    rw [if_neg e, ← List.getD_eq_getElem?_getD, mkT_get _ _ _ _ hi]
    by_cases l : g i < k
    · rw [if_pos l, if_pos (by omega)]
    · rw [if_neg l, if_neg (by omega)]
theorem iv_set (px : List Int) (i : Nat) (v : Int) : (iv px).set i (.int .i64 v) = iv (px.set i v) := by simp [List.map_set]
/-- The place that a flip takes pixel k from. -/
def flipP (a d : Bool) (k : Nat) : Nat := 8 * (if d then 7 - k / 8 else k / 8) + (if a then 7 - k % 8 else k % 8)
theorem flipP_lt (a d : Bool) (k : Nat) (h : k < 64) : flipP a d k < 64 := by unfold flipP; split <;> split <;> omega
def flipT (px : List Int) (a d : Bool) : List Int := if tilB px = true then mkT id (fun i => px.getD (flipP a d i) 0) 64 else z64
end Go.Proofs.Ytacebhncecninaa
end

section
/- Sprites as plain data: tests, the sprites of a line, their pixels. -/
namespace Go.Proofs.Ytacebhncecninaa
open Go.ChangeShapes Go.WideShapes Go.ChangeAt Go.RowKit
set_option linter.unusedVariables false

/-- A sprite. -/
structure Spr where
  x : Int
  y : Int
  n : Int
  ac : Bool
  dn : Bool
  bh : Bool
def Spr.zero : Spr := ⟨0, 0, 0, false, false, false⟩
/-- One sprite's numbers. -/
def sprOk (nt : Nat) (s : Spr) : Bool := betB s.x (-16) 64 && betB s.y (-16) 64 && betB s.n 0 ((nt : Int) - 1)
/-- The tests: the list, the number of tiles, their pixels one after another. -/
def sprB (S : List Spr) (nt : Nat) (zs : List Int) : Bool := tilB zs && S.all (sprOk nt) && decide (S.length ≤ 12) && decide (nt ≤ 16)
theorem sprB_iff {S : List Spr} {nt : Nat} {zs : List Int} : sprB S nt zs = true ↔ tilB zs = true ∧ (∀ i, i < S.length → sprOk nt (S.getD i .zero) = true) ∧ S.length ≤ 12 ∧ nt ≤ 16 := by
  unfold sprB
  simp only [Bool.and_eq_true, decide_eq_true_eq, List.all_eq_true]
  constructor
  · rintro ⟨⟨⟨a, b⟩, c⟩, d⟩
    refine ⟨a, fun i hi => ?_, c, d⟩
    rw [List.getD_eq_getElem?_getD, List.getElem?_eq_getElem hi]
    exact b _ (List.getElem_mem hi)
  · rintro ⟨a, b, c, d⟩
    refine ⟨⟨⟨a, fun s hs => ?_⟩, c⟩, d⟩
    obtain ⟨i, hi, rfl⟩ := List.mem_iff_getElem.1 hs
    have := b i hi
    rwa [List.getD_eq_getElem?_getD, List.getElem?_eq_getElem hi] at this
/-- A part of valid sprites is valid. -/
theorem spr_part {S : List Spr} {nt : Nat} {zs : List Int} (h : sprB S nt zs = true) (i k : Nat) : sprB ((S.drop i).take k) nt zs = true := by
  obtain ⟨a, b, c, d⟩ := sprB_iff.1 h
  have hl : ((S.drop i).take k).length ≤ S.length := by rw [List.length_take, List.length_drop]; omega
  refine sprB_iff.2 ⟨a, fun j hj => ?_, by omega, d⟩
  have hj' : j < k ∧ i + j < S.length := by rw [List.length_take, List.length_drop] at hj; omega
  have := b (i + j) hj'.2
  rwa [List.getD_eq_getElem?_getD, List.getElem?_take, if_pos hj'.1, List.getElem?_drop, ← List.getD_eq_getElem?_getD]
/-- With an unknown tile they are not. -/
theorem spr_unknown {S : List Spr} {nt : Nat} {zs : List Int} {s : Spr} (hs : s.n = nt) : sprB (S ++ [s]) nt zs = false := by
  cases e : sprB (S ++ [s]) nt zs
  · rfl
  · have := (sprB_iff.1 e).2.1 S.length (by simp)
    rw [List.getD_eq_getElem?_getD, List.getElem?_append_right (Nat.le_refl _)] at this
    simp [sprOk, hs, betB] at this
    omega
/-- Sprite k covers line y; which of the first k do. -/
def covB (S : List Spr) (y : Int) (k : Nat) : Bool := betB (y - (S.getD k .zero).y) 0 7
def onN (S : List Spr) (y : Int) (k : Nat) : List Nat := (List.range k).filter (covB S y)
theorem onN_zero (S : List Spr) (y : Int) : onN S y 0 = [] := rfl
theorem onN_yes {S : List Spr} {y : Int} {k : Nat} (h : covB S y k = true) : onN S y (k + 1) = onN S y k ++ [k] := by
  unfold onN; rw [List.range_succ, List.filter_append]; simp [h]
theorem onN_no {S : List Spr} {y : Int} {k : Nat} (h : covB S y k = false) : onN S y (k + 1) = onN S y k := by
  unfold onN; rw [List.range_succ, List.filter_append]; simp [h]
theorem onN_mem {S : List Spr} {y : Int} {k j : Nat} : j ∈ onN S y k ↔ j < k ∧ covB S y j = true := by
  unfold onN; rw [List.mem_filter, List.mem_range]
theorem onN_asc (S : List Spr) (y : Int) (k : Nat) : (onN S y k).Pairwise (· < ·) := by
  unfold onN
  exact List.Pairwise.filter _ List.pairwise_lt_range
theorem onN_le (S : List Spr) (y : Int) (k : Nat) : (onN S y k).length ≤ k := by
  have := List.length_filter_le (covB S y) (List.range k)
  rw [List.length_range] at this
  exact this
theorem onN_mono (S : List Spr) (y : Int) {j k : Nat} (h : j ≤ k) : ∃ r, onN S y k = onN S y j ++ r := by
  induction k with
  | zero => obtain rfl : j = 0 := by omega
            exact ⟨[], by simp⟩
  | succ k ih =>
    rcases Nat.eq_or_lt_of_le h with rfl | h1
    · exact ⟨[], by simp⟩
    · obtain ⟨r, hr⟩ := ih (by omega)
      cases hc : covB S y k
      · exact ⟨r, by rw [onN_no hc, hr]⟩
      · exact ⟨r ++ [k], by rw [onN_yes hc, hr, List.append_assoc]⟩
/-- All that cover the line, those that are shown, how many are hidden. -/
def allF (S : List Spr) (y : Int) : List Nat := onN S y S.length
def onF (S : List Spr) (y : Int) : List Nat := (allF S y).take 4
def onT (S : List Spr) (nt : Nat) (zs : List Int) (y : Int) : List Nat := if (sprB S nt zs && betB y 0 15) = true then onF S y else []
def hidF (S : List Spr) (y : Int) : Nat := (allF S y).length - 4
def hidT (S : List Spr) (nt : Nat) (zs : List Int) (y : Int) : Int := if (sprB S nt zs && betB y 0 15) = true then hidF S y else -1
theorem onF_len (S : List Spr) (y : Int) : (onF S y).length ≤ 4 := by unfold onF; rw [List.length_take]; omega
theorem onF_sum (S : List Spr) (y : Int) : hidF S y + (onF S y).length = (allF S y).length := by unfold hidF onF; rw [List.length_take]; omega
theorem onF_few {S : List Spr} {y : Int} (h : (onF S y).length < 4) : hidF S y = 0 := by
  unfold onF at h; unfold hidF
  rw [List.length_take] at h; omega
theorem onF_get {S : List Spr} {y : Int} {i : Nat} (h : i < (onF S y).length) : ∃ k, (onF S y)[i]? = some k ∧ k < S.length ∧ covB S y k = true := by
  refine ⟨(onF S y)[i], List.getElem?_eq_getElem h, ?_⟩
  have hm : (onF S y)[i] ∈ allF S y := List.mem_of_mem_take (List.getElem_mem h)
  exact onN_mem.1 hm
theorem onF_asc {S : List Spr} {y : Int} {i j a b : Nat} (hij : i < j) (h1 : (onF S y)[i]? = some a) (h2 : (onF S y)[j]? = some b) : a < b := by
  have hp : (onF S y).Pairwise (· < ·) := List.Pairwise.sublist (List.take_sublist _ _) (onN_asc S y S.length)
  obtain ⟨l1, rfl⟩ := List.getElem?_eq_some_iff.1 h1
  obtain ⟨l2, rfl⟩ := List.getElem?_eq_some_iff.1 h2
  exact List.pairwise_iff_getElem.1 hp i j l1 l2 hij
/-- A sprite's pixel in column x of line y. -/
def offI (a : Bool) (i : Int) : Int := if a then 7 - i else i
def valF (s : Spr) (zs : List Int) (x y : Int) : Int :=
  if (betB (x - s.x) 0 7 && betB (y - s.y) 0 7) = true then zs.getD (64 * s.n + (8 * offI s.dn (y - s.y) + offI s.ac (x - s.x))).toNat 0 else 0
theorem offI_b {a : Bool} {i : Int} (h : 0 ≤ i ∧ i ≤ 7) : 0 ≤ offI a i ∧ offI a i ≤ 7 := by unfold offI; split <;> omega
theorem valF_b {s : Spr} {nt : Nat} {zs : List Int} (hz : zs.length = 64 * nt) (ht : tilB zs = true) (hs : sprOk nt s = true) (x y : Int) : 0 ≤ valF s zs x y ∧ valF s zs x y ≤ 3 := by
  unfold valF
  split
  · rename_i h
    simp only [Bool.and_eq_true] at h
    have hx := offI_b (a := s.ac) (betB_iff.1 h.1)
    have hy := offI_b (a := s.dn) (betB_iff.1 h.2)
    unfold sprOk at hs
    simp only [Bool.and_eq_true] at hs
    have hn := betB_iff.1 hs.2
    have := betB_iff.1 (tilB_iff.1 ht (64 * s.n + (8 * offI s.dn (y - s.y) + offI s.ac (x - s.x))).toNat (by rw [hz]; omega))
    exact this
  · omega
/-- The first sprite with a pixel. -/
def atF (S : List Spr) (zs : List Int) (x y : Int) : Option Nat := (onF S y).find? fun k => decide (valF (S.getD k .zero) zs x y ≠ 0)
def atT (S : List Spr) (nt : Nat) (zs : List Int) (x y : Int) : Option Nat := if (sprB S nt zs && betB x 0 31 && betB y 0 15) = true then atF S zs x y else none
/-- What SpriteAt returns. -/
def atR (S : List Spr) (zs : List Int) (x y : Int) : Option Nat → Int × Int
  | some k => (k, valF (S.getD k .zero) zs x y)
  | none => (-1, 0)
theorem atF_some {S : List Spr} {zs : List Int} {x y : Int} {k : Nat} (h : atF S zs x y = some k) : k ∈ onF S y ∧ valF (S.getD k .zero) zs x y ≠ 0 := by
  have h1 := List.mem_of_find?_eq_some h
  have h2 := List.find?_some h
  exact ⟨h1, by simpa using h2⟩
/-- A sprite alone. -/
theorem lone_on {s : Spr} {y : Int} (h : betB (y - s.y) 0 7 = true) : onF [s] y = [0] := by
  have hc : covB [s] y 0 = true := h
  unfold onF allF
  show (onN [s] y (0 + 1)).take 4 = _
  rw [onN_yes hc]
  rfl
theorem lone_at {s : Spr} {zs : List Int} {x y : Int} (h : betB (y - s.y) 0 7 = true) : atF [s] zs x y = if valF s zs x y ≠ 0 then some 0 else none := by
  unfold atF
  rw [lone_on h]
  by_cases hv : valF s zs x y = 0 <;> simp [hv, List.getD]
theorem find_same {α : Type} {p q : α → Bool} : ∀ (l : List α), (∀ j, j ∈ l → p j = q j) → l.find? p = l.find? q
  | [], _ => rfl
  | a :: l, h => by
    rw [List.find?_cons, List.find?_cons, h a (List.mem_cons_self ..), find_same l fun j hj => h j (List.mem_cons_of_mem _ hj)]
/-- One more sprite at the end. -/
theorem cov_more {S : List Spr} {s : Spr} {y : Int} {k : Nat} (h : k < S.length) : covB (S ++ [s]) y k = covB S y k := by
  unfold covB
  rw [List.getD_eq_getElem?_getD, List.getElem?_append_left h, ← List.getD_eq_getElem?_getD]
theorem onN_more {S : List Spr} {s : Spr} {y : Int} {k : Nat} (h : k ≤ S.length) : onN (S ++ [s]) y k = onN S y k := by
  unfold onN
  refine List.filter_congr fun j hj => ?_
  rw [List.mem_range] at hj
  exact cov_more (by omega)
theorem onF_more (S : List Spr) (s : Spr) (y : Int) : ∃ r, onF (S ++ [s]) y = onF S y ++ r := by
  obtain ⟨r, hr⟩ := onN_mono (S ++ [s]) y (j := S.length) (k := (S ++ [s]).length) (by simp)
  rw [onN_more (Nat.le_refl _)] at hr
  refine ⟨r.take (4 - (allF S y).length), ?_⟩
  unfold onF allF
  rw [hr, List.take_append]
theorem at_more {S : List Spr} {s : Spr} {zs : List Int} {x y : Int} {k : Nat} (h : atF S zs x y = some k) : atF (S ++ [s]) zs x y = some k ∧ valF ((S ++ [s]).getD k .zero) zs x y = valF (S.getD k .zero) zs x y := by
  have hm : ∀ j, j ∈ onF S y → (S ++ [s]).getD j .zero = S.getD j .zero := fun j hj => by
    have := (onN_mem.1 (List.mem_of_mem_take hj)).1
    rw [List.getD_eq_getElem?_getD, List.getElem?_append_left this, ← List.getD_eq_getElem?_getD]
  refine ⟨?_, by rw [hm k (atF_some h).1]⟩
  obtain ⟨r, hr⟩ := onF_more S s y
  unfold atF
  rw [hr, List.find?_append]
  have e : (onF S y).find? (fun k => decide (valF ((S ++ [s]).getD k .zero) zs x y ≠ 0)) = atF S zs x y := by
    unfold atF
    exact find_same _ fun j hj => by rw [hm j hj]
  rw [e, h]
  rfl
/-- A sprite that is flipped across, and one whose tile is. -/
theorem val_across {s : Spr} {zs px : List Int} (h64 : zs.length = 64) (ht : tilB zs = true) (hp : px = flipT zs true false) (hn : s.n = 0) (x y : Int) :
    valF ⟨s.x, s.y, s.n, true, s.dn, s.bh⟩ zs x y = valF ⟨s.x, s.y, s.n, false, s.dn, s.bh⟩ px x y := by
  unfold valF
  by_cases h : (betB (x - s.x) 0 7 && betB (y - s.y) 0 7) = true
  · rw [if_pos h, if_pos h]
    simp only [Bool.and_eq_true] at h
    have hx := betB_iff.1 h.1
    have hy := offI_b (a := s.dn) (betB_iff.1 h.2)
    show zs.getD (64 * s.n + (8 * offI s.dn (y - s.y) + (7 - (x - s.x)))).toNat 0 = px.getD (64 * s.n + (8 * offI s.dn (y - s.y) + (x - s.x))).toNat 0
    rw [hn]
    generalize offI s.dn (y - s.y) = j at hy
    generalize x - s.x = i at hx
    rw [hp]
    unfold flipT
    rw [if_pos ht, mkT_get _ _ _ _ (by omega), if_pos (by show (64 * 0 + (8 * j + i)).toNat < 64; omega)]
    congr 1
    unfold flipP
    simp only [Bool.false_eq_true, if_false, if_true]
    omega
  · rw [if_neg h, if_neg h]
end Go.Proofs.Ytacebhncecninaa
end

section
/- The library's Clone on slices of integers. -/
namespace Go.Proofs.Ytacebhncecninaa
open Go.ChangeShapes Go.WideShapes Go.ChangeAt Go.RowKit

theorem clone_ints (A : Option Addr) (n c : Nat) (xs : List Int) (fa : List Nat) (w : World) (ha : Ints w A n xs fa) (hn : n ≤ 1000000000) :
    Calls Try.prog 98 #[.slice A n c] w (Copied xs n w) := by
  have HA := Lib.hid ha
  rcases A with _ | ad
  · have hx : xs = [] ∧ n = 0 := by
      obtain ⟨hl, ⟨h, _⟩ | ⟨_, b, o, h, _⟩⟩ := ha
      · exact ⟨List.eq_nil_of_length_eq_zero (by omega), h⟩
      · cases h
    obtain ⟨rfl, rfl⟩ := hx
    clear ha
    have hq := fun W => Lib.run_eql_slice_nil (P := Try.prog) W 23 3 none 0 c 0 0 Try.underlying23
    go_enter Try.func98, Try.ntmps98
    go_wp2
    go_ret
    exact ⟨none, 0, [], rfl, Nat.le_refl _, .nil _ _, .nil _ _, Below.refl _ _⟩
  · clear ha
    have hq := fun W => Lib.run_eql_slice_nil (P := Try.prog) W 23 3 (some ad) n c 0 0 Try.underlying23
    go_enter Try.func98, Try.ntmps98
    go_wp2_with (at_builtin; refine wpList_append_ints rfl _ _ rfl w.heap.size _ 0 [] rfl (own_empty w _ _ (Nat.le_refl _)) _ _ _ xs fa rfl (HA.out.below (below1 w _)) (by omega) (by simp) ?_; intro v' w1 hown hgrow hat)
    have HO : Hid (w1.ownsRow w.heap.size 3 1 v' n (iv xs)) := by
      simp only [Nat.zero_add, List.nil_append] at hown
      exact hown
    have HB := Lib.hid (below_grown (below1 w _) hgrow (by simp) (fun k hk => by have h : some w.heap.size = some k := hk; injection h; omega))
    clear hown hgrow hat hq
    go_wp2
    go_ret
    exact copied_own HO.out HB.out
end Go.Proofs.Ytacebhncecninaa
end

section
/- Appends of tiles to rows of the call's own. -/
namespace Go.Proofs.Ytacebhncecninaa
open Go.ChangeShapes Go.WideShapes Go.ChangeAt Go.RowKit
set_option linter.unusedVariables false

/-- Pixels one after another in memory: one tile of them. -/
theorem til_range {w : World} {b o m : Nat} {zs : List Int} {ft : List Nat} (h : Ints w (some ⟨b, o, none⟩) (64 * m) zs ft) {k : Nat} (hk : k < m) : w.rangeAt b (o + k * 64) (iv (tl zs k)) := by
  intro j v hv
  have hj : j < (tl zs k).length := by have := (List.getElem?_eq_some_iff.1 hv).1; simpa using this
  have h64 := tl_len h.1 hk
  rw [iv_at _ _ hj] at hv
  injection hv with hv
  subst hv
  obtain ⟨b', o', he, _, _, hc⟩ := h.at_ (by omega)
  injection he with he
  injection he with e1 e2 _
  subst e1 e2
  rw [show o + k * 64 + j = o + (64 * k + j) by omega, hc (64 * k + j) (by omega), tl_get _ _ _ (by omega)]
section
variable {ops : Array Oper} {rest : List Oper} {o : Oper} {a : Act} {w : World} {Q : Exit → Act → World → Prop}
/-- A tile loaded out of the middle of a block. -/
theorem st_loadm (hw : Region.wanted o (yielded ops a.tmps) = true) (x : Operand) (ho : o.op = .load 57 x) (b k : Nat) (hx : a.eval x = .pointer (some ⟨b, k, none⟩)) (px : List Int) (hp : px.length = 64) (hb : w.rangeAt b k (iv px))
    (h : wpList Try.prog ops Q rest (a.put o.dst (tilV px)) w) : wpList Try.prog ops Q (o :: rest) a w :=
  wpList_step fun K hK => by
    rw [if_pos hw]
    exact wp_load_mid _ x ho b k hx (iv px) _ hb Try.underlying57 rfl (by rw [til_info]; simp [hp]) (hK _ _ h)
end
theorem infoTile : (Try.prog.info? 57).map (fun i => (i.zero, i.size, i.bytes)) = some (some (.agg (iv z64).toArray), 64, 512) := by kernel_rfl
theorem tile_parts : ∃ i, Try.prog.info? 57 = some i ∧ i.zero = some (.agg (iv z64).toArray) ∧ i.size = 64 ∧ i.bytes = 512 := by
  have h := infoTile
  cases e : Try.prog.info? 57 with
  | none => rw [e] at h; cases h
  | some i =>
    rw [e] at h
    have h2 : (i.zero, i.size, i.bytes) = (some (.agg (iv z64).toArray), 64, 512) := by simpa using h
    injection h2 with h3 h4
    injection h4 with h5 h6
    exact ⟨i, rfl, h3, h5, h6⟩
theorem run_append_vt (w : World) (base : Nat) (ty : TypeId) (v : Value) (n : Nat) (xs : List Value) (hown : w.ownsRow base 57 64 v n xs) (c : Nat) :
    (Builtin.append_ #[24, 24] ty #[v, .slice none 0 c]).run Try.prog w = .ok v w := by
  obtain ⟨i, hi, _, hz, _⟩ := tile_parts
  rcases hown.2 with ⟨rfl, rfl⟩ | ⟨g, cap, cur, rfl, _, _, hnc, _⟩
  · simp [Builtin.append_, run_underlying Try.underlying24, sizeOf, typeInfo, hi, Builtin.lenOf, Builtin.firstCells]
  · simp [Builtin.append_, run_underlying Try.underlying24, sizeOf, typeInfo, hi, Builtin.lenOf, Builtin.firstCells, hnc, storeCells]
/-- The run of an append of tiles, whatever the source. -/
theorem run_append_tiles (w : World) (ty : TypeId) (base : Nat) (v : Value) (n : Nat) (xs : List Int) (hown : w.ownsRow base 57 64 v n (iv xs)) (A : Option Addr) (m c : Nat) (ys : List Int) (fp : List Nat) (hi : Ints w A (64 * m) ys fp) (hb : n + m ≤ 1000000000) (hbase : base ≤ w.heap.size) :
    ∃ v' w', (Builtin.append_ #[24, 24] ty #[v, .slice A m c]).run Try.prog w = .ok v' w' ∧ w'.ownsRow base 57 64 v' (n + m) (iv (xs ++ ys)) ∧ w.grownBy w' v.ownBlock ∧ (v'.ownBlock = v.ownBlock ∨ v'.ownBlock = some w.heap.size) := by
  obtain ⟨i0, hi0, hz0, hz1, hz2⟩ := tile_parts
  rcases A with _ | ad
  · have hm : m = 0 := by
      obtain ⟨_, ⟨h, _⟩ | ⟨_, b, o, h, _⟩⟩ := hi
      · omega
      · cases h
    subst hm
    have hy : ys = [] := List.eq_nil_of_length_eq_zero hi.1
    subst hy
    exact ⟨v, w, run_append_vt w base ty v n _ hown c, by simpa using hown, World.grownBy.refl w _, .inl rfl⟩
  · obtain ⟨v', w', hr, h2, h3, _, h5⟩ := run_append_own_at (P := Try.prog) w base 24 ty 57 i0 (.agg (iv z64).toArray) 64 512 Try.underlying24 hi0 hz0 hz1 hz2 (by show (iv z64).toArray.size = 64; simp [z64_len]) (by decide) v n _ hown ad m c (iv ys) (by simp [iv, hi.1]; omega) (ints_news hi) (iv_one ys) (by unfold maxLen; omega) (by omega) hbase
    exact ⟨v', w', hr, by simpa [iv] using h2, h3, h5⟩
theorem wp_append_tiles {w : World} {o : Oper} {a : Act} {K : Act → World → Prop} {Q : Exit → Act → World → Prop} (s x : Operand) (ho : o.op = .call { callee := .builtin .append, args := #[s, x], argTypes := #[24, 24] })
    (base : Nat) (v : Value) (n : Nat) (xs : List Int) (hs : a.eval s = v) (hown : w.ownsRow base 57 64 v n (iv xs)) (A : Option Addr) (m c : Nat) (ys : List Int) (fp : List Nat) (hx : a.eval x = .slice A m c) (hi : Ints w A (64 * m) ys fp) (hb : n + m ≤ 1000000000) (hbase : base ≤ w.heap.size)
    (h : ∀ v' w', w'.ownsRow base 57 64 v' (n + m) (iv (xs ++ ys)) → w.grownBy w' v.ownBlock → (v'.ownBlock = v.ownBlock ∨ v'.ownBlock = some w.heap.size) → K (a.put o.dst v') w') : o.wp Try.prog a w K Q := by
  obtain ⟨v', w', hr, h2, h3, h4⟩ := run_append_tiles w o.type base v n xs hown A m c ys fp hi hb hbase
  unfold Oper.wp execOp
  simp only [ho, resolve, invoke, builtin, Sem.run_bind, Sem.run_pure, Result.andThen_ok, List.map_toArray, List.map_cons, List.map_nil, hs, hx, hr]
  exact h v' w' h2 h3 h4
theorem wpList_append_tiles {w : World} {ops : Array Oper} {rest : List Oper} {o : Oper} {a : Act} {Q : Exit → Act → World → Prop} (hgd : o.guard = none) (s x : Operand) (ho : o.op = .call { callee := .builtin .append, args := #[s, x], argTypes := #[24, 24] })
    (base : Nat) (v : Value) (n : Nat) (xs : List Int) (hs : a.eval s = v) (hown : w.ownsRow base 57 64 v n (iv xs)) (A : Option Addr) (m c : Nat) (ys : List Int) (fp : List Nat) (hx : a.eval x = .slice A m c) (hi : Ints w A (64 * m) ys fp) (hb : n + m ≤ 1000000000) (hbase : base ≤ w.heap.size)
    (h : ∀ v' w', w'.ownsRow base 57 64 v' (n + m) (iv (xs ++ ys)) → w.grownBy w' v.ownBlock → (v'.ownBlock = v.ownBlock ∨ v'.ownBlock = some w.heap.size) → wpList Try.prog ops Q rest (a.put o.dst v') w') : wpList Try.prog ops Q (o :: rest) a w :=
  wpList_plain hgd fun _ hK => wp_append_tiles s x ho base v n xs hs hown A m c ys fp hx hi hb hbase fun v' w' h2 h3 h4 => hK _ _ (h v' w' h2 h3 h4)
theorem step_append_tiles {w : World} {ops : Array Oper} {o : Oper} {a : Act} {K : Act → World → Prop} {Q : Exit → Act → World → Prop} {E : Prop} (hgd : o.guard = none) (s x : Operand) (ho : o.op = .call { callee := .builtin .append, args := #[s, x], argTypes := #[24, 24] })
    (base : Nat) (v : Value) (n : Nat) (xs : List Int) (hs : a.eval s = v) (hown : w.ownsRow base 57 64 v n (iv xs)) (A : Option Addr) (m c : Nat) (ys : List Int) (fp : List Nat) (hx : a.eval x = .slice A m c) (hi : Ints w A (64 * m) ys fp) (hb : n + m ≤ 1000000000) (hbase : base ≤ w.heap.size)
    (h : ∀ v' w', w'.ownsRow base 57 64 v' (n + m) (iv (xs ++ ys)) → w.grownBy w' v.ownBlock → (v'.ownBlock = v.ownBlock ∨ v'.ownBlock = some w.heap.size) → K (a.put o.dst v') w') :
    if Region.wanted o (yielded ops a.tmps) = true then Oper.wp Try.prog o a w K Q else E := by
  have hw : Region.wanted o (yielded ops a.tmps) = true := by simp [Region.wanted, hgd]
  rw [if_pos hw]
  exact wp_append_tiles s x ho base v n xs hs hown A m c ys fp hx hi hb hbase h
theorem own_tiles {w : World} {base : Nat} {v : Value} {n : Nat} {xs : List Int} (h : w.ownsRow base 57 64 v n (iv xs)) : ∃ A c fp, v = .slice A n c ∧ n ≤ c ∧ Ints w A (64 * n) xs fp ∧ New base w fp ∧ ∀ b ∈ fp, v.ownBlock = some b := by
  have hl : xs.length = 64 * n := by have := h.1; simp [iv] at this; omega
  rcases h.2 with ⟨rfl, h0⟩ | ⟨g, cap, cur, rfl, hb, hh, hnc, _, hsz, hcur⟩
  · subst h0
    have : xs = [] := List.eq_nil_of_length_eq_zero hl
    subst this
    exact ⟨none, 0, [], rfl, Nat.le_refl _, .nil _ _, .nil _ _, by simp⟩
  · by_cases h0 : n = 0
    · subst h0
      have : xs = [] := List.eq_nil_of_length_eq_zero hl
      subst this
      exact ⟨_, cap, [], rfl, hnc, .nil _ _, .nil _ _, by simp⟩
    · have hlt : g < w.heap.size := by
        by_cases hl : g < w.heap.size
        · exact hl
        · rw [Array.getElem?_eq_none (by omega)] at hh; cases hh
      refine ⟨_, cap, [g], rfl, hnc, ⟨hl, .inr ⟨by omega, g, 0, rfl, rfl, hlt, fun i hi => ?_⟩⟩, .one hb hlt (fun o => by simp [World.frozen?, hh]), by simp [Value.ownBlock]⟩
      rw [cell_of_row w g (0 + i) cur _ (0, 0) hh, Nat.zero_add]
      have e : (cur.toList.take (n * 64))[i]? = (iv xs)[i]? := by rw [hcur]
      rw [iv_at xs i (by omega), List.getElem?_take, if_pos (by omega)] at e
      simpa using e
theorem own_down {w : World} {b b' : Nat} {e : TypeId} {s : Nat} {v : Value} {n : Nat} {xs : List Value} (h : w.ownsRow b e s v n xs) (hb : b' ≤ b) : w.ownsRow b' e s v n xs := by
  obtain ⟨h1, h2 | ⟨g, cap, cur, a, k, r⟩⟩ := h
  · exact ⟨h1, .inl h2⟩
  · exact ⟨h1, .inr ⟨g, cap, cur, a, by omega, r⟩⟩
/-- What a copy of tiles leaves. -/
def CopiedT (zs : List Int) (m : Nat) (w : World) (e : Ending) (w' : World) : Prop :=
  ∃ (A : Option Addr) (c : Nat) (fp : List Nat), e = .returned (.slice A m c) ∧ m ≤ c ∧ Ints w' A (64 * m) zs fp ∧ New w.heap.size w' fp ∧ Below w.heap.size w w'
theorem own_empty64 (w : World) (t : TypeId) (base : Nat) (h : base ≤ w.heap.size) : (w.alloc (.cells #[] t)).ownsRow base t 64 (.slice (some ⟨w.heap.size, 0, none⟩) 0 0) 0 [] :=
  ⟨by simp, .inr ⟨w.heap.size, 0, #[], rfl, h, heap_alloc_new w _, Nat.le_refl _, by unfold maxLen; omega, by simp, by simp⟩⟩
end Go.Proofs.Ytacebhncecninaa
end

section
/- Sprites in memory: a sprite's value, slices of sprites, rows of the call's own. -/
namespace Go.Proofs.Ytacebhncecninaa
open Go.ChangeShapes Go.WideShapes Go.ChangeAt Go.RowKit
set_option linter.unusedVariables false

/-- A sprite's cells; its value. -/
def scs (s : Spr) : List Value := [.int .i64 s.x, .int .i64 s.y, .int .i64 s.n, .bool s.ac, .bool s.dn, .bool s.bh]
abbrev sprV (s : Spr) : Value := .agg #[.int .i64 s.x, .int .i64 s.y, .int .i64 s.n, .bool s.ac, .bool s.dn, .bool s.bh]
/-- The cells of many. -/
def svs (S : List Spr) : List Value := S.flatMap scs
theorem svs_nil : svs [] = [] := rfl
theorem svs_cons (s : Spr) (S : List Spr) : svs (s :: S) = scs s ++ svs S := rfl
theorem svs_app (S R : List Spr) : svs (S ++ R) = svs S ++ svs R := by unfold svs; rw [List.flatMap_append]
theorem svs_len : ∀ S : List Spr, (svs S).length = 6 * S.length
  | [] => rfl
  | s :: S => by
    rw [svs_cons, List.length_append, svs_len S, List.length_cons]
    show 6 + _ = _
    omega
theorem svs_get : ∀ (S : List Spr) (i j : Nat), i < S.length → j < 6 → (svs S)[6 * i + j]? = (scs (S.getD i .zero))[j]?
  | [], i, j, hi, hj => absurd hi (Nat.not_lt_zero _)
  | s :: S, 0, j, hi, hj => by
    rw [svs_cons, List.getElem?_append_left (show 6 * 0 + j < 6 by omega)]
    rw [Nat.mul_zero, Nat.zero_add]
    rfl
  | s :: S, i + 1, j, hi, hj => by
    rw [svs_cons, List.getElem?_append_right (show 6 ≤ 6 * (i + 1) + j by omega)]
    show (svs S)[6 * (i + 1) + j - 6]? = _
    rw [show 6 * (i + 1) + j - 6 = 6 * i + j by omega, svs_get S i j (by simpa using hi) hj]
    rfl
theorem svs_one (S : List Spr) : ∀ v ∈ svs S, v.oneCell' = true := by
  intro v hv
  obtain ⟨s, _, h⟩ := List.mem_flatMap.1 hv
  simp [scs] at h
  rcases h with rfl | rfl | rfl | rfl | rfl | rfl <;> rfl
/-- A slice of sprites. -/
def Sprs (w : World) (A : Option Addr) (n : Nat) (S : List Spr) (fp : List Nat) : Prop :=
  S.length = n ∧ ((n = 0 ∧ fp = []) ∨ (0 < n ∧ ∃ b o, A = some ⟨b, o, none⟩ ∧ fp = [b] ∧ b < w.heap.size ∧ ∀ k v, (svs S)[k]? = some v → w.cell? ⟨b, o + k, none⟩ = some v))
theorem Sprs.nil (w : World) (A : Option Addr) : Sprs w A 0 [] [] := ⟨rfl, .inl ⟨rfl, rfl⟩⟩
theorem Sprs.lt {w : World} {A : Option Addr} {n : Nat} {S : List Spr} {fp : List Nat} (h : Sprs w A n S fp) : ∀ b ∈ fp, b < w.heap.size := by
  rcases h.2 with ⟨_, rfl⟩ | ⟨_, b, o, _, rfl, hb, _⟩
  · intro b hb; cases hb
  · intro c hc; simp at hc; subst hc; exact hb
theorem Sprs.at_ {w : World} {A : Option Addr} {n : Nat} {S : List Spr} {fp : List Nat} (h : Sprs w A n S fp) (hn : 0 < n) :
    ∃ b o, A = some ⟨b, o, none⟩ ∧ fp = [b] ∧ b < w.heap.size ∧ ∀ i, i < n → ∀ j v, (scs (S.getD i .zero))[j]? = some v → w.cell? ⟨b, o + (6 * i + j), none⟩ = some v := by
  rcases h.2 with ⟨h0, _⟩ | ⟨_, b, o, hA, hf, hb, hc⟩
  · omega
  · refine ⟨b, o, hA, hf, hb, fun i hi j v hv => hc _ _ ?_⟩
    have hj : j < 6 := by
      have := (List.getElem?_eq_some_iff.1 hv).1
      exact this
    rw [svs_get S i j (by have := h.1; omega) hj, hv]
theorem Sprs.keep {w w' : World} {A : Option Addr} {n : Nat} {S : List Spr} {fp : List Nat} (h : Sprs w A n S fp) (k : Same fp w w') : Sprs w' A n S fp := by
  rcases h.2 with h0 | ⟨h0, b, o, hA, rfl, hb, hc⟩
  · exact ⟨h.1, .inl h0⟩
  · have e := k.2 b (by simp) hb
    refine ⟨h.1, .inr ⟨h0, b, o, hA, rfl, Nat.lt_of_lt_of_le hb k.1, fun i v hv => ?_⟩⟩
    rw [← hc i v hv]
    exact World.cell?_of_block (a := ⟨b, o + i, none⟩) e
theorem Sprs.below {w w' : World} {A : Option Addr} {n : Nat} {S : List Spr} {fp : List Nat} (h : Sprs w A n S fp) (k : Below w.heap.size w w') : Sprs w' A n S fp := h.keep (.of_below k)
/-- A part of a slice. -/
theorem Sprs.part {w : World} {p o n : Nat} {S : List Spr} {fp : List Nat} (h : Sprs w (some ⟨p, o, none⟩) n S fp) (i k : Nat) (hk : i + k ≤ n) (h0 : 0 < k) : Sprs w (some ⟨p, o + 6 * i, none⟩) k ((S.drop i).take k) fp := by
  have hl := h.1
  obtain ⟨b, u, he, hf, hb, hc⟩ := h.at_ (by omega)
  injection he with he
  injection he with e1 e2 _
  subst e1 e2
  refine ⟨by rw [List.length_take, List.length_drop]; omega, .inr ⟨h0, p, o + 6 * i, rfl, hf, hb, fun q v hv => ?_⟩⟩
  have hq : q < 6 * k := by
    have := (List.getElem?_eq_some_iff.1 hv).1
    rw [svs_len, List.length_take, List.length_drop] at this
    omega
  have hq6 : q / 6 < k := by omega
  have e : 6 * (q / 6) + q % 6 = q := Nat.div_add_mod q 6
  rw [← e, svs_get _ _ _ (by rw [List.length_take, List.length_drop]; omega) (Nat.mod_lt _ (by omega))] at hv
  have e2 : ((S.drop i).take k).getD (q / 6) .zero = S.getD (i + q / 6) .zero := by
    rw [List.getD_eq_getElem?_getD, List.getElem?_take, if_pos hq6, List.getElem?_drop, ← List.getD_eq_getElem?_getD]
  rw [e2] at hv
  have := hc (i + q / 6) (by omega) (q % 6) v hv
  rw [show o + 6 * i + q = o + (6 * (i + q / 6) + q % 6) by omega]
  exact this
theorem sprs_news {w : World} {ad : Addr} {n : Nat} {S : List Spr} {fp : List Nat} (h : Sprs w (some ad) n S fp) : ∀ j u, (svs S)[j]? = some u → w.cell? (ad.add j) = some u := by
  intro j u hj
  rcases h.2 with ⟨h0, _⟩ | ⟨_, b, o, he, _, _, hc⟩
  · have hl := h.1
    have hj' := (List.getElem?_eq_some_iff.1 hj).1
    rw [svs_len] at hj'
    omega
  · injection he with he
    subst he
    have h := hc j u hj
    show w.cell? (Addr.add ⟨b, o, none⟩ j) = _
    rw [Addr.add]
    split
    · rename_i h0
      subst h0
      exact h
    · exact h
theorem infoSpr : (Try.prog.info? 48).map (fun i => (i.zero, i.size, i.bytes)) = some (some (sprV .zero), 6, 32) := by kernel_rfl
theorem spr_parts : ∃ i, Try.prog.info? 48 = some i ∧ i.zero = some (sprV .zero) ∧ i.size = 6 ∧ i.bytes = 32 := by
  have h := infoSpr
  cases e : Try.prog.info? 48 with
  | none => rw [e] at h; cases h
  | some i =>
    rw [e] at h
    have h2 : (i.zero, i.size, i.bytes) = (some (sprV .zero), 6, 32) := by simpa using h
    injection h2 with h3 h4
    injection h4 with h5 h6
    exact ⟨i, rfl, h3, h5, h6⟩
theorem run_append_vs (w : World) (base : Nat) (ty : TypeId) (v : Value) (n : Nat) (xs : List Value) (hown : w.ownsRow base 48 6 v n xs) (c : Nat) :
    (Builtin.append_ #[39, 39] ty #[v, .slice none 0 c]).run Try.prog w = .ok v w := by
  obtain ⟨i, hi, _, hz, _⟩ := spr_parts
  rcases hown.2 with ⟨rfl, rfl⟩ | ⟨g, cap, cur, rfl, _, _, hnc, _⟩
  · simp [Builtin.append_, run_underlying Try.underlying39, sizeOf, typeInfo, hi, Builtin.lenOf, Builtin.firstCells]
  · simp [Builtin.append_, run_underlying Try.underlying39, sizeOf, typeInfo, hi, Builtin.lenOf, Builtin.firstCells, hnc, storeCells]
/-- The run of an append of tiles, whatever the source. -/
theorem run_append_sprs (w : World) (ty : TypeId) (base : Nat) (v : Value) (n : Nat) (xs : List Spr) (hown : w.ownsRow base 48 6 v n (svs xs)) (A : Option Addr) (m c : Nat) (ys : List Spr) (fp : List Nat) (hi : Sprs w A m ys fp) (hb : n + m ≤ 1000000000) (hbase : base ≤ w.heap.size) :
    ∃ v' w', (Builtin.append_ #[39, 39] ty #[v, .slice A m c]).run Try.prog w = .ok v' w' ∧ w'.ownsRow base 48 6 v' (n + m) (svs (xs ++ ys)) ∧ w.grownBy w' v.ownBlock ∧ (v'.ownBlock = v.ownBlock ∨ v'.ownBlock = some w.heap.size) := by
  obtain ⟨i0, hi0, hz0, hz1, hz2⟩ := spr_parts
  rcases A with _ | ad
  · have hm : m = 0 := by
      obtain ⟨_, ⟨h, _⟩ | ⟨_, b, o, h, _⟩⟩ := hi
      · omega
      · cases h
    subst hm
    have hy : ys = [] := List.eq_nil_of_length_eq_zero hi.1
    subst hy
    exact ⟨v, w, run_append_vs w base ty v n _ hown c, by simpa using hown, World.grownBy.refl w _, .inl rfl⟩
  · obtain ⟨v', w', hr, h2, h3, _, h5⟩ := run_append_own_at (P := Try.prog) w base 39 ty 48 i0 (sprV .zero) 6 32 Try.underlying39 hi0 hz0 hz1 hz2 rfl (by decide) v n _ hown ad m c (svs ys) (by rw [svs_len, hi.1]; omega) (sprs_news hi) (svs_one ys) (by unfold maxLen; omega) (by omega) hbase
    exact ⟨v', w', hr, by rw [svs_app]; exact h2, h3, h5⟩
theorem wp_append_sprs {w : World} {o : Oper} {a : Act} {K : Act → World → Prop} {Q : Exit → Act → World → Prop} (s x : Operand) (ho : o.op = .call { callee := .builtin .append, args := #[s, x], argTypes := #[39, 39] })
    (base : Nat) (v : Value) (n : Nat) (xs : List Spr) (hs : a.eval s = v) (hown : w.ownsRow base 48 6 v n (svs xs)) (A : Option Addr) (m c : Nat) (ys : List Spr) (fp : List Nat) (hx : a.eval x = .slice A m c) (hi : Sprs w A m ys fp) (hb : n + m ≤ 1000000000) (hbase : base ≤ w.heap.size)
    (h : ∀ v' w', w'.ownsRow base 48 6 v' (n + m) (svs (xs ++ ys)) → w.grownBy w' v.ownBlock → (v'.ownBlock = v.ownBlock ∨ v'.ownBlock = some w.heap.size) → K (a.put o.dst v') w') : o.wp Try.prog a w K Q := by
  obtain ⟨v', w', hr, h2, h3, h4⟩ := run_append_sprs w o.type base v n xs hown A m c ys fp hi hb hbase
  unfold Oper.wp execOp
  simp only [ho, resolve, invoke, builtin, Sem.run_bind, Sem.run_pure, Result.andThen_ok, List.map_toArray, List.map_cons, List.map_nil, hs, hx, hr]
  exact h v' w' h2 h3 h4
theorem wpList_append_sprs {w : World} {ops : Array Oper} {rest : List Oper} {o : Oper} {a : Act} {Q : Exit → Act → World → Prop} (hgd : o.guard = none) (s x : Operand) (ho : o.op = .call { callee := .builtin .append, args := #[s, x], argTypes := #[39, 39] })
    (base : Nat) (v : Value) (n : Nat) (xs : List Spr) (hs : a.eval s = v) (hown : w.ownsRow base 48 6 v n (svs xs)) (A : Option Addr) (m c : Nat) (ys : List Spr) (fp : List Nat) (hx : a.eval x = .slice A m c) (hi : Sprs w A m ys fp) (hb : n + m ≤ 1000000000) (hbase : base ≤ w.heap.size)
    (h : ∀ v' w', w'.ownsRow base 48 6 v' (n + m) (svs (xs ++ ys)) → w.grownBy w' v.ownBlock → (v'.ownBlock = v.ownBlock ∨ v'.ownBlock = some w.heap.size) → wpList Try.prog ops Q rest (a.put o.dst v') w') : wpList Try.prog ops Q (o :: rest) a w :=
  wpList_plain hgd fun _ hK => wp_append_sprs s x ho base v n xs hs hown A m c ys fp hx hi hb hbase fun v' w' h2 h3 h4 => hK _ _ (h v' w' h2 h3 h4)
theorem step_append_sprs {w : World} {ops : Array Oper} {o : Oper} {a : Act} {K : Act → World → Prop} {Q : Exit → Act → World → Prop} {E : Prop} (hgd : o.guard = none) (s x : Operand) (ho : o.op = .call { callee := .builtin .append, args := #[s, x], argTypes := #[39, 39] })
    (base : Nat) (v : Value) (n : Nat) (xs : List Spr) (hs : a.eval s = v) (hown : w.ownsRow base 48 6 v n (svs xs)) (A : Option Addr) (m c : Nat) (ys : List Spr) (fp : List Nat) (hx : a.eval x = .slice A m c) (hi : Sprs w A m ys fp) (hb : n + m ≤ 1000000000) (hbase : base ≤ w.heap.size)
    (h : ∀ v' w', w'.ownsRow base 48 6 v' (n + m) (svs (xs ++ ys)) → w.grownBy w' v.ownBlock → (v'.ownBlock = v.ownBlock ∨ v'.ownBlock = some w.heap.size) → K (a.put o.dst v') w') :
    if Region.wanted o (yielded ops a.tmps) = true then Oper.wp Try.prog o a w K Q else E := by
  have hw : Region.wanted o (yielded ops a.tmps) = true := by simp [Region.wanted, hgd]
  rw [if_pos hw]
  exact wp_append_sprs s x ho base v n xs hs hown A m c ys fp hx hi hb hbase h
theorem own_sprs {w : World} {base : Nat} {v : Value} {n : Nat} {xs : List Spr} (h : w.ownsRow base 48 6 v n (svs xs)) : ∃ A c fp, v = .slice A n c ∧ n ≤ c ∧ Sprs w A n xs fp ∧ New base w fp ∧ ∀ b ∈ fp, v.ownBlock = some b := by
  have hl : xs.length = n := by have := h.1; rw [svs_len] at this; omega
  rcases h.2 with ⟨rfl, h0⟩ | ⟨g, cap, cur, rfl, hb, hh, hnc, _, hsz, hcur⟩
  · subst h0
    have : xs = [] := List.eq_nil_of_length_eq_zero hl
    subst this
    exact ⟨none, 0, [], rfl, Nat.le_refl _, .nil _ _, .nil _ _, by simp⟩
  · by_cases h0 : n = 0
    · subst h0
      have : xs = [] := List.eq_nil_of_length_eq_zero hl
      subst this
      exact ⟨_, cap, [], rfl, hnc, .nil _ _, .nil _ _, by simp⟩
    · have hlt : g < w.heap.size := by
        by_cases hl : g < w.heap.size
        · exact hl
        · rw [Array.getElem?_eq_none (by omega)] at hh; cases hh
      refine ⟨_, cap, [g], rfl, hnc, ⟨hl, .inr ⟨by omega, g, 0, rfl, rfl, hlt, fun k v hv => ?_⟩⟩, .one hb hlt (fun o => by simp [World.frozen?, hh]), by simp [Value.ownBlock]⟩
      rw [cell_of_row w g (0 + k) cur _ (0, 0) hh, Nat.zero_add]
      have hk := (List.getElem?_eq_some_iff.1 hv).1
      rw [svs_len] at hk
      have e : (cur.toList.take (n * 6))[k]? = (svs xs)[k]? := by rw [hcur]
      rw [hv, List.getElem?_take, if_pos (by omega)] at e
      simpa using e
end Go.Proofs.Ytacebhncecninaa
end
