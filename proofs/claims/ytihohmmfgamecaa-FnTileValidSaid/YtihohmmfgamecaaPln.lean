import Derived.Test.YtihohmmfgamecaaTilM
import Derived.Lib.Tables
import Derived.BigRegion

section
/- Planes of a tile as lists of bytes: digits, rows reversed, turned; what flips, turns and used values are in these words. -/
namespace Go.Proofs.Ytihohmmfgamecaa
open Go.ChangeShapes Go.WideShapes Go.ChangeAt Go.RowKit
set_option linter.unusedVariables false

/-- Digit c of a byte, the highest one first. -/
def dig (x : Int) (c : Nat) : Int := x / 2 ^ (7 - c) % 2
theorem dig_bd (x : Int) (c : Nat) : 0 ≤ dig x c ∧ dig x c ≤ 1 := by unfold dig; omega
def byteOf (b : Nat → Int) : Int := 128 * b 0 + 64 * b 1 + 32 * b 2 + 16 * b 3 + 8 * b 4 + 4 * b 5 + 2 * b 6 + b 7
theorem dig_byteOf (b : Nat → Int) (hb : ∀ c, c < 8 → 0 ≤ b c ∧ b c ≤ 1) (c : Nat) (hc : c < 8) : dig (byteOf b) c = b c := by
  have d0 := hb 0 (by omega); have d1 := hb 1 (by omega); have d2 := hb 2 (by omega); have d3 := hb 3 (by omega)
  have d4 := hb 4 (by omega); have d5 := hb 5 (by omega); have d6 := hb 6 (by omega); have d7 := hb 7 (by omega)
  unfold dig byteOf
  have h8 : c = 0 ∨ c = 1 ∨ c = 2 ∨ c = 3 ∨ c = 4 ∨ c = 5 ∨ c = 6 ∨ c = 7 := by omega
  rcases h8 with rfl | rfl | rfl | rfl | rfl | rfl | rfl | rfl <;> simp <;> omega
theorem byteOf_bd (b : Nat → Int) (hb : ∀ c, c < 8 → 0 ≤ b c ∧ b c ≤ 1) : 0 ≤ byteOf b ∧ byteOf b ≤ 255 := by
  have d0 := hb 0 (by omega); have d1 := hb 1 (by omega); have d2 := hb 2 (by omega); have d3 := hb 3 (by omega)
  have d4 := hb 4 (by omega); have d5 := hb 5 (by omega); have d6 := hb 6 (by omega); have d7 := hb 7 (by omega)
  unfold byteOf; omega
theorem byteOf_dig (x : Int) (h0 : 0 ≤ x) (h1 : x ≤ 255) : byteOf (dig x) = x := by
  unfold byteOf dig
  simp
  omega
/-- A list of n bytes. -/
def BytN (n : Nat) (xs : List Int) : Prop := xs.length = n ∧ ∀ i, i < n → 0 ≤ xs.getD i 0 ∧ xs.getD i 0 ≤ 255
def rowsOf (f : Nat → Int) (n : Nat) : List Int := (List.range n).map f
theorem rows_len (f : Nat → Int) (n : Nat) : (rowsOf f n).length = n := by simp [rowsOf]
theorem rows_get (f : Nat → Int) (n i : Nat) (hi : i < n) : (rowsOf f n).getD i 0 = f i := by
  unfold rowsOf
  rw [List.getD_eq_getElem?_getD, List.getElem?_map, List.getElem?_range hi]
  rfl
theorem rows_ext {a b : List Int} {n : Nat} (ha : a.length = n) (hb : b.length = n) (h : ∀ i, i < n → a.getD i 0 = b.getD i 0) : a = b := by
  apply List.ext_getElem (by omega)
  intro i h1 h2
  have := h i (by omega)
  rwa [List.getD_eq_getElem?_getD, List.getD_eq_getElem?_getD, List.getElem?_eq_getElem h1, List.getElem?_eq_getElem h2] at this
/-- One row with its digits reversed. -/
def revB (x : Int) : Int := byteOf fun c => dig x (7 - c)
def acrossP (xs : List Int) : List Int := rowsOf (fun r => revB (xs.getD r 0)) 8
def downP (xs : List Int) : List Int := rowsOf (fun r => xs.getD (7 - r) 0) 8
def turnB (xs : List Int) : List Int := rowsOf (fun r => byteOf fun c => dig (xs.getD (7 - c) 0) r) 8
theorem across_len (xs : List Int) : (acrossP xs).length = 8 := rows_len _ _
theorem down_len (xs : List Int) : (downP xs).length = 8 := rows_len _ _
theorem turnB_len (xs : List Int) : (turnB xs).length = 8 := rows_len _ _
theorem rev_bd (x : Int) : 0 ≤ revB x ∧ revB x ≤ 255 := byteOf_bd _ fun c _ => dig_bd _ _
theorem across_ok (xs : List Int) : BytN 8 (acrossP xs) := ⟨across_len xs, fun i hi => by
  unfold acrossP; rw [rows_get _ _ _ hi]; exact rev_bd _⟩
theorem down_ok {xs : List Int} (h : BytN 8 xs) : BytN 8 (downP xs) := ⟨down_len xs, fun i hi => by
  unfold downP; rw [rows_get _ _ _ hi]; exact h.2 _ (by omega)⟩
theorem turnB_ok (xs : List Int) : BytN 8 (turnB xs) := ⟨turnB_len xs, fun i hi => by
  unfold turnB; rw [rows_get _ _ _ hi]; exact byteOf_bd _ fun c _ => dig_bd _ _⟩
theorem across_dig (xs : List Int) (r c : Nat) (hr : r < 8) (hc : c < 8) : dig ((acrossP xs).getD r 0) c = dig (xs.getD r 0) (7 - c) := by
  unfold acrossP; rw [rows_get _ _ _ hr]; unfold revB
  rw [dig_byteOf _ (fun c _ => dig_bd _ _) c hc]
theorem down_dig (xs : List Int) (r c : Nat) (hr : r < 8) : dig ((downP xs).getD r 0) c = dig (xs.getD (7 - r) 0) c := by
  unfold downP; rw [rows_get _ _ _ hr]
theorem turnB_dig (xs : List Int) (r c : Nat) (hr : r < 8) (hc : c < 8) : dig ((turnB xs).getD r 0) c = dig (xs.getD (7 - c) 0) r := by
  unfold turnB; rw [rows_get _ _ _ hr, dig_byteOf _ (fun c _ => dig_bd _ _) c hc]
/-- Byte col of the first k rows turned. -/
def trn (xs : List Int) (col : Nat) : Nat → Int
  | 0 => 0
  | k + 1 => trn xs col k / 2 + 128 * dig (xs.getD k 0) col
theorem trn_bd (xs : List Int) (col : Nat) : ∀ k, 0 ≤ trn xs col k ∧ trn xs col k ≤ 255
  | 0 => by simp [trn]
  | k + 1 => by
    have ih := trn_bd xs col k
    have := dig_bd (xs.getD k 0) col
    unfold trn; omega
theorem trn_8 (xs : List Int) (col : Nat) : trn xs col 8 = byteOf fun c => dig (xs.getD (7 - c) 0) col := by
  have d0 := dig_bd (xs.getD 0 0) col; have d1 := dig_bd (xs.getD 1 0) col; have d2 := dig_bd (xs.getD 2 0) col; have d3 := dig_bd (xs.getD 3 0) col
  have d4 := dig_bd (xs.getD 4 0) col; have d5 := dig_bd (xs.getD 5 0) col; have d6 := dig_bd (xs.getD 6 0) col; have d7 := dig_bd (xs.getD 7 0) col
  simp only [trn, byteOf]
  simp only [Nat.sub_zero, Nat.reduceSub]
  omega
/-- The same done to both planes. -/
def eachP (f : List Int → List Int) (xs : List Int) : List Int := f (xs.take 8) ++ f (xs.drop 8)
theorem tak8_get (xs : List Int) (r : Nat) (hr : r < 8) : (xs.take 8).getD r 0 = xs.getD r 0 := by
  rw [List.getD_eq_getElem?_getD, List.getD_eq_getElem?_getD, List.getElem?_take, if_pos hr]
theorem dro8_get (xs : List Int) (r : Nat) : (xs.drop 8).getD r 0 = xs.getD (8 + r) 0 := by
  rw [List.getD_eq_getElem?_getD, List.getD_eq_getElem?_getD, List.getElem?_drop]
theorem each_lo (f : List Int → List Int) (xs : List Int) (hl : (f (xs.take 8)).length = 8) (r : Nat) (hr : r < 8) : (eachP f xs).getD r 0 = (f (xs.take 8)).getD r 0 := by
  unfold eachP
  rw [List.getD_eq_getElem?_getD, List.getD_eq_getElem?_getD, List.getElem?_append_left (by omega)]
theorem each_hi (f : List Int → List Int) (xs : List Int) (hl : (f (xs.take 8)).length = 8) (r : Nat) : (eachP f xs).getD (8 + r) 0 = (f (xs.drop 8)).getD r 0 := by
  unfold eachP
  rw [List.getD_eq_getElem?_getD, List.getD_eq_getElem?_getD, List.getElem?_append_right (by omega), hl]
  congr 2; omega
theorem half_ok {xs : List Int} (h : BytN 16 xs) : BytN 8 (xs.take 8) ∧ BytN 8 (xs.drop 8) :=
  ⟨⟨by simp [h.1], fun i hi => by rw [tak8_get _ _ hi]; exact h.2 i (by omega)⟩, ⟨by simp [h.1], fun i hi => by rw [dro8_get]; exact h.2 _ (by omega)⟩⟩
theorem each_ok (f : List Int → List Int) (hf : ∀ ys, BytN 8 ys → BytN 8 (f ys)) {xs : List Int} (h : BytN 16 xs) : BytN 16 (eachP f xs) := by
  have h1 := hf _ (half_ok h).1
  have h2 := hf _ (half_ok h).2
  refine ⟨by unfold eachP; rw [List.length_append, h1.1, h2.1], fun i hi => ?_⟩
  by_cases l : i < 8
  · rw [each_lo f xs h1.1 i l]; exact h1.2 i l
  · obtain ⟨r, rfl⟩ : ∃ r, i = 8 + r := ⟨i - 8, by omega⟩
    rw [each_hi f xs h1.1 r]; exact h2.2 r (by omega)
theorem readP_dig (xs : List Int) (k : Nat) : readP xs k = dig (xs.getD (k / 8) 0) (k % 8) + 2 * dig (xs.getD (8 + k / 8) 0) (k % 8) := rfl
/-- The pixels of planes whose digits come from other places. -/
theorem each_readP (f : List Int → List Int) (rr cc : Nat → Nat → Nat) (xs : List Int) (hl : ∀ ys, (f ys).length = 8) (hr : ∀ r c, r < 8 → c < 8 → rr r c < 8)
    (hd : ∀ ys r c, r < 8 → c < 8 → dig ((f ys).getD r 0) c = dig (ys.getD (rr r c) 0) (cc r c)) (k : Nat) (hk : k < 64) :
    readP (eachP f xs) k = dig (xs.getD (rr (k / 8) (k % 8)) 0) (cc (k / 8) (k % 8)) + 2 * dig (xs.getD (8 + rr (k / 8) (k % 8)) 0) (cc (k / 8) (k % 8)) := by
  have h8 : k / 8 < 8 := by omega
  have c8 : k % 8 < 8 := by omega
  rw [readP_dig, each_lo f xs (hl _) _ h8, each_hi f xs (hl _), hd _ _ _ h8 c8, hd _ _ _ h8 c8, tak8_get _ _ (hr _ _ h8 c8), dro8_get]
theorem bytT_dig {px : List Int} (hp : px.length = 64) (hv : tilB px = true) (r c : Nat) (hr : r < 8) (hc : c < 8) : dig ((bytT px).getD r 0) c + 2 * dig ((bytT px).getD (8 + r) 0) c = px.getD (8 * r + c) 0 := by
  unfold dig
  rw [bytT_get px _ (by omega), bytT_get px _ (by omega), plane_digit px _ _ hc, plane_digit px _ _ hc]
  obtain ⟨h0, h1⟩ := til_px hp hv (8 * r + c) (by omega)
  rw [show r % 8 * 8 + c = 8 * r + c by omega, show (8 + r) % 8 * 8 + c = 8 * r + c by omega, show r / 8 = 0 by omega, show (8 + r) / 8 = 1 by omega]
  generalize px.getD (8 * r + c) 0 = p at h0 h1
  simp
  omega
theorem bytT_ok (px : List Int) : BytN 16 (bytT px) := ⟨bytT_len px, fun i hi => by rw [bytT_get px i hi]; exact plane_255 px i 8 (by omega)⟩
def tileP (xs : List Int) : List Int := mkT id (readP xs) 64
theorem tileP_len (xs : List Int) : (tileP xs).length = 64 := mkT_len _ _ _
theorem tileP_get (xs : List Int) (k : Nat) (hk : k < 64) : (tileP xs).getD k 0 = readP xs k := mkT_at id (fun i h => h) _ k hk
def onceX (f : List Int → List Int) (a : Bool) (xs : List Int) : List Int := if a = true then eachP f xs else xs
theorem onceX_ok (f : List Int → List Int) (hf : ∀ ys, BytN 8 ys → BytN 8 (f ys)) (a : Bool) {xs : List Int} (h : BytN 16 xs) : BytN 16 (onceX f a xs) := by
  cases a
  · exact h
  · exact each_ok f hf h
def flipX (px : List Int) (a d : Bool) : List Int := onceX downP d (onceX acrossP a (bytT px))
theorem flipX_ok (px : List Int) (a d : Bool) : BytN 16 (flipX px a d) := onceX_ok _ (fun _ h => down_ok h) d (onceX_ok _ (fun _ h => across_ok _) a (bytT_ok px))
theorem flip_planes {px : List Int} (hp : px.length = 64) (hv : tilB px = true) (a d : Bool) : tileP (flipX px a d) = flipT px a d := by
  refine mkT_ext (tileP_len _) (flip_len px a d) fun k hk => ?_
  rw [tileP_get _ k hk, flip_get hv a d k hk]
  have k8 : k / 8 < 8 := by omega
  have c8 : k % 8 < 8 := by omega
  have hA : ∀ xs k, k < 64 → readP (eachP acrossP xs) k = dig (xs.getD (k / 8) 0) (7 - k % 8) + 2 * dig (xs.getD (8 + k / 8) 0) (7 - k % 8) := fun xs k hk =>
    each_readP acrossP (fun r _ => r) (fun _ c => 7 - c) xs across_len (fun r c h _ => h) (fun ys r c h1 h2 => across_dig ys r c h1 h2) k hk
  have hD : ∀ xs k, k < 64 → readP (eachP downP xs) k = dig (xs.getD (7 - k / 8) 0) (k % 8) + 2 * dig (xs.getD (8 + (7 - k / 8)) 0) (k % 8) := fun xs k hk =>
    each_readP downP (fun r _ => 7 - r) (fun _ c => c) xs down_len (fun r c h _ => by omega) (fun ys r c h1 h2 => down_dig ys r c h1) k hk
  cases a <;> cases d
  · show readP (bytT px) k = _
    rw [readP_dig, bytT_dig hp hv _ _ k8 c8]
    rfl
  · show readP (eachP downP (bytT px)) k = _
    rw [hD _ _ hk, bytT_dig hp hv _ _ (by omega) c8]
    rfl
  · show readP (eachP acrossP (bytT px)) k = _
    rw [hA _ _ hk, bytT_dig hp hv _ _ k8 (by omega)]
    rfl
  · show readP (eachP downP (eachP acrossP (bytT px))) k = _
    obtain ⟨j, hj⟩ : ∃ j, j = 8 * (7 - k / 8) + k % 8 := ⟨_, rfl⟩
    have e : readP (eachP downP (eachP acrossP (bytT px))) k = readP (eachP acrossP (bytT px)) j := by
      rw [hD _ _ hk, readP_dig, show j / 8 = 7 - k / 8 by omega, show j % 8 = k % 8 by omega]
    rw [e, hA _ _ (by omega), bytT_dig hp hv _ _ (by omega) (by omega)]
    unfold flipP
    rw [if_pos rfl, if_pos rfl]
    congr 1
    omega
theorem turn_planes {px : List Int} (hp : px.length = 64) (hv : tilB px = true) : tileP (eachP turnB (bytT px)) = turnT px := by
  refine mkT_ext (tileP_len _) (turn_len px) fun k hk => ?_
  rw [tileP_get _ k hk, turn_get hv k hk]
  rw [each_readP turnB (fun _ c => 7 - c) (fun r _ => r) (bytT px) turnB_len (fun r c _ h => by omega) (fun ys r c h1 h2 => turnB_dig ys r c h1 h2) k hk,
    bytT_dig hp hv _ _ (by omega) (by omega)]
  rfl
/-- Row k of a tile has a pixel of this value. -/
def hasV (px : List Int) (k v : Nat) : Bool := (List.range 8).any fun c => px.getD (8 * k + c) 0 == (v : Int)
theorem hasV_iff (px : List Int) (k v : Nat) : hasV px k v = true ↔ ∃ c, c < 8 ∧ px.getD (8 * k + c) 0 = (v : Int) := by
  unfold hasV
  rw [List.any_eq_true]
  constructor
  · rintro ⟨c, h1, h2⟩
    exact ⟨c, List.mem_range.1 h1, by simpa using h2⟩
  · rintro ⟨c, h1, h2⟩
    exact ⟨c, List.mem_range.2 h1, by simpa using h2⟩
/-- The values used so far: all rows before row k, and of row k those below v. -/
def rowU (px : List Int) (k : Nat) : Nat → Nat
  | 0 => usedU px (8 * k)
  | v + 1 => rowU px k v ||| (if hasV px k v = true then 2 ^ v else 0)
theorem rowU_bit (px : List Int) (k b : Nat) : ∀ v, (rowU px k v).testBit b = true ↔ (usedU px (8 * k)).testBit b = true ∨ (b < v ∧ hasV px k b = true)
  | 0 => by simp [rowU]
  | v + 1 => by
    rw [rowU, Nat.testBit_or, Bool.or_eq_true, rowU_bit px k b v]
    have e : (if hasV px k v = true then 2 ^ v else 0).testBit b = true ↔ v = b ∧ hasV px k v = true := by
      by_cases h : hasV px k v = true
      · rw [if_pos h, Nat.testBit_two_pow]; simp [h]
      · rw [if_neg h]; simp [h]
    rw [e]
    constructor
    · rintro ((h | ⟨h1, h2⟩) | ⟨rfl, h2⟩)
      · exact .inl h
      · exact .inr ⟨by omega, h2⟩
      · exact .inr ⟨by omega, h2⟩
    · rintro (h | ⟨h1, h2⟩)
      · exact .inl (.inl h)
      · by_cases e : v = b
        · subst e; exact .inr ⟨rfl, h2⟩
        · exact .inl (.inr ⟨by omega, h2⟩)
theorem rowU_4 {px : List Int} (hp : px.length = 64) (hv : tilB px = true) (k : Nat) (hk : k < 8) : rowU px k 4 = usedU px (8 * (k + 1)) := by
  refine Nat.eq_of_testBit_eq fun b => ?_
  rw [Bool.eq_iff_iff, rowU_bit, used_bit, used_bit, hasV_iff]
  constructor
  · rintro (⟨i, hi, h⟩ | ⟨h1, c, hc, h⟩)
    · exact ⟨i, by omega, h⟩
    · exact ⟨8 * k + c, by omega, by rw [h]; rfl⟩
  · rintro ⟨i, hi, h⟩
    by_cases l : i < 8 * k
    · exact .inl ⟨i, l, h⟩
    · obtain ⟨h0, h1⟩ := til_px hp hv i (by omega)
      refine .inr ⟨by omega, i - 8 * k, by omega, ?_⟩
      rw [show 8 * k + (i - 8 * k) = i by omega]
      omega
theorem rowU_lt {px : List Int} (hp : px.length = 64) (hv : tilB px = true) (k : Nat) (hk : k < 8) : ∀ v, v ≤ 4 → rowU px k v < 16
  | 0, _ => by
    have h := usedU_lt hp hv (8 * k) (by omega)
    simpa [rowU] using h
  | v + 1, h => by
    have ih := rowU_lt hp hv k hk v (by omega)
    rw [rowU]
    refine Nat.or_lt_two_pow (n := 4) ih ?_
    split
    · exact Nat.pow_lt_pow_right (by omega) (by omega)
    · omega
/-- The places of a row that have a value, from its two bytes. -/
def placesN (l h v : Nat) : Nat := (if v / 2 = 1 then h else 255 - h) &&& (if v % 2 = 1 then l else 255 - l)
theorem not_bit (x i : Nat) (hx : x < 256) (hi : i < 8) : (255 - x).testBit i = !x.testBit i := by
  have h := Nat.testBit_two_pow_sub_succ (n := 8) (x := x) (by omega) i
  rw [show (255 : Nat) - x = 2 ^ 8 - (x + 1) by omega, h]
  simp [hi]
theorem and_zero (x y : Nat) (hx : x < 256) : x &&& y = 0 ↔ ∀ i, i < 8 → ¬ (x.testBit i = true ∧ y.testBit i = true) := by
  constructor
  · intro h i _ ⟨h1, h2⟩
    have : (x &&& y).testBit i = true := by rw [Nat.testBit_and, h1, h2]; rfl
    rw [h] at this
    simp at this
  · intro h
    refine Nat.eq_of_testBit_eq fun i => ?_
    rw [Nat.testBit_and, Nat.zero_testBit]
    by_cases hi : i < 8
    · have := h i hi
      cases h1 : x.testBit i <;> cases h2 : y.testBit i <;> simp_all
    · have hlt : x < 2 ^ i := Nat.lt_of_lt_of_le hx (Nat.pow_le_pow_right (n := 2) (by omega) (show 8 ≤ i by omega))
      rw [Nat.testBit_lt_two_pow hlt]; rfl
theorem dig_bit (x c : Nat) (hc : c < 8) : dig (x : Int) c = if x.testBit (7 - c) = true then 1 else 0 := by
  unfold dig
  rw [Nat.testBit_eq_decide_div_mod_eq]
  have e : (x : Int) / 2 ^ (7 - c) % 2 = ((x / 2 ^ (7 - c) % 2 : Nat) : Int) := by simp
  rw [e]
  by_cases h : x / 2 ^ (7 - c) % 2 = 1
  · simp [h]
  · have : x / 2 ^ (7 - c) % 2 = 0 := by omega
    simp [this]
theorem half_bit (x : Nat) (b : Bool) (i : Nat) (hx : x < 256) (hi : i < 8) : (if b = true then x else 255 - x).testBit i = (x.testBit i == b) := by
  cases b
  · rw [if_neg (by simp), not_bit x i hx hi]; cases x.testBit i <;> rfl
  · rw [if_pos rfl]; cases x.testBit i <;> rfl
theorem places_zero (l h v : Nat) (hl : l < 256) (hh : h < 256) (hv : v < 4) : placesN l h v ≠ 0 ↔ ∃ c, c < 8 ∧ dig (l : Int) c + 2 * dig (h : Int) c = (v : Int) := by
  have e : placesN l h v = (if decide (v / 2 = 1) = true then h else 255 - h) &&& (if decide (v % 2 = 1) = true then l else 255 - l) := by
    unfold placesN; simp
  have hx : (if decide (v / 2 = 1) = true then h else 255 - h) < 256 := by split <;> omega
  rw [e, Ne, and_zero _ _ hx]
  constructor
  · intro hn
    have hn' : ∃ i, i < 8 ∧ ((if decide (v / 2 = 1) = true then h else 255 - h).testBit i = true ∧ (if decide (v % 2 = 1) = true then l else 255 - l).testBit i = true) := by
      refine Classical.byContradiction fun hc => hn fun i hi hb => hc ⟨i, hi, hb⟩
    obtain ⟨i, hi, h1, h2⟩ := hn'
    rw [half_bit _ _ i hh hi] at h1
    rw [half_bit _ _ i hl hi] at h2
    refine ⟨7 - i, by omega, ?_⟩
    rw [dig_bit _ _ (by omega), dig_bit _ _ (by omega), show 7 - (7 - i) = i by omega]
    have v4 : v = 0 ∨ v = 1 ∨ v = 2 ∨ v = 3 := by omega
    rcases v4 with rfl | rfl | rfl | rfl <;> simp_all
  · rintro ⟨c, hc, hd⟩ hn
    refine hn (7 - c) (by omega) ?_
    rw [half_bit _ _ _ hh (by omega), half_bit _ _ _ hl (by omega)]
    rw [dig_bit _ _ hc, dig_bit _ _ hc] at hd
    have v4 : v = 0 ∨ v = 1 ∨ v = 2 ∨ v = 3 := by omega
    cases h1 : h.testBit (7 - c) <;> cases h2 : l.testBit (7 - c) <;> rcases v4 with rfl | rfl | rfl | rfl <;> simp_all
theorem has_places {px : List Int} (hp : px.length = 64) (hv : tilB px = true) (k v : Nat) (hk : k < 8) (h4 : v < 4) (l h : Nat) (hl : (bytT px).getD k 0 = (l : Int)) (hh : (bytT px).getD (8 + k) 0 = (h : Int)) :
    placesN l h v ≠ 0 ↔ hasV px k v = true := by
  have bl := (bytT_ok px).2 k (by omega)
  have bh := (bytT_ok px).2 (8 + k) (by omega)
  rw [hl] at bl
  rw [hh] at bh
  rw [places_zero l h v (by omega) (by omega) h4, hasV_iff]
  constructor
  · rintro ⟨c, hc, hd⟩
    exact ⟨c, hc, by rw [← bytT_dig hp hv k c hk hc, hl, hh]; exact hd⟩
  · rintro ⟨c, hc, hd⟩
    exact ⟨c, hc, by rw [← hl, ← hh, bytT_dig hp hv k c hk hc]; exact hd⟩
end Go.Proofs.Ytihohmmfgamecaa
end

section
/- Arrays of bytes held by value: loads, stores and indexes as one step each, at any place of a block. -/
namespace Go.Proofs.Ytihohmmfgamecaa
open Go.ChangeShapes Go.WideShapes Go.ChangeAt Go.RowKit
set_option linter.unusedVariables false

abbrev uv (xs : List Int) : List Value := xs.map (Value.int .u8)
abbrev octV (xs : List Int) : Value := .agg (uv xs).toArray
theorem uv_at (xs : List Int) (i : Nat) (h : i < xs.length) : (uv xs)[i]? = some (.int .u8 (xs.getD i 0)) := by
  rw [List.getElem?_map, List.getElem?_eq_getElem h, List.getD_eq_getElem?_getD, List.getElem?_eq_getElem h]; rfl
theorem uv_one (xs : List Int) : (uv xs).toArray.all (·.oneCell') = true := by
  rw [Array.all_eq_true_iff_forall_mem]
  intro x hx
  obtain ⟨y, _, rfl⟩ := List.mem_map.1 (show x ∈ xs.map (Value.int .u8) by simpa using hx)
  rfl
theorem uv_size (xs : List Int) (n : Nat) (h : xs.length = n) : (uv xs).toArray.size = n := by simp [h]
theorem uv_set (xs : List Int) (i : Nat) (v : Int) : (uv xs).set i (.int .u8 v) = uv (xs.set i v) := by simp [List.map_set]
theorem oct_cell {w : World} {b : Nat} {t : TypeId} {xs : List Int} (h : Box w b t (uv xs)) (i : Nat) (hi : i < xs.length) : w.cell? ⟨b, i, none⟩ = some (.int .u8 (xs.getD i 0)) := (h.cell i).trans (uv_at xs i hi)
theorem add_none (b o j : Nat) : (⟨b, o, none⟩ : Addr).add j = ⟨b, o + j, none⟩ := by unfold Addr.add; split <;> simp_all
def aggD : TypeDesc → Bool
  | .struct _ => true
  | .array _ _ => true
  | _ => false
section
variable {P : Program}
/-- A whole array or struct out of a place of a block. -/
theorem run_loadVar_part (w : World) (g off : Nat) (t ty : TypeId) (cs ds : List Value) (d : TypeDesc) (hg : Box w g t cs)
    (hu : P.underlying ty = some d) (hd : aggD d = true) (hi : (P.info? ty).map (·.size) = some ds.length)
    (hs : ∀ j v, ds[j]? = some v → cs[off + j]? = some v) :
    (loadVar ty ⟨g, off, none⟩).run P w = .ok (.agg ds.toArray) w := by
  have hl : (loadCells ⟨g, off, none⟩ ds.length).run P w = .ok ds.toArray w :=
    run_loadCells_list (P := P) w ⟨g, off, none⟩ ds (fun j v hv => by
      rw [add_none, hg.cell]
      exact hs j v hv)
  cases hq : P.info? ty with
  | none => simp [hq] at hi
  | some i =>
    have hsz : i.size = ds.length := by simpa [hq] using hi
    have hagg : (isAgg ty).run P w = .ok true w := by
      unfold isAgg
      rw [Sem.run_bind, run_underlying hu w]
      cases d <;> simp_all [go_sem, aggD]
    have hso : (sizeOf ty).run P w = .ok ds.length w := by simp [sizeOf, typeInfo, hq, hsz]
    simp [loadVar, Sem.run_bind, hagg, hso, hl]
/-- An entry of an array by value. -/
theorem run_index_row (w : World) (t e : TypeId) (n : Nat) (cs : Array Value) (k : IntKind) (i : Nat) (v : Value) (hu : P.underlying t = some (.array n e)) (he : ∀ w, (isAgg e).run P w = .ok false w) (hz : (P.info? e).map (·.size) = some 1)
    (hi : i < n) (hc : cs[i]? = some v) : (Instr.index t (.agg cs) (.int k (i : Int))).run P w = .ok v w := by
  have hso : (sizeOf e).run P w = .ok 1 w := by
    cases hq : P.info? e with
    | none => simp [hq] at hz
    | some q => simp [hq] at hz; simp [sizeOf, typeInfo, hq, hz]
  have hlt : 0 ≤ (i : Int) ∧ (i : Int) < n := by omega
  have hni : ¬ n ≤ i := by omega
  simp [Instr.index, run_underlying hu, asIntOf, hlt, hso, part, he, hc, hni, go_sem]
/-- An entry of an array of arrays by value: a part of the cells. -/
theorem run_index_rows (w : World) (t e : TypeId) (n m : Nat) (cs : Array Value) (k : IntKind) (i : Nat) (hu : P.underlying t = some (.array n e)) (he : ∀ w, (isAgg e).run P w = .ok true w) (hz : (P.info? e).map (·.size) = some m)
    (hi : i < n) : (Instr.index t (.agg cs) (.int k (i : Int))).run P w = .ok (.agg (cs.extract (i * m) (i * m + m))) w := by
  have hso : (sizeOf e).run P w = .ok m w := by
    cases hq : P.info? e with
    | none => simp [hq] at hz
    | some q => simp [hq] at hz; simp [sizeOf, typeInfo, hq, hz]
  have hlt : 0 ≤ (i : Int) ∧ (i : Int) < n := by omega
  have hni : ¬ n ≤ i := by omega
  simp [Instr.index, run_underlying hu, asIntOf, hlt, hso, part, he, hni, go_sem]
end
/-- The type of n cells that are held by value. -/
structure ArrTy (ty : TypeId) (n : Nat) : Prop where
  agg : ∃ d, Try.prog.underlying ty = some d ∧ aggD d = true
  info : (Try.prog.info? ty).map (·.size) = some n
theorem ty_plane : ArrTy 56 8 := ⟨⟨_, Try.underlying56, rfl⟩, by kernel_rfl⟩
theorem ty_planes : ArrTy 58 16 := ⟨⟨_, Try.underlying58, rfl⟩, by kernel_rfl⟩
theorem ty_four : ArrTy 67 4 := ⟨⟨_, Try.underlying67, rfl⟩, by kernel_rfl⟩
theorem ty_pixels : ArrTy 23 64 := ⟨⟨_, Try.underlying23, rfl⟩, by kernel_rfl⟩
theorem ty_tile : ArrTy 25 64 := ⟨⟨_, Try.underlying25, rfl⟩, til_info⟩
section
variable {ops : Array Oper} {rest : List Oper} {o : Oper} {a : Act} {w : World} {Q : Exit → Act → World → Prop} {ty : TypeId} {n : Nat}
theorem sa_load (A : ArrTy ty n) (hw : Region.wanted o (yielded ops a.tmps) = true) (x : Operand) (ho : o.op = .load ty x) (b off : Nat) (hx : a.eval x = .pointer (some ⟨b, off, none⟩)) (t : TypeId) (cs ds : List Value) (hb : Box w b t cs) (hl : ds.length = n)
    (hs : ∀ j v, ds[j]? = some v → cs[off + j]? = some v) (h : wpList Try.prog ops Q rest (a.put o.dst (.agg ds.toArray)) w) : wpList Try.prog ops Q (o :: rest) a w :=
  wpList_step fun K hK => by
    rw [if_pos hw]
    obtain ⟨d, hu, hd⟩ := A.agg
    unfold Oper.wp execOp
    simp only [ho, hx, Instr.loadAt, Instr.sureAddr, Sem.run_bind, Sem.run_pure, Result.andThen_ok, run_loadVar_part w b off t ty cs ds d hb hu hd (by rw [hl]; exact A.info) hs]
    exact hK _ _ h
theorem sa_store (A : ArrTy ty n) (hw : Region.wanted o (yielded ops a.tmps) = true) (x y : Operand) (ho : o.op = .store ty x y) (b : Nat) (hx : a.eval x = .pointer (some ⟨b, 0, none⟩)) (t : TypeId) (cs ds : List Value) (hy : a.eval y = .agg ds.toArray) (hb : Box w b t cs) (hc : cs.length = n) (hl : ds.length = n) (h1 : ds.toArray.all (·.oneCell') = true)
    (h : wpList Try.prog ops Q rest (a.put o.dst undef) (w.setRow b ds.toArray)) : wpList Try.prog ops Q (o :: rest) a w :=
  wpList_step fun K hK => by
    rw [if_pos hw]
    exact wp_store_row _ x y ho b ds.toArray hx hy t cs.toArray hb (by rw [List.size_toArray, hl]; exact A.info) (by simp [hc, hl]) h1 (hK _ _ h)
end
/-- What a function with one array for its result hands back. -/
theorem arr_ret {ty : TypeId} {n : Nat} (A : ArrTy ty n) {fn : Func} {p : Tmp} {tmps : Array Value} {w : World} {b : Nat} {t : TypeId} {cs : List Value} (hr : fn.results = #[.cell p ty]) (hp : tmps.getD p undef = .pointer (some ⟨b, 0, none⟩)) (hb : Box w b t cs) (hl : cs.length = n) : (results fn tmps).run Try.prog w = .ok (.agg cs.toArray) w := by
  obtain ⟨d, hu, hd⟩ := A.agg
  exact results_cell_row hr tmps w b t cs.toArray (0, 0) d hp hb hu (by cases d <;> first | rfl | (simp [aggD] at hd)) (by rw [List.size_toArray, hl]; exact A.info)
theorem oct_none (w : World) : (isAgg 54).run Try.prog w = .ok false w := by
  have h : Try.prog.underlying 54 = some (.int .u8) := by kernel_rfl
  unfold isAgg
  rw [Sem.run_bind, run_underlying h w]; rfl
theorem int_none (w : World) : (isAgg 3).run Try.prog w = .ok false w := by
  have h : Try.prog.underlying 3 = some (.int .i64) := by kernel_rfl
  unfold isAgg
  rw [Sem.run_bind, run_underlying h w]; rfl
theorem plane_agg (w : World) : (isAgg 56).run Try.prog w = .ok true w := by
  unfold isAgg
  rw [Sem.run_bind, run_underlying Try.underlying56 w]; rfl
theorem oct_size : (Try.prog.info? 54).map (·.size) = some 1 := by kernel_rfl
theorem int_size : (Try.prog.info? 3).map (·.size) = some 1 := by kernel_rfl
/-- An entry of a plane, of four bytes, of 64 numbers. -/
theorem run_index_plane (w : World) (xs : List Int) (h : xs.length = 8) (i : Nat) (hi : i < 8) : (Instr.index 56 (octV xs) (.int .i64 (i : Int))).run Try.prog w = .ok (.int .u8 (xs.getD i 0)) w :=
  run_index_row w _ _ 8 _ _ i _ Try.underlying56 oct_none oct_size hi (by have := uv_at xs i (by omega); simpa using this)
theorem run_index_four (w : World) (xs : List Int) (h : xs.length = 4) (i : Nat) (hi : i < 4) : (Instr.index 67 (octV xs) (.int .i64 (i : Int))).run Try.prog w = .ok (.int .u8 (xs.getD i 0)) w :=
  run_index_row w _ _ 4 _ _ i _ Try.underlying67 oct_none oct_size hi (by have := uv_at xs i (by omega); simpa using this)
theorem run_index_pixels (w : World) (xs : List Int) (h : xs.length = 64) (i : Nat) (hi : i < 64) : (Instr.index 23 (tilV xs) (.int .i64 (i : Int))).run Try.prog w = .ok (.int .i64 (xs.getD i 0)) w :=
  run_index_row w _ _ 64 _ _ i _ Try.underlying23 int_none int_size hi (by have := iv_at xs i (by omega); simpa using this)
theorem run_index_planes (w : World) (xs : List Int) (h : xs.length = 16) (i : Nat) (hi : i < 2) : (Instr.index 58 (octV xs) (.int .i64 (i : Int))).run Try.prog w = .ok (octV ((xs.drop (8 * i)).take 8)) w := by
  rw [run_index_rows w _ _ 2 8 _ _ i Try.underlying58 plane_agg ty_plane.info hi]
  congr 2
  apply Array.ext'
  simp [List.map_drop, List.map_take, Nat.mul_comm]
end Go.Proofs.Ytihohmmfgamecaa
end

section
/- The program's functions on one plane: a digit, the values in a row, a byte reversed. -/
namespace Go.Proofs.Ytihohmmfgamecaa
open Go.ChangeShapes Go.WideShapes Go.ChangeAt Go.RowKit
set_option linter.unusedVariables false

theorem u8_all {P : Int → Prop} (h : ∀ n : Fin 256, P (n.val : Int)) (a : Int) (h0 : 0 ≤ a) (h1 : a ≤ 255) : P a := by
  obtain ⟨n, rfl⟩ := Int.eq_ofNat_of_zero_le h0
  exact h ⟨n, by omega⟩
theorem and_one (y : Int) (h0 : 0 ≤ y) (h1 : y ≤ 255) : bits .and .u8 y 1 = y % 2 := u8_all (P := fun y => bits .and .u8 y 1 = y % 2) (by decide +kernel) y h0 h1
theorem get_at (xs : List Int) (r : Nat) (h : r < xs.length) : xs[r] = xs.getD r 0 := by rw [List.getD_eq_getElem?_getD, List.getElem?_eq_getElem h]; rfl
theorem shr_bd (x : Int) (k : Nat) (h0 : 0 ≤ x) (h1 : x ≤ 255) : 0 ≤ x / 2 ^ k ∧ x / 2 ^ k ≤ 255 := by
  have hp : (0 : Int) < 2 ^ k := Int.pow_pos (by decide)
  refine ⟨Int.ediv_nonneg h0 (Int.le_of_lt hp), Int.le_trans (Int.ediv_le_self _ h0) h1⟩
theorem dig_bits (x : Int) (c : Nat) (h0 : 0 ≤ x) (h1 : x ≤ 255) : bits .and .u8 (x / 2 ^ (7 - c)) 1 = dig x c := and_one _ (shr_bd x _ h0 h1).1 (shr_bd x _ h0 h1).2
set_option maxHeartbeats 2000000 in
theorem pl_digit (xs : List Int) (hx : BytN 8 xs) (r c : Nat) (hr : r < 8) (hc : c < 8) (w : World) :
    Calls Try.prog 65 #[octV xs, .int .i64 (r : Int), .int .i64 (c : Int)] w fun e w' => e = .returned (.int .u8 (dig (xs.getD r 0) c)) ∧ Below w.heap.size w w' := by
  have hl := hx.1
  have HD : Hid (bits .and .u8 (xs[r] / 2 ^ (7 - c)) 1 = dig (xs.getD r 0) c) := by
    rw [get_at xs r (by omega)]
    exact Lib.hid (dig_bits _ c (hx.2 r hr).1 (hx.2 r hr).2)
  clear hx
  have r8 : (r : Int) < 8 := by omega
  have r0 : 0 ≤ (r : Int) := by omega
  have c8 : (c : Int) < 8 := by omega
  have cc0 : 0 ≤ (c : Int) := by omega
  go_enter Try.func65, Try.ntmps65
  go_wp2_with fail
  go_ret
  refine ⟨?_, below1 _ _⟩
  show Ending.returned (Value.int .u8 (bits .and .u8 (xs[r] / 2 ^ (7 - c)) 1)) = _
  rw [HD.out]
theorem pl_rev8 (x : Int) (h0 : 0 ≤ x) (h1 : x ≤ 255) (w : World) : Calls Try.prog 67 #[.int .u8 x] w fun e w' => e = .returned (.int .u8 (Lib.rev8 x)) ∧ w = w' := by
  go_enter Try.func67, Try.ntmps67
  go_wp2_with fail
  go_ret
  exact ⟨rfl, rfl⟩
theorem rev_eq (x : Int) (h0 : 0 ≤ x) (h1 : x ≤ 255) : Lib.rev8 x = revB x := u8_all (P := fun x => Lib.rev8 x = revB x) (by decide +kernel) x h0 h1
/-- Bytes of which the first k are f's, the others those of xs. -/
def upK (f : Nat → Int) (xs : List Int) (k : Nat) : List Int := rowsOf (fun i => if i < k then f i else xs.getD i 0) 8
theorem upK_len (f : Nat → Int) (xs : List Int) (k : Nat) : (upK f xs k).length = 8 := rows_len _ _
theorem upK_zero (f : Nat → Int) (xs : List Int) (h : xs.length = 8) : upK f xs 0 = xs := rows_ext (upK_len _ _ _) h fun i hi => by
  unfold upK; rw [rows_get _ _ _ hi, if_neg (by omega)]
theorem upK_set (f : Nat → Int) (xs : List Int) (k : Nat) (hk : k < 8) : (upK f xs k).set k (f k) = upK f xs (k + 1) := by
  refine rows_ext (n := 8) (by simp [upK_len]) (upK_len _ _ _) fun i hi => ?_
  rw [List.getD_eq_getElem?_getD, List.getElem?_set]
  by_cases e : k = i
  · subst e
    rw [if_pos rfl, if_pos (by rw [upK_len]; exact hi)]
    unfold upK; rw [rows_get _ _ _ hi, if_pos (by omega)]; rfl
  · rw [if_neg e, ← List.getD_eq_getElem?_getD]
    unfold upK; rw [rows_get _ _ _ hi, rows_get _ _ _ hi]
    by_cases l : i < k
    · rw [if_pos l, if_pos (by omega)]
    · rw [if_neg l, if_neg (by omega)]
theorem upK_all (f : Nat → Int) (xs : List Int) : upK f xs 8 = rowsOf f 8 := rows_ext (upK_len _ _ _) (rows_len _ _) fun i hi => by
  unfold upK; rw [rows_get _ _ _ hi, rows_get _ _ _ hi, if_pos hi]
def zr8 : List Int := List.replicate 8 0
def zr16 : List Int := List.replicate 16 0
theorem zr8_len : zr8.length = 8 := by simp [zr8]
theorem zr16_len : zr16.length = 16 := by simp [zr16]
theorem zr8_lit : (#[.int .u8 0, .int .u8 0, .int .u8 0, .int .u8 0, .int .u8 0, .int .u8 0, .int .u8 0, .int .u8 0] : Array Value) = (uv zr8).toArray := rfl
set_option maxHeartbeats 4000000 in
theorem pl_across (xs : List Int) (hx : BytN 8 xs) (w : World) :
    Calls Try.prog 55 #[octV xs] w fun e w' => e = .returned (octV (acrossP xs)) ∧ Below w.heap.size w w' := by
  have hl := hx.1
  have HX := Lib.hid hx
  clear hx
  go_enter Try.func55, Try.ntmps55
  go_wp2_with (refine sa_load ty_plane (by rfl) _ rfl w.heap.size 0 rfl _ (uv xs) (uv xs) ((Box.new w _ _).alloc _) (by simp [hl]) (fun j v h => by simpa using h) ?_)
  rw [zr8_lit]
  obtain ⟨w1, hw1⟩ : ∃ w1, w1 = (w.alloc (.cells (uv xs).toArray 56)).alloc (.cells (uv zr8).toArray 56) := ⟨_, rfl⟩
  have X1 : Hid (Box w1 w.heap.size 56 (uv xs)) := by rw [hw1]; exact (Box.new w _ _).alloc _
  have R1 : Hid (Box w1 (w.heap.size + 1) 56 (uv zr8)) := by rw [hw1]; exact Box.new_at _ _ _ _ (by simp)
  have B1 : Hid (Below w.heap.size w w1) := by rw [hw1]; exact below2 w _ _
  rw [← hw1]
  clear hw1
  obtain ⟨f, hf⟩ : ∃ f : Nat → Int, f = fun r => revB (xs.getD r 0) := ⟨_, rfl⟩
  have HF := Lib.hid hf
  have HR := Lib.hid (show acrossP xs = rowsOf f 8 by rw [hf]; rfl)
  clear hf
  go_loopw [6] (fun i wr => ∃ k : Nat, k ≤ 8 ∧ i = .int .i64 k ∧ Box wr w.heap.size 56 (uv (upK f xs k)) ∧ Box wr (w.heap.size + 1) 56 (uv zr8) ∧ Below w.heap.size w wr) (fun i _ => 8 - (intOf i).toNat)
  case atStart => exact ⟨0, by omega, rfl, by rw [upK_zero f xs hl]; exact X1.out, R1.out, B1.out⟩
  case round =>
    obtain ⟨k, hk, rfl, hx, hr, hb⟩ := hrel
    have XR := Lib.hid hx
    have RR := Lib.hid hr
    have BR := Lib.hid hb
    clear hx hr hb X1 R1 B1
    by_cases h8 : k < 8
    · have k8 : (k : Int) < 8 := by omega
      have k0 : 0 ≤ (k : Int) := by omega
      obtain ⟨x, hxx⟩ : ∃ x, xs.getD k 0 = x := ⟨_, rfl⟩
      have hI : ∀ wq, (Instr.index 56 (octV xs) (.int .i64 (k : Int))).run Try.prog wq = .ok (.int .u8 x) wq := fun wq => by rw [← hxx]; exact run_index_plane wq xs hl k h8
      have x0 : 0 ≤ x := by rw [← hxx]; exact (HX.out.2 k h8).1
      have x1 : x ≤ 255 := by rw [← hxx]; exact (HX.out.2 k h8).2
      have HN : Hid (f k = Lib.rev8 x) := by rw [HF.out, rev_eq x x0 x1, ← hxx]; exact Lib.hid rfl
      have c0 := oct_cell XR.out k (by rw [upK_len]; exact h8)
      have g0 := XR.out.frozen k
      clear hxx
      go_wp2_with (go_at_call 67; refine (pl_rev8 _ x0 x1 _).mono ?_; rintro e w' ⟨rfl, rfl⟩)
      go_roundw
      case rel => exact ⟨k + 1, by omega, by go_num, by rw [← upK_set f xs k h8, ← uv_set, HN.out]; exact XR.out.set k _, RR.out.far (by omega) _, BR.out.setCell (Nat.le_refl _) _⟩
      case measure => simp [intOf]; omega
    · obtain rfl : k = 8 := by omega
      have hz := zr8_len
      go_wp2_with (first | (refine sa_load ty_plane (by rfl) _ rfl w.heap.size 0 rfl _ (uv (upK f xs 8)) (uv (upK f xs 8)) XR.out (by simp [upK_len]) (fun j v h => by simpa using h) ?_) | (refine sa_store ty_plane (by rfl) _ _ rfl (w.heap.size + 1) rfl _ (uv zr8) (uv (upK f xs 8)) rfl RR.out (by simp [hz]) (by simp [upK_len]) (uv_one _) ?_))
      have RF : Hid (Box (wr.setRow (w.heap.size + 1) (uv (upK f xs 8)).toArray) (w.heap.size + 1) 56 (uv (upK f xs 8))) := Box.row RR.out
      exact bodyPost_ret (v := octV (upK f xs 8)) (arr_ret ty_plane rfl rfl RF.out (by simp [upK_len])) rfl ⟨by rw [HR.out, upK_all], below_row BR.out (by omega) _⟩
end Go.Proofs.Ytihohmmfgamecaa
end

section
/- A plane turned: the program's function. -/
namespace Go.Proofs.Ytihohmmfgamecaa
open Go.ChangeShapes Go.WideShapes Go.ChangeAt Go.RowKit
set_option linter.unusedVariables false

theorem and_128 : ∀ j : Fin 8, ∀ x : Fin 256, bits .and .u8 ((x.val : Int) * 2 ^ j.val % 256) 128 = 128 * dig (x.val : Int) j.val := by decide +kernel
theorem or_128 : ∀ d : Fin 2, ∀ t : Fin 256, bits .or .u8 ((t.val : Int) / 2) (128 * (d.val : Int)) = (t.val : Int) / 2 + 128 * (d.val : Int) := by decide +kernel
theorem turn_bits (t x : Int) (j : Nat) (hj : j < 8) (t0 : 0 ≤ t) (t1 : t ≤ 255) (x0 : 0 ≤ x) (x1 : x ≤ 255) : bits .or .u8 (t / 2) (bits .and .u8 (x * 2 ^ j % 256) 128) = t / 2 + 128 * dig x j := by
  rw [u8_all (P := fun x => bits .and .u8 (x * 2 ^ j % 256) 128 = 128 * dig x j) (and_128 ⟨j, hj⟩) x x0 x1]
  have hd := dig_bd x j
  obtain ⟨d, hd'⟩ : ∃ d : Fin 2, dig x j = (d.val : Int) := ⟨⟨(dig x j).toNat, by omega⟩, by simp; omega⟩
  rw [hd']
  exact u8_all (P := fun t => bits .or .u8 (t / 2) (128 * (d.val : Int)) = t / 2 + 128 * (d.val : Int)) (or_128 d) t t0 t1
set_option maxHeartbeats 4000000 in
theorem pl_turn (xs : List Int) (hx : BytN 8 xs) (w : World) :
    Calls Try.prog 57 #[octV xs] w fun e w' => e = .returned (octV (turnB xs)) ∧ Below w.heap.size w w' := by
  have hl := hx.1
  have HX := Lib.hid hx
  clear hx
  go_enter Try.func57, Try.ntmps57
  go_wp2_with (refine sa_load ty_plane (by rfl) _ rfl w.heap.size 0 rfl _ (uv xs) (uv xs) (((Box.new w _ _).alloc _).alloc _) (by simp [hl]) (fun j v h => by simpa using h) ?_)
  rw [zr8_lit]
  obtain ⟨w1, hw1⟩ : ∃ w1, w1 = ((w.alloc (.cells (uv xs).toArray 56)).alloc (.cells (uv zr8).toArray 56)).alloc (.cells (uv zr8).toArray 56) := ⟨_, rfl⟩
  have R1 : Hid (Box w1 (w.heap.size + 1) 56 (uv zr8)) := by rw [hw1]; exact (Box.new_at _ _ _ _ (by simp)).alloc _
  have Y1 : Hid (Box w1 (w.heap.size + 1 + 1) 56 (uv zr8)) := by rw [hw1]; exact Box.new_at _ _ _ _ (by simp)
  have B1 : Hid (Below w.heap.size w w1) := by rw [hw1]; exact below3 w _ _ _
  rw [← hw1]
  clear hw1
  obtain ⟨f, hf⟩ : ∃ f : Nat → Nat → Int, f = fun k r => trn xs r k := ⟨_, rfl⟩
  have HF := Lib.hid hf
  have HR := Lib.hid (show turnB xs = rowsOf (f 8) 8 by rw [hf]; exact rows_ext (turnB_len _) (rows_len _ _) fun i hi => by unfold turnB; rw [rows_get _ _ _ hi, rows_get _ _ _ hi]; exact (trn_8 xs i).symm)
  have HZ := Lib.hid (show rowsOf (f 0) 8 = zr8 by rw [hf]; rfl)
  have HS := Lib.hid (show ∀ k r, f (k + 1) r = f k r / 2 + 128 * dig (xs.getD k 0) r by rw [hf]; exact fun k r => rfl)
  have HB := Lib.hid (show ∀ k r, 0 ≤ f k r ∧ f k r ≤ 255 by rw [hf]; exact fun k r => trn_bd xs r k)
  clear hf HF
  go_loopw [8] (fun i wr => ∃ k : Nat, k ≤ 8 ∧ i = .int .i64 k ∧ Box wr (w.heap.size + 1) 56 (uv zr8) ∧ Box wr (w.heap.size + 1 + 1) 56 (uv (rowsOf (f k) 8)) ∧ Below w.heap.size w wr) (fun i _ => 8 - (intOf i).toNat)
  case atStart => exact ⟨0, by omega, rfl, R1.out, by rw [HZ.out]; exact Y1.out, B1.out⟩
  case round =>
    obtain ⟨k, hk, rfl, hr, hy, hb⟩ := hrel
    have RR := Lib.hid hr
    have YR := Lib.hid hy
    have BR := Lib.hid hb
    clear hr hy hb R1 Y1 B1
    by_cases h8 : k < 8
    · have k8 : (k : Int) < 8 := by omega
      have k0 : 0 ≤ (k : Int) := by omega
      obtain ⟨x, hxx⟩ : ∃ x, xs.getD k 0 = x := ⟨_, rfl⟩
      have hI : ∀ wq, (Instr.index 56 (octV xs) (.int .i64 (k : Int))).run Try.prog wq = .ok (.int .u8 x) wq := fun wq => by rw [← hxx]; exact run_index_plane wq xs hl k h8
      have x0 : 0 ≤ x := by rw [← hxx]; exact (HX.out.2 k h8).1
      have x1 : x ≤ 255 := by rw [← hxx]; exact (HX.out.2 k h8).2
      have HN := Lib.hid (show ∀ r, f (k + 1) r = f k r / 2 + 128 * dig x r by rw [← hxx]; exact HS.out k)
      clear hxx
      go_wp2_with fail
      clear hI
      go_loopw [11] (fun i w2 => ∃ j : Nat, j ≤ 8 ∧ i = .int .i64 j ∧ Box w2 (w.heap.size + 1) 56 (uv zr8) ∧ Box w2 (w.heap.size + 1 + 1) 56 (uv (upK (f (k + 1)) (rowsOf (f k) 8) j)) ∧ Below w.heap.size w w2) (fun i _ => 8 - (intOf i).toNat)
      case atStart => exact ⟨0, by omega, rfl, RR.out, by rw [upK_zero _ _ (rows_len _ _)]; exact YR.out, BR.out⟩
      case round =>
        obtain ⟨j, hj, rfl, hr, hy, hb⟩ := hrel
        clear RR YR BR
        have RR := Lib.hid hr
        have YR := Lib.hid hy
        have BR := Lib.hid hb
        clear hr hy hb
        by_cases j8' : j < 8
        · have j8 : (j : Int) < 8 := by omega
          have j0 : 0 ≤ (j : Int) := by omega
          obtain ⟨t, ht⟩ : ∃ t, f k j = t := ⟨_, rfl⟩
          have t0 : 0 ≤ t := by rw [← ht]; exact (HB.out k j).1
          have t1 : t ≤ 255 := by rw [← ht]; exact (HB.out k j).2
          have c0 := oct_cell YR.out j (by rw [upK_len]; exact j8')
          rw [show (upK (f (k + 1)) (rowsOf (f k) 8) j).getD j 0 = t by unfold upK; rw [rows_get _ _ _ j8', if_neg (by omega), rows_get _ _ _ j8', ht]] at c0
          have g0 := YR.out.frozen j
          have HT := Lib.hid ht
          clear ht
          go_wp2_with fail
          go_region
          go_wp2_with fail
          go_roundw
          case rel => exact ⟨j + 1, by omega, by go_num, RR.out.far (by omega) _, by rw [← upK_set _ _ j j8', ← uv_set, HN.out j, HT.out, ← turn_bits t x j j8' t0 t1 x0 x1]; exact YR.out.set j _, (BR.out.setCell (show w.heap.size ≤ w.heap.size + 1 + 1 by omega) _).drew⟩
          case measure => simp [intOf]; omega
        · obtain rfl : j = 8 := by omega
          go_wp2_with fail
          go_roundw
          case rel => exact ⟨k + 1, by omega, by go_num, RR.out, by rw [← upK_all (f (k + 1)) (rowsOf (f k) 8)]; exact YR.out, BR.out⟩
          case measure => simp [intOf]; omega
    · obtain rfl : k = 8 := by omega
      have hz := zr8_len
      go_wp2_with (first | (refine sa_load ty_plane (by rfl) _ rfl (w.heap.size + 1 + 1) 0 rfl _ (uv (rowsOf (f 8) 8)) (uv (rowsOf (f 8) 8)) YR.out (by simp [rows_len]) (fun j v h => by simpa using h) ?_) | (refine sa_store ty_plane (by rfl) _ _ rfl (w.heap.size + 1) rfl _ (uv zr8) (uv (rowsOf (f 8) 8)) rfl RR.out (by simp [hz]) (by simp [rows_len]) (uv_one _) ?_))
      have RF : Hid (Box (wr.setRow (w.heap.size + 1) (uv (rowsOf (f 8) 8)).toArray) (w.heap.size + 1) 56 (uv (rowsOf (f 8) 8))) := Box.row RR.out
      exact bodyPost_ret (v := octV (rowsOf (f 8) 8)) (arr_ret ty_plane rfl rfl RF.out (by simp [rows_len])) rfl ⟨by rw [HR.out], below_row BR.out (by omega) _⟩
end Go.Proofs.Ytihohmmfgamecaa
end

section
/- A plane flipped down: the library's reversal of eight bytes in place, and the program's function. -/
namespace Go.Proofs.Ytihohmmfgamecaa
open Go.ChangeShapes Go.WideShapes Go.ChangeAt Go.RowKit
set_option linter.unusedVariables false

/-- Eight bytes of which the outer k on both sides have changed places. -/
def rvK (xs : List Int) (k : Nat) : List Int := rowsOf (fun r => if r < k ∨ 7 < r + k then xs.getD (7 - r) 0 else xs.getD r 0) 8
theorem rvK_len (xs : List Int) (k : Nat) : (rvK xs k).length = 8 := rows_len _ _
theorem rvK_get (xs : List Int) (k r : Nat) (hr : r < 8) : (rvK xs k).getD r 0 = if r < k ∨ 7 < r + k then xs.getD (7 - r) 0 else xs.getD r 0 := by unfold rvK; rw [rows_get _ _ _ hr]
theorem rvK_zero (xs : List Int) (h : xs.length = 8) : rvK xs 0 = xs := rows_ext (rvK_len _ _) h fun i hi => by
  rw [rvK_get _ _ _ hi, if_neg (by omega)]
theorem rvK_four (xs : List Int) : rvK xs 4 = downP xs := rows_ext (rvK_len _ _) (down_len _) fun i hi => by
  rw [rvK_get _ _ _ hi, if_pos (by omega)]; unfold downP; rw [rows_get _ _ _ hi]
theorem rvK_set (xs : List Int) (i j : Nat) (hij : i + j = 7) (hi : i < 4) : ((rvK xs i).set i (xs.getD j 0)).set j (xs.getD i 0) = rvK xs (i + 1) := by
  refine rows_ext (n := 8) (by simp [rvK_len]) (rvK_len _ _) fun r hr => ?_
  rw [rvK_get _ _ _ hr, List.getD_eq_getElem?_getD, List.getElem?_set, List.getElem?_set]
  by_cases e : j = r
  · subst e
    rw [if_pos rfl, if_pos (by simp [rvK_len]; omega), if_pos (by omega), show 7 - j = i by omega]; rfl
  · rw [if_neg e]
    by_cases e2 : i = r
    · subst e2
      rw [if_pos rfl, if_pos (by rw [rvK_len]; omega), if_pos (by omega), show 7 - i = j by omega]; rfl
    · rw [if_neg e2, ← List.getD_eq_getElem?_getD, rvK_get _ _ _ hr]
      by_cases l : r < i ∨ 7 < r + i
      · rw [if_pos l, if_pos (by omega)]
      · rw [if_neg l, if_neg (by omega)]
theorem only_drew {S : List Nat} {a w : World} (h : Only S a w) : Only S a w.drew := ⟨h.os, h.tape, h.output, h.size, h.block⟩
set_option maxHeartbeats 4000000 in
theorem oc_reverse (xs : List Int) (b : Nat) (w : World) (hl : xs.length = 8) (hb : Box w b 56 (uv xs)) :
    Calls Try.prog 68 #[.slice (some ⟨b, 0, none⟩) 8 8] w fun e w' => (∃ v, e = .returned v) ∧ Only [b] w w' ∧ Box w' b 56 (uv (downP xs)) := by
  have X1 := Lib.hid hb
  clear hb
  go_enter Try.func68, Try.ntmps68
  go_wp2_with fail
  go_loopw [2, 3] (fun a c wr => ∃ i j : Nat, i + j = 7 ∧ i ≤ 4 ∧ a = .int .i64 i ∧ c = .int .i64 j ∧ Box wr b 56 (uv (rvK xs i)) ∧ Only [b] w wr) (fun a _ _ => 8 - (intOf a).toNat)
  case atStart => exact ⟨0, 7, rfl, by omega, rfl, rfl, by rw [rvK_zero xs hl]; exact X1.out, Only.refl _ _⟩
  case round =>
    obtain ⟨i, j, hij, hi4, rfl, rfl, hy, ho⟩ := hrel
    have YR := Lib.hid hy
    have OR := Lib.hid ho
    clear hy ho X1
    by_cases h4 : i < 4
    · have hlt : (i : Int) < (j : Int) := by omega
      have i8 : (i : Int) < 8 := by omega
      have j8 : (j : Int) < 8 := by omega
      have i0 : 0 ≤ (i : Int) := by omega
      have j0 : 0 ≤ (j : Int) := by omega
      obtain ⟨x, hx⟩ : ∃ x, xs.getD i 0 = x := ⟨_, rfl⟩
      obtain ⟨y, hy⟩ : ∃ y, xs.getD j 0 = y := ⟨_, rfl⟩
      have ci := oct_cell YR.out i (by rw [rvK_len]; omega)
      have cj := oct_cell YR.out j (by rw [rvK_len]; omega)
      rw [rvK_get _ _ _ (by omega), if_neg (by omega), hx] at ci
      rw [rvK_get _ _ _ (by omega), if_neg (by omega), hy] at cj
      have gi := YR.out.frozen i
      have gj := YR.out.frozen j
      have HS : Hid (((rvK xs i).set i y).set j x = rvK xs (i + 1)) := by rw [← hx, ← hy]; exact Lib.hid (rvK_set xs i j hij h4)
      clear hx hy
      go_wp2_with fail
      go_region
      go_wp2_with fail
      go_roundw
      case rel => exact ⟨i + 1, j - 1, by omega, by omega, by go_num, by go_num, by rw [← HS.out, ← uv_set, ← uv_set]; exact (YR.out.set i _).set j _, only_drew ((OR.out.setCell (q := b) (.inl (by simp)) _).setCell (q := b) (.inl (by simp)) _)⟩
      case measure => simp [intOf]; omega
    · have hge : (j : Int) ≤ (i : Int) := by omega
      have HY : Hid (Box wr b 56 (uv (downP xs))) := by
        have h := YR.out
        rw [show i = 4 by omega, rvK_four] at h
        exact h
      go_wp2_with fail
      go_end0
      exact ⟨⟨_, rfl⟩, OR.out, HY.out⟩
set_option maxHeartbeats 4000000 in
theorem pl_down (xs : List Int) (hl : xs.length = 8) (w : World) :
    Calls Try.prog 56 #[octV xs] w fun e w' => e = .returned (octV (downP xs)) ∧ Below w.heap.size w w' := by
  go_enter Try.func56, Try.ntmps56
  have hz := zr8_len
  go_wp2_with fail
  rw [zr8_lit]
  obtain ⟨w1, hw1⟩ : ∃ w1, w1 = (w.alloc (.cells (uv xs).toArray 56)).alloc (.cells (uv zr8).toArray 56) := ⟨_, rfl⟩
  have X1 : Hid (Box w1 w.heap.size 56 (uv xs)) := by rw [hw1]; exact (Box.new w _ _).alloc _
  have R1 : Hid (Box w1 (w.heap.size + 1) 56 (uv zr8)) := by rw [hw1]; exact Box.new_at _ _ _ _ (by simp)
  have B1 : Hid (Below w.heap.size w w1) := by rw [hw1]; exact below2 w _ _
  rw [← hw1]
  clear hw1
  refine (oc_reverse xs w.heap.size w1 hl X1.out).mono ?_; rintro e w2 ⟨⟨v, rfl⟩, ho, hb⟩
  have XR := Lib.hid hb
  have RR := Lib.hid (R1.out.only ho (by simp))
  have BR := Lib.hid (B1.out.trans (ho.below (B := w.heap.size) (fun b hb => by simp at hb; omega) B1.out.size))
  clear hb ho X1 R1 B1
  go_wp2_with (first | (refine sa_load ty_plane (by rfl) _ rfl w.heap.size 0 rfl _ (uv (downP xs)) (uv (downP xs)) XR.out (by simp [down_len]) (fun j v h => by simpa using h) ?_) | (refine sa_store ty_plane (by rfl) _ _ rfl (w.heap.size + 1) rfl _ (uv zr8) (uv (downP xs)) rfl RR.out (by simp [hz]) (by simp [down_len]) (uv_one _) ?_))
  have RF : Hid (Box (w2.setRow (w.heap.size + 1) (uv (downP xs)).toArray) (w.heap.size + 1) 56 (uv (downP xs))) := Box.row RR.out
  exact bodyPost_ret (v := octV (downP xs)) (arr_ret ty_plane rfl rfl RF.out (by simp [down_len])) rfl ⟨rfl, below_row BR.out (by omega) _⟩
end Go.Proofs.Ytihohmmfgamecaa
end

section
/- A tile taken apart into its two planes: the program's function. -/
namespace Go.Proofs.Ytihohmmfgamecaa
open Go.ChangeShapes Go.WideShapes Go.ChangeAt Go.RowKit
set_option linter.unusedVariables false

/-- The planes once the first k pixels have come in. -/
def bothK (px : List Int) (k : Nat) : List Int := rowsOf (fun q => plane px q (min 8 (k - 8 * (q % 8)))) 16
theorem bothK_len (px : List Int) (k : Nat) : (bothK px k).length = 16 := rows_len _ _
theorem bothK_get (px : List Int) (k q : Nat) (hq : q < 16) : (bothK px k).getD q 0 = plane px q (min 8 (k - 8 * (q % 8))) := by unfold bothK; rw [rows_get _ _ _ hq]
theorem bothK_zero (px : List Int) : bothK px 0 = zr16 := rfl
theorem bothK_all (px : List Int) : bothK px 64 = bytT px := rows_ext (n := 16) (bothK_len _ _) (bytT_len _) fun q hq => by
  rw [bothK_get _ _ _ hq, bytT_get _ _ hq, show min 8 (64 - 8 * (q % 8)) = 8 by omega]
theorem bothK_set (px : List Int) (k r c : Nat) (hk : k = 8 * r + c) (hr : r < 8) (hc : c < 8) :
    ((bothK px k).set r (plane px r (c + 1))).set (8 + r) (plane px (8 + r) (c + 1)) = bothK px (k + 1) := by
  refine rows_ext (n := 16) (by simp [bothK_len]) (bothK_len _ _) fun q hq => ?_
  rw [bothK_get _ _ _ hq, List.getD_eq_getElem?_getD, List.getElem?_set, List.getElem?_set]
  by_cases e : 8 + r = q
  · subst e
    rw [if_pos rfl, if_pos (by simp [bothK_len]; omega), show min 8 (k + 1 - 8 * ((8 + r) % 8)) = c + 1 by omega]; rfl
  · rw [if_neg e]
    by_cases e2 : r = q
    · subst e2
      rw [if_pos rfl, if_pos (by rw [bothK_len]; omega), show min 8 (k + 1 - 8 * (r % 8)) = c + 1 by omega]; rfl
    · rw [if_neg e2, ← List.getD_eq_getElem?_getD, bothK_get _ _ _ hq]
      congr 1
      omega
theorem lo_all : ∀ y : Fin 4, ∀ n : Fin 128, bits .or .u8 ((n.val : Int) * 2) (bits .and .i64 (y.val : Int) 1 % 256) = 2 * (n.val : Int) + (y.val : Int) % 2 := by decide +kernel
theorem hi_all : ∀ y : Fin 4, ∀ n : Fin 128, bits .or .u8 ((n.val : Int) * 2) ((y.val : Int) / 2) = 2 * (n.val : Int) + (y.val : Int) / 2 % 2 := by decide +kernel
theorem lo_bits (n y : Int) (h0 : 0 ≤ n) (h1 : n < 128) (y0 : 0 ≤ y) (y1 : y ≤ 3) : bits .or .u8 (n * 2) (bits .and .i64 y 1 % 256) = 2 * n + y % 2 := by
  obtain ⟨m, rfl⟩ := Int.eq_ofNat_of_zero_le h0
  obtain ⟨z, rfl⟩ := Int.eq_ofNat_of_zero_le y0
  exact lo_all ⟨z, by omega⟩ ⟨m, by omega⟩
theorem hi_bits (n y : Int) (h0 : 0 ≤ n) (h1 : n < 128) (y0 : 0 ≤ y) (y1 : y ≤ 3) : bits .or .u8 (n * 2) (y / 2) = 2 * n + y / 2 % 2 := by
  obtain ⟨m, rfl⟩ := Int.eq_ofNat_of_zero_le h0
  obtain ⟨z, rfl⟩ := Int.eq_ofNat_of_zero_le y0
  exact hi_all ⟨z, by omega⟩ ⟨m, by omega⟩
theorem zr16_lit : (#[.int .u8 0, .int .u8 0, .int .u8 0, .int .u8 0, .int .u8 0, .int .u8 0, .int .u8 0, .int .u8 0, .int .u8 0, .int .u8 0, .int .u8 0, .int .u8 0, .int .u8 0, .int .u8 0, .int .u8 0, .int .u8 0] : Array Value) = (uv zr16).toArray := rfl
theorem plane_128 (px : List Int) (q c : Nat) (hc : c < 8) : 0 ≤ plane px q c ∧ plane px q c < 128 := by
  obtain ⟨h0, h1⟩ := plane_bd px q c
  have h2 : (2 : Int) ^ c ≤ 2 ^ 7 := by
    have := Nat.pow_le_pow_right (show 0 < 2 by omega) (show c ≤ 7 by omega)
    exact_mod_cast this
  omega
set_option maxHeartbeats 8000000 in
theorem pl_planes (px : List Int) (hp : px.length = 64) (hv : tilB px = true) (w : World) :
    Calls Try.prog 47 #[tilV px] w fun e w' => e = .returned (octV (bytT px)) ∧ Below w.heap.size w w' := by
  go_enter Try.func47, Try.ntmps47
  go_wp2_with (refine sa_load ty_pixels (by rfl) _ rfl w.heap.size 0 rfl _ (iv px) (iv px) (((Box.new w _ _).alloc _).alloc _) (by simp [hp]) (fun j v h => by simpa using h) ?_)
  rw [zr16_lit]
  obtain ⟨w1, hw1⟩ : ∃ w1, w1 = ((w.alloc (.cells (iv px).toArray 25)).alloc (.cells (uv zr16).toArray 58)).alloc (.cells (uv zr16).toArray 58) := ⟨_, rfl⟩
  have R1 : Hid (Box w1 (w.heap.size + 1) 58 (uv zr16)) := by rw [hw1]; exact (Box.new_at _ _ _ _ (by simp)).alloc _
  have Y1 : Hid (Box w1 (w.heap.size + 1 + 1) 58 (uv zr16)) := by rw [hw1]; exact Box.new_at _ _ _ _ (by simp)
  have B1 : Hid (Below w.heap.size w w1) := by rw [hw1]; exact below3 w _ _ _
  rw [← hw1]
  clear hw1
  have HL : Hid (w.heap.size ≤ w.heap.size + 1 + 1) := Lib.hid (by omega)
  go_loopw [9] (fun i wr => ∃ k : Nat, k ≤ 64 ∧ i = .int .i64 k ∧ Box wr (w.heap.size + 1) 58 (uv zr16) ∧ Box wr (w.heap.size + 1 + 1) 58 (uv (bothK px k)) ∧ Below w.heap.size w wr) (fun i _ => 64 - (intOf i).toNat)
  case atStart => exact ⟨0, by omega, rfl, R1.out, by rw [bothK_zero]; exact Y1.out, B1.out⟩
  case round =>
    obtain ⟨k, hk, rfl, hr, hy, hb⟩ := hrel
    have RR := Lib.hid hr
    have YR := Lib.hid hy
    have BR := Lib.hid hb
    clear hr hy hb R1 Y1 B1
    by_cases h64 : k < 64
    · have i64' : (k : Int) < 64 := by omega
      have k0 : 0 ≤ (k : Int) := by omega
      obtain ⟨r, c, hr, r8, c8, hrc⟩ : ∃ r c : Nat, (k : Int) / 8 = r ∧ r < 8 ∧ c < 8 ∧ k = 8 * r + c := ⟨k / 8, k % 8, by omega, by omega, by omega, by omega⟩
      have r8' : (r : Int) < 8 := by omega
      have r0 : 0 ≤ (r : Int) := by omega
      obtain ⟨y0, y1⟩ := til_px hp hv k h64
      obtain ⟨y, hy⟩ : ∃ y, px.getD k 0 = y := ⟨_, rfl⟩
      have hI : ∀ wq, (Instr.index 23 (tilV px) (.int .i64 (k : Int))).run Try.prog wq = .ok (.int .i64 y) wq := fun wq => by rw [← hy]; exact run_index_pixels wq px hp k h64
      have cl := oct_cell YR.out r (by rw [bothK_len]; omega)
      have ch := oct_cell YR.out (8 + r) (by rw [bothK_len]; omega)
      rw [bothK_get _ _ _ (by omega), show min 8 (k - 8 * (r % 8)) = c by omega] at cl
      rw [bothK_get _ _ _ (by omega), show min 8 (k - 8 * ((8 + r) % 8)) = c by omega] at ch
      obtain ⟨n, hn⟩ : ∃ n, plane px r c = n := ⟨_, rfl⟩
      obtain ⟨m, hm⟩ : ∃ m, plane px (8 + r) c = m := ⟨_, rfl⟩
      obtain ⟨n0, n1⟩ := plane_128 px r c c8
      obtain ⟨m0, m1⟩ := plane_128 px (8 + r) c c8
      have HN : Hid (plane px r (c + 1) = 2 * n + y % 2) := by
        rw [← hn, ← hy, hrc]
        show Hid (2 * plane px r c + px.getD (r % 8 * 8 + c) 0 / 2 ^ (r / 8) % 2 = _)
        rw [show r / 8 = 0 by omega, show r % 8 * 8 + c = 8 * r + c by omega]
        exact Lib.hid (by simp)
      have HM : Hid (plane px (8 + r) (c + 1) = 2 * m + y / 2 % 2) := by
        rw [← hm, ← hy, hrc]
        show Hid (2 * plane px (8 + r) c + px.getD ((8 + r) % 8 * 8 + c) 0 / 2 ^ ((8 + r) / 8) % 2 = _)
        rw [show (8 + r) / 8 = 1 by omega, show (8 + r) % 8 * 8 + c = 8 * r + c by omega]
        exact Lib.hid (by simp)
      rw [hn] at cl n0 n1
      rw [hm] at ch m0 m1
      rw [hy] at y0 y1
      have gl := YR.out.frozen r
      have gh := YR.out.frozen (8 + r)
      have HS := Lib.hid (bothK_set px k r c hrc r8 c8)
      rw [← lo_bits n y n0 n1 y0 y1] at HN
      rw [← hi_bits m y m0 m1 y0 y1] at HM
      clear hy hn hm hrc
      go_wp2_with fail
      go_roundw
      case rel => exact ⟨k + 1, by omega, by go_num, (RR.out.far (by omega) _).far (by omega) _, by rw [← HS.out, ← uv_set, ← uv_set, HN.out, HM.out]; exact (YR.out.set r _).set (8 + r) _, (BR.out.setCell HL.out _).setCell HL.out _⟩
      case measure => simp [intOf]; omega
    · obtain rfl : k = 64 := by omega
      have hz := zr16_len
      go_wp2_with (first | (refine sa_load ty_planes (by rfl) _ rfl (w.heap.size + 1 + 1) 0 rfl _ (uv (bothK px 64)) (uv (bothK px 64)) YR.out (by simp [bothK_len]) (fun j v h => by simpa using h) ?_) | (refine sa_store ty_planes (by rfl) _ _ rfl (w.heap.size + 1) rfl _ (uv zr16) (uv (bothK px 64)) rfl RR.out (by simp [hz]) (by simp [bothK_len]) (uv_one _) ?_))
      have RF : Hid (Box (wr.setRow (w.heap.size + 1) (uv (bothK px 64)).toArray) (w.heap.size + 1) 58 (uv (bothK px 64))) := Box.row RR.out
      exact bodyPost_ret (v := octV (bothK px 64)) (arr_ret ty_planes rfl rfl RF.out (by simp [bothK_len])) rfl ⟨by rw [bothK_all], below_row BR.out (by omega) _⟩
end Go.Proofs.Ytihohmmfgamecaa
end
