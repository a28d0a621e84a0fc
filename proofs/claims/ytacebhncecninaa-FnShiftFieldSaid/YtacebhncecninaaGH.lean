import Derived.Test.YtacebhncecninaaGG
import Derived.Test.YtacebhncecninaaGD
import Derived.BigRegion
import Derived.Test.YtacebhncecninaaGB
import Derived.ChangeKeysEq
import Derived.Laws.StructEq
import Derived.Test.YtacebhncecninaaGC

section
/- Planes of a tile as lists of bytes: digits, rows reversed, turned; what flips, turns and used values are in these words. -/
namespace Go.Proofs.Ytacebhncecninaa
open Go.ChangeShapes Go.WideShapes Go.ChangeAt Go.RowKit
set_option linter.unusedVariables false

/-- Digit c of a byte, the highest one first. -/
def dig (x : Int) (c : Nat) : Int := x / 2 ^ (7 - c) % 2
theorem dig_bd (x : Int) (c : Nat) : 0 ≤ dig x c ∧ dig x c ≤ 1 := by unfold dig; omega
def byteOf (b : Nat → Int) : Int := 128 * b 0 + 64 * b 1 + 32 * b 2 + 16 * b 3 + 8 * b 4 + 4 * b 5 + 2 * b 6 + b 7
theorem dig_byteOf (b : Nat → Int) (hb : ∀ c, c < 8 → 0 ≤ b c ∧ b c ≤ 1) (c : Nat) (hc : c < 8) : dig (byteOf b) c = b c := by
  have d0 := hb 0 (by omega); have d1 := hb 1 (by omega); have d2 := hb 2 (by omega); have d3 := hb 3 (by omega)
  have d4 := hb 4 (by omega); have d5 := hb 5 (by omega); have d6 := hb 6 (by omega); have d7 := hb 7 (by omega)
  unfold dig byteOf
  have h8 : c = 0 ∨ c = 1 ∨ c = 2 ∨ c = 3 ∨ c = 4 ∨ c = 5 ∨ c = 6 ∨ c = 7 := by omega
  rcases h8 with rfl | rfl | rfl | rfl | rfl | rfl | rfl | rfl <;> simp <;> omega
theorem byteOf_bd (b : Nat → Int) (hb : ∀ c, c < 8 → 0 ≤ b c ∧ b c ≤ 1) : 0 ≤ byteOf b ∧ byteOf b ≤ 255 := by
  have d0 := hb 0 (by omega); have d1 := hb 1 (by omega); have d2 := hb 2 (by omega); have d3 := hb 3 (by omega)
  have d4 := hb 4 (by omega); have d5 := hb 5 (by omega); have d6 := hb 6 (by omega); have d7 := hb 7 (by omega)
  unfold byteOf; omega
theorem byteOf_dig (x : Int) (h0 : 0 ≤ x) (h1 : x ≤ 255) : byteOf (dig x) = x := by
  unfold byteOf dig
  simp
  omega
/-- A list of n bytes. -/
def BytN (n : Nat) (xs : List Int) : Prop := xs.length = n ∧ ∀ i, i < n → 0 ≤ xs.getD i 0 ∧ xs.getD i 0 ≤ 255
def rowsOf (f : Nat → Int) (n : Nat) : List Int := (List.range n).map f
theorem rows_len (f : Nat → Int) (n : Nat) : (rowsOf f n).length = n := by simp [rowsOf]
theorem rows_get (f : Nat → Int) (n i : Nat) (hi : i < n) : (rowsOf f n).getD i 0 = f i := by
  unfold rowsOf
  rw [List.getD_eq_getElem?_getD, List.getElem?_map, List.getElem?_range hi]
  rfl
theorem rows_ext {a b : List Int} {n : Nat} (ha : a.length = n) (hb : b.length = n) (h : ∀ i, i < n → a.getD i 0 = b.getD i 0) : a = b := by
  apply List.ext_getElem (by omega)
  intro i h1 h2
  have := h i (by omega)
  rwa [List.getD_eq_getElem?_getD, List.getD_eq_getElem?_getD, List.getElem?_eq_getElem h1, List.getElem?_eq_getElem h2] at this
/-- One row with its digits reversed. -/
def revB (x : Int) : Int := byteOf fun c => dig x (7 - c)
def acrossP (xs : List Int) : List Int := rowsOf (fun r => revB (xs.getD r 0)) 8
def downP (xs : List Int) : List Int := rowsOf (fun r => xs.getD (7 - r) 0) 8
def turnB (xs : List Int) : List Int := rowsOf (fun r => byteOf fun c => dig (xs.getD (7 - c) 0) r) 8
theorem across_len (xs : List Int) : (acrossP xs).length = 8 := rows_len _ _
theorem down_len (xs : List Int) : (downP xs).length = 8 := rows_len _ _
theorem turnB_len (xs : List Int) : (turnB xs).length = 8 := rows_len _ _
theorem rev_bd (x : Int) : 0 ≤ revB x ∧ revB x ≤ 255 := byteOf_bd _ fun c _ => dig_bd _ _
theorem across_ok (xs : List Int) : BytN 8 (acrossP xs) := ⟨across_len xs, fun i hi => by
  unfold acrossP; rw [rows_get _ _ _ hi]; exact rev_bd _⟩
theorem down_ok {xs : List Int} (h : BytN 8 xs) : BytN 8 (downP xs) := ⟨down_len xs, fun i hi => by
  unfold downP; rw [rows_get _ _ _ hi]; exact h.2 _ (by omega)⟩
theorem turnB_ok (xs : List Int) : BytN 8 (turnB xs) := ⟨turnB_len xs, fun i hi => by
  unfold turnB; rw [rows_get _ _ _ hi]; exact byteOf_bd _ fun c _ => dig_bd _ _⟩
theorem across_dig (xs : List Int) (r c : Nat) (hr : r < 8) (hc : c < 8) : dig ((acrossP xs).getD r 0) c = dig (xs.getD r 0) (7 - c) := by
  unfold acrossP; rw [rows_get _ _ _ hr]; unfold revB
  rw [dig_byteOf _ (fun c _ => dig_bd _ _) c hc]
theorem down_dig (xs : List Int) (r c : Nat) (hr : r < 8) : dig ((downP xs).getD r 0) c = dig (xs.getD (7 - r) 0) c := by
  unfold downP; rw [rows_get _ _ _ hr]
theorem turnB_dig (xs : List Int) (r c : Nat) (hr : r < 8) (hc : c < 8) : dig ((turnB xs).getD r 0) c = dig (xs.getD (7 - c) 0) r := by
  unfold turnB; rw [rows_get _ _ _ hr, dig_byteOf _ (fun c _ => dig_bd _ _) c hc]
/-- Byte col of the first k rows turned. -/
def trn (xs : List Int) (col : Nat) : Nat → Int
  | 0 => 0
  | k + 1 => trn xs col k / 2 + 128 * dig (xs.getD k 0) col
theorem trn_bd (xs : List Int) (col : Nat) : ∀ k, 0 ≤ trn xs col k ∧ trn xs col k ≤ 255
  | 0 => by simp [trn]
  | k + 1 => by
    have ih := trn_bd xs col k
    have := dig_bd (xs.getD k 0) col
    unfold trn; omega
theorem trn_8 (xs : List Int) (col : Nat) : trn xs col 8 = byteOf fun c => dig (xs.getD (7 - c) 0) col := by
  have d0 := dig_bd (xs.getD 0 0) col; have d1 := dig_bd (xs.getD 1 0) col; have d2 := dig_bd (xs.getD 2 0) col; have d3 := dig_bd (xs.getD 3 0) col
  have d4 := dig_bd (xs.getD 4 0) col; have d5 := dig_bd (xs.getD 5 0) col; have d6 := dig_bd (xs.getD 6 0) col; have d7 := dig_bd (xs.getD 7 0) col
  simp only [trn, byteOf]
  simp only [Nat.sub_zero, Nat.reduceSub]
  omega
/-- The same done to both planes. -/
def eachP (f : List Int → List Int) (xs : List Int) : List Int := f (xs.take 8) ++ f (xs.drop 8)
theorem tak8_get (xs : List Int) (r : Nat) (hr : r < 8) : (xs.take 8).getD r 0 = xs.getD r 0 := by
  rw [List.getD_eq_getElem?_getD, List.getD_eq_getElem?_getD, List.getElem?_take, if_pos hr]
theorem dro8_get (xs : List Int) (r : Nat) : (xs.drop 8).getD r 0 = xs.getD (8 + r) 0 := by
  rw [List.getD_eq_getElem?_getD, List.getD_eq_getElem?_getD, List.getElem?_drop]
theorem each_lo (f : List Int → List Int) (xs : List Int) (hl : (f (xs.take 8)).length = 8) (r : Nat) (hr : r < 8) : (eachP f xs).getD r 0 = (f (xs.take 8)).getD r 0 := by
  unfold eachP
  rw [List.getD_eq_getElem?_getD, List.getD_eq_getElem?_getD, List.getElem?_append_left (by omega)]
theorem each_hi (f : List Int → List Int) (xs : List Int) (hl : (f (xs.take 8)).length = 8) (r : Nat) : (eachP f xs).getD (8 + r) 0 = (f (xs.drop 8)).getD r 0 := by
  unfold eachP
  rw [List.getD_eq_getElem?_getD, List.getD_eq_getElem?_getD, List.getElem?_append_right (by omega), hl]
  congr 2; omega
theorem half_ok {xs : List Int} (h : BytN 16 xs) : BytN 8 (xs.take 8) ∧ BytN 8 (xs.drop 8) :=
  ⟨⟨by simp [h.1], fun i hi => by rw [tak8_get _ _ hi]; exact h.2 i (by omega)⟩, ⟨by simp [h.1], fun i hi => by rw [dro8_get]; exact h.2 _ (by omega)⟩⟩
theorem each_ok (f : List Int → List Int) (hf : ∀ ys, BytN 8 ys → BytN 8 (f ys)) {xs : List Int} (h : BytN 16 xs) : BytN 16 (eachP f xs) := by
  have h1 := hf _ (half_ok h).1
  have h2 := hf _ (half_ok h).2
  refine ⟨by unfold eachP; rw [List.length_append, h1.1, h2.1], fun i hi => ?_⟩
  by_cases l : i < 8
  · rw [each_lo f xs h1.1 i l]; exact h1.2 i l
  · obtain ⟨r, rfl⟩ : ∃ r, i = 8 + r := ⟨i - 8, by omega⟩
    rw [each_hi f xs h1.1 r]; exact h2.2 r (by omega)
theorem readP_dig (xs : List Int) (k : Nat) : readP xs k = dig (xs.getD (k / 8) 0) (k % 8) + 2 * dig (xs.getD (8 + k / 8) 0) (k % 8) := rfl
/-- The pixels of planes whose digits come from other places. -/
theorem each_readP (f : List Int → List Int) (rr cc : Nat → Nat → Nat) (xs : List Int) (hl : ∀ ys, (f ys).length = 8) (hr : ∀ r c, r < 8 → c < 8 → rr r c < 8)
    (hd : ∀ ys r c, r < 8 → c < 8 → dig ((f ys).getD r 0) c = dig (ys.getD (rr r c) 0) (cc r c)) (k : Nat) (hk : k < 64) :
    readP (eachP f xs) k = dig (xs.getD (rr (k / 8) (k % 8)) 0) (cc (k / 8) (k % 8)) + 2 * dig (xs.getD (8 + rr (k / 8) (k % 8)) 0) (cc (k / 8) (k % 8)) := by
  have h8 : k / 8 < 8 := by omega
  have c8 : k % 8 < 8 := by omega
  rw [readP_dig, each_lo f xs (hl _) _ h8, each_hi f xs (hl _), hd _ _ _ h8 c8, hd _ _ _ h8 c8, tak8_get _ _ (hr _ _ h8 c8), dro8_get]
theorem bytT_dig {px : List Int} (hp : px.length = 64) (hv : tilB px = true) (r c : Nat) (hr : r < 8) (hc : c < 8) : dig ((bytT px).getD r 0) c + 2 * dig ((bytT px).getD (8 + r) 0) c = px.getD (8 * r + c) 0 := by
  unfold dig
  rw [bytT_get px _ (by omega), bytT_get px _ (by omega), plane_digit px _ _ hc, plane_digit px _ _ hc]
  obtain ⟨h0, h1⟩ := til_px hp hv (8 * r + c) (by omega)
  rw [show r % 8 * 8 + c = 8 * r + c by omega, show (8 + r) % 8 * 8 + c = 8 * r + c by omega, show r / 8 = 0 by omega, show (8 + r) / 8 = 1 by omega]
  generalize px.getD (8 * r + c) 0 = p at h0 h1
  simp
  omega
theorem bytT_ok (px : List Int) : BytN 16 (bytT px) := ⟨bytT_len px, fun i hi => by rw [bytT_get px i hi]; exact plane_255 px i 8 (by omega)⟩
def tileP (xs : List Int) : List Int := mkT id (readP xs) 64
theorem tileP_len (xs : List Int) : (tileP xs).length = 64 := mkT_len _ _ _
theorem tileP_get (xs : List Int) (k : Nat) (hk : k < 64) : (tileP xs).getD k 0 = readP xs k := mkT_at id (fun i h => h) _ k hk
def onceX (f : List Int → List Int) (a : Bool) (xs : List Int) : List Int := if a = true then eachP f xs else xs
theorem onceX_ok (f : List Int → List Int) (hf : ∀ ys, BytN 8 ys → BytN 8 (f ys)) (a : Bool) {xs : List Int} (h : BytN 16 xs) : BytN 16 (onceX f a xs) := by
  cases a
  · exact h
  · exact each_ok f hf h
def flipX (px : List Int) (a d : Bool) : List Int := onceX downP d (onceX acrossP a (bytT px))
theorem flipX_ok (px : List Int) (a d : Bool) : BytN 16 (flipX px a d) := onceX_ok _ (fun _ h => down_ok h) d (onceX_ok _ (fun _ h => across_ok _) a (bytT_ok px))
theorem flip_planes {px : List Int} (hp : px.length = 64) (hv : tilB px = true) (a d : Bool) : tileP (flipX px a d) = flipT px a d := by
  refine mkT_ext (tileP_len _) (flip_len px a d) fun k hk => ?_
  rw [tileP_get _ k hk, flip_get hv a d k hk]
  have k8 : k / 8 < 8 := by omega
  have c8 : k % 8 < 8 := by omega
  have hA : ∀ xs k, k < 64 → readP (eachP acrossP xs) k = dig (xs.getD (k / 8) 0) (7 - k % 8) + 2 * dig (xs.getD (8 + k / 8) 0) (7 - k % 8) := fun xs k hk =>
    each_readP acrossP (fun r _ => r) (fun _ c => 7 - c) xs across_len (fun r c h _ => h) (fun ys r c h1 h2 => across_dig ys r c h1 h2) k hk
  have hD : ∀ xs k, k < 64 → readP (eachP downP xs) k = dig (xs.getD (7 - k / 8) 0) (k % 8) + 2 * dig (xs.getD (8 + (7 - k / 8)) 0) (k % 8) := fun xs k hk =>
    each_readP downP (fun r _ => 7 - r) (fun _ c => c) xs down_len (fun r c h _ => by omega) (fun ys r c h1 h2 => down_dig ys r c h1) k hk
  cases a <;> cases d
  · show readP (bytT px) k = _
    rw [readP_dig, bytT_dig hp hv _ _ k8 c8]
    rfl
  · show readP (eachP downP (bytT px)) k = _
    rw [hD _ _ hk, bytT_dig hp hv _ _ (by omega) c8]
    rfl
  · show readP (eachP acrossP (bytT px)) k = _
    rw [hA _ _ hk, bytT_dig hp hv _ _ k8 (by omega)]
    rfl
  · show readP (eachP downP (eachP acrossP (bytT px))) k = _
    obtain ⟨j, hj⟩ : ∃ j, j = 8 * (7 - k / 8) + k % 8 := ⟨_, rfl⟩
    have e : readP (eachP downP (eachP acrossP (bytT px))) k = readP (eachP acrossP (bytT px)) j := by
      rw [hD _ _ hk, readP_dig, show j / 8 = 7 - k / 8 by omega, show j % 8 = k % 8 by omega]
    rw [e, hA _ _ (by omega), bytT_dig hp hv _ _ (by omega) (by omega)]
    unfold flipP
    rw [if_pos rfl, if_pos rfl]
    congr 1
    omega
theorem turn_planes {px : List Int} (hp : px.length = 64) (hv : tilB px = true) : tileP (eachP turnB (bytT px)) = turnT px := by
  refine mkT_ext (tileP_len _) (turn_len px) fun k hk => ?_
  rw [tileP_get _ k hk, turn_get hv k hk]
  rw [each_readP turnB (fun _ c => 7 - c) (fun r _ => r) (bytT px) turnB_len (fun r c _ h => by omega) (fun ys r c h1 h2 => turnB_dig ys r c h1 h2) k hk,
    bytT_dig hp hv _ _ (by omega) (by omega)]
  rfl
/-- Row k of a tile has a pixel of this value. -/
def hasV (px : List Int) (k v : Nat) : Bool := (List.range 8).any fun c => px.getD (8 * k + c) 0 == (v : Int)
theorem hasV_iff (px : List Int) (k v : Nat) : hasV px k v = true ↔ ∃ c, c < 8 ∧ px.getD (8 * k + c) 0 = (v : Int) := by
  unfold hasV
  rw [List.any_eq_true]
  constructor
  · rintro ⟨c, h1, h2⟩
    exact ⟨c, List.mem_range.1 h1, by simpa using h2⟩
  · rintro ⟨c, h1, h2⟩
    exact ⟨c, List.mem_range.2 h1, by simpa using h2⟩
/-- The values used so far: all rows before row k, and of row k those below v. -/
def rowU (px : List Int) (k : Nat) : Nat → Nat
  | 0 => usedU px (8 * k)
  | v + 1 => rowU px k v ||| (if hasV px k v = true then 2 ^ v else 0)
theorem rowU_bit (px : List Int) (k b : Nat) : ∀ v, (rowU px k v).testBit b = true ↔ (usedU px (8 * k)).testBit b = true ∨ (b < v ∧ hasV px k b = true)
  | 0 => by simp [rowU]
  | v + 1 => by
    rw [rowU, Nat.testBit_or, Bool.or_eq_true, rowU_bit px k b v]
    have e : (if hasV px k v = true then 2 ^ v else 0).testBit b = true ↔ v = b ∧ hasV px k v = true := by
      by_cases h : hasV px k v = true
      · rw [if_pos h, Nat.testBit_two_pow]; simp [h]
      · rw [if_neg h]; simp [h]
    rw [e]
    constructor
    · rintro ((h | ⟨h1, h2⟩) | ⟨rfl, h2⟩)
      · exact .inl h
      · exact .inr ⟨by omega, h2⟩
      · exact .inr ⟨by omega, h2⟩
    · rintro (h | ⟨h1, h2⟩)
      · exact .inl (.inl h)
      · by_cases e : v = b
        · subst e; exact .inr ⟨rfl, h2⟩
        · exact .inl (.inr ⟨by omega, h2⟩)
theorem rowU_4 {px : List Int} (hp : px.length = 64) (hv : tilB px = true) (k : Nat) (hk : k < 8) : rowU px k 4 = usedU px (8 * (k + 1)) := by
  refine Nat.eq_of_testBit_eq fun b => ?_
  rw [Bool.eq_iff_iff, rowU_bit, used_bit, used_bit, hasV_iff]
  constructor
  · rintro (⟨i, hi, h⟩ | ⟨h1, c, hc, h⟩)
    · exact ⟨i, by omega, h⟩
    · exact ⟨8 * k + c, by omega, by rw [h]; rfl⟩
  · rintro ⟨i, hi, h⟩
    by_cases l : i < 8 * k
    · exact .inl ⟨i, l, h⟩
    · obtain ⟨h0, h1⟩ := til_px hp hv i (by omega)
      refine .inr ⟨by omega, i - 8 * k, by omega, ?_⟩
      rw [show 8 * k + (i - 8 * k) = i by omega]
      omega
theorem rowU_lt {px : List Int} (hp : px.length = 64) (hv : tilB px = true) (k : Nat) (hk : k < 8) : ∀ v, v ≤ 4 → rowU px k v < 16
  | 0, _ => by
    have h := usedU_lt hp hv (8 * k) (by omega)
    simpa [rowU] using h
  | v + 1, h => by
    have ih := rowU_lt hp hv k hk v (by omega)
    rw [rowU]
    refine Nat.or_lt_two_pow (n := 4) ih ?_
    split
    · exact Nat.pow_lt_pow_right (by omega) (by omega)
    · omega
/-- The places of a row that have a value, from its two bytes. -/
def placesN (l h v : Nat) : Nat := (if v / 2 = 1 then h else 255 - h) &&& (if v % 2 = 1 then l else 255 - l)
theorem not_bit (x i : Nat) (hx : x < 256) (hi : i < 8) : (255 - x).testBit i = !x.testBit i := by
  have h := Nat.testBit_two_pow_sub_succ (n := 8) (x := x) (by omega) i
  rw [show (255 : Nat) - x = 2 ^ 8 - (x + 1) by omega, h]
  simp [hi]
theorem and_zero (x y : Nat) (hx : x < 256) : x &&& y = 0 ↔ ∀ i, i < 8 → ¬ (x.testBit i = true ∧ y.testBit i = true) := by
  constructor
  · intro h i _ ⟨h1, h2⟩
    have : (x &&& y).testBit i = true := by rw [Nat.testBit_and, h1, h2]; rfl
    rw [h] at this
    simp at this
  · intro h
    refine Nat.eq_of_testBit_eq fun i => ?_
    rw [Nat.testBit_and, Nat.zero_testBit]
    by_cases hi : i < 8
    · have := h i hi
      cases h1 : x.testBit i <;> cases h2 : y.testBit i <;> simp_all
    · have hlt : x < 2 ^ i := Nat.lt_of_lt_of_le hx (Nat.pow_le_pow_right (n := 2) (by omega) (show 8 ≤ i by omega))
      rw [Nat.testBit_lt_two_pow hlt]; rfl
theorem dig_bit (x c : Nat) (hc : c < 8) : dig (x : Int) c = if x.testBit (7 - c) = true then 1 else 0 := by
  unfold dig
  rw [Nat.testBit_eq_decide_div_mod_eq]
  have e : (x : Int) / 2 ^ (7 - c) % 2 = ((x / 2 ^ (7 - c) % 2 : Nat) : Int) := by simp
  rw [e]
  by_cases h : x / 2 ^ (7 - c) % 2 = 1
  · simp [h]
  · have : x / 2 ^ (7 - c) % 2 = 0 := by omega
    simp [this]
theorem half_bit (x : Nat) (b : Bool) (i : Nat) (hx : x < 256) (hi : i < 8) : (if b = true then x else 255 - x).testBit i = (x.testBit i == b) := by
  cases b
  · rw [if_neg (by simp), not_bit x i hx hi]; cases x.testBit i <;> rfl
  · rw [if_pos rfl]; cases x.testBit i <;> rfl
theorem places_zero (l h v : Nat) (hl : l < 256) (hh : h < 256) (hv : v < 4) : placesN l h v ≠ 0 ↔ ∃ c, c < 8 ∧ dig (l : Int) c + 2 * dig (h : Int) c = (v : Int) := by
  have e : placesN l h v = (if decide (v / 2 = 1) = true then h else 255 - h) &&& (if decide (v % 2 = 1) = true then l else 255 - l) := by
    unfold placesN; simp
  have hx : (if decide (v / 2 = 1) = true then h else 255 - h) < 256 := by split <;> omega
  rw [e, Ne, and_zero _ _ hx]
  constructor
  · intro hn
    have hn' : ∃ i, i < 8 ∧ ((if decide (v / 2 = 1) = true then h else 255 - h).testBit i = true ∧ (if decide (v % 2 = 1) = true then l else 255 - l).testBit i = true) := by
      refine Classical.byContradiction fun hc => hn fun i hi hb => hc ⟨i, hi, hb⟩
    obtain ⟨i, hi, h1, h2⟩ := hn'
    rw [half_bit _ _ i hh hi] at h1
    rw [half_bit _ _ i hl hi] at h2
    refine ⟨7 - i, by omega, ?_⟩
    rw [dig_bit _ _ (by omega), dig_bit _ _ (by omega), show 7 - (7 - i) = i by omega]
    have v4 : v = 0 ∨ v = 1 ∨ v = 2 ∨ v = 3 := by omega
    rcases v4 with rfl | rfl | rfl | rfl <;> simp_all
  · rintro ⟨c, hc, hd⟩ hn
    refine hn (7 - c) (by omega) ?_
    rw [half_bit _ _ _ hh (by omega), half_bit _ _ _ hl (by omega)]
    rw [dig_bit _ _ hc, dig_bit _ _ hc] at hd
    have v4 : v = 0 ∨ v = 1 ∨ v = 2 ∨ v = 3 := by omega
    cases h1 : h.testBit (7 - c) <;> cases h2 : l.testBit (7 - c) <;> rcases v4 with rfl | rfl | rfl | rfl <;> simp_all
theorem has_places {px : List Int} (hp : px.length = 64) (hv : tilB px = true) (k v : Nat) (hk : k < 8) (h4 : v < 4) (l h : Nat) (hl : (bytT px).getD k 0 = (l : Int)) (hh : (bytT px).getD (8 + k) 0 = (h : Int)) :
    placesN l h v ≠ 0 ↔ hasV px k v = true := by
  have bl := (bytT_ok px).2 k (by omega)
  have bh := (bytT_ok px).2 (8 + k) (by omega)
  rw [hl] at bl
  rw [hh] at bh
  rw [places_zero l h v (by omega) (by omega) h4, hasV_iff]
  constructor
  · rintro ⟨c, hc, hd⟩
    exact ⟨c, hc, by rw [← bytT_dig hp hv k c hk hc, hl, hh]; exact hd⟩
  · rintro ⟨c, hc, hd⟩
    exact ⟨c, hc, by rw [← hl, ← hh, bytT_dig hp hv k c hk hc]; exact hd⟩
end Go.Proofs.Ytacebhncecninaa
end

section
/- Arrays of bytes held by value: loads, stores and indexes as one step each, at any place of a block. -/
namespace Go.Proofs.Ytacebhncecninaa
open Go.ChangeShapes Go.WideShapes Go.ChangeAt Go.RowKit
set_option linter.unusedVariables false

abbrev uv (xs : List Int) : List Value := xs.map (Value.int .u8)
abbrev octV (xs : List Int) : Value := .agg (uv xs).toArray
theorem uv_at (xs : List Int) (i : Nat) (h : i < xs.length) : (uv xs)[i]? = some (.int .u8 (xs.getD i 0)) := by
  rw [List.getElem?_map, List.getElem?_eq_getElem h, List.getD_eq_getElem?_getD, List.getElem?_eq_getElem h]; rfl
theorem uv_one (xs : List Int) : (uv xs).toArray.all (·.oneCell') = true := by
  rw [Array.all_eq_true_iff_forall_mem]
  intro x hx
  obtain ⟨y, _, rfl⟩ := List.mem_map.1 (show x ∈ xs.map (Value.int .u8) by simpa using hx)
  rfl
theorem uv_size (xs : List Int) (n : Nat) (h : xs.length = n) : (uv xs).toArray.size = n := by simp [h]
theorem uv_set (xs : List Int) (i : Nat) (v : Int) : (uv xs).set i (.int .u8 v) = uv (xs.set i v) := by simp [List.map_set]
theorem oct_cell {w : World} {b : Nat} {t : TypeId} {xs : List Int} (h : Box w b t (uv xs)) (i : Nat) (hi : i < xs.length) : w.cell? ⟨b, i, none⟩ = some (.int .u8 (xs.getD i 0)) := (h.cell i).trans (uv_at xs i hi)
theorem ty_plane : ArrTy 139 8 := ⟨⟨_, Try.underlying139, rfl⟩, by kernel_rfl⟩
theorem ty_planes : ArrTy 141 16 := ⟨⟨_, Try.underlying141, rfl⟩, by kernel_rfl⟩
theorem oct_none (w : World) : (isAgg 113).run Try.prog w = .ok false w := by
  have h : Try.prog.underlying 113 = some (.int .u8) := by kernel_rfl
  unfold isAgg
  rw [Sem.run_bind, run_underlying h w]; rfl
theorem plane_agg (w : World) : (isAgg 139).run Try.prog w = .ok true w := by
  unfold isAgg
  rw [Sem.run_bind, run_underlying Try.underlying139 w]; rfl
theorem oct_size : (Try.prog.info? 113).map (·.size) = some 1 := by kernel_rfl
/-- An entry of a plane, of four bytes, of 64 numbers. -/
theorem run_index_plane (w : World) (xs : List Int) (h : xs.length = 8) (i : Nat) (hi : i < 8) : (Instr.index 139 (octV xs) (.int .i64 (i : Int))).run Try.prog w = .ok (.int .u8 (xs.getD i 0)) w :=
  run_index_row w _ _ 8 _ _ i _ Try.underlying139 oct_none oct_size hi (by have := uv_at xs i (by omega); simpa using this)
theorem run_index_planes (w : World) (xs : List Int) (h : xs.length = 16) (i : Nat) (hi : i < 2) : (Instr.index 141 (octV xs) (.int .i64 (i : Int))).run Try.prog w = .ok (octV ((xs.drop (8 * i)).take 8)) w := by
  rw [run_index_rows w _ _ 2 8 _ _ i Try.underlying141 plane_agg ty_plane.info hi]
  congr 2
  apply Array.ext'
  simp [List.map_drop, List.map_take, Nat.mul_comm]
end Go.Proofs.Ytacebhncecninaa
end

section
/- The program's functions on one plane: a digit, the values in a row, a byte reversed. -/
namespace Go.Proofs.Ytacebhncecninaa
open Go.ChangeShapes Go.WideShapes Go.ChangeAt Go.RowKit
set_option linter.unusedVariables false

theorem u8_all {P : Int → Prop} (h : ∀ n : Fin 256, P (n.val : Int)) (a : Int) (h0 : 0 ≤ a) (h1 : a ≤ 255) : P a := by
  obtain ⟨n, rfl⟩ := Int.eq_ofNat_of_zero_le h0
  exact h ⟨n, by omega⟩
theorem and_one (y : Int) (h0 : 0 ≤ y) (h1 : y ≤ 255) : bits .and .u8 y 1 = y % 2 := u8_all (P := fun y => bits .and .u8 y 1 = y % 2) (by decide +kernel) y h0 h1
theorem get_at (xs : List Int) (r : Nat) (h : r < xs.length) : xs[r] = xs.getD r 0 := by rw [List.getD_eq_getElem?_getD, List.getElem?_eq_getElem h]; rfl
theorem shr_bd (x : Int) (k : Nat) (h0 : 0 ≤ x) (h1 : x ≤ 255) : 0 ≤ x / 2 ^ k ∧ x / 2 ^ k ≤ 255 := by
  have hp : (0 : Int) < 2 ^ k := Int.pow_pos (by decide)
  refine ⟨Int.ediv_nonneg h0 (Int.le_of_lt hp), Int.le_trans (Int.ediv_le_self _ h0) h1⟩
theorem dig_bits (x : Int) (c : Nat) (h0 : 0 ≤ x) (h1 : x ≤ 255) : bits .and .u8 (x / 2 ^ (7 - c)) 1 = dig x c := and_one _ (shr_bd x _ h0 h1).1 (shr_bd x _ h0 h1).2
set_option maxHeartbeats 2000000 in
theorem pl_digit (xs : List Int) (hx : BytN 8 xs) (r c : Nat) (hr : r < 8) (hc : c < 8) (w : World) :
    Calls Try.prog 129 #[octV xs, .int .i64 (r : Int), .int .i64 (c : Int)] w fun e w' => e = .returned (.int .u8 (dig (xs.getD r 0) c)) ∧ Below w.heap.size w w' := by
  have hl := hx.1
  have HD : Hid (bits .and .u8 (xs[r] / 2 ^ (7 - c)) 1 = dig (xs.getD r 0) c) := by
    rw [get_at xs r (by omega)]
    exact Lib.hid (dig_bits _ c (hx.2 r hr).1 (hx.2 r hr).2)
  clear hx
  have r8 : (r : Int) < 8 := by omega
  have r0 : 0 ≤ (r : Int) := by omega
  have c8 : (c : Int) < 8 := by omega
  have cc0 : 0 ≤ (c : Int) := by omega
  go_enter Try.func129, Try.ntmps129
  go_wp2_with fail
  go_ret
  refine ⟨?_, below1 _ _⟩
  show Ending.returned (Value.int .u8 (bits .and .u8 (xs[r] / 2 ^ (7 - c)) 1)) = _
  rw [HD.out]
theorem pl_rev8 (x : Int) (h0 : 0 ≤ x) (h1 : x ≤ 255) (w : World) : Calls Try.prog 127 #[.int .u8 x] w fun e w' => e = .returned (.int .u8 (Lib.rev8 x)) ∧ w = w' := by
  go_enter Try.func127, Try.ntmps127
  go_wp2_with fail
  go_ret
  exact ⟨rfl, rfl⟩
theorem rev_eq (x : Int) (h0 : 0 ≤ x) (h1 : x ≤ 255) : Lib.rev8 x = revB x := u8_all (P := fun x => Lib.rev8 x = revB x) (by decide +kernel) x h0 h1
/-- Bytes of which the first k are f's, the others those of xs. -/
def upK (f : Nat → Int) (xs : List Int) (k : Nat) : List Int := rowsOf (fun i => if i < k then f i else xs.getD i 0) 8
theorem upK_len (f : Nat → Int) (xs : List Int) (k : Nat) : (upK f xs k).length = 8 := rows_len _ _
theorem upK_zero (f : Nat → Int) (xs : List Int) (h : xs.length = 8) : upK f xs 0 = xs := rows_ext (upK_len _ _ _) h fun i hi => by
  unfold upK; rw [rows_get _ _ _ hi, if_neg (by omega)]
theorem upK_set (f : Nat → Int) (xs : List Int) (k : Nat) (hk : k < 8) : (upK f xs k).set k (f k) = upK f xs (k + 1) := by
  refine rows_ext (n := 8) (by simp [upK_len]) (upK_len _ _ _) fun i hi => ?_
  rw [List.getD_eq_getElem?_getD, List.getElem?_set]
  by_cases e : k = i
  · subst e
    rw [if_pos rfl, if_pos (by rw [upK_len]; exact hi)]
    unfold upK; rw [rows_get _ _ _ hi, if_pos (by omega)]; rfl
  · rw [if_neg e, ← List.getD_eq_getElem?_getD]
    unfold upK; rw [rows_get _ _ _ hi, rows_get _ _ _ hi]
    by_cases l : i < k
    · rw [if_pos l, if_pos (by omega)]
    · rw [if_neg l, if_neg (by omega)]
theorem upK_all (f : Nat → Int) (xs : List Int) : upK f xs 8 = rowsOf f 8 := rows_ext (upK_len _ _ _) (rows_len _ _) fun i hi => by
  unfold upK; rw [rows_get _ _ _ hi, rows_get _ _ _ hi, if_pos hi]
def zr8 : List Int := List.replicate 8 0
def zr16 : List Int := List.replicate 16 0
theorem zr8_len : zr8.length = 8 := by simp [zr8]
theorem zr16_len : zr16.length = 16 := by simp [zr16]
theorem zr8_lit : (#[.int .u8 0, .int .u8 0, .int .u8 0, .int .u8 0, .int .u8 0, .int .u8 0, .int .u8 0, .int .u8 0] : Array Value) = (uv zr8).toArray := rfl
set_option maxHeartbeats 4000000 in
theorem pl_across (xs : List Int) (hx : BytN 8 xs) (w : World) :
    Calls Try.prog 124 #[octV xs] w fun e w' => e = .returned (octV (acrossP xs)) ∧ Below w.heap.size w w' := by
  have hl := hx.1
  have HX := Lib.hid hx
  clear hx
  go_enter Try.func124, Try.ntmps124
  go_wp2_with (refine sa_load ty_plane (by rfl) _ rfl w.heap.size 0 rfl _ (uv xs) (uv xs) ((Box.new w _ _).alloc _) (by simp [hl]) (fun j v h => by simpa using h) ?_)
  rw [zr8_lit]
  obtain ⟨w1, hw1⟩ : ∃ w1, w1 = (w.alloc (.cells (uv xs).toArray 139)).alloc (.cells (uv zr8).toArray 139) := ⟨_, rfl⟩
  have X1 : Hid (Box w1 w.heap.size 139 (uv xs)) := by rw [hw1]; exact (Box.new w _ _).alloc _
  have R1 : Hid (Box w1 (w.heap.size + 1) 139 (uv zr8)) := by rw [hw1]; exact Box.new_at _ _ _ _ (by simp)
  have B1 : Hid (Below w.heap.size w w1) := by rw [hw1]; exact below2 w _ _
  rw [← hw1]
  clear hw1
  obtain ⟨f, hf⟩ : ∃ f : Nat → Int, f = fun r => revB (xs.getD r 0) := ⟨_, rfl⟩
  have HF := Lib.hid hf
  have HR := Lib.hid (show acrossP xs = rowsOf f 8 by rw [hf]; rfl)
  clear hf
  go_loopw [6] (fun i wr => ∃ k : Nat, k ≤ 8 ∧ i = .int .i64 k ∧ Box wr w.heap.size 139 (uv (upK f xs k)) ∧ Box wr (w.heap.size + 1) 139 (uv zr8) ∧ Below w.heap.size w wr) (fun i _ => 8 - (intOf i).toNat)
  case atStart => exact ⟨0, by omega, rfl, by rw [upK_zero f xs hl]; exact X1.out, R1.out, B1.out⟩
  case round =>
    obtain ⟨k, hk, rfl, hx, hr, hb⟩ := hrel
    have XR := Lib.hid hx
    have RR := Lib.hid hr
    have BR := Lib.hid hb
    clear hx hr hb X1 R1 B1
    by_cases h8 : k < 8
    · have k8 : (k : Int) < 8 := by omega
      have k0 : 0 ≤ (k : Int) := by omega
      obtain ⟨x, hxx⟩ : ∃ x, xs.getD k 0 = x := ⟨_, rfl⟩
      have hI : ∀ wq, (Instr.index 139 (octV xs) (.int .i64 (k : Int))).run Try.prog wq = .ok (.int .u8 x) wq := fun wq => by rw [← hxx]; exact run_index_plane wq xs hl k h8
      have x0 : 0 ≤ x := by rw [← hxx]; exact (HX.out.2 k h8).1
      have x1 : x ≤ 255 := by rw [← hxx]; exact (HX.out.2 k h8).2
      have HN : Hid (f k = Lib.rev8 x) := by rw [HF.out, rev_eq x x0 x1, ← hxx]; exact Lib.hid rfl
      have c0 := oct_cell XR.out k (by rw [upK_len]; exact h8)
      have g0 := XR.out.frozen k
      clear hxx
      go_wp2_with (go_at_call 127; refine (pl_rev8 _ x0 x1 _).mono ?_; rintro e w' ⟨rfl, rfl⟩)
      go_roundw
      case rel => exact ⟨k + 1, by omega, by go_num, by rw [← upK_set f xs k h8, ← uv_set, HN.out]; exact XR.out.set k _, RR.out.far (by omega) _, BR.out.setCell (Nat.le_refl _) _⟩
      case measure => simp [intOf]; omega
    · obtain rfl : k = 8 := by omega
      have hz := zr8_len
      go_wp2_with (first | (refine sa_load ty_plane (by rfl) _ rfl w.heap.size 0 rfl _ (uv (upK f xs 8)) (uv (upK f xs 8)) XR.out (by simp [upK_len]) (fun j v h => by simpa using h) ?_) | (refine sa_store ty_plane (by rfl) _ _ rfl (w.heap.size + 1) rfl _ (uv zr8) (uv (upK f xs 8)) rfl RR.out (by simp [hz]) (by simp [upK_len]) (uv_one _) ?_))
      have RF : Hid (Box (wr.setRow (w.heap.size + 1) (uv (upK f xs 8)).toArray) (w.heap.size + 1) 139 (uv (upK f xs 8))) := Box.row RR.out
      exact bodyPost_ret (v := octV (upK f xs 8)) (arr_ret ty_plane rfl rfl RF.out (by simp [upK_len])) rfl ⟨by rw [HR.out, upK_all], below_row BR.out (by omega) _⟩
end Go.Proofs.Ytacebhncecninaa
end

section
/- A plane turned: the program's function. -/
namespace Go.Proofs.Ytacebhncecninaa
open Go.ChangeShapes Go.WideShapes Go.ChangeAt Go.RowKit
set_option linter.unusedVariables false

theorem and_128 : ∀ j : Fin 8, ∀ x : Fin 256, bits .and .u8 ((x.val : Int) * 2 ^ j.val % 256) 128 = 128 * dig (x.val : Int) j.val := by decide +kernel
theorem or_128 : ∀ d : Fin 2, ∀ t : Fin 256, bits .or .u8 ((t.val : Int) / 2) (128 * (d.val : Int)) = (t.val : Int) / 2 + 128 * (d.val : Int) := by decide +kernel
theorem turn_bits (t x : Int) (j : Nat) (hj : j < 8) (t0 : 0 ≤ t) (t1 : t ≤ 255) (x0 : 0 ≤ x) (x1 : x ≤ 255) : bits .or .u8 (t / 2) (bits .and .u8 (x * 2 ^ j % 256) 128) = t / 2 + 128 * dig x j := by
  rw [u8_all (P := fun x => bits .and .u8 (x * 2 ^ j % 256) 128 = 128 * dig x j) (and_128 ⟨j, hj⟩) x x0 x1]
  have hd := dig_bd x j
  obtain ⟨d, hd'⟩ : ∃ d : Fin 2, dig x j = (d.val : Int) := ⟨⟨(dig x j).toNat, by omega⟩, by simp; omega⟩
  rw [hd']
  exact u8_all (P := fun t => bits .or .u8 (t / 2) (128 * (d.val : Int)) = t / 2 + 128 * (d.val : Int)) (or_128 d) t t0 t1
end Go.Proofs.Ytacebhncecninaa
end

section
/- A plane flipped down: the library's reversal of eight bytes in place, and the program's function. -/
namespace Go.Proofs.Ytacebhncecninaa
open Go.ChangeShapes Go.WideShapes Go.ChangeAt Go.RowKit
set_option linter.unusedVariables false

/-- Eight bytes of which the outer k on both sides have changed places. -/
def rvK (xs : List Int) (k : Nat) : List Int := rowsOf (fun r => if r < k ∨ 7 < r + k then xs.getD (7 - r) 0 else xs.getD r 0) 8
theorem rvK_len (xs : List Int) (k : Nat) : (rvK xs k).length = 8 := rows_len _ _
theorem rvK_get (xs : List Int) (k r : Nat) (hr : r < 8) : (rvK xs k).getD r 0 = if r < k ∨ 7 < r + k then xs.getD (7 - r) 0 else xs.getD r 0 := by unfold rvK; rw [rows_get _ _ _ hr]
theorem rvK_zero (xs : List Int) (h : xs.length = 8) : rvK xs 0 = xs := rows_ext (rvK_len _ _) h fun i hi => by
  rw [rvK_get _ _ _ hi, if_neg (by omega)]
theorem rvK_four (xs : List Int) : rvK xs 4 = downP xs := rows_ext (rvK_len _ _) (down_len _) fun i hi => by
  rw [rvK_get _ _ _ hi, if_pos (by omega)]; unfold downP; rw [rows_get _ _ _ hi]
theorem rvK_set (xs : List Int) (i j : Nat) (hij : i + j = 7) (hi : i < 4) : ((rvK xs i).set i (xs.getD j 0)).set j (xs.getD i 0) = rvK xs (i + 1) := by
  refine rows_ext (n := 8) (by simp [rvK_len]) (rvK_len _ _) fun r hr => ?_
  rw [rvK_get _ _ _ hr, List.getD_eq_getElem?_getD, List.getElem?_set, List.getElem?_set]
  by_cases e : j = r
  · subst e
    rw [if_pos rfl, if_pos (by simp [rvK_len]; omega), if_pos (by omega), show 7 - j = i by omega]; rfl
  · rw [if_neg e]
    by_cases e2 : i = r
    · subst e2
      rw [if_pos rfl, if_pos (by rw [rvK_len]; omega), if_pos (by omega), show 7 - i = j by omega]; rfl
    · rw [if_neg e2, ← List.getD_eq_getElem?_getD, rvK_get _ _ _ hr]
      by_cases l : r < i ∨ 7 < r + i
      · rw [if_pos l, if_pos (by omega)]
      · rw [if_neg l, if_neg (by omega)]
theorem only_drew {S : List Nat} {a w : World} (h : Only S a w) : Only S a w.drew := ⟨h.os, h.tape, h.output, h.size, h.block⟩
set_option maxHeartbeats 4000000 in
theorem oc_reverse (xs : List Int) (b : Nat) (w : World) (hl : xs.length = 8) (hb : Box w b 139 (uv xs)) :
    Calls Try.prog 128 #[.slice (some ⟨b, 0, none⟩) 8 8] w fun e w' => (∃ v, e = .returned v) ∧ Only [b] w w' ∧ Box w' b 139 (uv (downP xs)) := by
  have X1 := Lib.hid hb
  clear hb
  go_enter Try.func128, Try.ntmps128
  go_wp2_with fail
  go_loopw [2, 3] (fun a c wr => ∃ i j : Nat, i + j = 7 ∧ i ≤ 4 ∧ a = .int .i64 i ∧ c = .int .i64 j ∧ Box wr b 139 (uv (rvK xs i)) ∧ Only [b] w wr) (fun a _ _ => 8 - (intOf a).toNat)
  case atStart => exact ⟨0, 7, rfl, by omega, rfl, rfl, by rw [rvK_zero xs hl]; exact X1.out, Only.refl _ _⟩
  case round =>
    obtain ⟨i, j, hij, hi4, rfl, rfl, hy, ho⟩ := hrel
    have YR := Lib.hid hy
    have OR := Lib.hid ho
    clear hy ho X1
    by_cases h4 : i < 4
    · have hlt : (i : Int) < (j : Int) := by omega
      have i8 : (i : Int) < 8 := by omega
      have j8 : (j : Int) < 8 := by omega
      have i0 : 0 ≤ (i : Int) := by omega
      have j0 : 0 ≤ (j : Int) := by omega
      obtain ⟨x, hx⟩ : ∃ x, xs.getD i 0 = x := ⟨_, rfl⟩
      obtain ⟨y, hy⟩ : ∃ y, xs.getD j 0 = y := ⟨_, rfl⟩
      have ci := oct_cell YR.out i (by rw [rvK_len]; omega)
      have cj := oct_cell YR.out j (by rw [rvK_len]; omega)
      rw [rvK_get _ _ _ (by omega), if_neg (by omega), hx] at ci
      rw [rvK_get _ _ _ (by omega), if_neg (by omega), hy] at cj
      have gi := YR.out.frozen i
      have gj := YR.out.frozen j
      have HS : Hid (((rvK xs i).set i y).set j x = rvK xs (i + 1)) := by rw [← hx, ← hy]; exact Lib.hid (rvK_set xs i j hij h4)
      clear hx hy
      go_wp2_with fail
      go_region
      go_wp2_with fail
      go_roundw
      case rel => exact ⟨i + 1, j - 1, by omega, by omega, by go_num, by go_num, by rw [← HS.out, ← uv_set, ← uv_set]; exact (YR.out.set i _).set j _, only_drew ((OR.out.setCell (q := b) (.inl (by simp)) _).setCell (q := b) (.inl (by simp)) _)⟩
      case measure => simp [intOf]; omega
    · have hge : (j : Int) ≤ (i : Int) := by omega
      have HY : Hid (Box wr b 139 (uv (downP xs))) := by
        have h := YR.out
        rw [show i = 4 by omega, rvK_four] at h
        exact h
      go_wp2_with fail
      go_end0
      exact ⟨⟨_, rfl⟩, OR.out, HY.out⟩
set_option maxHeartbeats 4000000 in
theorem pl_down (xs : List Int) (hl : xs.length = 8) (w : World) :
    Calls Try.prog 125 #[octV xs] w fun e w' => e = .returned (octV (downP xs)) ∧ Below w.heap.size w w' := by
  go_enter Try.func125, Try.ntmps125
  have hz := zr8_len
  go_wp2_with fail
  rw [zr8_lit]
  obtain ⟨w1, hw1⟩ : ∃ w1, w1 = (w.alloc (.cells (uv xs).toArray 139)).alloc (.cells (uv zr8).toArray 139) := ⟨_, rfl⟩
  have X1 : Hid (Box w1 w.heap.size 139 (uv xs)) := by rw [hw1]; exact (Box.new w _ _).alloc _
  have R1 : Hid (Box w1 (w.heap.size + 1) 139 (uv zr8)) := by rw [hw1]; exact Box.new_at _ _ _ _ (by simp)
  have B1 : Hid (Below w.heap.size w w1) := by rw [hw1]; exact below2 w _ _
  rw [← hw1]
  clear hw1
  refine (oc_reverse xs w.heap.size w1 hl X1.out).mono ?_; rintro e w2 ⟨⟨v, rfl⟩, ho, hb⟩
  have XR := Lib.hid hb
  have RR := Lib.hid (R1.out.only ho (by simp))
  have BR := Lib.hid (B1.out.trans (ho.below (B := w.heap.size) (fun b hb => by simp at hb; omega) B1.out.size))
  clear hb ho X1 R1 B1
  go_wp2_with (first | (refine sa_load ty_plane (by rfl) _ rfl w.heap.size 0 rfl _ (uv (downP xs)) (uv (downP xs)) XR.out (by simp [down_len]) (fun j v h => by simpa using h) ?_) | (refine sa_store ty_plane (by rfl) _ _ rfl (w.heap.size + 1) rfl _ (uv zr8) (uv (downP xs)) rfl RR.out (by simp [hz]) (by simp [down_len]) (uv_one _) ?_))
  have RF : Hid (Box (w2.setRow (w.heap.size + 1) (uv (downP xs)).toArray) (w.heap.size + 1) 139 (uv (downP xs))) := Box.row RR.out
  exact bodyPost_ret (v := octV (downP xs)) (arr_ret ty_plane rfl rfl RF.out (by simp [down_len])) rfl ⟨rfl, below_row BR.out (by omega) _⟩
end Go.Proofs.Ytacebhncecninaa
end

section
/- A tile taken apart into its two planes: the program's function. -/
namespace Go.Proofs.Ytacebhncecninaa
open Go.ChangeShapes Go.WideShapes Go.ChangeAt Go.RowKit
set_option linter.unusedVariables false

/-- The planes once the first k pixels have come in. -/
def bothK (px : List Int) (k : Nat) : List Int := rowsOf (fun q => plane px q (min 8 (k - 8 * (q % 8)))) 16
theorem bothK_len (px : List Int) (k : Nat) : (bothK px k).length = 16 := rows_len _ _
theorem bothK_get (px : List Int) (k q : Nat) (hq : q < 16) : (bothK px k).getD q 0 = plane px q (min 8 (k - 8 * (q % 8))) := by unfold bothK; rw [rows_get _ _ _ hq]
theorem bothK_zero (px : List Int) : bothK px 0 = zr16 := rfl
theorem bothK_all (px : List Int) : bothK px 64 = bytT px := rows_ext (n := 16) (bothK_len _ _) (bytT_len _) fun q hq => by
  rw [bothK_get _ _ _ hq, bytT_get _ _ hq, show min 8 (64 - 8 * (q % 8)) = 8 by omega]
theorem bothK_set (px : List Int) (k r c : Nat) (hk : k = 8 * r + c) (hr : r < 8) (hc : c < 8) :
    ((bothK px k).set r (plane px r (c + 1))).set (8 + r) (plane px (8 + r) (c + 1)) = bothK px (k + 1) := by
  refine rows_ext (n := 16) (by simp [bothK_len]) (bothK_len _ _) fun q hq => ?_
  rw [bothK_get _ _ _ hq, List.getD_eq_getElem?_getD, List.getElem?_set, List.getElem?_set]
  by_cases e : 8 + r = q
  · subst e
    rw [if_pos rfl, if_pos (by simp [bothK_len]; omega), show min 8 (k + 1 - 8 * ((8 + r) % 8)) = c + 1 by omega]; rfl
  · rw [if_neg e]
    by_cases e2 : r = q
    · subst e2
      rw [if_pos rfl, if_pos (by rw [bothK_len]; omega), show min 8 (k + 1 - 8 * (r % 8)) = c + 1 by omega]; rfl
    · rw [if_neg e2, ← List.getD_eq_getElem?_getD, bothK_get _ _ _ hq]
      congr 1
      omega
theorem lo_all : ∀ y : Fin 4, ∀ n : Fin 128, bits .or .u8 ((n.val : Int) * 2) (bits .and .i64 (y.val : Int) 1 % 256) = 2 * (n.val : Int) + (y.val : Int) % 2 := by decide +kernel
theorem hi_all : ∀ y : Fin 4, ∀ n : Fin 128, bits .or .u8 ((n.val : Int) * 2) ((y.val : Int) / 2) = 2 * (n.val : Int) + (y.val : Int) / 2 % 2 := by decide +kernel
theorem lo_bits (n y : Int) (h0 : 0 ≤ n) (h1 : n < 128) (y0 : 0 ≤ y) (y1 : y ≤ 3) : bits .or .u8 (n * 2) (bits .and .i64 y 1 % 256) = 2 * n + y % 2 := by
  obtain ⟨m, rfl⟩ := Int.eq_ofNat_of_zero_le h0
  obtain ⟨z, rfl⟩ := Int.eq_ofNat_of_zero_le y0
  exact lo_all ⟨z, by omega⟩ ⟨m, by omega⟩
theorem hi_bits (n y : Int) (h0 : 0 ≤ n) (h1 : n < 128) (y0 : 0 ≤ y) (y1 : y ≤ 3) : bits .or .u8 (n * 2) (y / 2) = 2 * n + y / 2 % 2 := by
  obtain ⟨m, rfl⟩ := Int.eq_ofNat_of_zero_le h0
  obtain ⟨z, rfl⟩ := Int.eq_ofNat_of_zero_le y0
  exact hi_all ⟨z, by omega⟩ ⟨m, by omega⟩
theorem zr16_lit : (#[.int .u8 0, .int .u8 0, .int .u8 0, .int .u8 0, .int .u8 0, .int .u8 0, .int .u8 0, .int .u8 0, .int .u8 0, .int .u8 0, .int .u8 0, .int .u8 0, .int .u8 0, .int .u8 0, .int .u8 0, .int .u8 0] : Array Value) = (uv zr16).toArray := rfl
theorem plane_128 (px : List Int) (q c : Nat) (hc : c < 8) : 0 ≤ plane px q c ∧ plane px q c < 128 := by
  obtain ⟨h0, h1⟩ := plane_bd px q c
  have h2 : (2 : Int) ^ c ≤ 2 ^ 7 := by
    have := Nat.pow_le_pow_right (show 0 < 2 by omega) (show c ≤ 7 by omega)
    exact_mod_cast this
  omega
set_option maxHeartbeats 8000000 in
theorem pl_planes (px : List Int) (hp : px.length = 64) (hv : tilB px = true) (w : World) :
    Calls Try.prog 122 #[tilV px] w fun e w' => e = .returned (octV (bytT px)) ∧ Below w.heap.size w w' := by
  go_enter Try.func122, Try.ntmps122
  go_wp2_with (refine sa_load ty_pixels (by rfl) _ rfl w.heap.size 0 rfl _ (iv px) (iv px) (((Box.new w _ _).alloc _).alloc _) (by simp [hp]) (fun j v h => by simpa using h) ?_)
  rw [zr16_lit]
  obtain ⟨w1, hw1⟩ : ∃ w1, w1 = ((w.alloc (.cells (iv px).toArray 57)).alloc (.cells (uv zr16).toArray 141)).alloc (.cells (uv zr16).toArray 141) := ⟨_, rfl⟩
  have R1 : Hid (Box w1 (w.heap.size + 1) 141 (uv zr16)) := by rw [hw1]; exact (Box.new_at _ _ _ _ (by simp)).alloc _
  have Y1 : Hid (Box w1 (w.heap.size + 1 + 1) 141 (uv zr16)) := by rw [hw1]; exact Box.new_at _ _ _ _ (by simp)
  have B1 : Hid (Below w.heap.size w w1) := by rw [hw1]; exact below3 w _ _ _
  rw [← hw1]
  clear hw1
  have HL : Hid (w.heap.size ≤ w.heap.size + 1 + 1) := Lib.hid (by omega)
  go_loopw [9] (fun i wr => ∃ k : Nat, k ≤ 64 ∧ i = .int .i64 k ∧ Box wr (w.heap.size + 1) 141 (uv zr16) ∧ Box wr (w.heap.size + 1 + 1) 141 (uv (bothK px k)) ∧ Below w.heap.size w wr) (fun i _ => 64 - (intOf i).toNat)
  case atStart => exact ⟨0, by omega, rfl, R1.out, by rw [bothK_zero]; exact Y1.out, B1.out⟩
  case round =>
    obtain ⟨k, hk, rfl, hr, hy, hb⟩ := hrel
    have RR := Lib.hid hr
    have YR := Lib.hid hy
    have BR := Lib.hid hb
    clear hr hy hb R1 Y1 B1
    by_cases h64 : k < 64
    · have i64' : (k : Int) < 64 := by omega
      have k0 : 0 ≤ (k : Int) := by omega
      obtain ⟨r, c, hr, r8, c8, hrc⟩ : ∃ r c : Nat, (k : Int) / 8 = r ∧ r < 8 ∧ c < 8 ∧ k = 8 * r + c := ⟨k / 8, k % 8, by omega, by omega, by omega, by omega⟩
      have r8' : (r : Int) < 8 := by omega
      have r0 : 0 ≤ (r : Int) := by omega
      obtain ⟨y0, y1⟩ := til_px hp hv k h64
      obtain ⟨y, hy⟩ : ∃ y, px.getD k 0 = y := ⟨_, rfl⟩
      have hI : ∀ wq, (Instr.index 55 (tilV px) (.int .i64 (k : Int))).run Try.prog wq = .ok (.int .i64 y) wq := fun wq => by rw [← hy]; exact run_index_pixels wq px hp k h64
      have cl := oct_cell YR.out r (by rw [bothK_len]; omega)
      have ch := oct_cell YR.out (8 + r) (by rw [bothK_len]; omega)
      rw [bothK_get _ _ _ (by omega), show min 8 (k - 8 * (r % 8)) = c by omega] at cl
      rw [bothK_get _ _ _ (by omega), show min 8 (k - 8 * ((8 + r) % 8)) = c by omega] at ch
      obtain ⟨n, hn⟩ : ∃ n, plane px r c = n := ⟨_, rfl⟩
      obtain ⟨m, hm⟩ : ∃ m, plane px (8 + r) c = m := ⟨_, rfl⟩
      obtain ⟨n0, n1⟩ := plane_128 px r c c8
      obtain ⟨m0, m1⟩ := plane_128 px (8 + r) c c8
      have HN : Hid (plane px r (c + 1) = 2 * n + y % 2) := by
        rw [← hn, ← hy, hrc]
        show Hid (2 * plane px r c + px.getD (r % 8 * 8 + c) 0 / 2 ^ (r / 8) % 2 = _)
        rw [show r / 8 = 0 by omega, show r % 8 * 8 + c = 8 * r + c by omega]
        exact Lib.hid (by simp)
      have HM : Hid (plane px (8 + r) (c + 1) = 2 * m + y / 2 % 2) := by
        rw [← hm, ← hy, hrc]
        show Hid (2 * plane px (8 + r) c + px.getD ((8 + r) % 8 * 8 + c) 0 / 2 ^ ((8 + r) / 8) % 2 = _)
        rw [show (8 + r) / 8 = 1 by omega, show (8 + r) % 8 * 8 + c = 8 * r + c by omega]
        exact Lib.hid (by simp)
      rw [hn] at cl n0 n1
      rw [hm] at ch m0 m1
      rw [hy] at y0 y1
      have gl := YR.out.frozen r
      have gh := YR.out.frozen (8 + r)
      have HS := Lib.hid (bothK_set px k r c hrc r8 c8)
      rw [← lo_bits n y n0 n1 y0 y1] at HN
      rw [← hi_bits m y m0 m1 y0 y1] at HM
      clear hy hn hm hrc
      go_wp2_with fail
      go_roundw
      case rel => exact ⟨k + 1, by omega, by go_num, (RR.out.far (by omega) _).far (by omega) _, by rw [← HS.out, ← uv_set, ← uv_set, HN.out, HM.out]; exact (YR.out.set r _).set (8 + r) _, (BR.out.setCell HL.out _).setCell HL.out _⟩
      case measure => simp [intOf]; omega
    · obtain rfl : k = 64 := by omega
      have hz := zr16_len
      go_wp2_with (first | (refine sa_load ty_planes (by rfl) _ rfl (w.heap.size + 1 + 1) 0 rfl _ (uv (bothK px 64)) (uv (bothK px 64)) YR.out (by simp [bothK_len]) (fun j v h => by simpa using h) ?_) | (refine sa_store ty_planes (by rfl) _ _ rfl (w.heap.size + 1) rfl _ (uv zr16) (uv (bothK px 64)) rfl RR.out (by simp [hz]) (by simp [bothK_len]) (uv_one _) ?_))
      have RF : Hid (Box (wr.setRow (w.heap.size + 1) (uv (bothK px 64)).toArray) (w.heap.size + 1) 141 (uv (bothK px 64))) := Box.row RR.out
      exact bodyPost_ret (v := octV (bothK px 64)) (arr_ret ty_planes rfl rfl RF.out (by simp [bothK_len])) rfl ⟨by rw [bothK_all], below_row BR.out (by omega) _⟩
end Go.Proofs.Ytacebhncecninaa
end

section
/- Tiles compared. -/
namespace Go.Proofs.Ytacebhncecninaa
open Go.ChangeShapes Go.WideShapes Go.ChangeAt Go.RowKit
set_option linter.unusedVariables false

/-- Whether two lists agree at these places. -/
def sameAt (xs ys : List Int) (is : List Nat) : Bool := is.all fun i => xs.getD i 0 == ys.getD i 0
theorem sameAt_64 {xs ys : List Int} (hx : xs.length = 64) (hy : ys.length = 64) : sameAt xs ys (List.range 64) = decide (xs = ys) := by
  rw [Bool.eq_iff_iff, decide_eq_true_eq]
  unfold sameAt
  rw [List.all_eq_true]
  constructor
  · intro h
    apply List.ext_getElem (by omega)
    intro i h1 h2
    have := h i (by simp; omega)
    simpa [List.getD_eq_getElem?_getD, List.getElem?_eq_getElem h1, List.getElem?_eq_getElem h2] using this
  · rintro rfl i _
    simp
theorem int_keys : Try.prog.plainKey 3 = true := by kernel_rfl
theorem int_cells : Try.prog.cellsOf 3 = 1 := by kernel_rfl
theorem int_info : ∃ i, Try.prog.info? 3 = some i := by
  have h : (Try.prog.info? 3).isSome = true := by kernel_rfl
  exact Option.isSome_iff_exists.1 h
theorem part_int (xs : List Int) (i : Nat) (hi : i < xs.length) (w : World) : (part 3 (iv xs).toArray (i * 1)).run Try.prog w = .ok (.int .i64 (xs.getD i 0)) w :=
  run_part_plain w int_keys (by rw [Nat.mul_one]; simpa using iv_at xs i hi)
theorem items_ints (d : Nat) (xs ys : List Int) (w : World) : ∀ is : List Nat, (∀ i ∈ is, i < xs.length ∧ i < ys.length) → (Op.eqItems (d + 1) 3 1 (iv xs).toArray (iv ys).toArray is).run Try.prog w = .ok (sameAt xs ys is) w
  | [], _ => by simp [Op.eqItems, sameAt]
  | i :: is, h => by
    obtain ⟨h1, h2⟩ := h i (by simp)
    have ih := items_ints d xs ys w is fun j hj => h j (by simp [hj])
    simp only [Op.eqItems, Sem.run_bind, part_int xs i h1, part_int ys i h2, Result.andThen_ok, run_equalIn_int w d 3 .i64 .i64 _ _ Try.underlying3]
    have e : sameAt xs ys (i :: is) = ((xs.getD i 0 == ys.getD i 0) && sameAt xs ys is) := by simp [sameAt]
    rw [e]
    cases hb : (xs.getD i 0 == ys.getD i 0)
    · simp
    · simpa using ih
theorem equal_arr (d : Nat) (xs ys : List Int) (hx : xs.length = 64) (hy : ys.length = 64) (w : World) : (Op.equalIn (d + 2) 55 (.agg (iv xs).toArray) (.agg (iv ys).toArray)).run Try.prog w = .ok (decide (xs = ys)) w := by
  obtain ⟨i, hi⟩ := int_info
  rw [run_equalIn_array w (d + 1) _ _ Try.underlying55 hi, int_cells, items_ints d xs ys w _ (by simp; omega), sameAt_64 hx hy]
theorem part_til (xs : List Int) (hx : xs.length = 64) (w : World) : (part 55 (iv xs).toArray 0).run Try.prog w = .ok (.agg (iv xs).toArray) w := by
  have h : ((iv xs).toArray.extract 0 (0 + 64)) = (iv xs).toArray := by
    rw [Nat.zero_add, ← iv_len xs hx, Array.extract_size]
  unfold part
  simp only [Sem.run_bind, Try.isAgg55, Try.sizeOf55, Result.andThen_ok, if_true, h, Sem.run_pure]
theorem til_fields : ∃ f : Field, (Try.prog.fieldsOf 57).toList = [f] ∧ f.name ≠ "_" ∧ f.type = 55 ∧ f.offset = 0 := by
  have h : (match (Try.prog.fieldsOf 57).toList with | [f] => f.name != "_" && (f.type == 55 && f.offset == 0) | _ => false) = true := by kernel_rfl
  match e : (Try.prog.fieldsOf 57).toList, h with
  | [f], h =>
    simp only [Bool.and_eq_true, bne_iff_ne, beq_iff_eq] at h
    exact ⟨f, rfl, h.1, h.2.1, h.2.2⟩
theorem equal_til (d : Nat) (xs ys : List Int) (hx : xs.length = 64) (hy : ys.length = 64) (w : World) : (Op.equalIn (d + 3) 57 (tilV xs) (tilV ys)).run Try.prog w = .ok (decide (xs = ys)) w := by
  obtain ⟨f, hf, h1, h2, h3⟩ := til_fields
  rw [run_equalIn_agg w (d + 2) _ _ _ (by kernel_rfl) (by kernel_rfl), hf]
  simp only [Op.eqFields]
  rw [if_pos h1, h2, h3]
  simp only [Sem.run_bind, part_til xs hx, part_til ys hy, Result.andThen_ok, equal_arr d xs ys hx hy]
  cases decide (xs = ys) <;> simp
section
variable {ops : Array Oper} {rest : List Oper} {o : Oper} {a : Act} {w : World} {Q : Exit → Act → World → Prop}
theorem exec_tilEql (ρ : Operand → Value) (o : Oper) (x y : Operand) (ty : TypeId) (xs ys : List Int) (hx : xs.length = 64) (hy : ys.length = 64) (ho : o.op = .binOp .eql 57 x y ty) (h1 : ρ x = tilV xs) (h2 : ρ y = tilV ys) (w : World) : (execOp ρ o).run Try.prog w = .ok (.value (.bool (decide (xs = ys)))) w := by
  have hg := run_eqGuard_agg (P := Try.prog) w .eql 57 x y (iv xs).toArray (iv ys).toArray (by kernel_rfl)
  have he := run_eql_struct (P := Try.prog) w 57 (iv xs).toArray (iv ys).toArray
  have hv := equal_til 9997 xs ys hx hy w
  unfold execOp
  simp only [ho, h1, h2, Sem.run_bind, hg, he, hv, Result.andThen_ok, Sem.run_pure]
theorem exec_tilNeq (ρ : Operand → Value) (o : Oper) (x y : Operand) (ty : TypeId) (xs ys : List Int) (hx : xs.length = 64) (hy : ys.length = 64) (ho : o.op = .binOp .neq 57 x y ty) (h1 : ρ x = tilV xs) (h2 : ρ y = tilV ys) (w : World) : (execOp ρ o).run Try.prog w = .ok (.value (.bool (!decide (xs = ys)))) w := by
  have hg := run_eqGuard_agg (P := Try.prog) w .neq 57 x y (iv xs).toArray (iv ys).toArray (by kernel_rfl)
  have he := run_neq_struct (P := Try.prog) w 57 (iv xs).toArray (iv ys).toArray
  have hv := equal_til 9997 xs ys hx hy w
  unfold execOp
  simp only [ho, h1, h2, Sem.run_bind, hg, he, hv, Result.andThen_ok, Sem.run_pure]
theorem st_eql (hw : Region.wanted o (yielded ops a.tmps) = true) (x y : Operand) (ty : TypeId) (ho : o.op = .binOp .eql 57 x y ty) (xs ys : List Int) (h1 : a.eval x = tilV xs) (h2 : a.eval y = tilV ys) (hx : xs.length = 64) (hy : ys.length = 64) (r : Bool) (hr : decide (xs = ys) = r)
    (h : wpList Try.prog ops Q rest (a.put o.dst (.bool r)) w) : wpList Try.prog ops Q (o :: rest) a w :=
  wpList_step fun K hK => by
    rw [if_pos hw]
    unfold Oper.wp
    rw [exec_tilEql a.eval o x y ty xs ys hx hy ho h1 h2 w, hr]
    exact hK _ _ h
theorem st_neq (hw : Region.wanted o (yielded ops a.tmps) = true) (x y : Operand) (ty : TypeId) (ho : o.op = .binOp .neq 57 x y ty) (xs ys : List Int) (h1 : a.eval x = tilV xs) (h2 : a.eval y = tilV ys) (hx : xs.length = 64) (hy : ys.length = 64) (r : Bool) (hr : (!decide (xs = ys)) = r)
    (h : wpList Try.prog ops Q rest (a.put o.dst (.bool r)) w) : wpList Try.prog ops Q (o :: rest) a w :=
  wpList_step fun K hK => by
    rw [if_pos hw]
    unfold Oper.wp
    rw [exec_tilNeq a.eval o x y ty xs ys hx hy ho h1 h2 w, hr]
    exact hK _ _ h
end
end Go.Proofs.Ytacebhncecninaa
end

section
/- Typed regions with whole tiles: loads, comparisons, calls whose result is known. -/
namespace Go.Proofs.Ytacebhncecninaa
open Go.ChangeShapes Go.WideShapes Go.ChangeAt Go.RowKit
set_option linter.unusedVariables false

section
variable {ops : Array Oper} {Q : Exit → Act → World → Prop} {T : Nat → Value → World → Prop} {a0 : Act} {w0 : World} {i : Nat} {o : Oper}
/-- A whole tile is loaded. -/
theorem lb_tile (x : Operand) (b : Nat) {t : TypeId} (px : List Int) (hop : o.op = .load 57 x) (hl : px.length = 64) (hb : Box w0 b t (iv px)) (hw : ∀ (ρ : Operand → Value) w, PreR ops T ρ w o.after.toList → wantV ops (slotR ρ) o = true)
    (h : ∀ (ρ : Operand → Value) w, (∀ n, (ops.toList.all fun o => o.dst != some n) = true → ρ (.tmp n) = a0.eval (.tmp n)) → PreR ops T ρ w o.after.toList → ρ x = .pointer (some ⟨b, 0, none⟩) ∧ T i (dstV o (tilV px)) w) : Ob Try.prog ops Q (ClB w0) RlB T a0 i o :=
  lb_val (tilV px) hw fun ρ w hbl _ hx hp => by
    obtain ⟨h1, h2⟩ := h ρ w hx hp
    refine ⟨?_, h2⟩
    unfold execOp
    rw [hop]
    simp only [h1, Sem.run_bind, exec_tilLoad hl (hb.below hbl), Result.andThen_ok]
    rfl
/-- Two tiles compared. -/
theorem lb_eqlT (x y : Operand) (ty : TypeId) (px py : List Int) (r : Bool) (hop : o.op = .binOp .eql 57 x y ty) (h1 : px.length = 64) (h2 : py.length = 64) (hr : decide (px = py) = r) (hw : ∀ (ρ : Operand → Value) w, PreR ops T ρ w o.after.toList → wantV ops (slotR ρ) o = true)
    (h : ∀ (ρ : Operand → Value) w, (∀ n, (ops.toList.all fun o => o.dst != some n) = true → ρ (.tmp n) = a0.eval (.tmp n)) → PreR ops T ρ w o.after.toList → ρ x = tilV px ∧ ρ y = tilV py ∧ T i (dstV o (.bool r)) w) : Ob Try.prog ops Q (ClB w0) RlB T a0 i o :=
  lb_val (.bool r) hw fun ρ w _ _ hx hp => by
    obtain ⟨e1, e2, e3⟩ := h ρ w hx hp
    exact ⟨by rw [exec_tilEql ρ o x y ty px py h1 h2 hop e1 e2 w, hr], e3⟩
theorem lb_neqT (x y : Operand) (ty : TypeId) (px py : List Int) (r : Bool) (hop : o.op = .binOp .neq 57 x y ty) (h1 : px.length = 64) (h2 : py.length = 64) (hr : (!decide (px = py)) = r) (hw : ∀ (ρ : Operand → Value) w, PreR ops T ρ w o.after.toList → wantV ops (slotR ρ) o = true)
    (h : ∀ (ρ : Operand → Value) w, (∀ n, (ops.toList.all fun o => o.dst != some n) = true → ρ (.tmp n) = a0.eval (.tmp n)) → PreR ops T ρ w o.after.toList → ρ x = tilV px ∧ ρ y = tilV py ∧ T i (dstV o (.bool r)) w) : Ob Try.prog ops Q (ClB w0) RlB T a0 i o :=
  lb_val (.bool r) hw fun ρ w _ _ hx hp => by
    obtain ⟨e1, e2, e3⟩ := h ρ w hx hp
    exact ⟨by rw [exec_tilNeq ρ o x y ty px py h1 h2 hop e1 e2 w, hr], e3⟩
/-- Two numbers compared. -/
theorem lb_eqlI (x y : Operand) (ty : TypeId) (u v : Int) (r : Bool) (hop : o.op = .binOp .eql 3 x y ty) (hr : (u == v) = r) (hw : ∀ (ρ : Operand → Value) w, PreR ops T ρ w o.after.toList → wantV ops (slotR ρ) o = true)
    (h : ∀ (ρ : Operand → Value) w, (∀ v, ρ (.const v) = v) → (∀ n, (ops.toList.all fun o => o.dst != some n) = true → ρ (.tmp n) = a0.eval (.tmp n)) → PreR ops T ρ w o.after.toList → ρ x = .int .i64 u ∧ ρ y = .int .i64 v ∧ T i (dstV o (.bool r)) w) : Ob Try.prog ops Q (ClB w0) RlB T a0 i o :=
  lb_val (.bool r) hw fun ρ w _ hc hx hp => by
    obtain ⟨e1, e2, e3⟩ := h ρ w hc hx hp
    refine ⟨?_, e3⟩
    unfold execOp
    rw [hop]
    simp only [e1, e2]
    clear e1 e2 hx hp hc hw
    go_simp
theorem lb_neqI (x y : Operand) (ty : TypeId) (u v : Int) (r : Bool) (hop : o.op = .binOp .neq 3 x y ty) (hr : (u != v) = r) (hw : ∀ (ρ : Operand → Value) w, PreR ops T ρ w o.after.toList → wantV ops (slotR ρ) o = true)
    (h : ∀ (ρ : Operand → Value) w, (∀ v, ρ (.const v) = v) → (∀ n, (ops.toList.all fun o => o.dst != some n) = true → ρ (.tmp n) = a0.eval (.tmp n)) → PreR ops T ρ w o.after.toList → ρ x = .int .i64 u ∧ ρ y = .int .i64 v ∧ T i (dstV o (.bool r)) w) : Ob Try.prog ops Q (ClB w0) RlB T a0 i o :=
  lb_val (.bool r) hw fun ρ w _ hc hx hp => by
    obtain ⟨e1, e2, e3⟩ := h ρ w hc hx hp
    refine ⟨?_, e3⟩
    unfold execOp
    rw [hop]
    simp only [e1, e2]
    clear e1 e2 hx hp hc hw
    go_simp
end
end Go.Proofs.Ytacebhncecninaa
end

section
/- A tile put together from its two planes: the program's function. -/
namespace Go.Proofs.Ytacebhncecninaa
open Go.ChangeShapes Go.WideShapes Go.ChangeAt Go.RowKit
set_option linter.unusedVariables false

section
variable {ops : Array Oper} {Q : Exit → Act → World → Prop} {T : Nat → Value → World → Prop} {a0 : Act} {w0 : World} {i : Nat} {o : Oper} {ty : TypeId} {n : Nat}
/-- An array is loaded, out of a place of a block. -/
theorem lb_part (A : ArrTy ty n) (x : Operand) (b off : Nat) {t : TypeId} (cs ds : List Value) (hop : o.op = .load ty x) (hl : ds.length = n) (hb : Box w0 b t cs) (hs : ∀ j v, ds[j]? = some v → cs[off + j]? = some v)
    (hw : ∀ (ρ : Operand → Value) w, PreR ops T ρ w o.after.toList → wantV ops (slotR ρ) o = true)
    (h : ∀ (ρ : Operand → Value) w, (∀ n, (ops.toList.all fun o => o.dst != some n) = true → ρ (.tmp n) = a0.eval (.tmp n)) → PreR ops T ρ w o.after.toList → ρ x = .pointer (some ⟨b, off, none⟩) ∧ T i (dstV o (.agg ds.toArray)) w) : Ob Try.prog ops Q (ClB w0) RlB T a0 i o :=
  lb_val (.agg ds.toArray) hw fun ρ w hbl _ hx hp => by
    obtain ⟨h1, h2⟩ := h ρ w hx hp
    refine ⟨?_, h2⟩
    obtain ⟨d, hu, hd⟩ := A.agg
    unfold execOp
    rw [hop]
    simp only [h1, Instr.loadAt, Instr.sureAddr, Sem.run_bind, Sem.run_pure, Result.andThen_ok, run_loadVar_part w b off t ty cs ds d (hb.below hbl) hu hd (by rw [hl]; exact A.info) hs]
/-- The address of one of the planes. -/
theorem lb_side (x : Operand) (k : IntKind) (b p : Nat) (hp : p < 2) (hop : o.op = .indexAddr 141 x (.const (.int .i64 (p : Int)))) (hw : ∀ (ρ : Operand → Value) w, PreR ops T ρ w o.after.toList → wantV ops (slotR ρ) o = true)
    (h : ∀ (ρ : Operand → Value) w, (∀ n, (ops.toList.all fun o => o.dst != some n) = true → ρ (.tmp n) = a0.eval (.tmp n)) → PreR ops T ρ w o.after.toList → ρ x = .pointer (some ⟨b, 0, none⟩) ∧ T i (dstV o (.pointer (some ⟨b, 8 * p, none⟩))) w) : Ob Try.prog ops Q (ClB w0) RlB T a0 i o :=
  lb_val (.pointer (some ⟨b, 8 * p, none⟩)) hw fun ρ w _ hc hx hpr => by
    obtain ⟨h1, h2⟩ := h ρ w hx hpr
    refine ⟨?_, h2⟩
    have h3 := hc (.int .i64 (p : Int))
    unfold execOp
    rw [hop]
    simp only [h1, h3]
    clear h1 h3 hx hpr hc hw h
    have p2 : p = 0 ∨ p = 1 := by omega
    rcases p2 with rfl | rfl <;> go_simp
end
theorem half0 (xs : List Int) (j : Nat) (v : Value) (h : (uv (xs.take 8))[j]? = some v) : (uv xs)[0 + j]? = some v := by
  unfold uv at h ⊢
  rw [List.map_take] at h
  rw [Nat.zero_add]
  rw [List.getElem?_take] at h
  split at h
  · exact h
  · cases h
theorem half1 (xs : List Int) (j : Nat) (v : Value) (h : (uv (xs.drop 8))[j]? = some v) : (uv xs)[8 + j]? = some v := by
  unfold uv at h ⊢
  rw [List.map_drop, List.getElem?_drop] at h
  exact h
theorem pix_all : ∀ a b : Fin 2, wrap64 (bits .or .u8 ((b.val : Int) * 2) (a.val : Int)) = (a.val : Int) + 2 * (b.val : Int) := by decide +kernel
theorem pix_bits (a b : Int) (a0 : 0 ≤ a) (a1 : a ≤ 1) (b0 : 0 ≤ b) (b1 : b ≤ 1) : wrap64 (bits .or .u8 (b * 2) a) = a + 2 * b := by
  obtain ⟨m, rfl⟩ := Int.eq_ofNat_of_zero_le a0
  obtain ⟨z, rfl⟩ := Int.eq_ofNat_of_zero_le b0
  exact pix_all ⟨m, by omega⟩ ⟨z, by omega⟩
set_option maxHeartbeats 8000000 in
set_option maxRecDepth 100000 in
theorem pl_tile (xs : List Int) (hx : BytN 16 xs) (w : World) :
    Calls Try.prog 126 #[octV xs] w fun e w' => e = .returned (tilV (tileP xs)) ∧ Below w.heap.size w w' := by
  have HX := Lib.hid hx
  have hl := hx.1
  have H0 := Lib.hid (half_ok hx).1
  have H1 := Lib.hid (half_ok hx).2
  clear hx
  go_enter Try.func126, Try.ntmps126
  go_wp2_with (first | (refine st_alloc (by rfl) rfl ?_))
  obtain ⟨w1, hw1⟩ : ∃ w1, w1 = ((w.alloc (.cells (uv xs).toArray 141)).alloc (.cells (iv z64).toArray 57)).alloc (.cells (iv z64).toArray 57) := ⟨_, rfl⟩
  have X1 : Hid (Box w1 w.heap.size 141 (uv xs)) := by rw [hw1]; exact ((Box.new w _ _).alloc _).alloc _
  have R1 : Hid (Box w1 (w.heap.size + 1) 57 (iv z64)) := by rw [hw1]; exact (Box.new_at _ _ _ _ (by simp)).alloc _
  have Y1 : Hid (Box w1 (w.heap.size + 1 + 1) 57 (iv z64)) := by rw [hw1]; exact Box.new_at _ _ _ _ (by simp)
  have B1 : Hid (Below w.heap.size w w1) := by rw [hw1]; exact below3 w _ _ _
  rw [← hw1]
  clear hw1
  have HL : Hid (w.heap.size ≤ w.heap.size + 1 + 1) := Lib.hid (by omega)
  go_loopw [9] (fun i wr => ∃ k : Nat, k ≤ 64 ∧ i = .int .i64 k ∧ Box wr w.heap.size 141 (uv xs) ∧ Box wr (w.heap.size + 1) 57 (iv z64) ∧ Box wr (w.heap.size + 1 + 1) 57 (iv (mkT id (readP xs) k)) ∧ Below w.heap.size w wr) (fun i _ => 64 - (intOf i).toNat)
  case atStart => exact ⟨0, by omega, rfl, X1.out, R1.out, by rw [mkT_zero]; exact Y1.out, B1.out⟩
  case round =>
    obtain ⟨k, hk, rfl, hx, hr, hy, hb⟩ := hrel
    have XR := Lib.hid hx
    have RR := Lib.hid hr
    have YR := Lib.hid hy
    have BR := Lib.hid hb
    clear hx hr hy hb X1 R1 Y1 B1
    by_cases h64 : k < 64
    · have i64' : (k : Int) < 64 := by omega
      have k0 : 0 ≤ (k : Int) := by omega
      obtain ⟨r, c, hr, hc, r8, c8, hrc⟩ : ∃ r c : Nat, (k : Int) / 8 = r ∧ (k : Int) % 8 = c ∧ r < 8 ∧ c < 8 ∧ (k / 8 = r ∧ k % 8 = c) := ⟨k / 8, k % 8, by omega, by omega, by omega, by omega, rfl, rfl⟩
      have HP : Hid (readP xs k = dig ((xs.take 8).getD r 0) c + 2 * dig ((xs.drop 8).getD r 0) c) := by
        rw [readP_dig, hrc.1, hrc.2, tak8_get _ _ r8, dro8_get]; exact Lib.hid rfl
      clear hrc
      obtain ⟨d0, hd0⟩ : ∃ d, dig ((xs.take 8).getD r 0) c = d := ⟨_, rfl⟩
      obtain ⟨d1, hd1⟩ : ∃ d, dig ((xs.drop 8).getD r 0) c = d := ⟨_, rfl⟩
      obtain ⟨a0, a1⟩ := dig_bd ((xs.take 8).getD r 0) c
      obtain ⟨b0, b1⟩ := dig_bd ((xs.drop 8).getD r 0) c
      have C0 : Hid (∀ wq : World, Calls Try.prog 129 #[octV (xs.take 8), .int .i64 (r : Int), .int .i64 (c : Int)] wq fun e w' => e = .returned (.int .u8 d0) ∧ Below wq.heap.size wq w') := by
        rw [← hd0]; exact Lib.hid fun wq => pl_digit _ H0.out r c r8 c8 wq
      have C1 : Hid (∀ wq : World, Calls Try.prog 129 #[octV (xs.drop 8), .int .i64 (r : Int), .int .i64 (c : Int)] wq fun e w' => e = .returned (.int .u8 d1) ∧ Below wq.heap.size wq w') := by
        rw [← hd1]; exact Lib.hid fun wq => pl_digit _ H1.out r c r8 c8 wq
      rw [hd0] at a0 a1 HP
      rw [hd1] at b0 b1 HP
      rw [← pix_bits d0 d1 a0 a1 b0 b1] at HP
      clear hd0 hd1
      have l0 : (uv (xs.take 8)).length = 8 := by simp [hl]
      have l1 : (uv (xs.drop 8)).length = 8 := by simp [hl]
      go_upto_region 6 with (fail)
      rw [hc]
      refine wp_region_typed (ClB wr) RlB (Ty [TV (.pointer (some ⟨w.heap.size, 8 * 0, none⟩)), TV (octV (xs.take 8)), TV (.int .i64 (r : Int)), TV (.int .i64 (c : Int)), TV (.int .u8 d0), TV (.pointer (some ⟨w.heap.size, 8 * 1, none⟩)), TV (octV (xs.drop 8)), TV (.int .i64 (r : Int)), TV (.int .i64 (c : Int)), TV (.int .u8 d1), TV (.int .u8 d0), TV (.int .u8 d1)])
        (by kernel_rfl) (by kernel_rfl) (stab_ty _ ⟨stabB_k _, stabB_k _, stabB_k _, stabB_k _, stabB_k _, stabB_k _, stabB_k _, stabB_k _, stabB_k _, stabB_k _, stabB_k _, stabB_k _, trivial⟩) (Below.refl _ _).drew ?_ ?_
      · refine ⟨?_, ?_, ?_, ?_, ?_, ?_, ?_, ?_, ?_, ?_, ?_, ?_, trivial⟩
        · exact lb_side (.tmp 1) .i64 w.heap.size 0 (by omega) rfl (fun _ _ _ => want_none rfl) fun ρ wx hx hp => ⟨hx 1 rfl, rfl⟩
        · exact lb_part ty_plane (.tmp 16) w.heap.size (8 * 0) (uv xs) (uv (xs.take 8)) rfl l0 XR.out (half0 xs) (fun _ _ _ => want_none rfl) fun ρ wx hx hp => ⟨hp.1 rfl, rfl⟩
        · exact lb_move (.tmp 5) (.inl rfl) (fun _ _ _ => want_none rfl) fun ρ wx hc hx hp => hx 5 rfl
        · exact lb_move (.tmp 6) (.inl rfl) (fun _ _ _ => want_none rfl) fun ρ wx hc hx hp => hx 6 rfl
        · refine lb_known _ _ _ (.int .u8 d0) (fun _ _ => by simp [go_sem]) rfl (fun _ _ _ => want_none rfl) #[octV (xs.take 8), .int .i64 (r : Int), .int .i64 (c : Int)] (fun w hb => C0.out w) (fun ρ wx hc hx hp => ?_) (fun _ => rfl)
          have h0 : ρ (.tmp 17) = octV (xs.take 8) := hp.1 rfl
          have h1 : ρ (.tmp 18) = .int .i64 (r : Int) := hp.2.1 rfl
          have h2 : ρ (.tmp 19) = .int .i64 (c : Int) := hp.2.2.1 rfl
          simp only [List.map_toArray, List.map_cons, List.map_nil, h0, h1, h2]
        · exact lb_side (.tmp 1) .i64 w.heap.size 1 (by omega) rfl (fun _ _ _ => want_none rfl) fun ρ wx hx hp => ⟨hx 1 rfl, rfl⟩
        · exact lb_part ty_plane (.tmp 21) w.heap.size (8 * 1) (uv xs) (uv (xs.drop 8)) rfl l1 XR.out (half1 xs) (fun _ _ _ => want_none rfl) fun ρ wx hx hp => ⟨hp.1 rfl, rfl⟩
        · exact lb_move (.tmp 5) (.inl rfl) (fun _ _ _ => want_none rfl) fun ρ wx hc hx hp => hx 5 rfl
        · exact lb_move (.tmp 6) (.inl rfl) (fun _ _ _ => want_none rfl) fun ρ wx hc hx hp => hx 6 rfl
        · refine lb_known _ _ _ (.int .u8 d1) (fun _ _ => by simp [go_sem]) rfl (fun _ _ _ => want_none rfl) #[octV (xs.drop 8), .int .i64 (r : Int), .int .i64 (c : Int)] (fun w hb => C1.out w) (fun ρ wx hc hx hp => ?_) (fun _ => rfl)
          have h0 : ρ (.tmp 22) = octV (xs.drop 8) := hp.1 rfl
          have h1 : ρ (.tmp 23) = .int .i64 (r : Int) := hp.2.1 rfl
          have h2 : ρ (.tmp 24) = .int .i64 (c : Int) := hp.2.2.1 rfl
          simp only [List.map_toArray, List.map_cons, List.map_nil, h0, h1, h2]
        · exact lb_move (.tmp 20) (.inr rfl) (fun _ _ _ => want_none rfl) fun ρ wx hc hx hp => hp.1 rfl
        · exact lb_move (.tmp 25) (.inr rfl) (fun _ _ _ => want_none rfl) fun ρ wx hc hx hp => hp.1 rfl
      intro vs wx hI hF
      obtain ⟨_, _, _, _, _, _, _, _, _, _, h10, h11, _⟩ := hF
      replace h10 : vs 10 = .int .u8 d0 := h10
      replace h11 : vs 11 = .int .u8 d1 := h11
      have HI : Hid (Below wr.heap.size wr wx) := hI
      simp only [putAll, Act.put, List.setIfInBounds_toArray, List.set_cons_zero, List.set_cons_succ, h10, h11]
      clear hI h10 h11 C0 C1
      have X2 := Lib.hid (XR.out.below HI.out)
      have R2 := Lib.hid (RR.out.below HI.out)
      have Y2 := Lib.hid (YR.out.below HI.out)
      have B2 := Lib.hid (below_then BR.out HI.out)
      clear HI XR RR YR BR
      have y0 := til_cell Y2.out k (by rw [mkT_len]; exact h64)
      rw [mkT_get _ _ _ _ h64, id, if_neg (by omega)] at y0
      have g0 := Y2.out.frozen k
      go_wp2_with fail
      go_roundw
      case rel => exact ⟨k + 1, by omega, by go_num, X2.out.far (by omega) _, R2.out.far (by omega) _, by rw [← mkT_set id (readP xs) k k h64 (fun i _ => Iff.rfl), ← iv_set, HP.out]; exact Y2.out.set k _, B2.out.setCell HL.out _⟩
      case measure => simp [intOf]; omega
    · obtain rfl : k = 64 := by omega
      have hq : (mkT id (readP xs) 64).length = 64 := mkT_len _ _ _
      go_wp2_with (first | (refine st_load (by rfl) _ rfl _ rfl (mkT id (readP xs) 64) hq YR.out ?_) | (refine st_store (by rfl) _ _ rfl _ rfl (mkT id (readP xs) 64) rfl hq (iv z64) RR.out (by simp [z64_len]) ?_))
      have RF : Hid (Box (wr.setRow (w.heap.size + 1) (iv (mkT id (readP xs) 64)).toArray) (w.heap.size + 1) 57 (iv (mkT id (readP xs) 64))) := Box.row RR.out
      exact bodyPost_ret (v := tilV (mkT id (readP xs) 64)) (til_ret rfl rfl RF.out hq) rfl ⟨rfl, below_row BR.out (by omega) _⟩
end Go.Proofs.Ytacebhncecninaa
end

section
/- Both planes moved in the same way: the program's function, for any function on a plane. -/
namespace Go.Proofs.Ytacebhncecninaa
open Go.ChangeShapes Go.WideShapes Go.ChangeAt Go.RowKit
set_option linter.unusedVariables false

section
variable {ops : Array Oper} {Q : Exit → Act → World → Prop} {T : Nat → Value → World → Prop} {a0 : Act} {w0 : World} {i : Nat} {o : Oper}
/-- A call of a function that is a value. -/
theorem lb_fn (f : FuncId) (x : Operand) (xs : Array Operand) (ty : Array TypeId) (v : Value) (hcf : ∀ (args : Array Value) (w : World), (callFunc f args).run Try.prog w = .ok (.enter f args) w) (hop : o.op = .call { callee := .value x, args := xs, argTypes := ty }) (hw : ∀ (ρ : Operand → Value) w, PreR ops T ρ w o.after.toList → wantV ops (slotR ρ) o = true)
    (args : Array Value) (hC : ∀ w, Below w0.heap.size w0 w → Calls Try.prog f args w fun e w' => e = .returned v ∧ Below w.heap.size w w')
    (h : ∀ (ρ : Operand → Value) w, (∀ v, ρ (.const v) = v) → (∀ n, (ops.toList.all fun o => o.dst != some n) = true → ρ (.tmp n) = a0.eval (.tmp n)) → PreR ops T ρ w o.after.toList → ρ x = .func (.func f) #[] #[] ∧ xs.map ρ = args) (hT : ∀ w, T i (dstV o v) w) : Ob Try.prog ops Q (ClB w0) RlB T a0 i o :=
  lb_gen hw fun ρ w hbl hc hf hx hp => by
    obtain ⟨h3, ha⟩ := h ρ w hc hx hp
    have e : (execOp ρ o).run Try.prog w = .ok (.enter f args) w := by
      unfold execOp; rw [hop]
      simp [go_sem, h3, ha, hcf]
    rw [e, UponT_enter]
    refine (hC w hbl).mono ?_
    rintro e w' ⟨rfl, h1⟩
    exact ⟨v, rfl, h1, hT _⟩
end
theorem exec_store {ty : TypeId} {n : Nat} (A : ArrTy ty n) (ρ : Operand → Value) (o : Oper) (x y : Operand) (w : World) (b : Nat) (t : TypeId) (cs ds : List Value) (ho : o.op = .store ty x y) (hx : ρ x = .pointer (some ⟨b, 0, none⟩)) (hy : ρ y = .agg ds.toArray)
    (hb : Box w b t cs) (hc : cs.length = n) (hl : ds.length = n) (h1 : ds.toArray.all (·.oneCell') = true) : (execOp ρ o).run Try.prog w = .ok .skip (w.setRow b ds.toArray) := by
  unfold execOp
  simp only [ho, hx, hy, Instr.storeAt, Instr.sureAddr, Sem.run_bind, Sem.run_pure, Result.andThen_ok, run_storeVar_row w b t ty cs.toArray ds.toArray hb (by rw [List.size_toArray, hl]; exact A.info) (by simp [hc, hl]) h1]
theorem list8 {xs : List Int} (h : xs.length = 8) : ∃ a b c d e f g i, xs = [a, b, c, d, e, f, g, i] := by
  match xs, h with
  | [a, b, c, d, e, f, g, i], _ => exact ⟨a, b, c, d, e, f, g, i, rfl⟩
theorem built_planes (a b : List Int) (ha : a.length = 8) (hb : b.length = 8) : Try.prog.built 141 [(0, octV a), (1, octV b)] = some (uv (a ++ b)).toArray := by
  obtain ⟨a0, a1, a2, a3, a4, a5, a6, a7, rfl⟩ := list8 ha
  obtain ⟨b0, b1, b2, b3, b4, b5, b6, b7, rfl⟩ := list8 hb
  kernel_rfl
/-- What is asked of a function on a plane. -/
structure PlOk (f : FuncId) (F : List Int → List Int) : Prop where
  enter : ∀ (args : Array Value) (w : World), (callFunc f args).run Try.prog w = .ok (.enter f args) w
  len : ∀ ys, (F ys).length = 8
  call : ∀ ys w, BytN 8 ys → Calls Try.prog f #[octV ys] w fun e w' => e = .returned (octV (F ys)) ∧ Below w.heap.size w w'
set_option maxHeartbeats 8000000 in
set_option maxRecDepth 100000 in
theorem pl_each (f : FuncId) (F : List Int → List Int) (O : PlOk f F) (xs : List Int) (hx : BytN 16 xs) (w : World) :
    Calls Try.prog 123 #[octV xs, .func (.func f) #[] #[]] w fun e w' => e = .returned (octV (eachP F xs)) ∧ Below w.heap.size w w' := by
  have hl := hx.1
  have C0 := Lib.hid (fun wq : World => O.call (xs.take 8) wq (half_ok hx).1)
  have C1 := Lib.hid (fun wq : World => O.call (xs.drop 8) wq (half_ok hx).2)
  have hen := Lib.hid O.enter
  have n0 := O.len (xs.take 8)
  have n1 := O.len (xs.drop 8)
  clear hx O
  have HE := Lib.hid (show F (xs.take 8) ++ F (xs.drop 8) = eachP F xs from rfl)
  have l0 : (uv (xs.take 8)).length = 8 := by simp [hl]
  have l1 : (uv (xs.drop 8)).length = 8 := by simp [hl]
  obtain ⟨A, hA⟩ : ∃ A, F (xs.take 8) = A := ⟨_, rfl⟩
  obtain ⟨B, hB⟩ : ∃ B, F (xs.drop 8) = B := ⟨_, rfl⟩
  rw [hA] at n0 HE C0
  rw [hB] at n1 HE C1
  clear hA hB
  go_enter Try.func123, Try.ntmps123
  go_upto_region 1 with (fail)
  rw [zr16_lit]
  obtain ⟨w1, hw1⟩ : ∃ w1, w1 = (w.alloc (.cells (uv xs).toArray 141)).alloc (.cells (uv zr16).toArray 141) := ⟨_, rfl⟩
  have X1 : Hid (Box w1 w.heap.size 141 (uv xs)) := by rw [hw1]; exact (Box.new w _ _).alloc _
  have R1 : Hid (Box w1 (w.heap.size + 1) 141 (uv zr16)) := by rw [hw1]; exact Box.new_at _ _ _ _ (by simp)
  have B1 : Hid (Below w.heap.size w w1) := by rw [hw1]; exact below2 w _ _
  rw [← hw1]
  clear hw1
  refine wp_region_end (by dsimp only [List.dropLast]) rfl (ClB w1) RlB (Ty [TV (.func (.func f) #[] #[]), TV (.pointer (some ⟨w.heap.size, 8 * 0, none⟩)), TV (octV (xs.take 8)), TV (octV A), TV (.func (.func f) #[] #[]), TV (.pointer (some ⟨w.heap.size, 8 * 1, none⟩)), TV (octV (xs.drop 8)), TV (octV B), TV (octV (A ++ B))])
    (by kernel_rfl) (by kernel_rfl) (by kernel_rfl) (stab_ty _ ⟨stabB_k _, stabB_k _, stabB_k _, stabB_k _, stabB_k _, stabB_k _, stabB_k _, stabB_k _, stabB_k _, trivial⟩) (Below.refl _ _).drew ?_ ?_
  · refine ⟨?_, ?_, ?_, ?_, ?_, ?_, ?_, ?_, ?_, trivial⟩
    · exact lb_move (.tmp 1) (.inl rfl) (fun _ _ _ => want_none rfl) fun ρ wx hc hx hp => hx 1 rfl
    · exact lb_side (.tmp 2) .i64 w.heap.size 0 (by omega) rfl (fun _ _ _ => want_none rfl) fun ρ wx hx hp => ⟨hx 2 rfl, rfl⟩
    · exact lb_part ty_plane (.tmp 6) w.heap.size (8 * 0) (uv xs) (uv (xs.take 8)) rfl l0 X1.out (half0 xs) (fun _ _ _ => want_none rfl) fun ρ wx hx hp => ⟨hp.1 rfl, rfl⟩
    · refine lb_fn f (.tmp 5) _ _ (octV A) hen.out rfl (fun _ _ _ => want_none rfl) #[octV (xs.take 8)] (fun w hb => C0.out w) (fun ρ wx hc hx hp => ⟨hp.1 rfl, ?_⟩) (fun _ => rfl)
      have h0 : ρ (.tmp 7) = octV (xs.take 8) := hp.2.1 rfl
      simp only [List.map_toArray, List.map_cons, List.map_nil, h0]
    · exact lb_move (.tmp 1) (.inl rfl) (fun _ _ _ => want_none rfl) fun ρ wx hc hx hp => hx 1 rfl
    · exact lb_side (.tmp 2) .i64 w.heap.size 1 (by omega) rfl (fun _ _ _ => want_none rfl) fun ρ wx hx hp => ⟨hx 2 rfl, rfl⟩
    · exact lb_part ty_plane (.tmp 10) w.heap.size (8 * 1) (uv xs) (uv (xs.drop 8)) rfl l1 X1.out (half1 xs) (fun _ _ _ => want_none rfl) fun ρ wx hx hp => ⟨hp.1 rfl, rfl⟩
    · refine lb_fn f (.tmp 9) _ _ (octV B) hen.out rfl (fun _ _ _ => want_none rfl) #[octV (xs.drop 8)] (fun w hb => C1.out w) (fun ρ wx hc hx hp => ⟨hp.1 rfl, ?_⟩) (fun _ => rfl)
      have h0 : ρ (.tmp 11) = octV (xs.drop 8) := hp.2.1 rfl
      simp only [List.map_toArray, List.map_cons, List.map_nil, h0]
    · refine lb_val (octV (A ++ B)) (fun _ _ _ => want_none rfl) fun ρ wx hb hc hx hp => ⟨?_, rfl⟩
      have h0 : ρ (.tmp 8) = octV A := hp.1 rfl
      have h1 : ρ (.tmp 12) = octV B := hp.2.1 rfl
      unfold execOp
      simp only [List.map_toArray, List.map_cons, List.map_nil, h0, h1, Sem.run_bind, run_build wx 141 #[(0, octV A), (1, octV B)] (uv (A ++ B)).toArray (built_planes A B n0 n1), Result.andThen_ok]
      rfl
  intro vs wx hI hF
  obtain ⟨_, _, _, _, _, _, _, _, h8, _⟩ := hF
  replace h8 : vs 8 = octV (A ++ B) := h8
  have HI : Hid (Below w1.heap.size w1 wx) := hI
  have R2 := Lib.hid (R1.out.below HI.out)
  have B2 := Lib.hid (below_then B1.out HI.out)
  clear hI X1 R1 B1 HI C0 C1
  simp only [putAll, Act.put, List.setIfInBounds_toArray, List.set_cons_zero, List.set_cons_succ, h8]
  clear h8
  have hz := zr16_len
  have nn : (uv (A ++ B)).length = 16 := by simp [n0, n1]
  have RF : Hid (Box (wx.setRow (w.heap.size + 1) (uv (A ++ B)).toArray) (w.heap.size + 1) 141 (uv (A ++ B))) := Box.row R2.out
  refine ⟨wx.setRow (w.heap.size + 1) (uv (A ++ B)).toArray, exec_store ty_planes _ _ (.tmp 4) (.tmp 13) wx (w.heap.size + 1) _ (uv zr16) (uv (A ++ B)) rfl rfl rfl R2.out (by simp [hz]) nn (uv_one _), ?_⟩
  go_wp2_with fail
  exact bodyPost_ret (v := octV (A ++ B)) (arr_ret ty_planes rfl rfl RF.out nn) rfl ⟨by rw [HE.out], below_row B2.out (by omega) _⟩
theorem ok_across : PlOk 124 acrossP := ⟨fun _ _ => by simp [go_sem], across_len, fun ys w h => pl_across ys h w⟩
theorem ok_down : PlOk 125 downP := ⟨fun _ _ => by simp [go_sem], down_len, fun ys w h => pl_down ys h.1 w⟩
end Go.Proofs.Ytacebhncecninaa
end

section
/- The program's TurnTile. -/
namespace Go.Proofs.Ytacebhncecninaa
open Go.ChangeShapes Go.WideShapes Go.ChangeAt Go.RowKit
set_option linter.unusedVariables false

end Go.Proofs.Ytacebhncecninaa
end

section
/- The program's FlipTile. -/
namespace Go.Proofs.Ytacebhncecninaa
open Go.ChangeShapes Go.WideShapes Go.ChangeAt Go.RowKit
set_option linter.unusedVariables false

set_option maxRecDepth 100000 in
set_option maxHeartbeats 8000000 in
theorem im_flip (px : List Int) (a d : Bool) (hp : px.length = 64) (w : World) : Calls Try.prog 119 #[tilV px, .bool a, .bool d] w fun e w' => e = .returned (tilV (flipT px a d)) ∧ Below w.heap.size w w' := by
  go_enter Try.func119, Try.ntmps119
  go_upto_region 1 with (first | (refine st_alloc (by rfl) rfl ?_))
  obtain ⟨w1, hw1⟩ : ∃ w1, w1 = (w.alloc (.cells (iv px).toArray 57)).alloc (.cells (iv z64).toArray 57) := ⟨_, rfl⟩
  have X1 : Hid (Box w1 w.heap.size 57 (iv px)) := by rw [hw1]; exact (Box.new w _ _).alloc _
  have R1 : Hid (Box w1 (w.heap.size + 1) 57 (iv z64)) := by rw [hw1]; exact Box.new_at _ _ _ _ (by simp)
  have B1 : Hid (Below w.heap.size w w1) := by rw [hw1]; exact below2 w _ _
  rw [← hw1]
  clear hw1
  have hL1 := Lib.hid R1.out.lt
  go_wp2_with (first | (refine st_load (by rfl) _ rfl _ rfl px hp X1.out ?_))
  refine (im_valid px hp _).mono ?_; rintro e w2 ⟨rfl, b2⟩
  have X2 := Lib.hid (X1.out.below b2)
  have R2 := Lib.hid (R1.out.below b2)
  have B2 := Lib.hid (below_then B1.out b2)
  clear b2 X1 R1 B1
  by_cases hv : tilB px = true
  · have HR := Lib.hid (flip_planes hp hv a d)
    rw [hv]
    go_wp2_with (first | (refine st_load (by rfl) _ rfl _ rfl px hp X2.out ?_))
    refine (pl_planes px hp hv _).mono ?_; rintro e w3 ⟨rfl, b3⟩
    have R3 := Lib.hid (R2.out.below b3)
    have B3 := Lib.hid (below_then B2.out b3)
    have hL3 := Lib.hid R3.out.lt
    clear b3 X2 R2 B2
    have s0 := bytT_len px
    go_upto_region 4 with (first | (refine sa_store ty_planes (by rfl) _ _ rfl _ rfl _ _ (uv (bytT px)) rfl (Box.new _ _ _) (by rfl) (by simp [s0]) (uv_one _) ?_))
    rw [World.setRow_alloc_new]
    have X4 : Hid (Box (w3.alloc (.cells (uv (bytT px)).toArray 141)) w3.heap.size 141 (uv (bytT px))) := Box.new w3 _ _
    have R4 := Lib.hid (R3.out.alloc (.cells (uv (bytT px)).toArray 141))
    have B4 := Lib.hid (B3.out.alloc B3.out.size (.cells (uv (bytT px)).toArray 141))
    have HB : Hid (w.heap.size + 1 ≠ w3.heap.size ∧ w.heap.size ≤ w3.heap.size) := by have := hL3.out; exact Lib.hid (by omega)
    generalize w3.alloc (.cells (uv (bytT px)).toArray 141) = w4 at X4 R4 B4 ⊢
    generalize w3.heap.size = bx at X4 HB ⊢
    clear R3 B3 hL3
    cases a
    · cases d
      · have q9 := ((bytT_ok px)).1
        go_wp2_with (first | (refine sa_load ty_planes (by rfl) _ rfl bx 0 rfl _ (uv (bytT px)) (uv (bytT px)) X4.out (by simp [q9]) (fun j v h => by simpa using h) ?_))
        refine (pl_tile _ (bytT_ok px) _).mono ?_; rintro e w9 ⟨rfl, b9⟩
        have R9 := Lib.hid (R4.out.below b9)
        have B9 := Lib.hid (below_then B4.out b9)
        clear b9 X4 R4 B4
        rw [show tileP (bytT px) = flipT px false false from HR.out]
        have hq := flip_len px false false
        go_wp2_with (first | (refine st_store (by rfl) _ _ rfl _ rfl (flipT px false false) rfl hq (iv z64) R9.out (by simp [z64_len]) ?_))
        have RF : Hid (Box (w9.setRow (w.heap.size + 1) (iv (flipT px false false)).toArray) (w.heap.size + 1) 57 (iv (flipT px false false))) := Box.row R9.out
        exact bodyPost_ret (v := tilV (flipT px false false)) (til_ret rfl rfl RF.out hq) rfl ⟨rfl, below_row B9.out (by omega) _⟩
      · have q7 := ((bytT_ok px)).1
        go_wp2_with (first | (refine sa_load ty_planes (by rfl) _ rfl bx 0 rfl _ (uv (bytT px)) (uv (bytT px)) X4.out (by simp [q7]) (fun j v h => by simpa using h) ?_))
        refine (pl_each _ _ ok_down _ (bytT_ok px) _).mono ?_; rintro e v7 ⟨rfl, c7⟩
        have Y7 := Lib.hid (X4.out.below c7)
        have R12 := Lib.hid (R4.out.below c7)
        have B12 := Lib.hid (below_then B4.out c7)
        clear c7 X4 R4 B4
        have p7 := ((each_ok downP (fun _ h => down_ok h) (bytT_ok px))).1
        go_upto_region 8 with (first | (refine sa_store ty_planes (by rfl) _ _ rfl bx rfl _ (uv (bytT px)) (uv (eachP downP (bytT px))) rfl Y7.out (by simp [q7]) (by simp [p7]) (uv_one _) ?_))
        have X12 : Hid (Box (v7.setRow bx (uv (eachP downP (bytT px))).toArray) bx 141 (uv (eachP downP (bytT px)))) := Box.row Y7.out
        have RR7 := Lib.hid (R12.out.rowFar (g := bx) (ds := (uv (eachP downP (bytT px))).toArray) HB.out.1)
        have BB7 := Lib.hid (below_row B12.out (g := bx) HB.out.2 (uv (eachP downP (bytT px))).toArray)
        clear Y7 R12 B12
        generalize v7.setRow bx (uv (eachP downP (bytT px))).toArray = u7 at X12 RR7 BB7 ⊢
        have R12 := RR7
        have B12 := BB7
        clear RR7 BB7
        have q9 := ((each_ok downP (fun _ h => down_ok h) (bytT_ok px))).1
        go_wp2_with (first | (refine sa_load ty_planes (by rfl) _ rfl bx 0 rfl _ (uv (eachP downP (bytT px))) (uv (eachP downP (bytT px))) X12.out (by simp [q9]) (fun j v h => by simpa using h) ?_))
        refine (pl_tile _ (each_ok downP (fun _ h => down_ok h) (bytT_ok px)) _).mono ?_; rintro e w9 ⟨rfl, b9⟩
        have R9 := Lib.hid (R12.out.below b9)
        have B9 := Lib.hid (below_then B12.out b9)
        clear b9 X12 R12 B12
        rw [show tileP (eachP downP (bytT px)) = flipT px false true from HR.out]
        have hq := flip_len px false true
        go_wp2_with (first | (refine st_store (by rfl) _ _ rfl _ rfl (flipT px false true) rfl hq (iv z64) R9.out (by simp [z64_len]) ?_))
        have RF : Hid (Box (w9.setRow (w.heap.size + 1) (iv (flipT px false true)).toArray) (w.heap.size + 1) 57 (iv (flipT px false true))) := Box.row R9.out
        exact bodyPost_ret (v := tilV (flipT px false true)) (til_ret rfl rfl RF.out hq) rfl ⟨rfl, below_row B9.out (by omega) _⟩
    · have q5 := ((bytT_ok px)).1
      go_wp2_with (first | (refine sa_load ty_planes (by rfl) _ rfl bx 0 rfl _ (uv (bytT px)) (uv (bytT px)) X4.out (by simp [q5]) (fun j v h => by simpa using h) ?_))
      refine (pl_each _ _ ok_across _ (bytT_ok px) _).mono ?_; rintro e v5 ⟨rfl, c5⟩
      have Y5 := Lib.hid (X4.out.below c5)
      have R10 := Lib.hid (R4.out.below c5)
      have B10 := Lib.hid (below_then B4.out c5)
      clear c5 X4 R4 B4
      have p5 := ((each_ok acrossP (fun _ h => across_ok _) (bytT_ok px))).1
      go_upto_region 6 with (first | (refine sa_store ty_planes (by rfl) _ _ rfl bx rfl _ (uv (bytT px)) (uv (eachP acrossP (bytT px))) rfl Y5.out (by simp [q5]) (by simp [p5]) (uv_one _) ?_))
      have X10 : Hid (Box (v5.setRow bx (uv (eachP acrossP (bytT px))).toArray) bx 141 (uv (eachP acrossP (bytT px)))) := Box.row Y5.out
      have RR5 := Lib.hid (R10.out.rowFar (g := bx) (ds := (uv (eachP acrossP (bytT px))).toArray) HB.out.1)
      have BB5 := Lib.hid (below_row B10.out (g := bx) HB.out.2 (uv (eachP acrossP (bytT px))).toArray)
      clear Y5 R10 B10
      generalize v5.setRow bx (uv (eachP acrossP (bytT px))).toArray = u5 at X10 RR5 BB5 ⊢
      have R10 := RR5
      have B10 := BB5
      clear RR5 BB5
      cases d
      · have q9 := ((each_ok acrossP (fun _ h => across_ok _) (bytT_ok px))).1
        go_wp2_with (first | (refine sa_load ty_planes (by rfl) _ rfl bx 0 rfl _ (uv (eachP acrossP (bytT px))) (uv (eachP acrossP (bytT px))) X10.out (by simp [q9]) (fun j v h => by simpa using h) ?_))
        refine (pl_tile _ (each_ok acrossP (fun _ h => across_ok _) (bytT_ok px)) _).mono ?_; rintro e w9 ⟨rfl, b9⟩
        have R9 := Lib.hid (R10.out.below b9)
        have B9 := Lib.hid (below_then B10.out b9)
        clear b9 X10 R10 B10
        rw [show tileP (eachP acrossP (bytT px)) = flipT px true false from HR.out]
        have hq := flip_len px true false
        go_wp2_with (first | (refine st_store (by rfl) _ _ rfl _ rfl (flipT px true false) rfl hq (iv z64) R9.out (by simp [z64_len]) ?_))
        have RF : Hid (Box (w9.setRow (w.heap.size + 1) (iv (flipT px true false)).toArray) (w.heap.size + 1) 57 (iv (flipT px true false))) := Box.row R9.out
        exact bodyPost_ret (v := tilV (flipT px true false)) (til_ret rfl rfl RF.out hq) rfl ⟨rfl, below_row B9.out (by omega) _⟩
      · have q7 := ((each_ok acrossP (fun _ h => across_ok _) (bytT_ok px))).1
        go_wp2_with (first | (refine sa_load ty_planes (by rfl) _ rfl bx 0 rfl _ (uv (eachP acrossP (bytT px))) (uv (eachP acrossP (bytT px))) X10.out (by simp [q7]) (fun j v h => by simpa using h) ?_))
        refine (pl_each _ _ ok_down _ (each_ok acrossP (fun _ h => across_ok _) (bytT_ok px)) _).mono ?_; rintro e v7 ⟨rfl, c7⟩
        have Y7 := Lib.hid (X10.out.below c7)
        have R12 := Lib.hid (R10.out.below c7)
        have B12 := Lib.hid (below_then B10.out c7)
        clear c7 X10 R10 B10
        have p7 := ((each_ok downP (fun _ h => down_ok h) (each_ok acrossP (fun _ h => across_ok _) (bytT_ok px)))).1
        go_upto_region 8 with (first | (refine sa_store ty_planes (by rfl) _ _ rfl bx rfl _ (uv (eachP acrossP (bytT px))) (uv (eachP downP (eachP acrossP (bytT px)))) rfl Y7.out (by simp [q7]) (by simp [p7]) (uv_one _) ?_))
        have X12 : Hid (Box (v7.setRow bx (uv (eachP downP (eachP acrossP (bytT px)))).toArray) bx 141 (uv (eachP downP (eachP acrossP (bytT px))))) := Box.row Y7.out
        have RR7 := Lib.hid (R12.out.rowFar (g := bx) (ds := (uv (eachP downP (eachP acrossP (bytT px)))).toArray) HB.out.1)
        have BB7 := Lib.hid (below_row B12.out (g := bx) HB.out.2 (uv (eachP downP (eachP acrossP (bytT px)))).toArray)
        clear Y7 R12 B12
        generalize v7.setRow bx (uv (eachP downP (eachP acrossP (bytT px)))).toArray = u7 at X12 RR7 BB7 ⊢
        have R12 := RR7
        have B12 := BB7
        clear RR7 BB7
        have q9 := ((each_ok downP (fun _ h => down_ok h) (each_ok acrossP (fun _ h => across_ok _) (bytT_ok px)))).1
        go_wp2_with (first | (refine sa_load ty_planes (by rfl) _ rfl bx 0 rfl _ (uv (eachP downP (eachP acrossP (bytT px)))) (uv (eachP downP (eachP acrossP (bytT px)))) X12.out (by simp [q9]) (fun j v h => by simpa using h) ?_))
        refine (pl_tile _ (each_ok downP (fun _ h => down_ok h) (each_ok acrossP (fun _ h => across_ok _) (bytT_ok px))) _).mono ?_; rintro e w9 ⟨rfl, b9⟩
        have R9 := Lib.hid (R12.out.below b9)
        have B9 := Lib.hid (below_then B12.out b9)
        clear b9 X12 R12 B12
        rw [show tileP (eachP downP (eachP acrossP (bytT px))) = flipT px true true from HR.out]
        have hq := flip_len px true true
        go_wp2_with (first | (refine st_store (by rfl) _ _ rfl _ rfl (flipT px true true) rfl hq (iv z64) R9.out (by simp [z64_len]) ?_))
        have RF : Hid (Box (w9.setRow (w.heap.size + 1) (iv (flipT px true true)).toArray) (w.heap.size + 1) 57 (iv (flipT px true true))) := Box.row R9.out
        exact bodyPost_ret (v := tilV (flipT px true true)) (til_ret rfl rfl RF.out hq) rfl ⟨rfl, below_row B9.out (by omega) _⟩
  · have HR := Lib.hid (show flipT px a d = z64 from if_neg hv)
    rw [show tilB px = false by simpa using hv]
    clear hv
    have hq := z64_len
    go_wp2_with (first | (refine st_build (by rfl) rfl ?_) | (refine st_store (by rfl) _ _ rfl _ rfl z64 rfl hq (iv z64) R2.out (by simp [z64_len]) ?_))
    have RF : Hid (Box (w2.setRow (w.heap.size + 1) (iv z64).toArray) (w.heap.size + 1) 57 (iv z64)) := Box.row R2.out
    exact bodyPost_ret (v := tilV z64) (til_ret rfl rfl RF.out hq) rfl ⟨by rw [HR.out], below_row B2.out (by omega) _⟩
end Go.Proofs.Ytacebhncecninaa
end
