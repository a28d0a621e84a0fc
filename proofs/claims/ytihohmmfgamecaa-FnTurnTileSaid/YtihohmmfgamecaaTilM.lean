/- What the laws of chapter 8 ask, of 64 numbers and sixteen bytes. -/
import Derived.Test.YtihohmmfgamecaaTilD
import Derived.Test.YtihohmmfgamecaaTilP
import Derived.Test.YtihohmmfgamecaaTilR
namespace Go.Proofs.Ytihohmmfgamecaa
open Go.ChangeShapes Go.WideShapes Go.ChangeAt Go.RowKit
set_option linter.unusedVariables false

theorem mkT_at (g : Nat → Nat) (hg : ∀ i, i < 64 → g i < 64) (f : Nat → Int) (i : Nat) (hi : i < 64) : (mkT g f 64).getD i 0 = f i := by
  rw [mkT_get _ _ _ _ hi, if_pos (hg i hi)]
theorem flip_len (px : List Int) (a d : Bool) : (flipT px a d).length = 64 := by
  unfold flipT; split
  · exact mkT_len _ _ _
  · exact z64_len
theorem turn_len (px : List Int) : (turnT px).length = 64 := by
  unfold turnT; split
  · exact mkT_len _ _ _
  · exact z64_len
theorem read_len (xs : List Int) : (readT xs).length = 64 := by
  unfold readT; split
  · exact mkT_len _ _ _
  · exact z64_len
theorem flip_get {px : List Int} (hv : tilB px = true) (a d : Bool) (i : Nat) (hi : i < 64) : (flipT px a d).getD i 0 = px.getD (flipP a d i) 0 := by
  unfold flipT
  rw [if_pos hv, mkT_at id (fun i h => h) _ i hi]
theorem turn_get {px : List Int} (hv : tilB px = true) (i : Nat) (hi : i < 64) : (turnT px).getD i 0 = px.getD (turnG i) 0 := by
  unfold turnT
  rw [if_pos hv, mkT_at turnG turnG_lt _ i hi]
theorem flip_valid {px : List Int} (hp : px.length = 64) (hv : tilB px = true) (a d : Bool) : tilB (flipT px a d) = true := by
  rw [tilB_iff, flip_len]
  intro i hi
  rw [flip_get hv a d i hi]
  exact tilB_iff.1 hv _ (by rw [hp]; exact flipP_lt a d i hi)
theorem turn_valid {px : List Int} (hp : px.length = 64) (hv : tilB px = true) : tilB (turnT px) = true := by
  rw [tilB_iff, turn_len]
  intro i hi
  rw [turn_get hv i hi]
  exact tilB_iff.1 hv _ (by rw [hp]; exact turnG_lt i hi)
theorem flipP_two (a d : Bool) (i : Nat) (hi : i < 64) : flipP a d (flipP a d i) = i := by
  cases a <;> cases d <;> simp [flipP] <;> omega
/-- Flipping again in the same way. -/
theorem flip_two {px : List Int} (hp : px.length = 64) (hv : tilB px = true) (a d : Bool) : flipT (flipT px a d) a d = px :=
  mkT_ext (flip_len _ _ _) hp fun i hi => by
    rw [flip_get (flip_valid hp hv a d) a d i hi, flip_get hv a d _ (flipP_lt a d i hi), flipP_two a d i hi]
/-- Flipping across and down is turning twice. -/
theorem flip_turn {px : List Int} (hp : px.length = 64) (hv : tilB px = true) : flipT px true true = turnT (turnT px) :=
  mkT_ext (flip_len _ _ _) (turn_len _) fun i hi => by
    rw [flip_get hv _ _ i hi, turn_get (turn_valid hp hv) i hi, turn_get hv _ (turnG_lt i hi)]
    congr 1
    simp [flipP, turnG]; omega
theorem flip_none {px : List Int} (hp : px.length = 64) (hv : tilB px = true) : flipT px false false = px :=
  mkT_ext (flip_len _ _ _) hp fun i hi => by
    rw [flip_get hv _ _ i hi]
    congr 1
    simp [flipP]; omega
/-- Four turns. -/
theorem turn_four {px : List Int} (hp : px.length = 64) (hv : tilB px = true) : turnT (turnT (turnT (turnT px))) = px := by
  have v1 := turn_valid hp hv
  have v2 := turn_valid (turn_len px) v1
  have v3 := turn_valid (turn_len _) v2
  refine mkT_ext (turn_len _) hp fun i hi => ?_
  rw [turn_get v3 i hi, turn_get v2 _ (turnG_lt i hi), turn_get v1 _ (turnG_lt _ (turnG_lt i hi)), turn_get hv _ (turnG_lt _ (turnG_lt _ (turnG_lt i hi)))]
  congr 1
  unfold turnG; omega
theorem tf_id : ∀ i : Fin 64, flipP true false (turnG (flipP true false (turnG i.val))) = i.val := by decide +kernel
/-- Flipping across and turning, twice. -/
theorem turn_flip {px : List Int} (hp : px.length = 64) (hv : tilB px = true) : turnT (flipT (turnT (flipT px true false)) true false) = px := by
  have v1 := flip_valid hp hv true false
  have v2 := turn_valid (flip_len px true false) v1
  have v3 := flip_valid (turn_len _) v2 true false
  refine mkT_ext (turn_len _) hp fun i hi => ?_
  rw [turn_get v3 i hi, flip_get v2 _ _ _ (turnG_lt i hi), turn_get v1 _ (flipP_lt _ _ _ (turnG_lt i hi)), flip_get hv _ _ _ (turnG_lt _ (flipP_lt _ _ _ (turnG_lt i hi)))]
  congr 1
  exact tf_id ⟨i, hi⟩
/-- The first row of a turned tile. -/
theorem turn_row {px : List Int} (hv : tilB px = true) (k : Nat) (hk : k < 8) : (turnT px).getD k 0 = px.getD (8 * (7 - k)) 0 := by
  rw [turn_get hv k (by omega)]
  congr 1
  unfold turnG; omega
theorem used_bit (px : List Int) (v : Nat) : ∀ k, (usedU px k).testBit v = true ↔ ∃ i, i < k ∧ (px.getD i 0).toNat = v
  | 0 => by simp [usedU]
  | k + 1 => by
    rw [usedU, Nat.testBit_or, Bool.or_eq_true, used_bit px v k, Nat.testBit_two_pow]
    simp only [decide_eq_true_eq]
    constructor
    · rintro (⟨i, hi, h⟩ | h)
      · exact ⟨i, by omega, h⟩
      · exact ⟨k, by omega, h⟩
    · rintro ⟨i, hi, h⟩
      by_cases e : i = k
      · subst e; exact .inr h
      · exact .inl ⟨i, by omega, h⟩
/-- Turning changes no used value. -/
theorem used_turn {px : List Int} (hp : px.length = 64) (hv : tilB px = true) : usedT (turnT px) = usedT px := by
  unfold usedT
  rw [if_pos hv, if_pos (turn_valid hp hv)]
  congr 1
  refine Nat.eq_of_testBit_eq fun v => ?_
  rw [Bool.eq_iff_iff, used_bit, used_bit]
  constructor
  · rintro ⟨i, hi, h⟩
    rw [turn_get hv i hi] at h
    exact ⟨turnG i, turnG_lt i hi, h⟩
  · rintro ⟨i, hi, h⟩
    refine ⟨turnP i, turnP_lt i hi, ?_⟩
    rw [turn_get hv _ (turnP_lt i hi), (turnG_iff i (turnP i) hi (turnP_lt i hi)).2 rfl]
    exact h
theorem used_has {px : List Int} (hp : px.length = 64) (hv : tilB px = true) (k : Nat) (hk : k < 64) : usedU px 64 / 2 ^ (px.getD k 0).toNat % 2 = 1 := by
  have h := (used_bit px (px.getD k 0).toNat 64).2 ⟨k, hk, rfl⟩
  rw [Nat.testBit_eq_decide_div_mod_eq] at h
  simpa using h
theorem used_bd {px : List Int} (hp : px.length = 64) (hv : tilB px = true) : 1 ≤ usedU px 64 ∧ usedU px 64 ≤ 15 := by
  refine ⟨?_, by have := usedU_lt hp hv 64 (by omega); omega⟩
  have h := used_has hp hv 0 (by omega)
  rcases Nat.eq_zero_or_pos (usedU px 64) with e | e
  · rw [e] at h; simp at h
  · exact e
/-- A tile of one value. -/
def flatT (x : Int) : List Int := List.replicate 64 x
theorem flat_len (x : Int) : (flatT x).length = 64 := by simp [flatT]
theorem flat_get (x : Int) (i : Nat) (hi : i < 64) : (flatT x).getD i 0 = x := by
  unfold flatT
  rw [List.getD_eq_getElem?_getD, List.getElem?_replicate, if_pos hi]
  rfl
theorem flat_valid (x : Int) (h0 : 0 ≤ x) (h1 : x ≤ 3) : tilB (flatT x) = true := by
  rw [tilB_iff, flat_len]
  intro i hi
  rw [flat_get x i hi]
  simp [betB, h0, h1]
theorem used_flat (x : Int) (h0 : 0 ≤ x) (h1 : x ≤ 3) : usedT (flatT x) = ((2 ^ x.toNat : Nat) : Int) := by
  unfold usedT
  rw [if_pos (flat_valid x h0 h1)]
  congr 1
  refine Nat.eq_of_testBit_eq fun v => ?_
  rw [Bool.eq_iff_iff, used_bit, Nat.testBit_two_pow]
  simp only [decide_eq_true_eq]
  constructor
  · rintro ⟨i, hi, h⟩
    rwa [flat_get x i hi] at h
  · intro h
    exact ⟨0, by omega, by rw [flat_get x 0 (by omega)]; exact h⟩
theorem plane_8 (px : List Int) (k : Nat) (b : Nat → Int) (hb : ∀ x, x < 8 → px.getD (k % 8 * 8 + x) 0 / 2 ^ (k / 8) % 2 = b x) : plane px k 8 = 128 * b 0 + 64 * b 1 + 32 * b 2 + 16 * b 3 + 8 * b 4 + 4 * b 5 + 2 * b 6 + b 7 := by
  have h0 := hb 0 (by omega); have h1 := hb 1 (by omega); have h2 := hb 2 (by omega); have h3 := hb 3 (by omega)
  have h4 := hb 4 (by omega); have h5 := hb 5 (by omega); have h6 := hb 6 (by omega); have h7 := hb 7 (by omega)
  simp only [plane, h0, h1, h2, h3, h4, h5, h6, h7]
  omega
/-- A digit of a tile's byte. -/
theorem plane_digit (px : List Int) (k x : Nat) (hx : x < 8) : plane px k 8 / 2 ^ (7 - x) % 2 = px.getD (k % 8 * 8 + x) 0 / 2 ^ (k / 8) % 2 := by
  obtain ⟨b, hb⟩ : ∃ b : Nat → Int, b = fun x => px.getD (k % 8 * 8 + x) 0 / 2 ^ (k / 8) % 2 := ⟨_, rfl⟩
  have hd : ∀ x, 0 ≤ b x ∧ b x ≤ 1 := fun x => by rw [hb]; simp only; omega
  rw [show px.getD (k % 8 * 8 + x) 0 / 2 ^ (k / 8) % 2 = b x by rw [hb], plane_8 px k b (fun x _ => by rw [hb])]
  have d0 := hd 0; have d1 := hd 1; have d2 := hd 2; have d3 := hd 3; have d4 := hd 4; have d5 := hd 5; have d6 := hd 6; have d7 := hd 7
  have h8 : x = 0 ∨ x = 1 ∨ x = 2 ∨ x = 3 ∨ x = 4 ∨ x = 5 ∨ x = 6 ∨ x = 7 := by omega
  rcases h8 with rfl | rfl | rfl | rfl | rfl | rfl | rfl | rfl <;> simp <;> omega
theorem bytT_six (px : List Int) : sixB (bytT px) = true := by
  rw [sixB_iff]
  refine ⟨(bytesB_iff _).2 fun i hi => ?_, bytT_len px⟩
  rw [bytT_len] at hi
  rw [bytT_get px i hi]
  obtain ⟨h0, h1⟩ := plane_255 px i 8 (by omega)
  exact byteB_mk h0 h1
/-- Reading back a tile's bytes. -/
theorem read_bytes {px : List Int} (hp : px.length = 64) (hv : tilB px = true) : readT (bytT px) = px := by
  unfold readT
  rw [if_pos (bytT_six px)]
  refine mkT_ext (mkT_len _ _ _) hp fun i hi => ?_
  rw [mkT_at id (fun i h => h) _ i hi]
  unfold readP
  rw [bytT_get px _ (by omega), bytT_get px _ (by omega), plane_digit px _ _ (by omega), plane_digit px _ _ (by omega)]
  obtain ⟨h0, h1⟩ := til_px hp hv i hi
  have e1 : i / 8 % 8 * 8 + i % 8 = i := by omega
  have e2 : (8 + i / 8) % 8 * 8 + i % 8 = i := by omega
  have e3 : i / 8 / 8 = 0 := by omega
  have e4 : (8 + i / 8) / 8 = 1 := by omega
  rw [e1, e2, e3, e4]
  generalize px.getD i 0 = p at h0 h1
  simp
  omega
theorem readP_bd {xs : List Int} (i : Nat) : 0 ≤ readP xs i ∧ readP xs i ≤ 3 := by unfold readP; omega
theorem read_get {xs : List Int} (h : sixB xs = true) (i : Nat) (hi : i < 64) : (readT xs).getD i 0 = readP xs i := by
  unfold readT
  rw [if_pos h, mkT_at id (fun i h => h) _ i hi]
theorem read_valid {xs : List Int} (h : sixB xs = true) : tilB (readT xs) = true := by
  rw [tilB_iff, read_len]
  intro i hi
  rw [read_get h i hi]
  obtain ⟨h0, h1⟩ := readP_bd (xs := xs) i
  simp [betB, h0, h1]
/-- A tile that was read has these bytes. -/
theorem bytes_read {xs : List Int} (h : sixB xs = true) : bytT (readT xs) = xs := by
  have hl := (sixB_iff.1 h).2
  apply List.ext_getElem (by rw [bytT_len]; omega)
  intro k h1 h2
  have hk : k < 16 := by omega
  have e := bytT_get (readT xs) k hk
  rw [List.getD_eq_getElem?_getD, List.getElem?_eq_getElem h1] at e
  simp only [Option.getD_some] at e
  rw [e]
  have hx : xs.getD k 0 = xs[k] := by rw [List.getD_eq_getElem?_getD, List.getElem?_eq_getElem h2]; rfl
  obtain ⟨x0, x1⟩ := six_px h k hk
  rw [hx] at x0 x1
  have hb : ∀ x, x < 8 → (readT xs).getD (k % 8 * 8 + x) 0 / 2 ^ (k / 8) % 2 = xs[k] / 2 ^ (7 - x) % 2 := by
    intro x hx8
    rw [read_get h _ (by omega)]
    unfold readP
    rw [show (k % 8 * 8 + x) / 8 = k % 8 by omega, show (k % 8 * 8 + x) % 8 = x by omega]
    by_cases h8 : k < 8
    · rw [show k % 8 = k by omega, show k / 8 = 0 by omega, hx]
      generalize xs[k] / 2 ^ (7 - x) = u
      generalize xs.getD (8 + k) 0 / 2 ^ (7 - x) = v
      simp only [Int.pow_zero, Int.ediv_one]
      omega
    · rw [show 8 + k % 8 = k by omega, show k / 8 = 1 by omega, hx]
      generalize xs[k] / 2 ^ (7 - x) = u
      generalize xs.getD (k % 8) 0 / 2 ^ (7 - x) = v
      simp only [Int.pow_one]
      omega
  rw [plane_8 (readT xs) k _ hb]
  simp
  omega
end Go.Proofs.Ytihohmmfgamecaa
