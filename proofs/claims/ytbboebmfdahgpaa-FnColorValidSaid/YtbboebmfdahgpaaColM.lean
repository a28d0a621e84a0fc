/- Colors as plain numbers: what is valid, packed, mixed and faded. -/
import Derived.Test.YtbboebmfdahgpaaIn
import Derived.Laws.BitsAllLaws
namespace Go.Proofs.Ytbboebmfdahgpaa
open Go.ChangeShapes Go.WideShapes Go.ChangeAt Go.RowKit

/-- Whether three numbers are a color. -/
def colB (r g b : Int) : Bool := betB r 0 31 && betB g 0 31 && betB b 0 31
theorem colB_iff {r g b : Int} : colB r g b = true ↔ (0 ≤ r ∧ r ≤ 31) ∧ (0 ≤ g ∧ g ≤ 31) ∧ 0 ≤ b ∧ b ≤ 31 := by simp [colB, betB, and_assoc]
theorem colB_mk {r g b : Int} (h : (0 ≤ r ∧ r ≤ 31) ∧ (0 ≤ g ∧ g ≤ 31) ∧ 0 ≤ b ∧ b ≤ 31) : colB r g b = true := colB_iff.2 h
theorem colB_no {r g b : Int} (h : colB r g b = false) : ¬ ((0 ≤ r ∧ r ≤ 31) ∧ (0 ≤ g ∧ g ≤ 31) ∧ 0 ≤ b ∧ b ≤ 31) := fun k => by rw [colB_mk k] at h; cases h
/-- A color as a number. -/
def packI (r g b : Int) : Int := r + 32 * g + 1024 * b
/-- What mixing, fading and unpacking lead to. -/
def MixTo (r g b r' g' b' x0 x1 x2 : Int) : Prop := if (colB r g b && colB r' g' b') = true then x0 = (r + r') / 2 ∧ x1 = (g + g') / 2 ∧ x2 = (b + b') / 2 else x0 = 0 ∧ x1 = 0 ∧ x2 = 0
def FadeTo (r g b l x0 x1 x2 : Int) : Prop := if (colB r g b && betB l 0 16) = true then x0 = r * l / 16 ∧ x1 = g * l / 16 ∧ x2 = b * l / 16 else x0 = 0 ∧ x1 = 0 ∧ x2 = 0
def UnpTo (n x0 x1 x2 : Int) (v : Bool) : Prop := if betB n 0 32767 = true then x0 = n % 32 ∧ x1 = n / 32 % 32 ∧ x2 = n / 1024 ∧ v = true else x0 = 0 ∧ x1 = 0 ∧ x2 = 0 ∧ v = false
theorem mix_to (r g b r' g' b' : Int) : ∃ x0 x1 x2, MixTo r g b r' g' b' x0 x1 x2 := by
  unfold MixTo; split <;> exact ⟨_, _, _, rfl, rfl, rfl⟩
theorem fade_to (r g b l : Int) : ∃ x0 x1 x2, FadeTo r g b l x0 x1 x2 := by
  unfold FadeTo; split <;> exact ⟨_, _, _, rfl, rfl, rfl⟩
theorem unp_to (n : Int) : ∃ x0 x1 x2 v, UnpTo n x0 x1 x2 v := by
  unfold UnpTo; split <;> exact ⟨_, _, _, _, rfl, rfl, rfl, rfl⟩
theorem mix_yes {r g b r' g' b' x0 x1 x2 : Int} (h : MixTo r g b r' g' b' x0 x1 x2) (k : colB r g b = true) (k' : colB r' g' b' = true) : x0 = (r + r') / 2 ∧ x1 = (g + g') / 2 ∧ x2 = (b + b') / 2 := by
  unfold MixTo at h; rwa [if_pos (by rw [k, k']; rfl)] at h
theorem mix_no {r g b r' g' b' x0 x1 x2 : Int} (h : MixTo r g b r' g' b' x0 x1 x2) (k : colB r g b = false ∨ colB r' g' b' = false) : x0 = 0 ∧ x1 = 0 ∧ x2 = 0 := by
  unfold MixTo at h; rwa [if_neg (by rcases k with k | k <;> rw [k] <;> simp)] at h
theorem fade_yes {r g b l x0 x1 x2 : Int} (h : FadeTo r g b l x0 x1 x2) (k : colB r g b = true) (k' : betB l 0 16 = true) : x0 = r * l / 16 ∧ x1 = g * l / 16 ∧ x2 = b * l / 16 := by
  unfold FadeTo at h; rwa [if_pos (by rw [k, k']; rfl)] at h
theorem fade_no {r g b l x0 x1 x2 : Int} (h : FadeTo r g b l x0 x1 x2) (k : colB r g b = false ∨ betB l 0 16 = false) : x0 = 0 ∧ x1 = 0 ∧ x2 = 0 := by
  unfold FadeTo at h; rwa [if_neg (by rcases k with k | k <;> rw [k] <;> simp)] at h
theorem unp_yes {n x0 x1 x2 : Int} {v : Bool} (h : UnpTo n x0 x1 x2 v) (k : betB n 0 32767 = true) : x0 = n % 32 ∧ x1 = n / 32 % 32 ∧ x2 = n / 1024 ∧ v = true := by
  unfold UnpTo at h; rwa [if_pos k] at h
theorem unp_no {n x0 x1 x2 : Int} {v : Bool} (h : UnpTo n x0 x1 x2 v) (k : betB n 0 32767 = false) : x0 = 0 ∧ x1 = 0 ∧ x2 = 0 ∧ v = false := by
  unfold UnpTo at h; rwa [if_neg (by rw [k]; simp)] at h
theorem pack_bd {r g b : Int} (k : colB r g b = true) : 0 ≤ packI r g b ∧ packI r g b ≤ 32767 := by
  obtain ⟨h0, h1, h2⟩ := colB_iff.1 k
  unfold packI; omega
theorem pack_parts {r g b : Int} (k : colB r g b = true) : packI r g b % 32 = r ∧ packI r g b / 32 % 32 = g ∧ packI r g b / 1024 = b := by
  obtain ⟨h0, h1, h2⟩ := colB_iff.1 k
  unfold packI; omega
theorem unp_pack {r g b : Int} (k : colB r g b = true) : UnpTo (packI r g b) r g b true := by
  obtain ⟨p0, p1⟩ := pack_bd k
  obtain ⟨h0, h1, h2⟩ := pack_parts k
  unfold UnpTo
  rw [if_pos (by simp [betB, p0, p1])]
  exact ⟨h0.symm, h1.symm, h2.symm, rfl⟩
theorem pack_unp {n x0 x1 x2 : Int} {v : Bool} (h : UnpTo n x0 x1 x2 v) (k : betB n 0 32767 = true) : colB x0 x1 x2 = true ∧ packI x0 x1 x2 = n := by
  obtain ⟨rfl, rfl, rfl, _⟩ := unp_yes h k
  have := betB_yes k
  refine ⟨colB_iff.2 ?_, ?_⟩
  · omega
  · unfold packI; omega
/-- The digits of two numbers, five apart. -/
theorem and_cat (a b x y : Nat) (ha : a < 32) (hb : b < 32) : (a + 32 * x) &&& (b + 32 * y) = (a &&& b) + 32 * (x &&& y) := by
  have hab : a &&& b < 2 ^ 5 := Nat.and_lt_two_pow _ (by omega)
  rw [show a + 32 * x = 2 ^ 5 * x + a by omega, show b + 32 * y = 2 ^ 5 * y + b by omega, show (a &&& b) + 32 * (x &&& y) = 2 ^ 5 * (x &&& y) + (a &&& b) by omega]
  refine Nat.eq_of_testBit_eq fun j => ?_
  rw [Nat.testBit_and, Nat.testBit_two_pow_mul_add x (show a < 2 ^ 5 by omega), Nat.testBit_two_pow_mul_add y (show b < 2 ^ 5 by omega), Nat.testBit_two_pow_mul_add _ hab]
  by_cases hj : j < 5 <;> simp [hj, Nat.testBit_and]
theorem xor_cat (a b x y : Nat) (ha : a < 32) (hb : b < 32) : (a + 32 * x) ^^^ (b + 32 * y) = (a ^^^ b) + 32 * (x ^^^ y) := by
  have hab : a ^^^ b < 2 ^ 5 := Nat.xor_lt_two_pow (by omega) (by omega)
  rw [show a + 32 * x = 2 ^ 5 * x + a by omega, show b + 32 * y = 2 ^ 5 * y + b by omega, show (a ^^^ b) + 32 * (x ^^^ y) = 2 ^ 5 * (x ^^^ y) + (a ^^^ b) by omega]
  refine Nat.eq_of_testBit_eq fun j => ?_
  rw [Nat.testBit_xor, Nat.testBit_two_pow_mul_add x (show a < 2 ^ 5 by omega), Nat.testBit_two_pow_mul_add y (show b < 2 ^ 5 by omega), Nat.testBit_two_pow_mul_add _ hab]
  by_cases hj : j < 5 <;> simp [hj, Nat.testBit_xor]
theorem or_low (a x i : Nat) (ha : a < 2 ^ i) : a ||| (2 ^ i * x) = a + 2 ^ i * x := by
  rw [Nat.or_comm, ← Nat.two_pow_add_eq_or_of_lt ha x]
  omega
theorem half5 : ∀ a b : Fin 32, (a.val &&& b.val) + ((a.val ^^^ b.val) &&& 30) / 2 = (a.val + b.val) / 2 ∧ ((a.val ^^^ b.val) &&& 30) % 2 = 0 ∧ ((a.val ^^^ b.val) &&& 62) = ((a.val ^^^ b.val) &&& 30) := by decide +kernel
theorem half_of (a b : Nat) (ha : a < 32) (hb : b < 32) : (a &&& b) + ((a ^^^ b) &&& 30) / 2 = (a + b) / 2 ∧ ((a ^^^ b) &&& 30) % 2 = 0 ∧ ((a ^^^ b) &&& 62) = ((a ^^^ b) &&& 30) := half5 ⟨a, ha⟩ ⟨b, hb⟩
theorem mix_nat (r g b r' g' b' : Nat) (h0 : r < 32) (h1 : g < 32) (h2 : b < 32) (h3 : r' < 32) (h4 : g' < 32) (h5 : b' < 32) :
    ((r + 32 * (g + 32 * b)) &&& (r' + 32 * (g' + 32 * b'))) + (((r + 32 * (g + 32 * b)) ^^^ (r' + 32 * (g' + 32 * b'))) &&& 64478) / 2 = (r + r') / 2 + 32 * ((g + g') / 2) + 1024 * ((b + b') / 2) := by
  have x0 : r ^^^ r' < 2 ^ 5 := Nat.xor_lt_two_pow (by omega) (by omega)
  have x1 : g ^^^ g' < 2 ^ 5 := Nat.xor_lt_two_pow (by omega) (by omega)
  rw [and_cat r r' _ _ h0 h3, and_cat g g' _ _ h1 h4, xor_cat r r' _ _ h0 h3, xor_cat g g' _ _ h1 h4]
  rw [show (64478 : Nat) = 30 + 32 * (30 + 32 * 62) from rfl, and_cat _ 30 _ _ (by omega) (by omega), and_cat _ 30 _ _ (by omega) (by omega)]
  obtain ⟨a0, a1, a2⟩ := half_of r r' h0 h3
  obtain ⟨b0, b1, b2⟩ := half_of g g' h1 h4
  obtain ⟨c0, c1, c2⟩ := half_of b b' h2 h5
  rw [c2]
  omega
/-- Mixing of packed colors. -/
theorem mix_pack {r g b r' g' b' : Int} (k : colB r g b = true) (k' : colB r' g' b' = true) :
    bits .and .u16 (packI r g b) (packI r' g' b') + bits .andNot .u16 (bits .xor .u16 (packI r g b) (packI r' g' b')) 1057 / 2 = packI ((r + r') / 2) ((g + g') / 2) ((b + b') / 2) := by
  obtain ⟨⟨u0, v0⟩, ⟨u1, v1⟩, u2, v2⟩ := colB_iff.1 k
  obtain ⟨⟨u3, v3⟩, ⟨u4, v4⟩, u5, v5⟩ := colB_iff.1 k'
  obtain ⟨r, rfl⟩ := Int.eq_ofNat_of_zero_le u0
  obtain ⟨g, rfl⟩ := Int.eq_ofNat_of_zero_le u1
  obtain ⟨b, rfl⟩ := Int.eq_ofNat_of_zero_le u2
  obtain ⟨r', rfl⟩ := Int.eq_ofNat_of_zero_le u3
  obtain ⟨g', rfl⟩ := Int.eq_ofNat_of_zero_le u4
  obtain ⟨b', rfl⟩ := Int.eq_ofNat_of_zero_le u5
  have e : packI (r : Int) g b = ((r + 32 * (g + 32 * b) : Nat) : Int) := by unfold packI; omega
  have e' : packI (r' : Int) g' b' = ((r' + 32 * (g' + 32 * b') : Nat) : Int) := by unfold packI; omega
  have m := mix_nat r g b r' g' b' (by omega) (by omega) (by omega) (by omega) (by omega) (by omega)
  have x0 : (r + 32 * (g + 32 * b)) ^^^ (r' + 32 * (g' + 32 * b')) < 2 ^ 16 := Nat.xor_lt_two_pow (by omega) (by omega)
  rw [e, e', u16_and_nat _ _ (by omega) (by omega), u16_xor_nat _ _ (by omega) (by omega), show (1057 : Int) = ((1057 : Nat) : Int) from rfl, u16_andNot_nat _ _ (by omega) (by omega), show (65535 - 1057 : Nat) = 64478 from rfl]
  unfold packI
  omega
theorem mix_bd {r g b r' g' b' : Int} (k : colB r g b = true) (k' : colB r' g' b' = true) : 0 ≤ packI ((r + r') / 2) ((g + g') / 2) ((b + b') / 2) ∧ packI ((r + r') / 2) ((g + g') / 2) ((b + b') / 2) ≤ 32767 := by
  obtain ⟨⟨u0, v0⟩, ⟨u1, v1⟩, u2, v2⟩ := colB_iff.1 k
  obtain ⟨⟨u3, v3⟩, ⟨u4, v4⟩, u5, v5⟩ := colB_iff.1 k'
  unfold packI; omega
theorem or_i64_c (a b : Nat) (ha : a < 9223372036854775808) (hb : b < 9223372036854775808) : bits .or .i64 (a : Int) (b : Int) = ((a ||| b : Nat) : Int) := by
  have ha' : (BitVec.ofInt 64 (a : Int)).toNat = a := by rw [BitVec.ofInt_natCast, BitVec.toNat_ofNat]; exact Nat.mod_eq_of_lt (by omega)
  have hb' : (BitVec.ofInt 64 (b : Int)).toNat = b := by rw [BitVec.ofInt_natCast, BitVec.toNat_ofNat]; exact Nat.mod_eq_of_lt (by omega)
  have hx : a ||| b < 2 ^ 63 := Nat.or_lt_two_pow (by omega) (by omega)
  show IntKind.i64.wrap ((BitVec.ofInt 64 (a : Int) ||| BitVec.ofInt 64 (b : Int)).toNat : Int) = _
  rw [BitVec.toNat_or, ha', hb', IntKind.wrap_i64]
  omega
/-- Packing, two components at a time. -/
theorem pack_or1 {r g : Int} (u0 : 0 ≤ r) (v0 : r ≤ 31) (u1 : 0 ≤ g) (v1 : g ≤ 31) : bits .or .i64 r (g * 32) = r + 32 * g := by
  obtain ⟨r, rfl⟩ := Int.eq_ofNat_of_zero_le u0
  obtain ⟨g, rfl⟩ := Int.eq_ofNat_of_zero_le u1
  rw [show (g : Int) * 32 = ((2 ^ 5 * g : Nat) : Int) by omega, or_i64_c _ _ (by omega) (by omega), or_low _ _ _ (by omega)]
  omega
theorem pack_or2 {x b : Int} (u0 : 0 ≤ x) (v0 : x ≤ 1023) (u1 : 0 ≤ b) (v1 : b ≤ 31) : bits .or .i64 x (b * 1024) = x + 1024 * b := by
  obtain ⟨x, rfl⟩ := Int.eq_ofNat_of_zero_le u0
  obtain ⟨b, rfl⟩ := Int.eq_ofNat_of_zero_le u1
  rw [show (b : Int) * 1024 = ((2 ^ 10 * b : Nat) : Int) by omega, or_i64_c _ _ (by omega) (by omega), or_low _ _ _ (by omega)]
  omega
theorem pack_or {r g b : Int} (k : colB r g b = true) : bits .or .i64 (bits .or .i64 r (g * 32)) (b * 1024) = packI r g b := by
  obtain ⟨⟨u0, v0⟩, ⟨u1, v1⟩, u2, v2⟩ := colB_iff.1 k
  rw [pack_or1 u0 v0 u1 v1, pack_or2 (by omega) (by omega) u2 v2]
  rfl
theorem pack_wrap {r g b : Int} (k : colB r g b = true) : IntKind.u16.wrap (bits .or .i64 (bits .or .i64 r (g * 32)) (b * 1024)) = packI r g b := by
  obtain ⟨p0, p1⟩ := pack_bd k
  rw [pack_or k, IntKind.wrap_u16]
  omega
/-- The same in sixteen digits, for fading. -/
theorem fade_or0 {v : Int} (u0 : 0 ≤ v) (v0 : v ≤ 31) : bits .or .u16 0 v = v := by
  obtain ⟨v, rfl⟩ := Int.eq_ofNat_of_zero_le u0
  rw [show (0 : Int) = ((0 : Nat) : Int) from rfl, u16_or_nat _ _ (by omega) (by omega), Nat.zero_or]
theorem fade_or1 {r g : Int} (u0 : 0 ≤ r) (v0 : r ≤ 31) (u1 : 0 ≤ g) (v1 : g ≤ 31) : bits .or .u16 r (g * 32) = r + 32 * g := by
  obtain ⟨r, rfl⟩ := Int.eq_ofNat_of_zero_le u0
  obtain ⟨g, rfl⟩ := Int.eq_ofNat_of_zero_le u1
  rw [show (g : Int) * 32 = ((2 ^ 5 * g : Nat) : Int) by omega, u16_or_nat _ _ (by omega) (by omega), or_low _ _ _ (by omega)]
  omega
theorem fade_or2 {x b : Int} (u0 : 0 ≤ x) (v0 : x ≤ 1023) (u1 : 0 ≤ b) (v1 : b ≤ 31) : bits .or .u16 x (b * 1024) = x + 1024 * b := by
  obtain ⟨x, rfl⟩ := Int.eq_ofNat_of_zero_le u0
  obtain ⟨b, rfl⟩ := Int.eq_ofNat_of_zero_le u1
  rw [show (b : Int) * 1024 = ((2 ^ 10 * b : Nat) : Int) by omega, u16_or_nat _ _ (by omega) (by omega), or_low _ _ _ (by omega)]
  omega
/-- A component of a packed color. -/
theorem comp_and {x : Int} (h0 : 0 ≤ x) (h1 : x < 65536) : bits .and .u16 x 31 = x % 32 := by
  obtain ⟨x, rfl⟩ := Int.eq_ofNat_of_zero_le h0
  rw [show (31 : Int) = ((31 : Nat) : Int) from rfl, u16_and_nat _ _ (by omega) (by omega), show (31 : Nat) = 2 ^ 5 - 1 from rfl, Nat.and_two_pow_sub_one_eq_mod]
  omega
/-- Faded components stay components, and do not grow. -/
theorem fade_bd {c l : Int} (h0 : 0 ≤ c) (h1 : c ≤ 31) (h2 : 0 ≤ l) (h3 : l ≤ 16) : 0 ≤ c * l ∧ c * l ≤ 496 ∧ 0 ≤ c * l / 16 ∧ c * l / 16 ≤ c := by
  have p : 0 ≤ c * l := Int.mul_nonneg h0 h2
  have q : c * l ≤ c * 16 := Int.mul_le_mul_of_nonneg_left h3 h0
  omega
theorem fade_mono {c l l' : Int} (h0 : 0 ≤ c) (h : l ≤ l') : c * l / 16 ≤ c * l' / 16 := by
  have q : c * l ≤ c * l' := Int.mul_le_mul_of_nonneg_left h h0
  omega
theorem mix_parts {r g b r' g' b' : Int} (k : colB r g b = true) (k' : colB r' g' b' = true) : packI ((r + r') / 2) ((g + g') / 2) ((b + b') / 2) % 32 = (r + r') / 2 ∧ packI ((r + r') / 2) ((g + g') / 2) ((b + b') / 2) / 32 % 32 = (g + g') / 2 ∧ packI ((r + r') / 2) ((g + g') / 2) ((b + b') / 2) / 1024 % 32 = (b + b') / 2 := by
  obtain ⟨⟨u0, v0⟩, ⟨u1, v1⟩, u2, v2⟩ := colB_iff.1 k
  obtain ⟨⟨u3, v3⟩, ⟨u4, v4⟩, u5, v5⟩ := colB_iff.1 k'
  obtain ⟨h0, h1, h2⟩ := pack_parts (r := (r + r') / 2) (g := (g + g') / 2) (b := (b + b') / 2) (colB_iff.2 (by omega))
  refine ⟨h0, h1, ?_⟩
  rw [h2]; omega
theorem fade_col {r g b l : Int} (k : colB r g b = true) (l0 : 0 ≤ l) (l1 : l ≤ 16) : colB (r * l / 16) (g * l / 16) (b * l / 16) = true := by
  obtain ⟨⟨u0, v0⟩, ⟨u1, v1⟩, u2, v2⟩ := colB_iff.1 k
  have a := fade_bd u0 v0 l0 l1
  have c := fade_bd u1 v1 l0 l1
  have d := fade_bd u2 v2 l0 l1
  exact colB_iff.2 (by omega)
theorem fade_pbd {r g b l : Int} (k : colB r g b = true) (l0 : 0 ≤ l) (l1 : l ≤ 16) : 0 ≤ packI (r * l / 16) (g * l / 16) (b * l / 16) ∧ packI (r * l / 16) (g * l / 16) (b * l / 16) ≤ 32767 := pack_bd (fade_col k l0 l1)
theorem fade_parts {r g b l : Int} (k : colB r g b = true) (l0 : 0 ≤ l) (l1 : l ≤ 16) : packI (r * l / 16) (g * l / 16) (b * l / 16) % 32 = r * l / 16 ∧ packI (r * l / 16) (g * l / 16) (b * l / 16) / 32 % 32 = g * l / 16 ∧ packI (r * l / 16) (g * l / 16) (b * l / 16) / 1024 % 32 = b * l / 16 := by
  have kk := fade_col k l0 l1
  obtain ⟨_, _, u2, v2⟩ := colB_iff.1 kk
  obtain ⟨h0, h1, h2⟩ := pack_parts kk
  refine ⟨h0, h1, ?_⟩
  rw [h2]; omega
end Go.Proofs.Ytbboebmfdahgpaa
