/- Noise: the leaps of the program and the distances of the model, as numbers. -/
import Derived.Test.YtkglocdmpfjafaaNoiM
import Derived.Test.YtkglocdmpfjafaaGC
import Derived.Test.YtkglocdmpfjafaaGA
namespace Go.Proofs.Ytkglocdmpfjafaa
set_option linter.unusedVariables false

/-- n numbers, the i-th f i. -/
def rowsZ (f : Nat → Int) (n : Nat) : List Int := (List.range n).map f
theorem rz_len (f : Nat → Int) (n : Nat) : (rowsZ f n).length = n := by simp [rowsZ]
theorem rz_get (f : Nat → Int) (n i : Nat) (hi : i < n) : (rowsZ f n).getD i 0 = f i := by
  unfold rowsZ
  rw [List.getD_eq_getElem?_getD, List.getElem?_map, List.getElem?_range hi]
  rfl
theorem rz_ext {a b : List Int} {n : Nat} (ha : a.length = n) (hb : b.length = n) (h : ∀ i, i < n → a.getD i 0 = b.getD i 0) : a = b := by
  apply List.ext_getElem (by omega)
  intro i h1 h2
  have := h i (by omega)
  rwa [List.getD_eq_getElem?_getD, List.getD_eq_getElem?_getD, List.getElem?_eq_getElem h1, List.getElem?_eq_getElem h2] at this
theorem toNat_i64 (a : Nat) (ha : a < 9223372036854775808) : (BitVec.ofInt 64 (a : Int)).toNat = a := by
  rw [BitVec.ofInt_natCast, BitVec.toNat_ofNat]; exact Nat.mod_eq_of_lt (by omega)
theorem andN_i64 (a b : Nat) (ha : a < 9223372036854775808) (hb : b < 9223372036854775808) : bits .and .i64 (a : Int) (b : Int) = ((a &&& b : Nat) : Int) := by
  have hx : a &&& b ≤ a := Nat.and_le_left
  show IntKind.i64.wrap ((BitVec.ofInt 64 (a : Int) &&& BitVec.ofInt 64 (b : Int)).toNat : Int) = _
  rw [BitVec.toNat_and, toNat_i64 a ha, toNat_i64 b hb, IntKind.wrap_i64]
  omega
theorem and1_i64 (a : Nat) (ha : a < 9223372036854775808) : bits .and .i64 (a : Int) 1 = ((a % 2 : Nat) : Int) := by
  rw [← Nat.and_one_is_mod]
  exact andN_i64 a 1 ha (by omega)
theorem orN_i64 (a b : Nat) (ha : a < 9223372036854775808) (hb : b < 9223372036854775808) : bits .or .i64 (a : Int) (b : Int) = ((a ||| b : Nat) : Int) := by
  have hx : a ||| b < 2 ^ 63 := Nat.or_lt_two_pow (by omega) (by omega)
  show IntKind.i64.wrap ((BitVec.ofInt 64 (a : Int) ||| BitVec.ofInt 64 (b : Int)).toNat : Int) = _
  rw [BitVec.toNat_or, toNat_i64 a ha, toNat_i64 b hb, IntKind.wrap_i64]
  omega
theorem nx_or {S : Nat} (h : S ≤ 32767) : S / 2 ||| (S ^^^ S / 2) % 2 * 16384 = nx S := by
  have := Nat.two_pow_add_eq_or_of_lt (i := 14) (b := S / 2) (by omega) ((S ^^^ S / 2) % 2)
  unfold nx
  rw [Nat.or_comm, Nat.mul_comm _ 16384, Nat.add_comm]
  exact this.symm
theorem nx_le {s : Nat} (h : s ≤ 32767) : nx s ≤ 32767 := by rw [nx_eq]; omega
theorem xor_le {a b : Nat} (ha : a ≤ 32767) (hb : b ≤ 32767) : a ^^^ b ≤ 32767 := by
  have : a ^^^ b < 2 ^ 15 := Nat.xor_lt_two_pow (by omega) (by omega)
  omega
theorem nxK_le : ∀ (k : Nat) {s : Nat}, s ≤ 32767 → nxK k s ≤ 32767
  | 0, s, h => h
  | k + 1, s, h => nxK_le k (nx_le h)
theorem nxK_xor : ∀ (k : Nat) {a b : Nat}, a ≤ 32767 → b ≤ 32767 → nxK k (a ^^^ b) = nxK k a ^^^ nxK k b
  | 0, a, b, _, _ => rfl
  | k + 1, a, b, ha, hb => by
    show nxK k (nx (a ^^^ b)) = nxK k (nx a) ^^^ nxK k (nx b)
    rw [nx_xor ha hb, nxK_xor k (nx_le ha) (nx_le hb)]
theorem nxK_none : ∀ k, nxK k 0 = 0
  | 0 => rfl
  | k + 1 => nxK_none k
/-- What a leap makes of digit p; of the lowest p digits of a state. -/
def leapF (p : Nat) : Nat := nxK 217 (2 ^ p)
def aftK (s p : Nat) : Nat := nxK 217 (s % 2 ^ p)
theorem xor_high {r p : Nat} (h : r < 2 ^ p) : r ^^^ 2 ^ p = r + 2 ^ p := by
  apply Nat.eq_of_testBit_eq
  intro i
  rw [Nat.add_comm, show 2 ^ p + r = 2 ^ p * 1 + r by omega, Nat.testBit_two_pow_mul_add _ h, Nat.testBit_xor, Nat.testBit_two_pow]
  by_cases hi : i < p
  · rw [if_pos hi, decide_eq_false (by omega)]; simp
  · rw [if_neg hi, Nat.testBit_lt_two_pow (Nat.lt_of_lt_of_le h (Nat.pow_le_pow_right (by omega) (by omega)))]
    by_cases e : p = i
    · subst e; simp
    · rw [decide_eq_false e, show i - p = (i - p - 1) + 1 by omega, Nat.testBit_succ]; simp
theorem pow_le15 {p : Nat} (h : p < 15) : 2 ^ p ≤ 16384 := Nat.pow_le_pow_right (n := 2) (by omega) (show p ≤ 14 by omega)
theorem aft_step {s p : Nat} (hs : s ≤ 32767) (hp : p < 15) : aftK s p ^^^ leapF p * (s / 2 ^ p % 2) = aftK s (p + 1) := by
  have h2 := pow_le15 hp
  have hpos : 0 < 2 ^ p := Nat.pow_pos (by omega)
  have hm : s % 2 ^ p < 2 ^ p := Nat.mod_lt _ hpos
  unfold aftK leapF
  rw [Nat.mod_pow_succ]
  rcases Nat.mod_two_eq_zero_or_one (s / 2 ^ p) with e | e
  · rw [e, Nat.mul_zero, Nat.mul_zero, Nat.xor_zero, Nat.add_zero]
  · rw [e, Nat.mul_one, Nat.mul_one, ← xor_high hm, nxK_xor 217 (by omega) (by omega)]
theorem aft_none (s : Nat) : aftK s 0 = 0 := by
  unfold aftK
  rw [Nat.pow_zero, Nat.mod_one, nxK_none]
theorem aft_all {s : Nat} (h : s ≤ 32767) : aftK s 15 = nxK 217 s := by
  unfold aftK
  rw [Nat.mod_eq_of_lt (by omega)]
theorem aft_le {s : Nat} (h : s ≤ 32767) (p : Nat) : aftK s p ≤ 32767 := nxK_le _ (Nat.le_trans (Nat.mod_le _ _) h)
theorem leap_le {p : Nat} (h : p < 15) : leapF p ≤ 32767 := nxK_le _ (by have := pow_le15 h; omega)
/-- The leap's fifteen numbers, of which the first k are made: digit 0, then from the highest one down. -/
def lpK (k : Nat) : List Int := rowsZ (fun i => if (15 - i) % 15 < k then (leapF i : Int) else 0) 15
theorem lpK_len (k : Nat) : (lpK k).length = 15 := rz_len _ _
theorem lp_digit : ∀ k : Fin 15, nxK k.val 1 = 2 ^ ((15 - k.val) % 15) := by decide +kernel
theorem lp_at {k : Nat} (h : k < 15) : nxK (217 + k) 1 = leapF ((15 - k) % 15) := by
  unfold leapF
  rw [Nat.add_comm, nxK_add, lp_digit ⟨k, h⟩]
theorem lpK_set {k : Nat} (h : k < 15) : (lpK k).set ((15 - k) % 15) (leapF ((15 - k) % 15) : Int) = lpK (k + 1) := by
  refine rz_ext (n := 15) (by simp [lpK_len]) (lpK_len _) fun i hi => ?_
  rw [List.getD_eq_getElem?_getD, List.getElem?_set]
  by_cases e : (15 - k) % 15 = i
  · subst e
    rw [if_pos rfl, if_pos (by rw [lpK_len]; exact hi)]
    unfold lpK
    rw [rz_get _ _ _ hi, if_pos (by omega)]; rfl
  · rw [if_neg e, ← List.getD_eq_getElem?_getD]
    unfold lpK
    rw [rz_get _ _ _ hi, rz_get _ _ _ hi]
    by_cases l : (15 - i) % 15 < k
    · rw [if_pos l, if_pos (by omega)]
    · rw [if_neg l, if_neg (by omega)]
theorem lpK_zero : lpK 0 = List.replicate 15 0 := rz_ext (n := 15) (lpK_len _) (by simp) fun i hi => by
  unfold lpK
  rw [rz_get _ _ _ hi, if_neg (by omega), List.getD_eq_getElem?_getD, List.getElem?_replicate, if_pos hi]; rfl
theorem lpK_get {p : Nat} (h : p < 15) : (lpK 15).getD p 0 = (leapF p : Int) := by
  unfold lpK
  rw [rz_get _ _ _ h, if_pos (by omega)]
/-- The counts behind j leaps from b: 151 at the first state that is met, one less at each further one, 0 elsewhere. -/
def CntIs (b j : Nat) (xs : List Int) : Prop := xs.length = 32768 ∧ ∀ x, x < 32768 → (xs.getD x 0 = 0 ∧ ∀ i, 1 ≤ i → i ≤ j → nxK (217 * i) b ≠ x) ∨ ∃ i, 1 ≤ i ∧ i ≤ j ∧ nxK (217 * i) b = x ∧ xs.getD x 0 = ((152 - i : Nat) : Int)
theorem cnt_zero (b : Nat) : CntIs b 0 (List.replicate 32768 0) :=
  ⟨List.length_replicate, fun x hx => .inl ⟨by rw [List.getD_eq_getElem?_getD, List.getElem?_replicate, if_pos hx]; rfl, fun i h1 h2 => by omega⟩⟩
theorem cnt_step {b j : Nat} {xs : List Int} (h : CntIs b j xs) (hb : b ≤ 32767) : CntIs b (j + 1) (xs.set (nxK (217 * (j + 1)) b) ((152 - (j + 1) : Nat) : Int)) := by
  have hl := nxK_le (217 * (j + 1)) hb
  refine ⟨by rw [List.length_set]; exact h.1, fun x hx => ?_⟩
  have h1 := h.1
  by_cases e : nxK (217 * (j + 1)) b = x
  · refine .inr ⟨j + 1, by omega, by omega, e, ?_⟩
    rw [e, List.getD_eq_getElem?_getD, List.getElem?_set, if_pos rfl, if_pos (by omega)]; rfl
  · have eg : (xs.set (nxK (217 * (j + 1)) b) ((152 - (j + 1) : Nat) : Int)).getD x 0 = xs.getD x 0 := by
      rw [List.getD_eq_getElem?_getD, List.getElem?_set, if_neg e, ← List.getD_eq_getElem?_getD]
    rw [eg]
    rcases h.2 x hx with ⟨h2, h3⟩ | ⟨i, h2, h3, h4, h5⟩
    · refine .inl ⟨h2, fun i i1 i2 => ?_⟩
      by_cases ei : i = j + 1
      · subst ei; exact e
      · exact h3 i i1 (by omega)
    · exact .inr ⟨i, h2, by omega, h4, h5⟩
theorem nxK_round {b : Nat} (h1 : 1 ≤ b) (h2 : b ≤ 32767) : nxK 32767 b = b := by
  obtain ⟨j, hj, rfl⟩ := noise_hit h1 h2
  rw [← nxK_add, Nat.add_comm, noise_round]
/-- What leads from a to b in fewer than all steps is the distance. -/
theorem dist_mk {a b n : Nat} (ha : 1 ≤ a ∧ a ≤ 32767) (hb : 1 ≤ b ∧ b ≤ 32767) (h : nxK n a = b) (hn : n < 32767) : IsDist a b n := by
  obtain ⟨i, hi, rfl⟩ := noise_hit ha.1 ha.2
  obtain ⟨j, hj, rfl⟩ := noise_hit hb.1 hb.2
  have h1 := dist_at hi hj
  rw [← nxK_add, noise_at] at h
  have := noise_once (Nat.mod_lt _ (by omega)) hj h
  rwa [show (j + 32767 - i) % 32767 = n by omega] at h1
/-- The walk to a marked state: fewer steps than the distance modulo a leap leave a state unmarked at the most. -/
theorem walk_mark {a b d : Nat} {xs : List Int} (ha : 1 ≤ a ∧ a ≤ 32767) (hb : 1 ≤ b ∧ b ≤ 32767) (h : CntIs b 151 xs) (hd : IsDist a b d) (hd2 : d < 32767) : xs.getD (nxK (d % 217) a) 0 ≠ 0 := by
  have hs := nxK_state (d % 217) ha.1 ha.2
  rcases h.2 (nxK (d % 217) a) (by omega) with ⟨h1, h2⟩ | ⟨i, h1, h2, h3, h4⟩
  · exfalso
    refine h2 (151 - d / 217) (by omega) (by omega) ?_
    have e : nxK (217 * (d / 217)) (nxK (d % 217) a) = b := by
      rw [← nxK_add, ← hd.1]
      congr 1
      omega
    have e2 : nxK (217 * (151 - d / 217)) b = nxK 32767 (nxK (d % 217) a) := by
      rw [← e, ← nxK_add]
      congr 1
      omega
    rw [e2, nxK_round hs.1 hs.2]
  · rw [h4]; omega
theorem walk_done {a b d s : Nat} {xs : List Int} (ha : 1 ≤ a ∧ a ≤ 32767) (hb : 1 ≤ b ∧ b ≤ 32767) (h : CntIs b 151 xs) (hd : IsDist a b d) (hd2 : d < 32767) (hs : s ≤ d % 217) (h0 : xs.getD (nxK s a) 0 ≠ 0) :
    ∃ i, 1 ≤ i ∧ i ≤ 151 ∧ xs.getD (nxK s a) 0 = ((i : Nat) : Int) ∧ s + 217 * (i - 1) = d := by
  have hk := nxK_state s ha.1 ha.2
  rcases h.2 (nxK s a) (by omega) with ⟨h1, h2⟩ | ⟨i, h1, h2, h3, h4⟩
  · exact absurd h1 h0
  · refine ⟨152 - i, by omega, by omega, h4, ?_⟩
    have e : nxK (s + 217 * (152 - i - 1)) a = b := by
      rw [nxK_add, ← h3, ← nxK_add, show 217 * i + 217 * (152 - i - 1) = 32767 by omega, nxK_round hb.1 hb.2]
    exact (dist_mk ha hb e (by omega)).unique hd
/-- The distance, reckoned. -/
def goN : Nat → Nat → Nat → Nat
  | 0, _, _ => 0
  | k + 1, a, b => if a = b then 0 else goN k (nx a) b + 1
theorem goN_eq : ∀ (k : Nat) {n a b : Nat}, IsDist a b n → n ≤ k → goN k a b = n
  | 0, n, a, b, h, hn => by
    unfold goN; omega
  | k + 1, n, a, b, h, hn => by
    unfold goN
    by_cases e : a = b
    · rw [if_pos e]
      subst e
      exact (IsDist.zero a).unique h
    · rw [if_neg e]
      cases n with
      | zero => exact absurd h.1 e
      | succ m => rw [goN_eq k h.step (by omega)]
def distN (a b : Nat) : Nat := goN 32767 a b
theorem distN_eq {a b n : Nat} (h : IsDist a b n) (hn : n < 32767) : distN a b = n := goN_eq _ h (by omega)
/-- The answers: the next state, the samples, the distance. -/
def stB (x : Int) : Bool := betB x 1 32767
def nxT (x : Int) : Int := if betB x 1 32767 = true then (nx x.toNat : Int) else 0
def smK (s n : Nat) : List Int := rowsZ (fun k => ((nxK k s % 2 : Nat) : Int)) n
def smB (x n : Int) : Bool := betB x 1 32767 && betB n 0 400
def smT (x n : Int) : List Int := if smB x n = true then smK x.toNat n.toNat else []
def dsB (a b : Int) : Bool := betB a 1 32767 && betB b 1 32767
def dsT (a b : Int) : Int := if dsB a b = true then (distN a.toNat b.toNat : Int) else -1
theorem betB_is {a l h : Int} : betB a l h = true ↔ l ≤ a ∧ a ≤ h := by simp [betB]
theorem betB_not {a l h : Int} (e : ¬ (l ≤ a ∧ a ≤ h)) : betB a l h = false := by
  cases k : betB a l h
  · rfl
  · exact absurd (betB_is.1 k) e
theorem nxT_at {S : Nat} (h1 : 1 ≤ S) (h2 : S ≤ 32767) : nxT (S : Int) = (nx S : Int) := by
  unfold nxT
  rw [if_pos (betB_is.2 (by omega))]; rfl
theorem nxT_no {x : Int} (h : betB x 1 32767 = false) : nxT x = 0 := by
  unfold nxT
  rw [if_neg (by rw [h]; simp)]
theorem smK_len (s n : Nat) : (smK s n).length = n := rz_len _ _
theorem smT_le (x n : Int) : (smT x n).length ≤ 400 := by
  unfold smT
  by_cases h : smB x n = true
  · rw [if_pos h, smK_len]
    unfold smB at h
    rw [Bool.and_eq_true] at h
    have := betB_is.1 h.2
    omega
  · rw [if_neg h]; simp
theorem smT_yes {S N : Nat} (h1 : 1 ≤ S) (h2 : S ≤ 32767) (h3 : N ≤ 400) : smT (S : Int) (N : Int) = smK S N := by
  unfold smT smB
  rw [if_pos (by rw [Bool.and_eq_true]; exact ⟨betB_is.2 (by omega), betB_is.2 (by omega)⟩)]; rfl
theorem smT_no {x n : Int} (h : smB x n = false) : smT x n = [] := by
  unfold smT
  rw [if_neg (by rw [h]; simp)]
theorem smK_get (s n i : Nat) (hi : i < n) : (smK s n).getD i 0 = ((nxK i s % 2 : Nat) : Int) := rz_get _ _ _ hi
theorem smK_succ (s n : Nat) : smK s (n + 1) = smK s n ++ [((nxK n s % 2 : Nat) : Int)] := by
  unfold smK rowsZ
  rw [List.range_succ, List.map_append]; rfl
theorem smK_take (s n m : Nat) (h : m ≤ n) : (smK s n).take m = smK s m := by
  unfold smK rowsZ
  rw [← List.map_take, List.take_range, Nat.min_eq_left h]
/-- Samples of which the first k are made. -/
def smM (s n k : Nat) : List Int := rowsZ (fun i => if i < k then ((nxK i s % 2 : Nat) : Int) else 0) n
theorem smM_len (s n k : Nat) : (smM s n k).length = n := rz_len _ _
theorem smM_zero (s n : Nat) : smM s n 0 = List.replicate n 0 := rz_ext (n := n) (smM_len _ _ _) (by simp) fun i hi => by
  unfold smM
  rw [rz_get _ _ _ hi, if_neg (by omega), List.getD_eq_getElem?_getD, List.getElem?_replicate, if_pos hi]; rfl
theorem smM_all (s n : Nat) : smM s n n = smK s n := rz_ext (n := n) (smM_len _ _ _) (smK_len _ _) fun i hi => by
  unfold smM
  rw [rz_get _ _ _ hi, if_pos hi, smK_get _ _ _ hi]
theorem smM_set (s n k : Nat) (hk : k < n) : (smM s n k).set k ((nxK k s % 2 : Nat) : Int) = smM s n (k + 1) := by
  refine rz_ext (n := n) (by simp [smM_len]) (smM_len _ _ _) fun i hi => ?_
  rw [List.getD_eq_getElem?_getD, List.getElem?_set]
  by_cases e : k = i
  · subst e
    rw [if_pos rfl, if_pos (by rw [smM_len]; exact hi)]
    unfold smM; rw [rz_get _ _ _ hi, if_pos (by omega)]; rfl
  · rw [if_neg e, ← List.getD_eq_getElem?_getD]
    unfold smM; rw [rz_get _ _ _ hi, rz_get _ _ _ hi]
    by_cases l : i < k
    · rw [if_pos l, if_pos (by omega)]
    · rw [if_neg l, if_neg (by omega)]
theorem dsT_at {a b n : Nat} (ha : 1 ≤ a ∧ a ≤ 32767) (hb : 1 ≤ b ∧ b ≤ 32767) (h : IsDist a b n) (hn : n < 32767) : dsT (a : Int) (b : Int) = (n : Int) := by
  unfold dsT dsB
  rw [if_pos (by rw [Bool.and_eq_true]; exact ⟨betB_is.2 (by omega), betB_is.2 (by omega)⟩), ← distN_eq h hn]; rfl
theorem dsT_no {a b : Int} (h : dsB a b = false) : dsT a b = -1 := by
  unfold dsT
  rw [if_neg (by rw [h]; simp)]
end Go.Proofs.Ytkglocdmpfjafaa
