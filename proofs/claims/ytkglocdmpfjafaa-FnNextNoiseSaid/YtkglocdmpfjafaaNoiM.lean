/- Noise as plain numbers: the states are on one circle of 32767. -/
import Derived.Test.YtkglocdmpfjafaaGA
namespace Go.Proofs.Ytkglocdmpfjafaa
set_option linter.unusedVariables false

/-- The next state; the state behind k steps. -/
def nx (s : Nat) : Nat := s / 2 + (s ^^^ s / 2) % 2 * 16384
def nxK : Nat → Nat → Nat
  | 0, s => s
  | k + 1, s => nxK k (nx s)
theorem nxK_add (a : Nat) : ∀ b s, nxK (b + a) s = nxK a (nxK b s)
  | 0, s => by rw [Nat.zero_add]; rfl
  | b + 1, s => by
    rw [show b + 1 + a = (b + a) + 1 by omega]
    exact nxK_add a b (nx s)
theorem nxK_succ (k s : Nat) : nxK (k + 1) s = nx (nxK k s) := by rw [nxK_add 1 k s]; rfl
/-- 2 ^ d steps that never meet a state whose digit stands in m; the digits of what they meet are set. -/
def roundN : Nat → Nat × Nat → Option (Nat × Nat)
  | 0, (s, m) => if Nat.testBit m s then none else some (nx s, m ||| 2 ^ s)
  | d + 1, st => (roundN d st).bind (roundN d)
def roundsN : List Nat → Nat × Nat → Option (Nat × Nat)
  | [], st => some st
  | d :: ds, st => (roundN d st).bind (roundsN ds)
def fullN : Nat := 2 ^ 32768 - 2
set_option maxRecDepth 100000 in
theorem noise_run : roundsN [14, 13, 12, 11, 10, 9, 8, 7, 6, 5, 4, 3, 2, 1, 0] (1, 0) = some (1, fullN) := by decide +kernel
/-- What n such steps tell. -/
structure Met (n s m s' m' : Nat) : Prop where
  last : s' = nxK n s
  digit : ∀ t, m'.testBit t = true ↔ m.testBit t = true ∨ ∃ k, k < n ∧ nxK k s = t
  fresh : ∀ k, k < n → m.testBit (nxK k s) = false
  once : ∀ i j, i < j → j < n → nxK i s ≠ nxK j s
theorem Met.one {s m : Nat} (h : m.testBit s = false) : Met 1 s m (nx s) (m ||| 2 ^ s) where
  last := rfl
  digit := fun t => by
    rw [Nat.testBit_or, Bool.or_eq_true, Nat.testBit_two_pow, decide_eq_true_iff]
    constructor
    · rintro (h1 | h1)
      · exact .inl h1
      · exact .inr ⟨0, by omega, h1⟩
    · rintro (h1 | ⟨k, hk, h1⟩)
      · exact .inl h1
      · obtain rfl : k = 0 := by omega
        exact .inr h1
  fresh := fun k hk => by
    obtain rfl : k = 0 := by omega
    exact h
  once := fun i j hi hj => by omega
theorem Met.join {n n' s m s1 m1 s2 m2 : Nat} (h : Met n s m s1 m1) (k : Met n' s1 m1 s2 m2) : Met (n + n') s m s2 m2 where
  last := by rw [k.last, h.last, nxK_add]
  digit := fun t => by
    rw [k.digit, h.digit, h.last]
    constructor
    · rintro ((h1 | ⟨i, hi, h1⟩) | ⟨i, hi, h1⟩)
      · exact .inl h1
      · exact .inr ⟨i, by omega, h1⟩
      · exact .inr ⟨n + i, by omega, by rw [nxK_add]; exact h1⟩
    · rintro (h1 | ⟨i, hi, h1⟩)
      · exact .inl (.inl h1)
      · by_cases hn : i < n
        · exact .inl (.inr ⟨i, hn, h1⟩)
        · refine .inr ⟨i - n, by omega, ?_⟩
          rw [← nxK_add, show n + (i - n) = i by omega]
          exact h1
  fresh := fun i hi => by
    by_cases hn : i < n
    · exact h.fresh i hn
    · have h1 := k.fresh (i - n) (by omega)
      rw [h.last, ← nxK_add, show n + (i - n) = i by omega] at h1
      cases hm : m.testBit (nxK i s)
      · rfl
      · rw [(h.digit _).2 (.inl hm)] at h1
        cases h1
  once := fun i j hij hj => by
    by_cases hn : j < n
    · exact h.once i j hij hn
    · have e : nxK j s = nxK (j - n) s1 := by rw [h.last, ← nxK_add, show n + (j - n) = j by omega]
      by_cases hi : i < n
      · intro he
        have h1 := k.fresh (j - n) (by omega)
        rw [← e, ← he, (h.digit _).2 (.inr ⟨i, hi, rfl⟩)] at h1
        cases h1
      · have e2 : nxK i s = nxK (i - n) s1 := by rw [h.last, ← nxK_add, show n + (i - n) = i by omega]
        rw [e, e2]
        exact k.once (i - n) (j - n) (by omega) (by omega)
theorem Met.nil (s m : Nat) : Met 0 s m s m where
  last := rfl
  digit := fun t => ⟨.inl, fun h => h.elim id fun ⟨k, hk, _⟩ => by omega⟩
  fresh := fun k hk => by omega
  once := fun i j hi hj => by omega
theorem roundN_met : ∀ (d : Nat) {s m s' m' : Nat}, roundN d (s, m) = some (s', m') → Met (2 ^ d) s m s' m'
  | 0, s, m, s', m', h => by
    unfold roundN at h
    by_cases hm : m.testBit s = true
    · rw [if_pos hm] at h; cases h
    · rw [if_neg hm] at h
      injection h with h
      injection h with h1 h2
      subst h1 h2
      exact Met.one (by simpa using hm)
  | d + 1, s, m, s', m', h => by
    unfold roundN at h
    cases hx : roundN d (s, m) with
    | none => rw [hx] at h; cases h
    | some st =>
      obtain ⟨s1, m1⟩ := st
      rw [hx] at h
      have h1 := roundN_met d hx
      have h2 := roundN_met d (show roundN d (s1, m1) = some (s', m') from h)
      rw [Nat.pow_succ, Nat.mul_two]
      exact h1.join h2
def sumN : List Nat → Nat
  | [] => 0
  | d :: ds => 2 ^ d + sumN ds
theorem roundsN_met : ∀ (ds : List Nat) {s m s' m' : Nat}, roundsN ds (s, m) = some (s', m') → Met (sumN ds) s m s' m'
  | [], s, m, s', m', h => by
    injection h with h
    injection h with h1 h2
    subst h1 h2
    exact Met.nil s m
  | d :: ds, s, m, s', m', h => by
    unfold roundsN at h
    cases hx : roundN d (s, m) with
    | none => rw [hx] at h; cases h
    | some st =>
      obtain ⟨s1, m1⟩ := st
      rw [hx] at h
      exact (roundN_met d hx).join (roundsN_met ds (show roundsN ds (s1, m1) = some (s', m') from h))
theorem noise_met : Met 32767 1 0 1 fullN := roundsN_met _ noise_run
theorem full_bit {t : Nat} (h1 : 1 ≤ t) (h2 : t ≤ 32767) : fullN.testBit t = true := by
  unfold fullN
  obtain ⟨n, hn⟩ : ∃ n, 32768 = n := ⟨_, rfl⟩
  rw [hn, show 2 = 1 + 1 from rfl, Nat.testBit_two_pow_sub_succ (Nat.one_lt_two_pow (by omega))]
  have h3 : Nat.testBit 1 t = false := by
    rw [show (1 : Nat) = 2 ^ 0 from rfl, Nat.testBit_two_pow]
    simp
    omega
  rw [h3, decide_eq_true (by omega)]
  rfl
/-- All states are met, each once; the circle is closed. -/
theorem noise_hit {t : Nat} (h1 : 1 ≤ t) (h2 : t ≤ 32767) : ∃ k, k < 32767 ∧ nxK k 1 = t := by
  rcases (noise_met.digit t).1 (full_bit h1 h2) with h | h
  · simp at h
  · exact h
theorem noise_back : nxK 32767 1 = 1 := noise_met.last.symm
theorem noise_once {i j : Nat} (hi : i < 32767) (hj : j < 32767) (h : nxK i 1 = nxK j 1) : i = j := by
  by_cases e : i = j
  · exact e
  · exfalso
    by_cases hl : i < j
    · exact noise_met.once i j hl hj h
    · exact noise_met.once j i (by omega) hi h.symm
theorem xor_mod2 (a b : Nat) : (a ^^^ b) % 2 = (a % 2 + b % 2) % 2 := by
  have h := Nat.xor_mod_two_eq_one (a := a) (b := b)
  have h1 := Nat.mod_two_eq_zero_or_one a
  have h2 := Nat.mod_two_eq_zero_or_one b
  have h3 := Nat.mod_two_eq_zero_or_one (a ^^^ b)
  rcases h1 with h1 | h1 <;> rcases h2 with h2 | h2 <;> rcases h3 with h3 | h3 <;> simp_all
theorem nx_eq (s : Nat) : nx s = s / 2 + (s % 2 + s / 2 % 2) % 2 * 16384 := by
  unfold nx
  rw [xor_mod2]
/-- The next state is a state, and tells the state. -/
theorem nx_state {s : Nat} (h1 : 1 ≤ s) (h2 : s ≤ 32767) : 1 ≤ nx s ∧ nx s ≤ 32767 := by
  rw [nx_eq]
  rcases Nat.mod_two_eq_zero_or_one s with e1 | e1 <;> rcases Nat.mod_two_eq_zero_or_one (s / 2) with e2 | e2 <;> rw [e1, e2] <;> omega
theorem nx_prev {s : Nat} (h2 : s ≤ 32767) : 2 * nx s % 32768 + (nx s / 16384 ^^^ nx s) % 2 = s := by
  rw [xor_mod2, nx_eq]
  rcases Nat.mod_two_eq_zero_or_one s with e1 | e1 <;> rcases Nat.mod_two_eq_zero_or_one (s / 2) with e2 | e2 <;> rw [e1, e2] <;> omega
theorem nx_inj {s t : Nat} (hs : s ≤ 32767) (ht : t ≤ 32767) (h : nx s = nx t) : s = t := by
  rw [← nx_prev hs, ← nx_prev ht, h]
theorem nxK_state : ∀ (k : Nat) {s : Nat}, 1 ≤ s → s ≤ 32767 → 1 ≤ nxK k s ∧ nxK k s ≤ 32767
  | 0, s, h1, h2 => ⟨h1, h2⟩
  | k + 1, s, h1, h2 => nxK_state k (nx_state h1 h2).1 (nx_state h1 h2).2
theorem noise_round (k : Nat) : nxK (32767 + k) 1 = nxK k 1 := by rw [nxK_add, noise_back]
theorem noise_mod : ∀ (q k : Nat), nxK (32767 * q + k) 1 = nxK k 1
  | 0, k => by rw [Nat.mul_zero, Nat.zero_add]
  | q + 1, k => by rw [show 32767 * (q + 1) + k = 32767 + (32767 * q + k) by omega, noise_round, noise_mod q k]
theorem noise_at (k : Nat) : nxK k 1 = nxK (k % 32767) 1 := by
  have h := noise_mod (k / 32767) (k % 32767)
  rwa [Nat.div_add_mod] at h
/-- n is the least number of steps from a to b. -/
def IsDist (a b n : Nat) : Prop := nxK n a = b ∧ ∀ j, j < n → nxK j a ≠ b
theorem IsDist.unique {a b n m : Nat} (h : IsDist a b n) (k : IsDist a b m) : n = m := by
  by_cases h1 : n < m
  · exact absurd h.1 (k.2 n h1)
  · by_cases h2 : m < n
    · exact absurd k.1 (h.2 m h2)
    · omega
theorem IsDist.zero (a : Nat) : IsDist a a 0 := ⟨rfl, fun j hj => by omega⟩
theorem IsDist.step {a b n : Nat} (h : IsDist a b (n + 1)) : IsDist (nx a) b n := ⟨h.1, fun j hj => h.2 (j + 1) (by omega)⟩
theorem IsDist.back {a b n : Nat} (hn : a ≠ b) (h : IsDist (nx a) b n) : IsDist a b (n + 1) := ⟨h.1, fun j hj => by
  cases j with
  | zero => exact hn
  | succ j => exact h.2 j (by omega)⟩
/-- Places on the circle: the distance is the difference of the places. -/
theorem dist_at {i j : Nat} (hi : i < 32767) (hj : j < 32767) : IsDist (nxK i 1) (nxK j 1) ((j + 32767 - i) % 32767) := by
  constructor
  · rw [← nxK_add, noise_at]
    congr 1
    omega
  · intro k hk
    rw [← nxK_add, noise_at]
    intro h
    have := noise_once (Nat.mod_lt _ (by omega)) hj h
    omega
theorem dist_ex {a b : Nat} (ha : 1 ≤ a ∧ a ≤ 32767) (hb : 1 ≤ b ∧ b ≤ 32767) : ∃ n, n < 32767 ∧ IsDist a b n := by
  obtain ⟨i, hi, rfl⟩ := noise_hit ha.1 ha.2
  obtain ⟨j, hj, rfl⟩ := noise_hit hb.1 hb.2
  exact ⟨_, Nat.mod_lt _ (by omega), dist_at hi hj⟩
theorem dist_sum {a b n m : Nat} (ha : 1 ≤ a ∧ a ≤ 32767) (hb : 1 ≤ b ∧ b ≤ 32767) (hab : a ≠ b) (h : IsDist a b n) (k : IsDist b a m) : n + m = 32767 := by
  obtain ⟨i, hi, rfl⟩ := noise_hit ha.1 ha.2
  obtain ⟨j, hj, rfl⟩ := noise_hit hb.1 hb.2
  rw [h.unique (dist_at hi hj), k.unique (dist_at hj hi)]
  have : i ≠ j := by rintro rfl; exact hab rfl
  omega
/-- The digits of a sum without carries. -/
theorem xor_div2 (a b : Nat) : (a ^^^ b) / 2 = a / 2 ^^^ b / 2 := by
  apply Nat.eq_of_testBit_eq
  intro i
  rw [Nat.testBit_div_two, Nat.testBit_xor, Nat.testBit_xor, Nat.testBit_div_two, Nat.testBit_div_two]
theorem xor_bit {x y c : Nat} (hx : x < 16384) (hy : y < 16384) (u v : Nat) (hu : u < 2) (hv : v < 2) : (x + u * 16384) ^^^ (y + v * 16384) = (x ^^^ y) + (u + v) % 2 * 16384 := by
  have e : ∀ (z t : Nat), z < 16384 → z + t * 16384 = 2 ^ 14 * t + z := fun z t hz => by omega
  have hz : x ^^^ y < 2 ^ 14 := Nat.xor_lt_two_pow (by omega) (by omega)
  have hc : (u = 0 ∨ u = 1) ∧ (v = 0 ∨ v = 1) := by omega
  apply Nat.eq_of_testBit_eq
  intro i
  rw [e _ _ hx, e _ _ hy, e _ _ (by omega), Nat.testBit_xor, Nat.testBit_two_pow_mul_add _ (by omega), Nat.testBit_two_pow_mul_add _ (by omega), Nat.testBit_two_pow_mul_add _ hz]
  by_cases hi : i < 14
  · rw [if_pos hi, if_pos hi, if_pos hi, Nat.testBit_xor]
  · rw [if_neg hi, if_neg hi, if_neg hi]
    rcases hc with ⟨rfl | rfl, rfl | rfl⟩ <;> simp
theorem nx_xor {a b : Nat} (ha : a ≤ 32767) (hb : b ≤ 32767) : nx (a ^^^ b) = nx a ^^^ nx b := by
  rw [nx_eq a, nx_eq b, xor_bit (c := 0) (by omega) (by omega) _ _ (by omega) (by omega), nx_eq, xor_mod2, xor_div2, xor_mod2]
  congr 2
  omega
end Go.Proofs.Ytkglocdmpfjafaa
