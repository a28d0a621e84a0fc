/- What the laws of chapter 5 ask, as plain mathematics: what one step leaves, runs in two parts, the first time at an address, waiting. -/
import Derived.Test.YtcapfafglikcmaaDoorKH
import Derived.Test.YtcapfafglikcmaaDoorKA
namespace Go.Proofs.YtcapfafglikcmaaDoor

theorem runX_yes {X : Mach} (g : machB X = true) {s : Int} (s0 : 0 ≤ s) (s1 : s ≤ 500) : runX X s = runN X s.toNat := by
  unfold runX; rw [if_pos ⟨by simp [stepsB, s0, s1], g⟩]
theorem runX_out {X : Mach} {s : Int} (h : machB X = false ∨ s < 0 ∨ 500 < s) : runX X s = machZ := by
  unfold runX
  rw [if_neg]
  rintro ⟨h1, h2⟩
  have hs : 0 ≤ s ∧ s ≤ 500 := by simpa [stepsB] using h1
  rcases h with h | h | h
  · rw [h] at h2; cases h2
  · omega
  · omega
theorem runX_step {X : Mach} (g : machB X = true) : runX X 1 = stepN X := by rw [runX_yes g (by omega) (by omega)]; rfl
theorem runX_zero {X : Mach} (g : machB X = true) : runX X 0 = X := by rw [runX_yes g (by omega) (by omega)]; rfl
/-- A run of few cycles stays valid. -/
theorem run_valid {X : Mach} (g : machB X = true) (hc : X.cyc ≤ 99) (k : Nat) (hk : k ≤ 500) : machB (runN X k) = true := by
  have h := goodX_of g
  have h2 : GoodX X 99 := ⟨h.mem, h.a0, h.a1, h.t0, h.t1, h.len, h.back, h.c0, hc⟩
  exact validX_of (good_more (good_run h2 k) (by omega))
theorem runX_valid {X : Mach} (g : machB X = true) (hc : X.cyc ≤ 99) {s : Int} (s0 : 0 ≤ s) (s1 : s ≤ 500) : machB (runX X s) = true := by
  rw [runX_yes g s0 s1]; exact run_valid g hc _ (by omega)
theorem runX_parts {X : Mach} (g : machB X = true) (hc : X.cyc ≤ 99) {s h : Int} (h0 : 0 ≤ h) (h1 : h ≤ s) (s1 : s ≤ 500) : runX (runX X h) (s - h) = runX X s := by
  rw [runX_yes (runX_valid g hc h0 (by omega)) (by omega) (by omega), runX_yes g h0 (by omega), runX_yes g (by omega) s1, run_add]
  congr 1
  omega
theorem runX_ram {X : Mach} (g : machB X = true) {s : Int} (s0 : 0 ≤ s) (s1 : s ≤ 500) : (runX X s).mem.ram.length = 256 := by
  rw [runX_yes g s0 s1]; exact (run_good g _ (by omega)).mem.ram
theorem machZ_ram : machZ.mem.ram.length = 0 := rfl
/-- The number of places below k at which two lists differ. -/
def diffN (xs ys : List Int) : Nat → Nat
  | 0 => 0
  | k + 1 => diffN xs ys k + if xs.getD k 0 = ys.getD k 0 then 0 else 1
theorem diff_same (xs : List Int) (k : Nat) : diffN xs xs k = 0 := by
  induction k with
  | zero => rfl
  | succ k ih => unfold diffN; rw [ih, if_pos rfl]
theorem diff_set (xs : List Int) (i : Nat) (v : Int) (k : Nat) : diffN (xs.set i v) xs k ≤ if i < k then 1 else 0 := by
  induction k with
  | zero => exact Nat.zero_le _
  | succ k ih =>
    unfold diffN
    by_cases h : k = i
    · subst h
      rw [if_neg (show ¬ k < k by omega)] at ih
      rw [if_pos (show k < k + 1 by omega)]
      split <;> omega
    · have e : (xs.set i v).getD k 0 = xs.getD k 0 := by
        simp only [List.getD_eq_getElem?_getD, List.getElem?_set]
        rw [if_neg (fun e => h e.symm)]
      rw [if_pos e]
      by_cases hk : i < k
      · rw [if_pos hk] at ih; rw [if_pos (show i < k + 1 by omega)]; omega
      · rw [if_neg hk] at ih; omega
theorem diff_le (xs ys : List Int) (k : Nat) : diffN xs ys k ≤ k := by
  induction k with
  | zero => exact Nat.le_refl _
  | succ k ih => unfold diffN; split <;> omega
/-- What an instruction leaves as it was. -/
theorem do_keeps (X : Mach) (op arg : Int) : (doN X op arg).mem.rom = X.mem.rom ∧ (doN X op arg).cyc = X.cyc ∧ (doN X op arg).back.length ≤ X.back.length + 1 ∧ X.back.length ≤ (doN X op arg).back.length + 1 ∧ ((doN X op arg).mem.ram = X.mem.ram ∨ (op = 3 ∧ ∃ (i : Nat) (v : Int), (doN X op arg).mem.ram = X.mem.ram.set i v)) := by
  by_cases e3 : op = 3
  · subst e3
    rw [doN_3]
    refine ⟨?_, rfl, Nat.le_add_right _ _, Nat.le_add_right _ _, ?_⟩
    · show (writeN X.mem arg.toNat X.a).rom = X.mem.rom
      unfold writeN
      split
      · rfl
      · split <;> rfl
    · show (writeN X.mem arg.toNat X.a).ram = X.mem.ram ∨ (3 = 3 ∧ ∃ (i : Nat) (v : Int), (writeN X.mem arg.toNat X.a).ram = X.mem.ram.set i v)
      unfold writeN
      split
      · exact .inr ⟨rfl, _, _, rfl⟩
      · split <;> exact .inl rfl
  · by_cases e13 : op = 13
    · subst e13
      rw [doN_13]
      split
      · exact ⟨rfl, rfl, Nat.le_add_right _ _, Nat.le_add_right _ _, .inl rfl⟩
      · exact ⟨rfl, rfl, by simp, by simp; omega, .inl rfl⟩
    · by_cases e14 : op = 14
      · subst e14
        rw [doN_14]
        split
        · exact ⟨rfl, rfl, Nat.le_add_right _ _, Nat.le_add_right _ _, .inl rfl⟩
        · exact ⟨rfl, rfl, by simp; omega, by simp; omega, .inl rfl⟩
      · by_cases h : op < 1 ∨ 15 < op
        · rw [doN_no X op arg h]
          exact ⟨rfl, rfl, Nat.le_add_right _ _, Nat.le_add_right _ _, .inl rfl⟩
        · have hc : op = 1 ∨ op = 2 ∨ op = 4 ∨ op = 5 ∨ op = 6 ∨ op = 7 ∨ op = 8 ∨ op = 9 ∨ op = 10 ∨ op = 11 ∨ op = 12 ∨ op = 15 := by omega
          rcases hc with rfl | rfl | rfl | rfl | rfl | rfl | rfl | rfl | rfl | rfl | rfl | rfl
          · rw [doN_1]; exact ⟨rfl, rfl, Nat.le_add_right _ _, Nat.le_add_right _ _, .inl rfl⟩
          · rw [doN_2]; exact ⟨rfl, rfl, Nat.le_add_right _ _, Nat.le_add_right _ _, .inl rfl⟩
          · rw [doN_4]; exact ⟨rfl, rfl, Nat.le_add_right _ _, Nat.le_add_right _ _, .inl rfl⟩
          · rw [doN_5]; exact ⟨rfl, rfl, Nat.le_add_right _ _, Nat.le_add_right _ _, .inl rfl⟩
          · rw [doN_6]; exact ⟨rfl, rfl, Nat.le_add_right _ _, Nat.le_add_right _ _, .inl rfl⟩
          · rw [doN_7]; exact ⟨rfl, rfl, Nat.le_add_right _ _, Nat.le_add_right _ _, .inl rfl⟩
          · rw [doN_8]; exact ⟨rfl, rfl, Nat.le_add_right _ _, Nat.le_add_right _ _, .inl rfl⟩
          · rw [doN_9]; exact ⟨rfl, rfl, Nat.le_add_right _ _, Nat.le_add_right _ _, .inl rfl⟩
          · rw [doN_10]; exact ⟨rfl, rfl, Nat.le_add_right _ _, Nat.le_add_right _ _, .inl rfl⟩
          · rw [doN_11]
            split
            · exact ⟨rfl, rfl, Nat.le_add_right _ _, Nat.le_add_right _ _, .inl rfl⟩
            · exact ⟨rfl, rfl, Nat.le_add_right _ _, Nat.le_add_right _ _, .inl rfl⟩
          · rw [doN_12]
            split
            · exact ⟨rfl, rfl, Nat.le_add_right _ _, Nat.le_add_right _ _, .inl rfl⟩
            · exact ⟨rfl, rfl, Nat.le_add_right _ _, Nat.le_add_right _ _, .inl rfl⟩
          · rw [doN_15]; exact ⟨rfl, rfl, Nat.le_add_right _ _, Nat.le_add_right _ _, .inl rfl⟩
theorem step_keeps {X : Mach} (g : machB X = true) : (stepN X).mem.rom = X.mem.rom ∧ (X.cyc ≤ (stepN X).cyc ∧ (stepN X).cyc ≤ X.cyc + 3) ∧ ((stepN X).back.length ≤ X.back.length + 1 ∧ X.back.length ≤ (stepN X).back.length + 1) ∧ (diffN (stepN X).mem.ram X.mem.ram 256 = 0 ∨ (diffN (stepN X).mem.ram X.mem.ram 256 = 1 ∧ readN X.mem X.at_.toNat = 3)) := by
  have gd := goodX_of g
  have t0 := gd.t0
  have t1 := gd.t1
  unfold stepN
  split
  · exact ⟨rfl, ⟨Int.le_refl _, by omega⟩, ⟨Nat.le_add_right _ _, Nat.le_add_right _ _⟩, .inl (diff_same _ _)⟩
  · split
    · exact ⟨rfl, ⟨Int.le_refl _, by show X.cyc ≤ X.cyc + 3; omega⟩, ⟨Nat.le_add_right _ _, Nat.le_add_right _ _⟩, .inl (diff_same _ _)⟩
    · rename_i op arg h
      obtain ⟨h1, _⟩ := dec_fit h
      have hb := lenN_bd op
      obtain ⟨k1, k2, k3, k4, k5⟩ := do_keeps (moveN X op) op arg
      have k2' : (doN (moveN X op) op arg).cyc = X.cyc + lenN op := k2
      refine ⟨k1, ⟨by omega, by omega⟩, ⟨k3, k4⟩, ?_⟩
      rcases k5 with k5 | ⟨k5, i, v, k6⟩
      · left
        rw [k5]
        exact diff_same _ _
      · have k6' : (doN (moveN X op) op arg).mem.ram = X.mem.ram.set i v := k6
        rw [k6']
        have hd := diff_set X.mem.ram i v 256
        have hd1 : diffN (X.mem.ram.set i v) X.mem.ram 256 ≤ 1 := by
          refine Nat.le_trans hd ?_
          split <;> omega
        rcases Nat.lt_or_ge (diffN (X.mem.ram.set i v) X.mem.ram 256) 1 with h0 | h0
        · left; omega
        · right
          refine ⟨by omega, ?_⟩
          have e : (bytesN X.mem X.at_.toNat).getD 0 0 = readN X.mem (X.at_.toNat % 1024) := rfl
          rw [e, Nat.mod_eq_of_lt (by omega)] at h1
          rw [← h1, k5]
theorem step_stopped {X : Mach} (h : X.stop = true) : stepN X = X := by unfold stepN; rw [if_pos h]
/-- The first time at an address. -/
theorem until_ends (ad : Int) (f : Nat) : ∀ (j : Nat) (X : Mach), (untilN ad f j X).2.stop = true ∨ (untilN ad f j X).2.at_ = ad ∨ (untilN ad f j X).1 = j + f := by
  induction f with
  | zero => intro j X; exact .inr (.inr rfl)
  | succ f ih =>
    intro j X
    unfold untilN
    split
    · rename_i h; exact .inl h
    · split
      · rename_i h; exact .inr (.inl h)
      · rcases ih (j + 1) (stepN X) with h | h | h
        · exact .inl h
        · exact .inr (.inl h)
        · exact .inr (.inr (by omega))
theorem until_first (ad : Int) (X : Mach) (f : Nat) : ∀ j i, j < i → i < (untilN ad f j (runN X j)).1 → (runN X i).at_ ≠ ad := by
  induction f with
  | zero => intro j i h1 h2; exact absurd h2 (by show ¬ i < j; omega)
  | succ f ih =>
    intro j i h1 h2
    unfold untilN at h2
    split at h2
    · exact absurd h2 (by show ¬ i < j; omega)
    · split at h2
      · exact absurd h2 (by show ¬ i < j + 1; omega)
      · rename_i h3 h4
        by_cases e : i = j + 1
        · subst e; exact h4
        · exact ih (j + 1) i (by omega) h2
theorem untilX_yes {X : Mach} (g : machB X = true) {ad : Int} (ha : addrB ad = true) : untilX X ad = runN X (untilN ad 500 0 X).1 ∧ untilS X ad = (untilN ad 500 0 X).1 ∧ (untilN ad 500 0 X).1 ≤ 500 := by
  have h := until_run ad X 500 0
  have e : runN X 0 = X := rfl
  rw [e] at h
  exact ⟨by unfold untilX; rw [if_pos ⟨ha, g⟩, h.1], by unfold untilS; rw [if_pos ⟨ha, g⟩], by omega⟩
theorem untilX_out {X : Mach} {ad : Int} (h : machB X = false ∨ addrB ad = false) : untilX X ad = machZ ∧ untilS X ad = 0 := by
  have hn : ¬ (addrB ad = true ∧ machB X = true) := by
    rintro ⟨h1, h2⟩
    rcases h with h | h
    · rw [h] at h2; cases h2
    · rw [h] at h1; cases h1
  exact ⟨by unfold untilX; rw [if_neg hn], by unfold untilS; rw [if_neg hn]⟩
/-- All that the law of RunUntil asks: K steps, fewer than which are not at the address. -/
theorem until_all {X : Mach} (g : machB X = true) {ad : Int} (ha : addrB ad = true) : ∃ K : Nat, K ≤ 500 ∧ untilS X ad = K ∧ untilX X ad = runX X K ∧ (untilX X ad).mem.ram.length = 256 ∧ (∀ i : Nat, 1 ≤ i → i < K → (runX X i).at_ ≠ ad) ∧ ((untilX X ad).stop = true ∨ (untilX X ad).at_ = ad ∨ K = 500) ∧ (X.stop = true → K = 0) := by
  obtain ⟨h1, h2, h3⟩ := untilX_yes g ha
  refine ⟨(untilN ad 500 0 X).1, h3, h2, ?_, ?_, ?_, ?_, ?_⟩
  · rw [h1, runX_yes g (by omega) (by omega), Int.toNat_natCast]
  · rw [h1]; exact (run_good g _ h3).mem.ram
  · intro i i1 i2
    rw [runX_yes g (by omega) (by omega), Int.toNat_natCast]
    exact until_first ad X 500 0 i (by omega) i2
  · have h := until_ends ad 500 0 X
    have hr := (until_run ad X 500 0).1
    have e : runN X 0 = X := rfl
    rw [e] at hr
    rw [h1, ← hr]
    rcases h with h | h | h
    · exact .inl h
    · exact .inr (.inl h)
    · exact .inr (.inr (by omega))
  · intro hs
    have e : untilN ad (499 + 1) 0 X = (0, X) := by unfold untilN; rw [if_pos hs]
    exact congrArg Prod.fst e
/-- A machine that waits. -/
def waitX (k : Nat) : Mach := ⟨⟨zeros, [zeros], 0⟩, 0, 512 + (k : Int), false, [], false, (k : Int)⟩
theorem zeros_bank : bankB zeros = true := bankB_mk zeros_len fun i hi => by rw [zeros_at i hi]; omega
theorem zeros_new : newX [zeros] = waitX 0 := by
  have h : validB ⟨zeros, [zeros], 0⟩ = true := by
    simp only [validB, Bool.and_eq_true, decide_eq_true_eq]
    exact ⟨⟨⟨⟨⟨zeros_bank, by simp [banksB, zeros_bank]⟩, by simp⟩, by simp⟩, by omega⟩, by simp⟩
  have h2 : newM [zeros] = ⟨zeros, [zeros], 0⟩ := by unfold newM; rw [if_pos h]
  unfold newX
  rw [h2, if_pos h]
  rfl
theorem wait_step (k : Nat) (hk : k < 256) : stepN (waitX k) = waitX (k + 1) := by
  have l0 : lenN 0 = 1 := by decide
  have r0 : readN ⟨zeros, [zeros], 0⟩ (512 + k) = 0 := by
    unfold readN
    rw [if_neg (by omega), if_pos (by omega), show 512 + k - 512 = k by omega]
    exact zeros_at k hk
  have hf : fetchN (waitX k) = some (0, 0) := by
    unfold fetchN bytesN
    have e : (waitX k).at_.toNat = 512 + k := by show (512 + (k : Int)).toNat = 512 + k; omega
    rw [e, Nat.mod_eq_of_lt (by omega : 512 + k < 1024)]
    have em : (waitX k).mem = ⟨zeros, [zeros], 0⟩ := rfl
    rw [em, r0]
    have h := dec_one (xs := [0, readN ⟨zeros, [zeros], 0⟩ ((512 + k + 1) % 1024), readN ⟨zeros, [zeros], 0⟩ ((512 + k + 2) % 1024)]) (k := 0) (by simp) l0
    exact h
  unfold stepN
  rw [if_neg (by simp [waitX]), hf]
  show doN (moveN (waitX k) 0) 0 0 = _
  rw [doN_0]
  unfold moveN waitX
  rw [l0]
  simp
  omega
theorem wait_run (k : Nat) (hk : k ≤ 256) : runN (waitX 0) k = waitX k := by
  induction k with
  | zero => rfl
  | succ k ih => show stepN (runN (waitX 0) k) = _; rw [ih (by omega), wait_step k (by omega)]
theorem wait_valid : machB (waitX 0) = true := by
  refine validX_of ⟨good_of ?_, by show (0 : Int) ≤ 0; omega, by show (0 : Int) ≤ 255; omega, by show (0 : Int) ≤ 512 + 0; omega, by show (512 + 0 : Int) ≤ 1023; omega, by show 0 ≤ 8; omega, fun i hi => absurd hi (by show ¬ i < 0; omega), by show (0 : Int) ≤ 0; omega, by show (0 : Int) ≤ 1000000000; omega⟩
  show validB ⟨zeros, [zeros], 0⟩ = true
  simp only [validB, Bool.and_eq_true, decide_eq_true_eq]
  exact ⟨⟨⟨⟨⟨zeros_bank, by simp [banksB, zeros_bank]⟩, by simp⟩, by simp⟩, by omega⟩, by simp⟩
theorem wait_runX (k : Nat) (hk : k ≤ 256) : runX (waitX 0) k = waitX k := by
  rw [runX_yes wait_valid (by omega) (by omega), Int.toNat_natCast, wait_run k hk]
end Go.Proofs.YtcapfafglikcmaaDoor
