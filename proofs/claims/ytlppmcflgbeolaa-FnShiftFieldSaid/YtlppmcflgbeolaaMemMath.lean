/- The memory of the console as plain data: lists of integers; what is valid, what is read, what writing and copying make of it. -/
import Derived.Below
namespace Go.Proofs.Ytlppmcflgbeolaa

/-- A memory as data. -/
structure Mem where
  ram : List Int
  rom : List (List Int)
  bank : Int
def byteB (x : Int) : Bool := decide (0 ≤ x) && decide (x ≤ 255)
def bytesB (xs : List Int) : Bool := xs.all byteB
def bankB (xs : List Int) : Bool := bytesB xs && decide (xs.length = 256)
def banksB (rs : List (List Int)) : Bool := rs.all bankB
def validB (M : Mem) : Bool := bankB M.ram && banksB M.rom && decide (1 ≤ M.rom.length) && decide (M.rom.length ≤ 4) && decide (0 ≤ M.bank) && decide (M.bank < M.rom.length)
/-- What a valid memory has. -/
structure Good (M : Mem) : Prop where
  ram : M.ram.length = 256
  ramB : ∀ i, i < 256 → 0 ≤ M.ram.getD i 0 ∧ M.ram.getD i 0 ≤ 255
  one : 1 ≤ M.rom.length
  four : M.rom.length ≤ 4
  rom : ∀ i, i < M.rom.length → (M.rom.getD i []).length = 256
  romB : ∀ i, i < M.rom.length → ∀ j, j < 256 → 0 ≤ (M.rom.getD i []).getD j 0 ∧ (M.rom.getD i []).getD j 0 ≤ 255
  bank0 : 0 ≤ M.bank
  bank1 : M.bank < M.rom.length
theorem byteB_yes {x : Int} (h : byteB x = true) : 0 ≤ x ∧ x ≤ 255 := by simpa [byteB] using h
theorem byteB_mk {x : Int} (h0 : 0 ≤ x) (h1 : x ≤ 255) : byteB x = true := by simp [byteB, h0, h1]
theorem byteB_no {x : Int} (h : byteB x = false) : x < 0 ∨ 255 < x := by
  by_cases h0 : 0 ≤ x
  · by_cases h1 : x ≤ 255
    · rw [byteB_mk h0 h1] at h; cases h
    · omega
  · omega
theorem byteB_out {x : Int} (h : x < 0 ∨ 255 < x) : byteB x = false := by
  unfold byteB
  rcases h with h | h
  · rw [decide_eq_false (by omega)]; rfl
  · rw [decide_eq_false (p := x ≤ 255) (by omega)]; simp
theorem getD_mem_of {α : Type} (d : α) (xs : List α) (i : Nat) (h : i < xs.length) : xs.getD i d ∈ xs := by simp [List.getD, List.getElem?_eq_getElem h]
theorem bytesB_iff (xs : List Int) : bytesB xs = true ↔ ∀ i, i < xs.length → byteB (xs.getD i 0) = true := by
  unfold bytesB
  rw [List.all_eq_true]
  constructor
  · intro h i hi; exact h _ (getD_mem_of 0 xs i hi)
  · intro h x hx
    obtain ⟨i, hi, rfl⟩ := List.getElem_of_mem hx
    have := h i hi
    simpa [List.getD, List.getElem?_eq_getElem hi] using this
theorem bytesB_no (xs : List Int) (i : Nat) (hi : i < xs.length) (h : byteB (xs.getD i 0) = false) : bytesB xs = false := by
  by_cases hh : bytesB xs = true
  · rw [(bytesB_iff xs).1 hh i hi] at h; cases h
  · simpa using hh
theorem banksB_iff (rs : List (List Int)) : banksB rs = true ↔ ∀ i, i < rs.length → bankB (rs.getD i []) = true := by
  unfold banksB
  rw [List.all_eq_true]
  constructor
  · intro h i hi; exact h _ (getD_mem_of [] rs i hi)
  · intro h x hx
    obtain ⟨i, hi, rfl⟩ := List.getElem_of_mem hx
    have := h i hi
    simpa [List.getD, List.getElem?_eq_getElem hi] using this
theorem banksB_no (rs : List (List Int)) (i : Nat) (hi : i < rs.length) (h : bankB (rs.getD i []) = false) : banksB rs = false := by
  by_cases hh : banksB rs = true
  · rw [(banksB_iff rs).1 hh i hi] at h; cases h
  · simpa using hh
theorem bankB_yes {xs : List Int} (h : bankB xs = true) : xs.length = 256 ∧ ∀ i, i < 256 → 0 ≤ xs.getD i 0 ∧ xs.getD i 0 ≤ 255 := by
  simp only [bankB, Bool.and_eq_true, decide_eq_true_eq] at h
  exact ⟨h.2, fun i hi => byteB_yes ((bytesB_iff xs).1 h.1 i (by omega))⟩
theorem bankB_mk {xs : List Int} (h : xs.length = 256) (hb : ∀ i, i < 256 → 0 ≤ xs.getD i 0 ∧ xs.getD i 0 ≤ 255) : bankB xs = true := by
  simp only [bankB, Bool.and_eq_true, decide_eq_true_eq]
  exact ⟨(bytesB_iff xs).2 fun i hi => byteB_mk (hb i (by omega)).1 (hb i (by omega)).2, h⟩
theorem good_of {M : Mem} (h : validB M = true) : Good M := by
  simp only [validB, Bool.and_eq_true, decide_eq_true_eq] at h
  obtain ⟨⟨⟨⟨⟨h1, h2⟩, h3⟩, h4⟩, h5⟩, h6⟩ := h
  obtain ⟨r1, r2⟩ := bankB_yes h1
  have hb := (banksB_iff M.rom).1 h2
  exact ⟨r1, r2, h3, h4, fun i hi => (bankB_yes (hb i hi)).1, fun i hi => (bankB_yes (hb i hi)).2, h5, h6⟩
theorem valid_of {M : Mem} (h : Good M) : validB M = true := by
  simp only [validB, Bool.and_eq_true, decide_eq_true_eq]
  exact ⟨⟨⟨⟨⟨bankB_mk h.ram h.ramB, (banksB_iff M.rom).2 fun i hi => bankB_mk (h.rom i hi) (h.romB i hi)⟩, h.one⟩, h.four⟩, h.bank0⟩, h.bank1⟩

/-- The byte at an address in 0..1023. -/
def readN (M : Mem) (k : Nat) : Int :=
  if k < 512 then M.ram.getD (k % 256) 0 else if k < 768 then (M.rom.getD 0 []).getD (k - 512) 0 else (M.rom.getD M.bank.toNat []).getD (k - 768) 0
/-- A byte written at an address in 0..1023. -/
def writeN (M : Mem) (k : Nat) (v : Int) : Mem :=
  if k < 512 then { M with ram := M.ram.set (k % 256) v } else if k < 768 then M else { M with bank := v % M.rom.length }
/-- i bytes copied, one after the other. -/
def copyN (M : Mem) (f t : Nat) : Nat → Mem
  | 0 => M
  | i + 1 => { copyN M f t i with ram := (copyN M f t i).ram.set ((t + i) % 256) (readN (copyN M f t i) ((f + i) % 1024)) }
theorem readN_byte {M : Mem} (g : Good M) (k : Nat) (hk : k < 1024) : 0 ≤ readN M k ∧ readN M k ≤ 255 := by
  unfold readN
  have h0 := g.bank0
  have h1 := g.bank1
  split
  · exact g.ramB _ (by omega)
  · split
    · exact g.romB 0 (by have := g.one; omega) _ (by omega)
    · exact g.romB _ (by omega) _ (by omega)
theorem getD_set (xs : List Int) (i j : Nat) (v : Int) (hi : i < xs.length) : (xs.set i v).getD j 0 = if j = i then v else xs.getD j 0 := by
  simp only [List.getD_eq_getElem?_getD, List.getElem?_set]
  by_cases h : i = j
  · subst h; simp [hi]
  · rw [if_neg h, if_neg (fun e => h e.symm)]
theorem good_set {M : Mem} (g : Good M) (i : Nat) (hi : i < 256) (v : Int) (v0 : 0 ≤ v) (v1 : v ≤ 255) : Good { M with ram := M.ram.set i v } :=
  ⟨by simpa using g.ram, fun j hj => by
    show 0 ≤ (M.ram.set i v).getD j 0 ∧ (M.ram.set i v).getD j 0 ≤ 255
    rw [getD_set _ _ _ _ (by rw [g.ram]; exact hi)]
    split
    · exact ⟨v0, v1⟩
    · exact g.ramB j hj, g.one, g.four, g.rom, g.romB, g.bank0, g.bank1⟩
theorem good_copy {M : Mem} (g : Good M) (f t i : Nat) : Good (copyN M f t i) := by
  induction i with
  | zero => exact g
  | succ i ih =>
    have h := readN_byte ih ((f + i) % 1024) (by omega)
    exact good_set ih _ (by omega) _ h.1 h.2
theorem copy_rom (M : Mem) (f t i : Nat) : (copyN M f t i).rom = M.rom := by
  induction i with
  | zero => rfl
  | succ i ih => exact ih
theorem copy_bank (M : Mem) (f t i : Nat) : (copyN M f t i).bank = M.bank := by
  induction i with
  | zero => rfl
  | succ i ih => exact ih
theorem good_write {M : Mem} (g : Good M) (k : Nat) (v : Int) (v0 : 0 ≤ v) (v1 : v ≤ 255) : Good (writeN M k v) := by
  unfold writeN
  split
  · exact good_set g _ (by omega) v v0 v1
  · split
    · exact g
    · have hl : (0 : Int) < M.rom.length := by have := g.one; omega
      exact ⟨g.ram, g.ramB, g.one, g.four, g.rom, g.romB, Int.emod_nonneg _ (by omega), Int.emod_lt_of_pos _ hl⟩
/-- The zero value. -/
def memZ : Mem := ⟨[], [], 0⟩
def zeros : List Int := List.replicate 256 0
theorem zeros_len : zeros.length = 256 := List.length_replicate
theorem zeros_at (i : Nat) (_h : i < 256) : zeros.getD i 0 = 0 := by
  unfold zeros
  simp only [List.getD_eq_getElem?_getD, List.getElem?_replicate]
  split <;> rfl
def newM (rs : List (List Int)) : Mem := if validB ⟨zeros, rs, 0⟩ = true then ⟨zeros, rs, 0⟩ else memZ
def addrB (a : Int) : Bool := decide (0 ≤ a) && decide (a ≤ 1023)
theorem addrB_yes {a : Int} (h : addrB a = true) : 0 ≤ a ∧ a ≤ 1023 := by simpa [addrB] using h
theorem addrB_no {a : Int} (h : addrB a = false) : a < 0 ∨ 1023 < a := by
  by_cases h0 : 0 ≤ a
  · by_cases h1 : a ≤ 1023
    · simp [addrB, h0, h1] at h
    · omega
  · omega
def readM (M : Mem) (a : Int) : Int := if addrB a = true ∧ validB M = true then readN M a.toNat else 0
def writeM (M : Mem) (a v : Int) : Mem := if addrB a = true ∧ byteB v = true ∧ validB M = true then writeN M a.toNat v else memZ
def copyM (M : Mem) (f t n : Int) : Mem := if (0 ≤ n ∧ n ≤ 256) ∧ addrB f = true ∧ addrB t = true ∧ validB M = true then copyN M f.toNat t.toNat n.toNat else memZ
/-- No list is too long. -/
structure Small (M : Mem) (N : Nat) : Prop where
  ram : M.ram.length ≤ N
  rom : M.rom.length ≤ N
  row : ∀ i, (M.rom.getD i []).length ≤ N
theorem small_of {M : Mem} (g : Good M) : Small M 256 :=
  ⟨by rw [g.ram]; exact Nat.le_refl _, by have := g.four; omega, fun i => by
    by_cases h : i < M.rom.length
    · rw [g.rom i h]; exact Nat.le_refl _
    · simp [List.getD, List.getElem?_eq_none (Nat.le_of_not_lt h)]⟩
theorem small_Z (N : Nat) : Small memZ N := ⟨by simp [memZ], by simp [memZ], fun i => by simp [memZ]⟩
theorem small_new (rs : List (List Int)) : Small (newM rs) 256 := by
  unfold newM
  split
  · rename_i h; exact small_of (good_of h)
  · exact small_Z _
theorem small_write (M : Mem) (a v : Int) : Small (writeM M a v) 256 := by
  unfold writeM
  split
  · rename_i h
    have hv := byteB_yes h.2.1
    exact small_of (good_write (good_of h.2.2) _ _ hv.1 hv.2)
  · exact small_Z _
theorem small_copy (M : Mem) (f t n : Int) : Small (copyM M f t n) 256 := by
  unfold copyM
  split
  · rename_i h; exact small_of (good_copy (good_of h.2.2.2) _ _ _)
  · exact small_Z _
theorem copy_step (M : Mem) (f t j : Nat) : writeN (copyN M f t j) ((t + j) % 256) (readN (copyN M f t j) ((f + j) % 1024)) = copyN M f t (j + 1) := by
  unfold writeN
  rw [if_pos (by omega), Nat.mod_mod]
  rfl
end Go.Proofs.Ytlppmcflgbeolaa
