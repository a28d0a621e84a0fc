import Derived.Test.YtkglocdmpfjafaaRows
import Derived.WalkKit
import Derived.ProofKit
import Derived.IntWalk
import Derived.Below
import Derived.WalkSmall
import Derived.Lib.Hide
import GoSem.Claim
import Derived.Lib.BitFns
import Derived.Laws.BitsAllLaws
import Derived.Deep.QuietTactic
import Derived.BigQuiet
import Derived.OpenShut
import Derived.Laws.OwnMore
import Derived.Laws.Rows
import Derived.Deep.Draws
import Derived.Deep.OwnRows
import Derived.Deep.AppendLies
import Derived.Laws.AppendOwnNone
import Derived.OwnWalk

section
/- What every walk of a law is told of its arguments. -/
namespace Go.Proofs.Ytkglocdmpfjafaa
open Go.ChangeShapes Go.WideShapes Go.ChangeAt Go.RowKit

/-- A slice of integers that came in: it is nil; or it leads to 'cap' cells that hold the numbers 'zs', each of its kind; the first 'len' of them are its elements. -/
def IsRow (k : IntKind) (w : World) (a : Option Addr) (len cap : Nat) (zs : List Int) : Prop :=
  (a = none ∧ len = 0 ∧ cap = 0 ∧ zs = []) ∨
  ∃ x, a = some x ∧ len ≤ cap ∧ cap ≤ maxLen ∧ zs.length = cap ∧ (∀ i, i < zs.length → w.cell? (x.add i) = some (.int k (zs.getD i 0))) ∧ ∀ n ∈ zs, (Lit.int k n).wf = true
theorem below_trans {B : Nat} {w w1 w2 : World} (h : Below B w w1) (k : Below w1.heap.size w1 w2) (hB : B ≤ w1.heap.size) : Below B w w2 := h.trans (k.mono hB)
theorem below_then {w w1 w2 : World} (h : Below w.heap.size w w1) (k : Below w1.heap.size w1 w2) : Below w.heap.size w w2 := below_trans h k h.size
end Go.Proofs.Ytkglocdmpfjafaa
end

section
/- Plain arithmetic of bytes: what the functions of chapter 1 compute, as Lean functions on integers; nothing of the program is imported. -/
namespace Go.Proofs.Ytkglocdmpfjafaa
/-- 1 for true, 0 for false. -/
def digi (c : Bool) : Int := if c then 1 else 0
/-- A byte as a signed number. -/
def sgn (a : Int) : Int := if 128 ≤ a then a - 256 else a
def addN (a b : Int) (c : Bool) : Int := (a + b + digi c) % 256
def addC (a b : Int) (c : Bool) : Bool := decide (255 < a + b + digi c)
def addV (a b : Int) (c : Bool) : Bool := decide (sgn a + sgn b + digi c < -128) || decide (127 < sgn a + sgn b + digi c)
def subN (a b : Int) (c : Bool) : Int := (a - b - digi c) % 256
def subC (a b : Int) (c : Bool) : Bool := decide (a - b - digi c < 0)
def rolN (a : Int) (c : Bool) : Int := (2 * a + digi c) % 256
def rolC (a : Int) : Bool := decide (128 ≤ a)
def rorN (a : Int) (c : Bool) : Int := a / 2 + 128 * digi c
def rorC (a : Int) : Bool := decide (a % 2 = 1)
def onesN (a : Int) : Int := a % 2 + a / 2 % 2 + a / 4 % 2 + a / 8 % 2 + a / 16 % 2 + a / 32 % 2 + a / 64 % 2 + a / 128 % 2
/-- The ones among the lowest k binary digits. -/
def onesUpto : Nat → Int → Int
  | 0, _ => 0
  | k + 1, a => onesUpto k a + a / 2 ^ k % 2
theorem onesUpto_bd (k : Nat) (a : Int) : 0 ≤ onesUpto k a ∧ onesUpto k a ≤ k := by
  induction k with
  | zero => simp [onesUpto]
  | succ k ih => simp only [onesUpto]; omega
theorem onesUpto_8 (a : Int) : onesUpto 8 a = onesN a := by simp [onesUpto, onesN]
def inB (n lo hi : Int) : Bool := decide (lo ≤ n) && decide (n ≤ hi)
theorem not_inB (n lo hi : Int) : (!inB n lo hi) = (decide (n < lo) || decide (hi < n)) := by
  unfold inB
  by_cases h : lo ≤ n <;> by_cases k : n ≤ hi <;> simp [h, k] <;> omega
theorem inB_yes {n lo hi : Int} (h : lo ≤ n) (k : n ≤ hi) : inB n lo hi = true := by simp [inB, h, k]
theorem inB_no {n lo hi : Int} (h : n < lo ∨ hi < n) : inB n lo hi = false := by
  unfold inB; rcases h with h | h
  · simp [show ¬ lo ≤ n by omega]
  · simp [show ¬ n ≤ hi by omega]
end Go.Proofs.Ytkglocdmpfjafaa
end

section
/- The few contracts of chapter 1 that every later chapter's laws reach: a number as an octet, SignedByte at a byte, 'alive'. -/
namespace Go.Proofs.Ytkglocdmpfjafaa
open Go.ChangeShapes Go.WideShapes Go.ChangeAt Go.RowKit

theorem ret_int {k : IntKind} {a b : Int} (h : a = b) : Ending.returned (.int k a) = .returned (.int k b) := by rw [h]
theorem i8_of (a : Int) (h0 : 128 ≤ a) (h1 : a ≤ 255) : wrap64 (IntKind.i8.wrap a) = sgn a := by
  have e : IntKind.i8.wrap a = a - 256 := by simp [IntKind.wrap, IntKind.bits, IntKind.signed]; omega
  rw [e]; unfold wrap64 sgn; rw [if_pos h0]; omega

theorem signed_any (a : Int) (w : World) (h0 : 0 ≤ a) (h1 : a ≤ 255) :
    Calls Try.prog 35 #[.int .u8 a] w fun e w' => e = .returned (.int .i64 (sgn a)) ∧ w = w' := by
  by_cases h : a < 128
  · go_enter Try.func35, Try.ntmps35
    go_wp2
    go_ret
    exact ⟨ret_int (by unfold sgn; rw [if_neg (by omega)]), rfl⟩
  · have H : 128 ≤ a := by omega
    clear h
    go_enter Try.func35, Try.ntmps35
    go_wp2
    go_ret
    exact ⟨ret_int (i8_of a H h1), rfl⟩
theorem toOctet_yes (a : Int) (w : World) (h0 : 0 ≤ a) (h1 : a ≤ 255) :
    Calls Try.prog 34 #[.int .i64 a] w fun e w' => e = .returned (.tuple #[.int .u8 a, .bool true]) ∧ w = w' := by
  go_enter Try.func34, Try.ntmps34
  go_wp2
  go_ret2
  exact ⟨rfl, rfl⟩
theorem toOctet_no (a : Int) (w : World) (h : a < 0 ∨ 255 < a) :
    Calls Try.prog 34 #[.int .i64 a] w fun e w' => e = .returned (.tuple #[.int .u8 0, .bool false]) ∧ w = w' := by
  rcases h with h | h
  all_goals
    go_enter Try.func34, Try.ntmps34
    go_wp2
    go_ret2
    exact ⟨rfl, rfl⟩
theorem impl_sgn (a : Int) (w : World) (h0 : 0 ≤ a) (h1 : a ≤ 255) :
    Calls Try.prog 29 #[.int .i64 a] w fun e w' => e = .returned (.int .i64 (sgn a)) ∧ w = w' := by
  go_enter Try.func29, Try.ntmps29
  go_wp2_with fail
  refine (toOctet_yes _ _ h0 h1).mono ?_; rintro e w' ⟨rfl, rfl⟩
  go_wp2_with fail
  refine (signed_any _ _ h0 h1).mono ?_; rintro e w' ⟨rfl, rfl⟩
  go_wp2_with fail
  go_ret
  exact ⟨rfl, rfl⟩
theorem alive_any (w : World) : Calls Try.prog 13 #[] w fun e w' => e = .returned (.bool true) ∧ w = w' := by
  go_enter Try.func13, Try.ntmps13
  go_wp2_with fail
  refine (impl_sgn 255 _ (by omega) (by omega)).mono ?_; rintro e w' ⟨rfl, rfl⟩
  have hs : sgn 255 = -1 := by decide
  go_wp2_with fail
  go_ret
  exact ⟨rfl, rfl⟩
end Go.Proofs.Ytkglocdmpfjafaa
end

section
/- The memory of the console as plain data: lists of integers; what is valid, what is read, what writing and copying make of it. -/
namespace Go.Proofs.Ytkglocdmpfjafaa

/-- A memory as data. -/
structure Mem where
  ram : List Int
  rom : List (List Int)
  bank : Int
def byteB (x : Int) : Bool := decide (0 ≤ x) && decide (x ≤ 255)
def bytesB (xs : List Int) : Bool := xs.all byteB
def bankB (xs : List Int) : Bool := bytesB xs && decide (xs.length = 256)
def banksB (rs : List (List Int)) : Bool := rs.all bankB
def validB (M : Mem) : Bool := bankB M.ram && banksB M.rom && decide (1 ≤ M.rom.length) && decide (M.rom.length ≤ 4) && decide (0 ≤ M.bank) && decide (M.bank < M.rom.length)
/-- What a valid memory has. -/
structure Good (M : Mem) : Prop where
  ram : M.ram.length = 256
  ramB : ∀ i, i < 256 → 0 ≤ M.ram.getD i 0 ∧ M.ram.getD i 0 ≤ 255
  one : 1 ≤ M.rom.length
  four : M.rom.length ≤ 4
  rom : ∀ i, i < M.rom.length → (M.rom.getD i []).length = 256
  romB : ∀ i, i < M.rom.length → ∀ j, j < 256 → 0 ≤ (M.rom.getD i []).getD j 0 ∧ (M.rom.getD i []).getD j 0 ≤ 255
  bank0 : 0 ≤ M.bank
  bank1 : M.bank < M.rom.length
theorem byteB_yes {x : Int} (h : byteB x = true) : 0 ≤ x ∧ x ≤ 255 := by simpa [byteB] using h
theorem byteB_mk {x : Int} (h0 : 0 ≤ x) (h1 : x ≤ 255) : byteB x = true := by simp [byteB, h0, h1]
theorem byteB_no {x : Int} (h : byteB x = false) : x < 0 ∨ 255 < x := by
  by_cases h0 : 0 ≤ x
  · by_cases h1 : x ≤ 255
    · rw [byteB_mk h0 h1] at h; cases h
    · omega
  · omega
theorem byteB_out {x : Int} (h : x < 0 ∨ 255 < x) : byteB x = false := by
  unfold byteB
  rcases h with h | h
  · rw [decide_eq_false (by omega)]; rfl
  · rw [decide_eq_false (p := x ≤ 255) (by omega)]; simp
theorem getD_mem_of {α : Type} (d : α) (xs : List α) (i : Nat) (h : i < xs.length) : xs.getD i d ∈ xs := by simp [List.getD, List.getElem?_eq_getElem h]
theorem bytesB_iff (xs : List Int) : bytesB xs = true ↔ ∀ i, i < xs.length → byteB (xs.getD i 0) = true := by
  unfold bytesB
  rw [List.all_eq_true]
  constructor
  · intro h i hi; exact h _ (getD_mem_of 0 xs i hi)
  · intro h x hx
    obtain ⟨i, hi, rfl⟩ := List.getElem_of_mem hx
    have := h i hi
    simpa [List.getD, List.getElem?_eq_getElem hi] using this
theorem bytesB_no (xs : List Int) (i : Nat) (hi : i < xs.length) (h : byteB (xs.getD i 0) = false) : bytesB xs = false := by
  by_cases hh : bytesB xs = true
  · rw [(bytesB_iff xs).1 hh i hi] at h; cases h
  · simpa using hh
theorem banksB_iff (rs : List (List Int)) : banksB rs = true ↔ ∀ i, i < rs.length → bankB (rs.getD i []) = true := by
  unfold banksB
  rw [List.all_eq_true]
  constructor
  · intro h i hi; exact h _ (getD_mem_of [] rs i hi)
  · intro h x hx
    obtain ⟨i, hi, rfl⟩ := List.getElem_of_mem hx
    have := h i hi
    simpa [List.getD, List.getElem?_eq_getElem hi] using this
theorem banksB_no (rs : List (List Int)) (i : Nat) (hi : i < rs.length) (h : bankB (rs.getD i []) = false) : banksB rs = false := by
  by_cases hh : banksB rs = true
  · rw [(banksB_iff rs).1 hh i hi] at h; cases h
  · simpa using hh
theorem bankB_yes {xs : List Int} (h : bankB xs = true) : xs.length = 256 ∧ ∀ i, i < 256 → 0 ≤ xs.getD i 0 ∧ xs.getD i 0 ≤ 255 := by
  simp only [bankB, Bool.and_eq_true, decide_eq_true_eq] at h
  exact ⟨h.2, fun i hi => byteB_yes ((bytesB_iff xs).1 h.1 i (by omega))⟩
theorem bankB_mk {xs : List Int} (h : xs.length = 256) (hb : ∀ i, i < 256 → 0 ≤ xs.getD i 0 ∧ xs.getD i 0 ≤ 255) : bankB xs = true := by
  simp only [bankB, Bool.and_eq_true, decide_eq_true_eq]
  exact ⟨(bytesB_iff xs).2 fun i hi => byteB_mk (hb i (by omega)).1 (hb i (by omega)).2, h⟩
theorem good_of {M : Mem} (h : validB M = true) : Good M := by
  simp only [validB, Bool.and_eq_true, decide_eq_true_eq] at h
  obtain ⟨⟨⟨⟨⟨h1, h2⟩, h3⟩, h4⟩, h5⟩, h6⟩ := h
  obtain ⟨r1, r2⟩ := bankB_yes h1
  have hb := (banksB_iff M.rom).1 h2
  exact ⟨r1, r2, h3, h4, fun i hi => (bankB_yes (hb i hi)).1, fun i hi => (bankB_yes (hb i hi)).2, h5, h6⟩
theorem valid_of {M : Mem} (h : Good M) : validB M = true := by
  simp only [validB, Bool.and_eq_true, decide_eq_true_eq]
  exact ⟨⟨⟨⟨⟨bankB_mk h.ram h.ramB, (banksB_iff M.rom).2 fun i hi => bankB_mk (h.rom i hi) (h.romB i hi)⟩, h.one⟩, h.four⟩, h.bank0⟩, h.bank1⟩

/-- The byte at an address in 0..1023. -/
def readN (M : Mem) (k : Nat) : Int :=
  if k < 512 then M.ram.getD (k % 256) 0 else if k < 768 then (M.rom.getD 0 []).getD (k - 512) 0 else (M.rom.getD M.bank.toNat []).getD (k - 768) 0
/-- A byte written at an address in 0..1023. -/
def writeN (M : Mem) (k : Nat) (v : Int) : Mem :=
  if k < 512 then { M with ram := M.ram.set (k % 256) v } else if k < 768 then M else { M with bank := v % M.rom.length }
/-- i bytes copied, one after the other. -/
def copyN (M : Mem) (f t : Nat) : Nat → Mem
  | 0 => M
  | i + 1 => { copyN M f t i with ram := (copyN M f t i).ram.set ((t + i) % 256) (readN (copyN M f t i) ((f + i) % 1024)) }
theorem readN_byte {M : Mem} (g : Good M) (k : Nat) (hk : k < 1024) : 0 ≤ readN M k ∧ readN M k ≤ 255 := by
  unfold readN
  have h0 := g.bank0
  have h1 := g.bank1
  split
  · exact g.ramB _ (by omega)
  · split
    · exact g.romB 0 (by have := g.one; omega) _ (by omega)
    · exact g.romB _ (by omega) _ (by omega)
theorem getD_set (xs : List Int) (i j : Nat) (v : Int) (hi : i < xs.length) : (xs.set i v).getD j 0 = if j = i then v else xs.getD j 0 := by
  simp only [List.getD_eq_getElem?_getD, List.getElem?_set]
  by_cases h : i = j
  · subst h; simp [hi]
  · rw [if_neg h, if_neg (fun e => h e.symm)]
theorem good_set {M : Mem} (g : Good M) (i : Nat) (hi : i < 256) (v : Int) (v0 : 0 ≤ v) (v1 : v ≤ 255) : Good { M with ram := M.ram.set i v } :=
  ⟨by simpa using g.ram, fun j hj => by
    show 0 ≤ (M.ram.set i v).getD j 0 ∧ (M.ram.set i v).getD j 0 ≤ 255
    rw [getD_set _ _ _ _ (by rw [g.ram]; exact hi)]
    split
    · exact ⟨v0, v1⟩
    · exact g.ramB j hj, g.one, g.four, g.rom, g.romB, g.bank0, g.bank1⟩
theorem good_copy {M : Mem} (g : Good M) (f t i : Nat) : Good (copyN M f t i) := by
  induction i with
  | zero => exact g
  | succ i ih =>
    have h := readN_byte ih ((f + i) % 1024) (by omega)
    exact good_set ih _ (by omega) _ h.1 h.2
theorem copy_rom (M : Mem) (f t i : Nat) : (copyN M f t i).rom = M.rom := by
  induction i with
  | zero => rfl
  | succ i ih => exact ih
theorem copy_bank (M : Mem) (f t i : Nat) : (copyN M f t i).bank = M.bank := by
  induction i with
  | zero => rfl
  | succ i ih => exact ih
theorem good_write {M : Mem} (g : Good M) (k : Nat) (v : Int) (v0 : 0 ≤ v) (v1 : v ≤ 255) : Good (writeN M k v) := by
  unfold writeN
  split
  · exact good_set g _ (by omega) v v0 v1
  · split
    · exact g
    · have hl : (0 : Int) < M.rom.length := by have := g.one; omega
      exact ⟨g.ram, g.ramB, g.one, g.four, g.rom, g.romB, Int.emod_nonneg _ (by omega), Int.emod_lt_of_pos _ hl⟩
/-- The zero value. -/
def memZ : Mem := ⟨[], [], 0⟩
def zeros : List Int := List.replicate 256 0
theorem zeros_len : zeros.length = 256 := List.length_replicate
theorem zeros_at (i : Nat) (_h : i < 256) : zeros.getD i 0 = 0 := by
  unfold zeros
  simp only [List.getD_eq_getElem?_getD, List.getElem?_replicate]
  split <;> rfl
def newM (rs : List (List Int)) : Mem := if validB ⟨zeros, rs, 0⟩ = true then ⟨zeros, rs, 0⟩ else memZ
def addrB (a : Int) : Bool := decide (0 ≤ a) && decide (a ≤ 1023)
theorem addrB_yes {a : Int} (h : addrB a = true) : 0 ≤ a ∧ a ≤ 1023 := by simpa [addrB] using h
theorem addrB_no {a : Int} (h : addrB a = false) : a < 0 ∨ 1023 < a := by
  by_cases h0 : 0 ≤ a
  · by_cases h1 : a ≤ 1023
    · simp [addrB, h0, h1] at h
    · omega
  · omega
def readM (M : Mem) (a : Int) : Int := if addrB a = true ∧ validB M = true then readN M a.toNat else 0
def writeM (M : Mem) (a v : Int) : Mem := if addrB a = true ∧ byteB v = true ∧ validB M = true then writeN M a.toNat v else memZ
def copyM (M : Mem) (f t n : Int) : Mem := if (0 ≤ n ∧ n ≤ 256) ∧ addrB f = true ∧ addrB t = true ∧ validB M = true then copyN M f.toNat t.toNat n.toNat else memZ
/-- No list is too long. -/
structure Small (M : Mem) (N : Nat) : Prop where
  ram : M.ram.length ≤ N
  rom : M.rom.length ≤ N
  row : ∀ i, (M.rom.getD i []).length ≤ N
theorem small_of {M : Mem} (g : Good M) : Small M 256 :=
  ⟨by rw [g.ram]; exact Nat.le_refl _, by have := g.four; omega, fun i => by
    by_cases h : i < M.rom.length
    · rw [g.rom i h]; exact Nat.le_refl _
    · simp [List.getD, List.getElem?_eq_none (Nat.le_of_not_lt h)]⟩
theorem small_Z (N : Nat) : Small memZ N := ⟨by simp [memZ], by simp [memZ], fun i => by simp [memZ]⟩
theorem small_new (rs : List (List Int)) : Small (newM rs) 256 := by
  unfold newM
  split
  · rename_i h; exact small_of (good_of h)
  · exact small_Z _
theorem small_write (M : Mem) (a v : Int) : Small (writeM M a v) 256 := by
  unfold writeM
  split
  · rename_i h
    have hv := byteB_yes h.2.1
    exact small_of (good_write (good_of h.2.2) _ _ hv.1 hv.2)
  · exact small_Z _
theorem small_copy (M : Mem) (f t n : Int) : Small (copyM M f t n) 256 := by
  unfold copyM
  split
  · rename_i h; exact small_of (good_copy (good_of h.2.2.2) _ _ _)
  · exact small_Z _
theorem copy_step (M : Mem) (f t j : Nat) : writeN (copyN M f t j) ((t + j) % 256) (readN (copyN M f t j) ((f + j) % 1024)) = copyN M f t (j + 1) := by
  unfold writeN
  rw [if_pos (by omega), Nat.mod_mod]
  rfl
end Go.Proofs.Ytkglocdmpfjafaa
end

section
/- What lies in memory: slices of integers, slices of such slices, and the blocks in which they lie. -/
namespace Go.Proofs.Ytkglocdmpfjafaa
open Go.ChangeShapes Go.WideShapes Go.ChangeAt Go.RowKit

/-- Of what was there at most the blocks of S have changed. -/
structure Only (S : List Nat) (w w' : World) : Prop where
  os : w'.os = w.os
  tape : w'.tape = w.tape
  output : w'.output = w.output
  size : w.heap.size ≤ w'.heap.size
  block : ∀ k, k < w.heap.size → k ∉ S → w'.heap[k]? = w.heap[k]?
theorem Only.refl (S : List Nat) (w : World) : Only S w w := ⟨rfl, rfl, rfl, Nat.le_refl _, fun _ _ _ => rfl⟩
theorem Only.trans {S : List Nat} {a b c : World} (h : Only S a b) (k : Only S b c) : Only S a c :=
  ⟨k.os.trans h.os, k.tape.trans h.tape, k.output.trans h.output, Nat.le_trans h.size k.size, fun j hj hn => (k.block j (Nat.lt_of_lt_of_le hj h.size) hn).trans (h.block j hj hn)⟩
theorem Only.mono {S T : List Nat} {a b : World} (h : Only S a b) (k : ∀ x ∈ S, x ∈ T) : Only T a b := ⟨h.os, h.tape, h.output, h.size, fun j hj hn => h.block j hj (fun e => hn (k j e))⟩
theorem Only.of_below {S : List Nat} {w w' : World} (h : Below w.heap.size w w') : Only S w w' := ⟨h.os, h.tape, h.output, h.size, fun k hk _ => h.block k hk⟩
theorem Only.below {S : List Nat} {B : Nat} {w w' : World} (h : Only S w w') (hS : ∀ b ∈ S, B ≤ b) (hB : B ≤ w.heap.size) : Below B w w' :=
  ⟨h.os, h.tape, h.output, h.size, fun k hk => h.block k (by omega) (fun e => by have := hS k e; omega)⟩
theorem Only.drewN {S : List Nat} {a w : World} (h : Only S a w) (n : Nat) : Only S a (w.drewN n) := ⟨h.os, h.tape, h.output, h.size, h.block⟩
theorem Only.alloc {S : List Nat} {a w : World} (h : Only S a w) (o : Obj) : Only S a (w.alloc o) :=
  ⟨h.os, h.tape, h.output, Nat.le_trans h.size (by simp), fun k hk hn => (Below.heap_alloc w o k (Nat.lt_of_lt_of_le hk h.size)).trans (h.block k hk hn)⟩
theorem Only.setCell {S : List Nat} {a w : World} (h : Only S a w) {q j : Nat} (hq : q ∈ S ∨ a.heap.size ≤ q) (v : Value) : Only S a (w.setCell ⟨q, j, none⟩ v) :=
  ⟨h.os, h.tape, h.output, by simpa using h.size, fun k hk hn => (Below.heap_setCell w _ v k (by
    rintro rfl
    rcases hq with hq | hq
    · exact hn hq
    · omega)).trans (h.block k hk hn)⟩
theorem below_drewN {B : Nat} {a w : World} (h : Below B a w) (n : Nat) : Below B a (w.drewN n) := ⟨h.os, h.tape, h.output, h.size, h.block⟩

theorem below1 (w : World) (o : Obj) : Below w.heap.size w (w.alloc o) := (Below.refl _ w).alloc (Nat.le_refl _) _
theorem below2 (w : World) (o p : Obj) : Below w.heap.size w ((w.alloc o).alloc p) := (below1 w o).alloc (by simp) _
theorem below3 (w : World) (o p q : Obj) : Below w.heap.size w (((w.alloc o).alloc p).alloc q) := (below2 w o p).alloc (by simp; omega) _

/-- The blocks of fp are as they were. -/
def Same (fp : List Nat) (w w' : World) : Prop := w.heap.size ≤ w'.heap.size ∧ ∀ b ∈ fp, b < w.heap.size → w'.heap[b]? = w.heap[b]?
theorem Same.of_below {fp : List Nat} {w w' : World} (h : Below w.heap.size w w') : Same fp w w' := ⟨h.size, fun b _ hb => h.block b hb⟩
theorem Same.of_only {S fp : List Nat} {w w' : World} (h : Only S w w') (k : ∀ b ∈ fp, b ∉ S) : Same fp w w' := ⟨h.size, fun b hb hl => h.block b hl (k b hb)⟩
theorem Same.sub {fp fq : List Nat} {w w' : World} (h : Same fp w w') (k : ∀ b ∈ fq, b ∈ fp) : Same fq w w' := ⟨h.1, fun b hb hl => h.2 b (k b hb) hl⟩

/-- The slice with address A and length n holds the integers xs; fp: the block, if there is one. -/
def Ints (w : World) (A : Option Addr) (n : Nat) (xs : List Int) (fp : List Nat) : Prop :=
  xs.length = n ∧ ((n = 0 ∧ fp = []) ∨ (0 < n ∧ ∃ b o, A = some ⟨b, o, none⟩ ∧ fp = [b] ∧ b < w.heap.size ∧ ∀ i, i < n → w.cell? ⟨b, o + i, none⟩ = some (.int .i64 (xs.getD i 0))))
theorem Ints.keep {w w' : World} {A : Option Addr} {n : Nat} {xs : List Int} {fp : List Nat} (h : Ints w A n xs fp) (k : Same fp w w') : Ints w' A n xs fp := by
  obtain ⟨hl, h | ⟨hn, b, o, rfl, rfl, hb, hc⟩⟩ := h
  · exact ⟨hl, .inl h⟩
  · have e := k.2 b (by simp) hb
    exact ⟨hl, .inr ⟨hn, b, o, rfl, rfl, Nat.lt_of_lt_of_le hb k.1, fun i hi => (World.cell?_of_block (a := ⟨b, o + i, none⟩) e).trans (hc i hi)⟩⟩
theorem Ints.below {w w' : World} {A : Option Addr} {n : Nat} {xs : List Int} {fp : List Nat} (h : Ints w A n xs fp) (k : Below w.heap.size w w') : Ints w' A n xs fp := h.keep (.of_below k)
theorem Ints.at_ {w : World} {A : Option Addr} {n : Nat} {xs : List Int} {fp : List Nat} (h : Ints w A n xs fp) (hn : 0 < n) :
    ∃ b o, A = some ⟨b, o, none⟩ ∧ fp = [b] ∧ b < w.heap.size ∧ ∀ i, i < n → w.cell? ⟨b, o + i, none⟩ = some (.int .i64 (xs.getD i 0)) := by
  obtain ⟨hl, ⟨rfl, _⟩ | ⟨_, h⟩⟩ := h
  · omega
  · exact h
theorem Ints.lt {w : World} {A : Option Addr} {n : Nat} {xs : List Int} {fp : List Nat} (h : Ints w A n xs fp) : ∀ b ∈ fp, b < w.heap.size := by
  obtain ⟨hl, ⟨_, rfl⟩ | ⟨_, b, o, _, rfl, hb, _⟩⟩ := h
  · simp
  · simpa using hb
theorem Ints.nil (w : World) (A : Option Addr) : Ints w A 0 [] [] := ⟨rfl, .inl ⟨rfl, rfl⟩⟩
/-- New memory: no block twice, all from block L on, none frozen. -/
structure New (L : Nat) (w : World) (fp : List Nat) : Prop where
  once : fp.Nodup
  lt : ∀ b ∈ fp, L ≤ b ∧ b < w.heap.size
  free : ∀ b ∈ fp, ∀ o, w.frozen? ⟨b, o, none⟩ = false
theorem New.nil (L : Nat) (w : World) : New L w [] := ⟨by simp, by simp, by simp⟩
theorem New.keep {L : Nat} {w w' : World} {fp : List Nat} (h : New L w fp) (k : Same fp w w') : New L w' fp :=
  ⟨h.once, fun b hb => ⟨(h.lt b hb).1, Nat.lt_of_lt_of_le (h.lt b hb).2 k.1⟩, fun b hb o => (World.frozen?_of_block (a := ⟨b, o, none⟩) (k.2 b hb (h.lt b hb).2)).trans (h.free b hb o)⟩
theorem New.mono {L L' : Nat} {w : World} {fp : List Nat} (h : New L w fp) (k : L' ≤ L) : New L' w fp := ⟨h.once, fun b hb => ⟨Nat.le_trans k (h.lt b hb).1, (h.lt b hb).2⟩, h.free⟩
theorem New.one {L : Nat} {w : World} {b : Nat} (h : L ≤ b) (hb : b < w.heap.size) (hf : ∀ o, w.frozen? ⟨b, o, none⟩ = false) : New L w [b] :=
  ⟨by simp, by simpa using ⟨h, hb⟩, by simpa using hf⟩
theorem New.append {L : Nat} {w : World} {fp fq : List Nat} (h : New L w fp) (k : New L w fq) (d : ∀ b ∈ fp, b ∉ fq) : New L w (fp ++ fq) :=
  ⟨List.nodup_append.2 ⟨h.once, k.once, fun a ha _ hb e => d a ha (e ▸ hb)⟩, fun b hb => (List.mem_append.1 hb).elim (h.lt b) (k.lt b), fun b hb => (List.mem_append.1 hb).elim (h.free b) (k.free b)⟩

/-- Block b holds the cells cs, and no more; none is frozen: a struct of the call's own. -/
def Box (w : World) (b : Nat) (t : TypeId) (cs : List Value) : Prop := w.heap[b]? = some (.cells cs.toArray t (0, 0))
theorem Box.lt {w : World} {b : Nat} {t : TypeId} {cs : List Value} (h : Box w b t cs) : b < w.heap.size := by
  by_cases hl : b < w.heap.size
  · exact hl
  · unfold Box at h; rw [Array.getElem?_eq_none (by omega)] at h; cases h
theorem Box.cell {w : World} {b : Nat} {t : TypeId} {cs : List Value} (h : Box w b t cs) (i : Nat) : w.cell? ⟨b, i, none⟩ = cs[i]? := by
  rw [cell_of_row w b i _ t (0, 0) h]; simp
theorem Box.frozen {w : World} {b : Nat} {t : TypeId} {cs : List Value} (h : Box w b t cs) (i : Nat) : w.frozen? ⟨b, i, none⟩ = false := by
  unfold Box at h; simp [World.frozen?, h]
theorem Box.new (w : World) (cs : Array Value) (t : TypeId) : Box (w.alloc (.cells cs t)) w.heap.size t cs.toList := by
  unfold Box; rw [heap_alloc_new]
theorem Box.new_at (w : World) (cs : Array Value) (t : TypeId) (n : Nat) (h : n = w.heap.size) : Box (w.alloc (.cells cs t)) n t cs.toList := h ▸ Box.new w cs t
theorem Box.alloc {w : World} {b : Nat} {t : TypeId} {cs : List Value} (h : Box w b t cs) (o : Obj) : Box (w.alloc o) b t cs := (Below.heap_alloc w o b h.lt).trans h
theorem Box.below {w w' : World} {b : Nat} {t : TypeId} {cs : List Value} (h : Box w b t cs) (k : Below w.heap.size w w') : Box w' b t cs := (k.block b h.lt).trans h
theorem Box.keep {w w' : World} {b B : Nat} {t : TypeId} {cs : List Value} (h : Box w b t cs) (k : Below B w w') (hb : b < B) : Box w' b t cs := (k.block b hb).trans h
theorem Box.only {S : List Nat} {w w' : World} {b : Nat} {t : TypeId} {cs : List Value} (h : Box w b t cs) (k : Only S w w') (hb : b ∉ S) : Box w' b t cs := (k.block b h.lt hb).trans h
theorem Box.set {w : World} {b : Nat} {t : TypeId} {cs : List Value} (h : Box w b t cs) (i : Nat) (v : Value) : Box (w.setCell ⟨b, i, none⟩ v) b t (cs.set i v) := by
  unfold Box at h ⊢
  simp [World.setCell, Array.getElem?_modify, h]
theorem Box.far {w : World} {b : Nat} {t : TypeId} {cs : List Value} (h : Box w b t cs) {b' i : Nat} (hb : b ≠ b') (v : Value) : Box (w.setCell ⟨b', i, none⟩ v) b t cs := (Below.heap_setCell w ⟨b', i, none⟩ v b hb).trans h
theorem Box.drewN {w : World} {b : Nat} {t : TypeId} {cs : List Value} (h : Box w b t cs) (n : Nat) : Box (w.drewN n) b t cs := h

/-- One row of a slice of slices. -/
structure Row where
  a : Option Addr
  n : Nat
  c : Nat
  xs : List Int
  fp : List Nat
def Row.val (r : Row) : Value := .slice r.a r.n r.c
def RowOk (w : World) (r : Row) : Prop := r.n ≤ r.c ∧ Ints w r.a r.n r.xs r.fp
/-- The slice with address A and length n holds slices that hold the rows rs; fp: all the blocks. -/
def Grid (w : World) (A : Option Addr) (n : Nat) (rs : List (List Int)) (fp : List Nat) : Prop :=
  ∃ D : List Row, D.map Row.xs = rs ∧ D.length = n ∧ (∀ r ∈ D, RowOk w r) ∧
    ((n = 0 ∧ fp = []) ∨ (0 < n ∧ ∃ b o, A = some ⟨b, o, none⟩ ∧ fp = b :: D.flatMap Row.fp ∧ b < w.heap.size ∧ ∀ i r, D[i]? = some r → w.cell? ⟨b, o + i, none⟩ = some r.val))
theorem Grid.len {w : World} {A : Option Addr} {n : Nat} {rs : List (List Int)} {fp : List Nat} (h : Grid w A n rs fp) : rs.length = n := by
  obtain ⟨D, rfl, h, _⟩ := h
  simpa using h
theorem Grid.nil (w : World) (A : Option Addr) : Grid w A 0 [] [] := ⟨[], rfl, rfl, by simp, .inl ⟨rfl, rfl⟩⟩
theorem Grid.lt {w : World} {A : Option Addr} {n : Nat} {rs : List (List Int)} {fp : List Nat} (h : Grid w A n rs fp) : ∀ b ∈ fp, b < w.heap.size := by
  obtain ⟨D, rfl, hl, hr, ⟨_, rfl⟩ | ⟨_, b, o, _, rfl, hb, _⟩⟩ := h
  · simp
  · intro x hx
    rcases List.mem_cons.1 hx with rfl | hx
    · exact hb
    · obtain ⟨r, hr', hx⟩ := List.mem_flatMap.1 hx
      exact (hr r hr').2.lt x hx
theorem Grid.keep {w w' : World} {A : Option Addr} {n : Nat} {rs : List (List Int)} {fp : List Nat} (h : Grid w A n rs fp) (k : Same fp w w') : Grid w' A n rs fp := by
  obtain ⟨D, rfl, hl, hr, ⟨h0, rfl⟩ | ⟨hn, b, o, rfl, rfl, hb, hc⟩⟩ := h
  · have hD : D = [] := List.eq_nil_of_length_eq_zero (by omega)
    subst hD
    exact ⟨[], rfl, hl, by simp, .inl ⟨h0, rfl⟩⟩
  · have e := k.2 b (by simp) hb
    refine ⟨D, rfl, hl, fun r hr' => ⟨(hr r hr').1, (hr r hr').2.keep (k.sub fun x hx => ?_)⟩, .inr ⟨hn, b, o, rfl, rfl, Nat.lt_of_lt_of_le hb k.1, fun i r hi => (World.cell?_of_block (a := ⟨b, o + i, none⟩) e).trans (hc i r hi)⟩⟩
    exact List.mem_cons_of_mem _ (List.mem_flatMap.2 ⟨r, hr', hx⟩)
theorem Grid.below {w w' : World} {A : Option Addr} {n : Nat} {rs : List (List Int)} {fp : List Nat} (h : Grid w A n rs fp) (k : Below w.heap.size w w') : Grid w' A n rs fp := h.keep (.of_below k)
/-- One row, read. -/
theorem Grid.row {w : World} {A : Option Addr} {n : Nat} {rs : List (List Int)} {fp : List Nat} (h : Grid w A n rs fp) {i : Nat} (hi : i < n) :
    ∃ b o a m c fr, A = some ⟨b, o, none⟩ ∧ b < w.heap.size ∧ w.cell? ⟨b, o + i, none⟩ = some (.slice a m c) ∧ m ≤ c ∧ Ints w a m (rs.getD i []) fr ∧ (∀ x ∈ fr, x ∈ fp) := by
  obtain ⟨D, rfl, hl, hr, ⟨h0, rfl⟩ | ⟨hn, b, o, rfl, rfl, hb, hc⟩⟩ := h
  · omega
  · have hiD : i < D.length := by omega
    have e : D[i]? = some D[i] := List.getElem?_eq_getElem hiD
    have hm : D[i] ∈ D := List.getElem_mem hiD
    have ex : (D.map Row.xs).getD i [] = D[i].xs := by simp [List.getD, e]
    refine ⟨b, o, D[i].a, D[i].n, D[i].c, D[i].fp, rfl, hb, hc i _ e, (hr _ hm).1, ?_, fun x hx => List.mem_cons_of_mem _ (List.mem_flatMap.2 ⟨_, hm, hx⟩)⟩
    rw [ex]; exact (hr _ hm).2
theorem flatMap_disj {D : List Row} (h : (D.flatMap Row.fp).Nodup) {i j : Nat} {r s : Row} (hi : D[i]? = some r) (hj : D[j]? = some s) (hne : i ≠ j) : ∀ x ∈ r.fp, x ∉ s.fp := by
  induction D generalizing i j with
  | nil => simp at hi
  | cons a D ih =>
    rw [List.flatMap_cons, List.nodup_append] at h
    obtain ⟨_, h2, h3⟩ := h
    intro x hx hy
    cases i with
    | zero =>
      cases j with
      | zero => exact hne rfl
      | succ j =>
        simp at hi; subst hi
        simp at hj
        exact h3 x hx x (List.mem_flatMap.2 ⟨s, List.mem_of_getElem? hj, hy⟩) rfl
    | succ i =>
      cases j with
      | zero =>
        simp at hj; subst hj
        simp at hi
        exact h3 x hy x (List.mem_flatMap.2 ⟨r, List.mem_of_getElem? hi, hx⟩) rfl
      | succ j =>
        simp at hi hj
        exact ih h2 hi hj (by omega) x hx hy
theorem flatMap_set {D : List Row} {i : Nat} {r s : Row} (hi : D[i]? = some r) (e : s.fp = r.fp) : (D.set i s).flatMap Row.fp = D.flatMap Row.fp := by
  induction D generalizing i with
  | nil => simp
  | cons a D ih =>
    cases i with
    | zero => simp at hi; subst hi; simp [e]
    | succ i => simp at hi; simp [ih hi]
/-- One row, to be written: what the whole is when the row has been written. -/
theorem Grid.put {w : World} {A : Option Addr} {n : Nat} {rs : List (List Int)} {fp : List Nat} (h : Grid w A n rs fp) (nd : fp.Nodup) {i : Nat} (hi : i < n) :
    ∃ b o a m c fr, A = some ⟨b, o, none⟩ ∧ b < w.heap.size ∧ w.cell? ⟨b, o + i, none⟩ = some (.slice a m c) ∧ m ≤ c ∧ Ints w a m (rs.getD i []) fr ∧ (∀ x ∈ fr, x ∈ fp) ∧
      ∀ w' xs', Only fr w w' → Ints w' a m xs' fr → Grid w' A n (rs.set i xs') fp := by
  obtain ⟨D, rfl, hl, hr, ⟨h0, rfl⟩ | ⟨hn, b, o, rfl, rfl, hb, hc⟩⟩ := h
  · omega
  · have hiD : i < D.length := by omega
    have e : D[i]? = some D[i] := List.getElem?_eq_getElem hiD
    have hm : D[i] ∈ D := List.getElem_mem hiD
    have ex : (D.map Row.xs).getD i [] = D[i].xs := by simp [List.getD, e]
    have hin : ∀ x ∈ D[i].fp, x ∈ D.flatMap Row.fp := fun x hx => List.mem_flatMap.2 ⟨_, hm, hx⟩
    refine ⟨b, o, D[i].a, D[i].n, D[i].c, D[i].fp, rfl, hb, hc i _ e, (hr _ hm).1, ?_, fun x hx => List.mem_cons_of_mem _ (hin x hx), fun w' xs' ho hx' => ?_⟩
    · rw [ex]; exact (hr _ hm).2
    · obtain ⟨nd1, nd2⟩ := List.nodup_cons.1 nd
      have eb := ho.block b hb (fun hx => nd1 (hin b hx))
      refine ⟨D.set i ⟨D[i].a, D[i].n, D[i].c, xs', D[i].fp⟩, by rw [List.map_set], by simpa using hl, fun r hr' => ?_, .inr ⟨hn, b, o, rfl, ?_, Nat.lt_of_lt_of_le hb ho.size, fun j r hj => ?_⟩⟩
      · obtain ⟨j, hj, rfl⟩ := List.getElem_of_mem hr'
        have hjD : j < D.length := by simpa using hj
        rw [List.getElem_set]
        split
        · exact ⟨(hr _ hm).1, hx'⟩
        · rename_i hne
          have hjm : D[j] ∈ D := List.getElem_mem hjD
          exact ⟨(hr _ hjm).1, (hr _ hjm).2.keep (.of_only ho (flatMap_disj nd2 (List.getElem?_eq_getElem hjD) e (by omega)))⟩
      · rw [flatMap_set (s := ⟨D[i].a, D[i].n, D[i].c, xs', D[i].fp⟩) e rfl]
      · rw [World.cell?_of_block (a := ⟨b, o + j, none⟩) eb]
        rw [List.getElem?_set] at hj
        split at hj
        · rename_i hij
          subst hij
          injection hj with hj
          subst hj
          exact hc i D[i] e
        · exact hc j r hj
end Go.Proofs.Ytkglocdmpfjafaa
end

section
/- Tests on numbers and on lists of numbers that every chapter reaches: the program's and the model's. -/
namespace Go.Proofs.Ytkglocdmpfjafaa
open Go.ChangeShapes Go.WideShapes Go.ChangeAt Go.RowKit

theorem ret_bool {a b : Bool} (h : a = b) : Ending.returned (.bool a) = .returned (.bool b) := by rw [h]
def betB (a l h : Int) : Bool := decide (l ≤ a) && decide (a ≤ h)
theorem betB_yes {a l h : Int} (e : betB a l h = true) : l ≤ a ∧ a ≤ h := by simpa [betB] using e
theorem l1In_any (a l h : Int) (w : World) : Calls Try.prog 28 #[.int .i64 a, .int .i64 l, .int .i64 h] w fun e w' => e = .returned (.bool (betB a l h)) ∧ w = w' := by
  by_cases h0 : l ≤ a
  · by_cases h1 : a ≤ h
    · have e : betB a l h = true := by simp [betB, h0, h1]
      rw [e]
      clear e
      go_enter Try.func28, Try.ntmps28
      go_wp2
      go_ret
      exact ⟨rfl, rfl⟩
    · have e : betB a l h = false := by simp [betB, h1]
      have hd : decide (a ≤ h) = false := by simp; omega
      rw [e]
      clear e h1
      go_enter Try.func28, Try.ntmps28
      go_wp2
      go_ret
      exact ⟨rfl, rfl⟩
  · have e : betB a l h = false := by simp [betB, h0]
    have hd : decide (l ≤ a) = false := by simp; omega
    rw [e]
    clear e h0
    go_enter Try.func28, Try.ntmps28
    go_wp2
    go_ret
    exact ⟨rfl, rfl⟩
end Go.Proofs.Ytkglocdmpfjafaa
end

section
/- The laws' own functions on slices of integers: the same numbers are equal; a copy is new and reads the same; numbers written in order are found again. -/
namespace Go.Proofs.Ytkglocdmpfjafaa
open Go.ChangeShapes Go.WideShapes Go.ChangeAt Go.RowKit

theorem eq_ints (A B : Option Addr) (n c d : Nat) (xs : List Int) (fa fb : List Nat) (w : World) (ha : Ints w A n xs fa) (hb : Ints w B n xs fb) (hn : n ≤ 1000000000) :
    Calls Try.prog 21 #[.slice A n c, .slice B n d] w fun e w' => e = .returned (.bool true) ∧ ∃ m, w' = w.drewN m := by
  have HA := Lib.hid ha
  have HB := Lib.hid hb
  clear ha hb
  go_enter Try.func21, Try.ntmps21
  go_wp2
  go_loopw [5] (fun i wr => ∃ k m : Nat, k ≤ n ∧ i = .int .i64 k ∧ wr = w.drewN m) (fun i _ => n - (intOf i).toNat)
  case atStart => exact ⟨0, 0, Nat.zero_le _, rfl, rfl⟩
  case round =>
    obtain ⟨k, m, hk, rfl, rfl⟩ := hrel
    by_cases hlt : k < n
    · obtain ⟨p, o, rfl, _, _, hc⟩ := HA.out.at_ (by omega)
      obtain ⟨q, u, rfl, _, _, hd⟩ := HB.out.at_ (by omega)
      have c1 := hc k hlt
      have c2 := hd k hlt
      clear hc hd
      generalize xs.getD k 0 = x at c1 c2
      go_wp2
      go_quiet (fail)
      go_wp2
      go_roundw
      case rel => exact ⟨k + 1, _, by omega, by go_num, rfl⟩
      case measure => simp [intOf]; omega
    · go_wp2
      go_ret
      exact ⟨rfl, m, rfl⟩
theorem same_ints (A B : Option Addr) (n c d : Nat) (xs : List Int) (fa fb : List Nat) (w : World) (ha : Ints w A n xs fa) (hb : Ints w B n xs fb) (hn : n ≤ 1000000000) :
    Calls Try.prog 16 #[.slice A n c, .slice B n d] w fun e w' => e = .returned (.bool true) ∧ ∃ m, w' = w.drewN m := by
  have HA := Lib.hid ha
  have HB := Lib.hid hb
  clear ha hb
  go_enter Try.func16, Try.ntmps16
  go_wp2
  go_loopw [5] (fun i wr => ∃ k m : Nat, k ≤ n ∧ i = .int .i64 k ∧ wr = w.drewN m) (fun i _ => n - (intOf i).toNat)
  case atStart => exact ⟨0, 0, Nat.zero_le _, rfl, rfl⟩
  case round =>
    obtain ⟨k, m, hk, rfl, rfl⟩ := hrel
    by_cases hlt : k < n
    · obtain ⟨p, o, rfl, _, _, hc⟩ := HA.out.at_ (by omega)
      obtain ⟨q, u, rfl, _, _, hd⟩ := HB.out.at_ (by omega)
      have c1 := hc k hlt
      have c2 := hd k hlt
      clear hc hd
      generalize xs.getD k 0 = x at c1 c2
      go_wp2
      go_quiet (fail)
      go_wp2
      go_roundw
      case rel => exact ⟨k + 1, _, by omega, by go_num, rfl⟩
      case measure => simp [intOf]; omega
    · go_wp2
      go_ret
      exact ⟨rfl, m, rfl⟩
theorem infoInt : (Try.prog.info? 3).map (fun i => (i.zero, i.size, i.bytes)) = some (some (.int .i64 0), 1, 8) := by kernel_rfl
theorem ints_of_row {w : World} {g n : Nat} {t : TypeId} {xs : List Int} {f : Nat → Value} (h : w.rowIs g t n f) (hf : ∀ i, i < n → f i = .int .i64 (xs.getD i 0)) (hl : xs.length = n) (h0 : 0 < n) :
    Ints w (some ⟨g, 0, none⟩) n xs [g] :=
  ⟨hl, .inr ⟨h0, g, 0, rfl, rfl, h.lt, fun i hi => by rw [Nat.zero_add, h.cell hi, hf i hi]⟩⟩
theorem row_step {w : World} {g n k : Nat} {t : TypeId} {xs : List Int} (h : w.rowIs g t n (fun j => .int .i64 (if j < k then xs.getD j 0 else 0))) (v : Int) (hv : v = xs.getD k 0) :
    (w.setCell ⟨g, k, none⟩ (.int .i64 v)).rowIs g t n (fun j => .int .i64 (if j < k + 1 then xs.getD j 0 else 0)) :=
  (h.set k _).congr fun i _ => by
    by_cases h1 : i = k
    · subst h1; rw [if_pos rfl, if_pos (by omega), hv]
    · rw [if_neg h1]
      by_cases h2 : i < k
      · rw [if_pos h2, if_pos (by omega)]
      · rw [if_neg h2, if_neg (by omega)]
/-- What a copy leaves: a slice of its own. -/
def Copied (xs : List Int) (n : Nat) (w : World) (e : Ending) (w' : World) : Prop :=
  ∃ (A : Option Addr) (c : Nat) (fp : List Nat), e = .returned (.slice A n c) ∧ n ≤ c ∧ Ints w' A n xs fp ∧ New w.heap.size w' fp ∧ Below w.heap.size w w'
theorem copied_row {w w' : World} {n k : Nat} {t : TypeId} {xs : List Int} (h : w'.rowIs w.heap.size t n (fun j => .int .i64 (if j < k then xs.getD j 0 else 0))) (hk : n ≤ k) (hl : xs.length = n) (hb : Below w.heap.size w w') :
    Copied xs n w (.returned (.slice (some ⟨w.heap.size, 0, none⟩) n n)) w' := by
  by_cases h0 : n = 0
  · subst h0
    have : xs = [] := List.eq_nil_of_length_eq_zero hl
    subst this
    exact ⟨_, _, [], rfl, Nat.le_refl _, .nil _ _, .nil _ _, hb⟩
  · refine ⟨_, _, [w.heap.size], rfl, Nat.le_refl _, ints_of_row h (fun i hi => by rw [if_pos (by omega)]) hl (by omega), .one (Nat.le_refl _) h.lt h.frozen, hb⟩
/-- The numbers from k on. -/
def upFrom (k : Int) (n : Nat) : List Int := (List.range n).map fun i : Nat => k + (i : Int)
theorem upFrom_len (k : Int) (n : Nat) : (upFrom k n).length = n := by simp [upFrom]
theorem upFrom_at (k : Int) (n i : Nat) (h : i < n) : (upFrom k n).getD i 0 = k + i := by simp [upFrom, List.getD, h]
theorem list_ext0 (xs ys : List Int) (h : xs.length = ys.length) (k : ∀ i, i < ys.length → xs.getD i 0 = ys.getD i 0) : xs = ys := by
  apply List.ext_getElem h
  intro i h1 h2
  have := k i h2
  simpa [List.getD, List.getElem?_eq_getElem h1, List.getElem?_eq_getElem h2] using this
theorem Ints.set {w : World} {b o n : Nat} {xs : List Int} {fp : List Nat} (h : Ints w (some ⟨b, o, none⟩) n xs fp) {k : Nat} (hk : k < n) (v : Int) : Ints (w.setCell ⟨b, o + k, none⟩ (.int .i64 v)) (some ⟨b, o, none⟩) n (xs.set k v) fp := by
  obtain ⟨hl, ⟨rfl, _⟩ | ⟨hn, b', o', he, rfl, hb, hc⟩⟩ := h
  · omega
  · injection he with he
    injection he with h1 h2 _
    subst h1 h2
    refine ⟨by simpa using hl, .inr ⟨hn, b, o, rfl, rfl, by simpa using hb, fun i hi => ?_⟩⟩
    simp only [List.getD_eq_getElem?_getD, List.getElem?_set]
    by_cases h : k = i
    · subst h
      rw [World.cell?_setCell_same _ _ _ (hc k hk)]
      simp [hl, hk]
    · rw [World.cell?_setCell_other _ _ _ _ (fun e => by injection e; omega), hc i hi, if_neg h]
      simp [List.getD_eq_getElem?_getD]
/-- What writing the numbers from k on leaves. -/
def MarkedI (A : Option Addr) (n : Nat) (k : Int) (fp : List Nat) (w : World) (e : Ending) (w' : World) : Prop :=
  e = .returned (.int .i64 (k + n)) ∧ Only fp w w' ∧ Ints w' A n (upFrom k n) fp ∧ (∀ b ∈ fp, ∀ o, w'.frozen? ⟨b, o, none⟩ = false)
theorem mark_ints (A : Option Addr) (n c : Nat) (k0 : Int) (xs : List Int) (fp : List Nat) (w : World) (ha : Ints w A n xs fp) (hf : ∀ b ∈ fp, ∀ o, w.frozen? ⟨b, o, none⟩ = false) (hn : n ≤ 1000000000) (h0 : 0 ≤ k0) (h1 : k0 ≤ 10000000000) :
    Calls Try.prog 22 #[.slice A n c, .int .i64 k0] w (MarkedI A n k0 fp w) := by
  have HA := Lib.hid ha
  have HF := Lib.hid hf
  clear ha hf
  go_enter Try.func22, Try.ntmps22
  go_wp2
  go_loopw [1, 5] (fun q i wr => ∃ (k : Nat) (cur : List Int), k ≤ n ∧ i = .int .i64 k ∧ q = .int .i64 (k0 + k) ∧ Ints wr A n cur fp ∧ (∀ j, j < k → cur.getD j 0 = k0 + j) ∧ Only fp w wr ∧ (∀ b ∈ fp, ∀ o, wr.frozen? ⟨b, o, none⟩ = false)) (fun _ i _ => n - (intOf i).toNat)
  case atStart => exact ⟨0, xs, Nat.zero_le _, rfl, by simp, HA.out, fun j hj => by omega, Only.refl _ _, HF.out⟩
  case round =>
    obtain ⟨k, cur, hk, rfl, rfl, hr, hm, hb, hf⟩ := hrel
    have HR := Lib.hid hr
    have HM := Lib.hid hm
    have HB := Lib.hid hb
    have HG := Lib.hid hf
    clear hr hb hf hm HA HF
    by_cases hlt : k < n
    · obtain ⟨p, o, rfl, hfp, hp, hc⟩ := HR.out.at_ (by omega)
      have HP := Lib.hid hfp
      have c1 := hc k hlt
      have c2 := HG.out p (by rw [HP.out]; simp) (o + k)
      clear hc hfp
      generalize cur.getD k 0 = x at c1
      go_wp2
      go_roundw
      case rel =>
        have hl := HR.out.1
        refine ⟨k + 1, cur.set k (k0 + k), by omega, by go_num, by go_num, HR.out.set hlt _, fun j hj => ?_, HB.out.setCell (.inl (by rw [HP.out]; simp)) _, fun b hb o' => by rw [World.frozen?_setCell]; exact HG.out b hb o'⟩
        simp only [List.getD_eq_getElem?_getD, List.getElem?_set]
        by_cases hjk : k = j
        · subst hjk; simp [hl, hlt]
        · rw [if_neg hjk, ← List.getD_eq_getElem?_getD]; exact HM.out j (by omega)
      case measure => simp [intOf]; omega
    · obtain rfl : k = n := by omega
      go_wp2
      go_ret
      refine ⟨rfl, HB.out, ?_, HG.out⟩
      have e : cur = upFrom k0 k := list_ext0 _ _ (by rw [upFrom_len]; exact HR.out.1) (fun i hi => by rw [upFrom_len] at hi; rw [upFrom_at _ _ _ hi, HM.out i hi])
      rw [← e]; exact HR.out
theorem held_ints (A : Option Addr) (n c : Nat) (k0 : Int) (fp : List Nat) (w : World) (ha : Ints w A n (upFrom k0 n) fp) (hn : n ≤ 1000000000) (h0 : 0 ≤ k0) (h1 : k0 ≤ 10000000000) :
    Calls Try.prog 23 #[.slice A n c, .int .i64 k0] w fun e w' => e = .returned (.int .i64 (k0 + n)) ∧ w = w' := by
  have HA := Lib.hid ha
  clear ha
  go_enter Try.func23, Try.ntmps23
  go_wp2
  go_loop [1, 5] (fun q i => ∃ (k : Nat), k ≤ n ∧ i = .int .i64 k ∧ q = .int .i64 (k0 + k)) (fun _ i => n - (intOf i).toNat)
  case atStart => exact ⟨0, Nat.zero_le _, rfl, by simp⟩
  case round =>
    obtain ⟨k, hk, rfl, rfl⟩ := hrel
    by_cases hlt : k < n
    · obtain ⟨p, o, rfl, hfp, hp, hc⟩ := HA.out.at_ (by omega)
      have c1 := hc k hlt
      rw [upFrom_at _ _ _ hlt] at c1
      clear hc hfp HA
      go_wp2
      go_round
      case rel => exact ⟨k + 1, by omega, by go_num, by go_num⟩
      case measure => simp [intOf]; omega
    · obtain rfl : k = n := by omega
      go_wp2
      go_ret
      exact ⟨rfl, rfl⟩
end Go.Proofs.Ytkglocdmpfjafaa
end

section
/- The laws' own functions on slices of slices of integers. -/
namespace Go.Proofs.Ytkglocdmpfjafaa
open Go.ChangeShapes Go.WideShapes Go.ChangeAt Go.RowKit

theorem Ints.drawn {w w' : World} {A : Option Addr} {n : Nat} {xs : List Int} {fp : List Nat} (h : Ints w A n xs fp) (k : ∃ m, w' = w.drewN m) : Ints w' A n xs fp := by
  obtain ⟨m, rfl⟩ := k
  exact h
theorem Grid.drawn {w w' : World} {A : Option Addr} {n : Nat} {xs : List (List Int)} {fp : List Nat} (h : Grid w A n xs fp) (k : ∃ m, w' = w.drewN m) : Grid w' A n xs fp := by
  obtain ⟨m, rfl⟩ := k
  exact h
theorem drawn_more {w w' : World} (k : ∃ m, w' = w.drewN m) (n : Nat) : ∃ m, w'.drewN n = w.drewN m := by
  obtain ⟨m, rfl⟩ := k
  exact ⟨m + n, World.drewN_drewN ..⟩
theorem drawn_below {w w' : World} (k : ∃ m, w' = w.drewN m) : Below w.heap.size w w' := by
  obtain ⟨m, rfl⟩ := k
  exact below_drewN (Below.refl _ _) _
/-- How many numbers there are in all rows. -/
def sumLen (rs : List (List Int)) : Nat := (rs.map List.length).sum
theorem sumLen_take (rs : List (List Int)) (i : Nat) (h : i < rs.length) : sumLen (rs.take (i + 1)) = sumLen (rs.take i) + (rs.getD i []).length := by
  have e : rs.getD i [] = rs[i] := by simp [List.getD, List.getElem?_eq_getElem h]
  unfold sumLen
  rw [e, List.take_succ_eq_append_getElem h, List.map_append, List.sum_append]
  simp only [List.map_cons, List.map_nil, List.sum_cons, List.sum_nil, Nat.add_zero]
theorem sumLen_le (rs : List (List Int)) (i : Nat) : sumLen (rs.take i) ≤ sumLen rs := by
  unfold sumLen
  rw [List.map_take]
  have := List.sum_append (l₁ := (rs.map List.length).take i) (l₂ := (rs.map List.length).drop i)
  rw [List.take_append_drop] at this
  omega
theorem sumLen_row (rs : List (List Int)) (i : Nat) : (rs.getD i []).length ≤ sumLen rs := by
  by_cases h : i < rs.length
  · have := sumLen_take rs i h
    have := sumLen_le rs (i + 1)
    omega
  · simp [List.getD, List.getElem?_eq_none (Nat.le_of_not_lt h)]
theorem sumLen_whole (rs : List (List Int)) (n : Nat) (h : rs.length = n) : sumLen (rs.take n) = sumLen rs := by
  rw [List.take_of_length_le (by omega)]

/-- What counting leaves: a negative number, or what is left. -/
def Sized (n : Nat) (rs : List (List Int)) (left : Int) (w : World) (e : Ending) (w' : World) : Prop :=
  ∃ v : Int, e = .returned (.int .i64 v) ∧ w = w' ∧ (v < 0 ∨ (0 ≤ v ∧ v = left - n - sumLen rs))
end Go.Proofs.Ytkglocdmpfjafaa
end

section
/- A slice of slices, copied by the laws' own function: every row is a block of its own. -/
namespace Go.Proofs.Ytkglocdmpfjafaa
open Go.ChangeShapes Go.WideShapes Go.ChangeAt Go.RowKit

theorem infoInts : (Try.prog.info? 29).map (fun i => (i.zero, i.size, i.bytes)) = some (some (.slice none 0 0), 1, 24) := by kernel_rfl
/-- What a row's cell holds while rows are filled in from the left. -/
def fillRow (D : List Row) (j : Nat) : Value := (D[j]?.map Row.val).getD (.slice none 0 0)
theorem fill_snoc (D : List Row) (r : Row) (j : Nat) : fillRow (D ++ [r]) j = if j = D.length then r.val else fillRow D j := by
  unfold fillRow
  by_cases h : j = D.length
  · subst h; simp
  · rw [if_neg h]
    by_cases h2 : j < D.length
    · rw [List.getElem?_append_left h2]
    · rw [List.getElem?_eq_none (by simp; omega), List.getElem?_eq_none (by omega)]
/-- The rows that have been made so far: as many as D has, each in new memory from block g + 1 on; the cells for them lie in block g. -/
structure Fill (w : World) (g n : Nat) (rs : List (List Int)) (k : Nat) (D : List Row) : Prop where
  len : D.length = k
  xs : D.map Row.xs = rs.take k
  row : w.rowIs g 29 n (fillRow D)
  ok : ∀ r ∈ D, RowOk w r
  new : New (g + 1) w (D.flatMap Row.fp)
theorem Fill.none_ (w : World) (n : Nat) (rs : List (List Int)) : Fill (w.alloc (.cells (madeCells #[.slice none 0 0] n) 29)) w.heap.size n rs 0 [] :=
  ⟨rfl, by simp, (World.rowIs_made w (.slice none 0 0) n 29).congr fun i _ => by simp [fillRow], by simp, by simpa using New.nil _ _⟩
theorem Fill.keep {w w' : World} {g n : Nat} {rs : List (List Int)} {k : Nat} {D : List Row} (h : Fill w g n rs k D) (b : Below w.heap.size w w') : Fill w' g n rs k D :=
  ⟨h.len, h.xs, h.row.of_block (b.block g h.row.lt), fun r hr => ⟨(h.ok r hr).1, (h.ok r hr).2.below b⟩, h.new.keep (.of_below b)⟩
theorem Fill.next {w w1 : World} {g n : Nat} {rs : List (List Int)} {k : Nat} {D : List Row} (h : Fill w g n rs k D) (hk : k < rs.length) (b : Below w.heap.size w w1) {A : Option Addr} {m c : Nat} {fp : List Nat} (hm : m ≤ c) (hi : Ints w1 A m (rs.getD k []) fp) (hw : New w.heap.size w1 fp) :
    Fill (w1.setCell ⟨g, k, none⟩ (.slice A m c)) g n rs (k + 1) (D ++ [⟨A, m, c, rs.getD k [], fp⟩]) := by
  have h1 := h.keep b
  have hg := h.row.lt
  have ho : Only [g] w1 (w1.setCell ⟨g, k, none⟩ (.slice A m c)) := (Only.refl _ _).setCell (.inl (by simp)) _
  have off : ∀ x ∈ D.flatMap Row.fp, x ∉ [g] := fun x hx e => by have := (h.new.lt x hx).1; simp at e; omega
  have off2 : ∀ x ∈ fp, x ∉ [g] := fun x hx e => by have := (hw.lt x hx).1; simp at e; omega
  refine ⟨by simp [h.len], ?_, ?_, fun r hr => ?_, ?_⟩
  · rw [List.map_append, h.xs, List.take_succ_eq_append_getElem hk]
    simp [List.getD, List.getElem?_eq_getElem hk]
  · refine (h1.row.set k (.slice A m c)).congr fun i _ => ?_
    rw [fill_snoc, h.len]; rfl
  · rcases List.mem_append.1 hr with hr | hr
    · exact ⟨(h1.ok r hr).1, (h1.ok r hr).2.keep (.of_only ho fun x hx => off x (List.mem_flatMap.2 ⟨r, hr, hx⟩))⟩
    · simp at hr; subst hr
      exact ⟨hm, hi.keep (.of_only ho off2)⟩
  · rw [List.flatMap_append]
    simp only [List.flatMap_cons, List.flatMap_nil, List.append_nil]
    exact (h1.new.keep (.of_only ho off)).append ((hw.mono (show g + 1 ≤ w.heap.size by omega)).keep (.of_only ho off2)) (fun x hx hy => by
      have := (h.new.lt x hx).2
      have := (hw.lt x hy).1
      omega)
/-- What a copy of a slice of slices leaves. -/
def CopiedR (rs : List (List Int)) (n : Nat) (w : World) (e : Ending) (w' : World) : Prop :=
  ∃ (A : Option Addr) (c : Nat) (fp : List Nat), e = .returned (.slice A n c) ∧ n ≤ c ∧ Grid w' A n rs fp ∧ New w.heap.size w' fp ∧ Below w.heap.size w w'
theorem Fill.grid {w : World} {g n : Nat} {rs : List (List Int)} {D : List Row} (h : Fill w g n rs n D) (hl : rs.length = n) (h0 : 0 < n) : Grid w (some ⟨g, 0, Option.none⟩) n rs (g :: D.flatMap Row.fp) ∧ New g w (g :: D.flatMap Row.fp) := by
  constructor
  · refine ⟨D, by rw [h.xs, List.take_of_length_le (by omega)], h.len, h.ok, .inr ⟨h0, g, 0, rfl, rfl, h.row.lt, fun i r hi => ?_⟩⟩
    have hi' : i < n := by have := (List.getElem?_eq_some_iff.1 hi).1; have := h.len; omega
    rw [Nat.zero_add, h.row.cell hi']
    simp [fillRow, hi]
  · have h1 := New.one (L := g) (Nat.le_refl _) h.row.lt h.row.frozen
    exact h1.append (h.new.mono (by omega)) (fun b hb hx => by simp at hb; subst hb; have := (h.new.lt _ hx).1; omega)
theorem Fill.both {w : World} {g n : Nat} {rs : List (List Int)} {D : List Row} (h : Fill w g n rs n D) (hl : rs.length = n) : ∃ fq, Grid w (some ⟨g, 0, Option.none⟩) n rs fq ∧ New g w fq := by
  by_cases h0 : n = 0
  · subst h0
    have : rs = [] := List.eq_nil_of_length_eq_zero hl
    subst this
    exact ⟨[], .nil _ _, .nil _ _⟩
  · exact ⟨_, h.grid hl (by omega)⟩
theorem Fill.copied {w w' : World} {n : Nat} {rs : List (List Int)} {D : List Row} (h : Fill w' w.heap.size n rs n D) (hl : rs.length = n) (hb : Below w.heap.size w w') : CopiedR rs n w (.returned (.slice (some ⟨w.heap.size, 0, Option.none⟩) n n)) w' := by
  by_cases h0 : n = 0
  · subst h0
    have : rs = [] := List.eq_nil_of_length_eq_zero hl
    subst this
    exact ⟨_, _, [], rfl, Nat.le_refl _, .nil _ _, .nil _ _, hb⟩
  · obtain ⟨hg, hn⟩ := h.grid hl (by omega)
    exact ⟨_, _, _, rfl, Nat.le_refl _, hg, hn, hb⟩
end Go.Proofs.Ytkglocdmpfjafaa
end

section
/- A slice of slices, written by the laws' own function with numbers in order, and looked through again. -/
namespace Go.Proofs.Ytkglocdmpfjafaa
open Go.ChangeShapes Go.WideShapes Go.ChangeAt Go.RowKit

theorem sumLen_congr {rs rs' : List (List Int)} (h : rs'.map List.length = rs.map List.length) (i : Nat) : sumLen (rs'.take i) = sumLen (rs.take i) := by
  unfold sumLen
  rw [List.map_take, h, ← List.map_take]
theorem sumLen_same {rs rs' : List (List Int)} (h : rs'.map List.length = rs.map List.length) : sumLen rs' = sumLen rs := by
  unfold sumLen
  rw [h]
theorem len_at {rs rs' : List (List Int)} (h : rs'.map List.length = rs.map List.length) (i : Nat) : (rs'.getD i []).length = (rs.getD i []).length := by
  have e := congrArg (fun l : List Nat => l[i]?) h
  simp only [List.getElem?_map] at e
  simp only [List.getD_eq_getElem?_getD]
  cases h1 : rs'[i]? <;> cases h2 : rs[i]? <;> simp [h1, h2] at e ⊢
  exact e
/-- The rows hold the numbers from k on, in order. -/
def Marked (k : Int) (rs : List (List Int)) : Prop := ∀ i, i < rs.length → rs.getD i [] = upFrom (k + sumLen (rs.take i)) (rs.getD i []).length
/-- What writing numbers in order leaves. -/
def MarkedR (A : Option Addr) (n : Nat) (k : Int) (rs : List (List Int)) (fp : List Nat) (w : World) (e : Ending) (w' : World) : Prop :=
  ∃ rs' : List (List Int), e = .returned (.int .i64 (k + sumLen rs)) ∧ Only fp w w' ∧ Grid w' A n rs' fp ∧ Marked k rs' ∧ rs'.map List.length = rs.map List.length ∧ (∀ b ∈ fp, ∀ o, w'.frozen? ⟨b, o, none⟩ = false)
theorem only_frozen {S : List Nat} {w w' : World} {fp : List Nat} (h : Only S w w') (hl : ∀ b ∈ fp, b < w.heap.size) (hf : ∀ b ∈ fp, ∀ o, w.frozen? ⟨b, o, none⟩ = false) (hS : ∀ b ∈ S, ∀ o, w'.frozen? ⟨b, o, none⟩ = false) :
    ∀ b ∈ fp, ∀ o, w'.frozen? ⟨b, o, none⟩ = false := by
  intro b hb o
  by_cases hs : b ∈ S
  · exact hS b hs o
  · rw [World.frozen?_of_block (a := ⟨b, o, none⟩) (h.block b (hl b hb) hs)]
    exact hf b hb o
theorem marks_step {rs cur : List (List Int)} {k0 : Int} {k m : Nat} {q : Int} (hk : k < rs.length) (hc : cur.map List.length = rs.map List.length) (hm : ∀ j, j < k → cur.getD j [] = upFrom (k0 + sumLen (rs.take j)) (rs.getD j []).length)
    (hl : m = (rs.getD k []).length) (hq : q = k0 + sumLen (rs.take k)) :
    (cur.set k (upFrom q m)).map List.length = rs.map List.length ∧ ∀ j, j < k + 1 → (cur.set k (upFrom q m)).getD j [] = upFrom (k0 + sumLen (rs.take j)) (rs.getD j []).length := by
  have hlen : cur.length = rs.length := by simpa using congrArg List.length hc
  constructor
  · rw [List.map_set, hc, upFrom_len, hl]
    apply List.ext_getElem (by simp)
    intro i h1 h2
    rw [List.getElem_set]
    split
    · rename_i h; subst h
      simp [List.getD, List.getElem?_eq_getElem hk]
    · rfl
  · intro j hj
    simp only [List.getD_eq_getElem?_getD, List.getElem?_set]
    by_cases h : k = j
    · subst h
      rw [if_pos rfl, if_pos (by omega), hl, hq]
      simp [List.getD_eq_getElem?_getD]
    · rw [if_neg h, ← List.getD_eq_getElem?_getD, ← List.getD_eq_getElem?_getD]
      exact hm j (by omega)
theorem ret_mark {t k0 : Int} {rs : List (List Int)} {n : Nat} (h : t = k0 + sumLen (rs.take n)) (hl : rs.length = n) : Ending.returned (.int .i64 t) = .returned (.int .i64 (k0 + sumLen rs)) := by
  rw [h, sumLen_whole _ _ hl]
end Go.Proofs.Ytkglocdmpfjafaa
end

section
/- Appending to a row of the call's own: integers from any slice; one slice more to a row of slices. -/
namespace Go.Proofs.Ytkglocdmpfjafaa
open Go.ChangeShapes Go.WideShapes Go.ChangeAt Go.RowKit

abbrev iv (xs : List Int) : List Value := xs.map (Value.int .i64)
theorem iv_at (xs : List Int) (i : Nat) (h : i < xs.length) : (iv xs)[i]? = some (.int .i64 (xs.getD i 0)) := by
  simp [iv, List.getElem?_map, List.getD, List.getElem?_eq_getElem h]
theorem iv_one (xs : List Int) : ∀ u ∈ iv xs, u.oneCell' = true := by
  intro u hu
  obtain ⟨x, _, rfl⟩ := List.mem_map.1 hu
  rfl
theorem ints_news {w : World} {ad : Addr} {n : Nat} {ys : List Int} {fp : List Nat} (h : Ints w (some ad) n ys fp) : ∀ j u, (iv ys)[j]? = some u → w.cell? (ad.add j) = some u := by
  intro j u hu
  have hj : j < ys.length := by have := (List.getElem?_eq_some_iff.1 hu).1; simpa using this
  rw [iv_at ys j hj] at hu
  injection hu with hu
  subst hu
  have hl := h.1
  obtain ⟨b, o, he, _, _, hc⟩ := h.at_ (by omega)
  injection he with he
  subst he
  have := hc j (by omega)
  by_cases h0 : j = 0
  · subst h0; simpa [Addr.add] using this
  · simpa [Addr.add, h0] using this
theorem run_append_void (w : World) (base : Nat) (ty : TypeId) (i : TypeInfo) (hi : Try.prog.info? 3 = some i) (v : Value) (n : Nat) (xs : List Value) (hown : w.ownsRow base 3 1 v n xs) (c : Nat) :
    (Builtin.append_ #[29, 29] ty #[v, .slice none 0 c]).run Try.prog w = .ok v w := by
  rcases hown.2 with ⟨rfl, rfl⟩ | ⟨g, cap, cur, rfl, _, _, hnc, _⟩
  · simp [Builtin.append_, run_underlying Try.underlying29, sizeOf, typeInfo, hi, Builtin.lenOf, Builtin.firstCells]
  · simp [Builtin.append_, run_underlying Try.underlying29, sizeOf, typeInfo, hi, Builtin.lenOf, Builtin.firstCells, hnc, storeCells]
/-- The run of an append of integers, whatever the source. -/
theorem run_append_ints (w : World) (ty : TypeId) (base : Nat) (v : Value) (n : Nat) (xs : List Int) (hown : w.ownsRow base 3 1 v n (iv xs)) (A : Option Addr) (m c : Nat) (ys : List Int) (fp : List Nat) (hi : Ints w A m ys fp) (hb : n + m ≤ 1000000000000) (hbase : base ≤ w.heap.size) :
    ∃ v' w', (Builtin.append_ #[29, 29] ty #[v, .slice A m c]).run Try.prog w = .ok v' w' ∧ w'.ownsRow base 3 1 v' (n + m) (iv (xs ++ ys)) ∧ w.grownBy w' v.ownBlock ∧ (v'.ownBlock = v.ownBlock ∨ v'.ownBlock = some w.heap.size) := by
  obtain ⟨i0, hi0, hz0, hz1, hz2⟩ := info_parts infoInt
  rcases A with _ | ad
  · have hm : m = 0 := by
      obtain ⟨_, ⟨h, _⟩ | ⟨_, b, o, h, _⟩⟩ := hi
      · exact h
      · cases h
    subst hm
    have hy : ys = [] := List.eq_nil_of_length_eq_zero hi.1
    subst hy
    exact ⟨v, w, run_append_void w base ty i0 hi0 v n _ hown c, by simpa using hown, World.grownBy.refl w _, .inl rfl⟩
  · obtain ⟨v', w', hr, h2, h3, _, h5⟩ := run_append_own_at (P := Try.prog) w base 29 ty 3 i0 (.int .i64 0) 1 8 Try.underlying29 hi0 hz0 hz1 hz2 rfl (by decide) v n _ hown ad m c (iv ys) (by simp [iv, hi.1]) (ints_news hi) (iv_one ys) (by unfold maxLen; omega) (by omega) hbase
    exact ⟨v', w', hr, by simpa [iv] using h2, h3, h5⟩
theorem wp_append_ints {w : World} {o : Oper} {a : Act} {K : Act → World → Prop} {Q : Exit → Act → World → Prop} (s x : Operand) (ho : o.op = .call { callee := .builtin .append, args := #[s, x], argTypes := #[29, 29] })
    (base : Nat) (v : Value) (n : Nat) (xs : List Int) (hs : a.eval s = v) (hown : w.ownsRow base 3 1 v n (iv xs)) (A : Option Addr) (m c : Nat) (ys : List Int) (fp : List Nat) (hx : a.eval x = .slice A m c) (hi : Ints w A m ys fp) (hb : n + m ≤ 1000000000000) (hbase : base ≤ w.heap.size)
    (h : ∀ v' w', w'.ownsRow base 3 1 v' (n + m) (iv (xs ++ ys)) → w.grownBy w' v.ownBlock → (v'.ownBlock = v.ownBlock ∨ v'.ownBlock = some w.heap.size) → K (a.put o.dst v') w') : o.wp Try.prog a w K Q := by
  obtain ⟨v', w', hr, h2, h3, h4⟩ := run_append_ints w o.type base v n xs hown A m c ys fp hi hb hbase
  unfold Oper.wp execOp
  simp only [ho, resolve, invoke, builtin, Sem.run_bind, Sem.run_pure, Result.andThen_ok, List.map_toArray, List.map_cons, List.map_nil, hs, hx, hr]
  exact h v' w' h2 h3 h4
theorem wpList_append_ints {w : World} {ops : Array Oper} {rest : List Oper} {o : Oper} {a : Act} {Q : Exit → Act → World → Prop} (hgd : o.guard = none) (s x : Operand) (ho : o.op = .call { callee := .builtin .append, args := #[s, x], argTypes := #[29, 29] })
    (base : Nat) (v : Value) (n : Nat) (xs : List Int) (hs : a.eval s = v) (hown : w.ownsRow base 3 1 v n (iv xs)) (A : Option Addr) (m c : Nat) (ys : List Int) (fp : List Nat) (hx : a.eval x = .slice A m c) (hi : Ints w A m ys fp) (hb : n + m ≤ 1000000000000) (hbase : base ≤ w.heap.size)
    (h : ∀ v' w', w'.ownsRow base 3 1 v' (n + m) (iv (xs ++ ys)) → w.grownBy w' v.ownBlock → (v'.ownBlock = v.ownBlock ∨ v'.ownBlock = some w.heap.size) → wpList Try.prog ops Q rest (a.put o.dst v') w') : wpList Try.prog ops Q (o :: rest) a w :=
  wpList_plain hgd fun _ hK => wp_append_ints s x ho base v n xs hs hown A m c ys fp hx hi hb hbase fun v' w' h2 h3 h4 => hK _ _ (h v' w' h2 h3 h4)
theorem step_append_ints {w : World} {ops : Array Oper} {o : Oper} {a : Act} {K : Act → World → Prop} {Q : Exit → Act → World → Prop} {E : Prop} (hgd : o.guard = none) (s x : Operand) (ho : o.op = .call { callee := .builtin .append, args := #[s, x], argTypes := #[29, 29] })
    (base : Nat) (v : Value) (n : Nat) (xs : List Int) (hs : a.eval s = v) (hown : w.ownsRow base 3 1 v n (iv xs)) (A : Option Addr) (m c : Nat) (ys : List Int) (fp : List Nat) (hx : a.eval x = .slice A m c) (hi : Ints w A m ys fp) (hb : n + m ≤ 1000000000000) (hbase : base ≤ w.heap.size)
    (h : ∀ v' w', w'.ownsRow base 3 1 v' (n + m) (iv (xs ++ ys)) → w.grownBy w' v.ownBlock → (v'.ownBlock = v.ownBlock ∨ v'.ownBlock = some w.heap.size) → K (a.put o.dst v') w') :
    if Region.wanted o (yielded ops a.tmps) = true then Oper.wp Try.prog o a w K Q else E := by
  have hw : Region.wanted o (yielded ops a.tmps) = true := by simp [Region.wanted, hgd]
  rw [if_pos hw]
  exact wp_append_ints s x ho base v n xs hs hown A m c ys fp hx hi hb hbase h
theorem own_ints {w : World} {base : Nat} {v : Value} {n : Nat} {xs : List Int} (h : w.ownsRow base 3 1 v n (iv xs)) : ∃ A c fp, v = .slice A n c ∧ n ≤ c ∧ (A = none → c = 0) ∧ Ints w A n xs fp ∧ New base w fp ∧ ∀ b ∈ fp, v.ownBlock = some b := by
  have hl : xs.length = n := by have := h.1; simpa [iv] using this
  rcases h.2 with ⟨rfl, h0⟩ | ⟨g, cap, cur, rfl, hb, hh, hnc, _, hsz, hcur⟩
  · subst h0
    have : xs = [] := List.eq_nil_of_length_eq_zero hl
    subst this
    exact ⟨none, 0, [], rfl, Nat.le_refl _, fun _ => rfl, .nil _ _, .nil _ _, by simp⟩
  · by_cases h0 : n = 0
    · subst h0
      have : xs = [] := List.eq_nil_of_length_eq_zero hl
      subst this
      exact ⟨_, cap, [], rfl, hnc, by simp, .nil _ _, .nil _ _, by simp⟩
    · have hlt : g < w.heap.size := by
        by_cases hl : g < w.heap.size
        · exact hl
        · rw [Array.getElem?_eq_none (by omega)] at hh; cases hh
      refine ⟨_, cap, [g], rfl, hnc, by simp, ⟨hl, .inr ⟨by omega, g, 0, rfl, rfl, hlt, fun i hi => ?_⟩⟩, .one hb hlt (fun o => by simp [World.frozen?, hh]), by simp [Value.ownBlock]⟩
      rw [cell_of_row w g (0 + i) cur _ (0, 0) hh, Nat.zero_add]
      have e : (cur.toList.take (n * 1))[i]? = (iv xs)[i]? := by rw [hcur]
      rw [iv_at xs i (by omega), List.getElem?_take, if_pos (by omega)] at e
      simpa using e
theorem copied_own {w w' : World} {v : Value} {n : Nat} {xs : List Int} (h : w'.ownsRow w.heap.size 3 1 v n (iv xs)) (hb : Below w.heap.size w w') : Copied xs n w (.returned v) w' := by
  obtain ⟨A, c, fp, rfl, hc, _, hi, hn, _⟩ := own_ints h
  exact ⟨A, c, fp, rfl, hc, hi, hn, hb⟩
/-- An empty literal. -/
theorem own_empty (w : World) (t : TypeId) (base : Nat) (h : base ≤ w.heap.size) : (w.alloc (.cells #[] t)).ownsRow base t 1 (.slice (some ⟨w.heap.size, 0, none⟩) 0 0) 0 [] :=
  ⟨by simp, .inr ⟨w.heap.size, 0, #[], rfl, h, heap_alloc_new w _, Nat.le_refl _, by unfold maxLen; omega, by simp, by simp⟩⟩
theorem below_grown {w0 w w' : World} {B : Nat} {row : Option Nat} (hb : Below B w0 w) (hg : w.grownBy w' row) (hB : B ≤ w.heap.size) (hr : ∀ k, row = some k → B ≤ k) : Below B w0 w' := hb.grown hg hB hr
end Go.Proofs.Ytkglocdmpfjafaa
end
