import GoSem.Claim
import Derived.Test.YtcapfafglikcmaaDoorKA
import Derived.Lib.BitFns
import Derived.Laws.BitsAllLaws
import Derived.Deep.QuietTactic
import Derived.BigQuiet
import Derived.OpenShut
import Derived.Laws.Bits64

section
/- Plain arithmetic of bytes: what the functions of chapter 1 compute, as Lean functions on integers; nothing of the program is imported. -/
namespace Go.Proofs.YtcapfafglikcmaaDoor
/-- 1 for true, 0 for false. -/
def digi (c : Bool) : Int := if c then 1 else 0
/-- A byte as a signed number. -/
def sgn (a : Int) : Int := if 128 ≤ a then a - 256 else a
def addN (a b : Int) (c : Bool) : Int := (a + b + digi c) % 256
def addC (a b : Int) (c : Bool) : Bool := decide (255 < a + b + digi c)
def addV (a b : Int) (c : Bool) : Bool := decide (sgn a + sgn b + digi c < -128) || decide (127 < sgn a + sgn b + digi c)
def subN (a b : Int) (c : Bool) : Int := (a - b - digi c) % 256
def subC (a b : Int) (c : Bool) : Bool := decide (a - b - digi c < 0)
def rolN (a : Int) (c : Bool) : Int := (2 * a + digi c) % 256
def rolC (a : Int) : Bool := decide (128 ≤ a)
def rorN (a : Int) (c : Bool) : Int := a / 2 + 128 * digi c
def rorC (a : Int) : Bool := decide (a % 2 = 1)
def onesN (a : Int) : Int := a % 2 + a / 2 % 2 + a / 4 % 2 + a / 8 % 2 + a / 16 % 2 + a / 32 % 2 + a / 64 % 2 + a / 128 % 2
/-- The ones among the lowest k binary digits. -/
def onesUpto : Nat → Int → Int
  | 0, _ => 0
  | k + 1, a => onesUpto k a + a / 2 ^ k % 2
theorem onesUpto_bd (k : Nat) (a : Int) : 0 ≤ onesUpto k a ∧ onesUpto k a ≤ k := by
  induction k with
  | zero => simp [onesUpto]
  | succ k ih => simp only [onesUpto]; omega
theorem onesUpto_8 (a : Int) : onesUpto 8 a = onesN a := by simp [onesUpto, onesN]
def inB (n lo hi : Int) : Bool := decide (lo ≤ n) && decide (n ≤ hi)
theorem not_inB (n lo hi : Int) : (!inB n lo hi) = (decide (n < lo) || decide (hi < n)) := by
  unfold inB
  by_cases h : lo ≤ n <;> by_cases k : n ≤ hi <;> simp [h, k] <;> omega
theorem inB_yes {n lo hi : Int} (h : lo ≤ n) (k : n ≤ hi) : inB n lo hi = true := by simp [inB, h, k]
theorem inB_no {n lo hi : Int} (h : n < lo ∨ hi < n) : inB n lo hi = false := by
  unfold inB; rcases h with h | h
  · simp [show ¬ lo ≤ n by omega]
  · simp [show ¬ n ≤ hi by omega]
end Go.Proofs.YtcapfafglikcmaaDoor
end

section
/- The few contracts of chapter 1 that every later chapter's laws reach: a number as an octet, SignedByte at a byte, 'alive'. -/
namespace Go.Proofs.YtcapfafglikcmaaDoor
open Go.ChangeShapes Go.WideShapes Go.ChangeAt Go.RowKit

theorem ret_int {k : IntKind} {a b : Int} (h : a = b) : Ending.returned (.int k a) = .returned (.int k b) := by rw [h]
theorem i8_of (a : Int) (h0 : 128 ≤ a) (h1 : a ≤ 255) : wrap64 (IntKind.i8.wrap a) = sgn a := by
  have e : IntKind.i8.wrap a = a - 256 := by simp [IntKind.wrap, IntKind.bits, IntKind.signed]; omega
  rw [e]; unfold wrap64 sgn; rw [if_pos h0]; omega

theorem signed_any (a : Int) (w : World) (h0 : 0 ≤ a) (h1 : a ≤ 255) :
    Calls Tryd.prog 52 #[.int .u8 a] w fun e w' => e = .returned (.int .i64 (sgn a)) ∧ w = w' := by
  by_cases h : a < 128
  · go_enter Tryd.func52, Tryd.ntmps52
    go_wp2
    go_ret
    exact ⟨ret_int (by unfold sgn; rw [if_neg (by omega)]), rfl⟩
  · have H : 128 ≤ a := by omega
    clear h
    go_enter Tryd.func52, Tryd.ntmps52
    go_wp2
    go_ret
    exact ⟨ret_int (i8_of a H h1), rfl⟩
theorem toOctet_yes (a : Int) (w : World) (h0 : 0 ≤ a) (h1 : a ≤ 255) :
    Calls Tryd.prog 50 #[.int .i64 a] w fun e w' => e = .returned (.tuple #[.int .u8 a, .bool true]) ∧ w = w' := by
  go_enter Tryd.func50, Tryd.ntmps50
  go_wp2
  go_ret2
  exact ⟨rfl, rfl⟩
theorem toOctet_no (a : Int) (w : World) (h : a < 0 ∨ 255 < a) :
    Calls Tryd.prog 50 #[.int .i64 a] w fun e w' => e = .returned (.tuple #[.int .u8 0, .bool false]) ∧ w = w' := by
  rcases h with h | h
  all_goals
    go_enter Tryd.func50, Tryd.ntmps50
    go_wp2
    go_ret2
    exact ⟨rfl, rfl⟩
theorem impl_sgn (a : Int) (w : World) (h0 : 0 ≤ a) (h1 : a ≤ 255) :
    Calls Tryd.prog 37 #[.int .i64 a] w fun e w' => e = .returned (.int .i64 (sgn a)) ∧ w = w' := by
  go_enter Tryd.func37, Tryd.ntmps37
  go_wp2_with fail
  refine (toOctet_yes _ _ h0 h1).mono ?_; rintro e w' ⟨rfl, rfl⟩
  go_wp2_with fail
  refine (signed_any _ _ h0 h1).mono ?_; rintro e w' ⟨rfl, rfl⟩
  go_wp2_with fail
  go_ret
  exact ⟨rfl, rfl⟩
theorem alive_any (w : World) : Calls Tryd.prog 14 #[] w fun e w' => e = .returned (.bool true) ∧ w = w' := by
  go_enter Tryd.func14, Tryd.ntmps14
  go_wp2_with fail
  refine (impl_sgn 255 _ (by omega) (by omega)).mono ?_; rintro e w' ⟨rfl, rfl⟩
  have hs : sgn 255 = -1 := by decide
  go_wp2_with fail
  go_ret
  exact ⟨rfl, rfl⟩
end Go.Proofs.YtcapfafglikcmaaDoor
end

section
/- Tests on numbers and on lists of numbers that every chapter reaches: the program's and the model's. -/
namespace Go.Proofs.YtcapfafglikcmaaDoor
open Go.ChangeShapes Go.WideShapes Go.ChangeAt Go.RowKit

theorem ret_bool {a b : Bool} (h : a = b) : Ending.returned (.bool a) = .returned (.bool b) := by rw [h]
theorem isByte_any (x : Int) (w : World) : Calls Tryd.prog 33 #[.int .i64 x] w fun e w' => e = .returned (.bool (byteB x)) ∧ w = w' := by
  by_cases h : byteB x = true
  · have HB := Lib.hid h
    obtain ⟨h0, h1⟩ := byteB_yes h
    rw [h]
    clear h
    go_enter Tryd.func33, Tryd.ntmps33
    go_wp2_with fail
    refine (toOctet_yes _ _ h0 h1).mono ?_; rintro e w' ⟨rfl, rfl⟩
    go_wp2_with fail
    go_ret
    exact ⟨rfl, rfl⟩
  · have h' : byteB x = false := by simpa using h
    have HO := Lib.hid (byteB_no h')
    rw [h']
    clear h h'
    go_enter Tryd.func33, Tryd.ntmps33
    go_wp2_with fail
    refine (toOctet_no _ _ HO.out).mono ?_; rintro e w' ⟨rfl, rfl⟩
    go_wp2_with fail
    go_ret
    exact ⟨rfl, rfl⟩
theorem allBytes_any (A : Option Addr) (n c : Nat) (xs : List Int) (fa : List Nat) (w : World) (ha : Ints w A n xs fa) (hn : n ≤ 1000000000) :
    Calls Tryd.prog 71 #[.slice A n c] w fun e w' => e = .returned (.bool (bytesB xs)) ∧ w = w' := by
  have HA := Lib.hid ha
  clear ha
  go_enter Tryd.func71, Tryd.ntmps71
  go_wp2
  go_loop [7] (fun i => ∃ k : Nat, k ≤ n ∧ i = .int .i64 k ∧ ∀ j, j < k → byteB (xs.getD j 0) = true) (fun i => n - (intOf i).toNat)
  case atStart => exact ⟨0, Nat.zero_le _, rfl, fun j hj => by omega⟩
  case round =>
    obtain ⟨k, hk, rfl, hm⟩ := hrel
    have HM := Lib.hid hm
    clear hm
    by_cases hlt : k < n
    · obtain ⟨p, o, rfl, hfp, hp, hc⟩ := HA.out.at_ (by omega)
      have c1 := hc k hlt
      obtain ⟨x, hx⟩ : ∃ x, x = xs.getD k 0 := ⟨_, rfl⟩
      rw [← hx] at c1
      have HX := Lib.hid hx
      clear hc hfp hx
      by_cases hb : byteB x = true
      · have HB := Lib.hid hb
        clear hb
        go_wp2_with fail
        refine (isByte_any _ _).mono ?_; rintro e w' ⟨rfl, rfl⟩
        rw [HB.out]
        go_wp2_with fail
        go_round
        case rel => exact ⟨k + 1, by omega, by go_num, fun j hj => by
          by_cases h : j = k
          · subst h; rw [← HX.out]; exact HB.out
          · exact HM.out j (by omega)⟩
        case measure => simp [intOf]; omega
      · have HB := Lib.hid (show byteB x = false by simpa using hb)
        have HF := Lib.hid (bytesB_no xs k (by rw [HA.out.1]; exact hlt) (by rw [← HX.out]; exact HB.out))
        clear hb
        go_wp2_with fail
        refine (isByte_any _ _).mono ?_; rintro e w' ⟨rfl, rfl⟩
        rw [HB.out]
        go_wp2_with fail
        go_ret
        exact ⟨ret_bool HF.out.symm, rfl⟩
    · have HF := Lib.hid ((bytesB_iff xs).2 fun i hi => HM.out i (by have := HA.out.1; omega))
      go_wp2
      go_ret
      exact ⟨ret_bool HF.out.symm, rfl⟩
def betB (a l h : Int) : Bool := decide (l ≤ a) && decide (a ≤ h)
theorem betB_yes {a l h : Int} (e : betB a l h = true) : l ≤ a ∧ a ≤ h := by simpa [betB] using e
theorem l1In_any (a l h : Int) (w : World) : Calls Tryd.prog 30 #[.int .i64 a, .int .i64 l, .int .i64 h] w fun e w' => e = .returned (.bool (betB a l h)) ∧ w = w' := by
  by_cases h0 : l ≤ a
  · by_cases h1 : a ≤ h
    · have e : betB a l h = true := by simp [betB, h0, h1]
      rw [e]
      clear e
      go_enter Tryd.func30, Tryd.ntmps30
      go_wp2
      go_ret
      exact ⟨rfl, rfl⟩
    · have e : betB a l h = false := by simp [betB, h1]
      have hd : decide (a ≤ h) = false := by simp; omega
      rw [e]
      clear e h1
      go_enter Tryd.func30, Tryd.ntmps30
      go_wp2
      go_ret
      exact ⟨rfl, rfl⟩
  · have e : betB a l h = false := by simp [betB, h0]
    have hd : decide (l ≤ a) = false := by simp; omega
    rw [e]
    clear e h0
    go_enter Tryd.func30, Tryd.ntmps30
    go_wp2
    go_ret
    exact ⟨rfl, rfl⟩
theorem l1Byte_any (x : Int) (w : World) : Calls Tryd.prog 32 #[.int .i64 x] w fun e w' => e = .returned (.bool (byteB x)) ∧ w = w' := by
  go_enter Tryd.func32, Tryd.ntmps32
  go_wp2_with fail
  refine (l1In_any _ _ _ _).mono ?_; rintro e w' ⟨rfl, rfl⟩
  go_wp2_with fail
  go_ret
  exact ⟨rfl, rfl⟩
end Go.Proofs.YtcapfafglikcmaaDoor
end

section
/- The reader from which every law draws its arguments: it stays in its own block, its picks are in range, and nothing else that was there changes. -/
namespace Go.Proofs.YtcapfafglikcmaaDoor
open Go.ChangeShapes Go.WideShapes Go.ChangeAt Go.RowKit

/-- Of what was there at most block q has changed. -/
structure Sole (q : Nat) (w w' : World) : Prop where
  os : w'.os = w.os
  tape : w'.tape = w.tape
  output : w'.output = w.output
  size : w.heap.size ≤ w'.heap.size
  block : ∀ k, k < w.heap.size → k ≠ q → w'.heap[k]? = w.heap[k]?
theorem Sole.refl (q : Nat) (w : World) : Sole q w w := ⟨rfl, rfl, rfl, Nat.le_refl _, fun _ _ _ => rfl⟩
theorem Sole.trans {q : Nat} {a b c : World} (h : Sole q a b) (k : Sole q b c) : Sole q a c :=
  ⟨k.os.trans h.os, k.tape.trans h.tape, k.output.trans h.output, Nat.le_trans h.size k.size, fun j hj hn => (k.block j (Nat.lt_of_lt_of_le hj h.size) hn).trans (h.block j hj hn)⟩
theorem Sole.drewN {q : Nat} {a w : World} (h : Sole q a w) (n : Nat) : Sole q a (w.drewN n) := ⟨h.os, h.tape, h.output, h.size, h.block⟩
theorem Sole.alloc {q : Nat} {a w : World} (h : Sole q a w) (o : Obj) : Sole q a (w.alloc o) :=
  ⟨h.os, h.tape, h.output, Nat.le_trans h.size (by simp), fun k hk hn => (Below.heap_alloc w o k (Nat.lt_of_lt_of_le hk h.size)).trans (h.block k hk hn)⟩
theorem Sole.setCell {q : Nat} {a w : World} (h : Sole q a w) (j : Nat) (v : Value) : Sole q a (w.setCell ⟨q, j, none⟩ v) :=
  ⟨h.os, h.tape, h.output, by simpa using h.size, fun k hk hn => (Below.heap_setCell w _ v k hn).trans (h.block k hk hn)⟩
theorem Sole.of_below {q : Nat} {w w' : World} (h : Below w.heap.size w w') : Sole q w w' := ⟨h.os, h.tape, h.output, h.size, fun k hk _ => h.block k hk⟩
theorem Sole.below {q B : Nat} {w w' : World} (h : Sole q w w') (hq : B ≤ q) (hB : B ≤ w.heap.size) : Below B w w' :=
  ⟨h.os, h.tape, h.output, h.size, fun k hk => h.block k (by omega) (by omega)⟩
theorem Sole.cell {q : Nat} {w w' : World} (h : Sole q w w') {p : Addr} {v : Value} (hp : p.block ≠ q) (hc : w.cell? p = some v) : w'.cell? p = some v := by
  rw [World.cell?_of_block (w := w) (h.block p.block (World.block_lt_of_cell? _ _ hc) hp)]; exact hc

/-- The bytes from which a reader reads: there are none, or they lie in a block below the reader's. -/
def Feed (w : World) (q : Nat) (a : Option Addr) (len : Nat) : Prop :=
  len = 0 ∨ ∃ b off, a = some ⟨b, off, none⟩ ∧ b < q ∧ ∀ i, i < len → ∃ z : Int, 0 ≤ z ∧ z ≤ 255 ∧ w.cell? ⟨b, off + i, none⟩ = some (.int .u8 z)
/-- The reader in block q has been asked at most m times. -/
def Rd (w : World) (q m : Nat) : Prop :=
  ∃ (p : Nat) (a : Option Addr) (len cap : Nat), q < w.heap.size ∧ p ≤ m ∧ w.cell? ⟨q, 0, none⟩ = some (.slice a len cap) ∧ w.cell? ⟨q, 1, none⟩ = some (.int .i64 p) ∧ w.frozen? ⟨q, 1, none⟩ = false ∧ len ≤ 2000 ∧ len ≤ cap ∧ Feed w q a len
theorem Rd.mono {w : World} {q m m' : Nat} (h : Rd w q m) (k : m ≤ m') : Rd w q m' := by
  obtain ⟨p, a, len, cap, h1, h2, h3⟩ := h
  exact ⟨p, a, len, cap, h1, by omega, h3⟩
theorem Rd.keep {w w' : World} {q m : Nat} (h : Rd w q m) (k : Below w.heap.size w w') : Rd w' q m := by
  obtain ⟨p, a, len, cap, h1, h2, h3, h4, h5, h6, h7, h8⟩ := h
  refine ⟨p, a, len, cap, Nat.lt_of_lt_of_le h1 k.size, h2, (k.cell h1).trans h3, (k.cell h1).trans h4, (k.frozen h1).trans h5, h6, h7, ?_⟩
  rcases h8 with h8 | ⟨b, off, rfl, hb, hc⟩
  · exact .inl h8
  · exact .inr ⟨b, off, rfl, hb, fun i hi => by obtain ⟨z, z0, z1, hz⟩ := hc i hi; exact ⟨z, z0, z1, (k.cell (by show b < _; omega)).trans hz⟩⟩
/-- What a pick leaves. -/
def Picked (q m : Nat) (n : Int) (w : World) (e : Ending) (w' : World) : Prop :=
  ∃ v : Int, 0 ≤ v ∧ v < n ∧ e = .returned (.int .i64 v) ∧ Sole q w w' ∧ Rd w' q (m + 1)
theorem rd_step {w : World} {q m : Nat} (p : Nat) (a : Option Addr) (len cap : Nat) (n : Nat) (h1 : q < w.heap.size) (h2 : p ≤ m) (h3 : w.cell? ⟨q, 0, none⟩ = some (.slice a len cap)) (h4 : w.cell? ⟨q, 1, none⟩ = some (.int .i64 p)) (h5 : w.frozen? ⟨q, 1, none⟩ = false) (h6 : len ≤ 2000) (h7 : len ≤ cap) (h8 : Feed w q a len) :
    Rd ((w.setCell ⟨q, 1, none⟩ (.int .i64 ((p : Int) + 1))).drewN n) q (m + 1) := by
  refine ⟨p + 1, a, len, cap, by simpa using h1, by omega, ?_, ?_, ?_, h6, h7, ?_⟩
  · show (w.setCell _ _).cell? _ = _
    rw [World.cell?_setCell_other _ _ _ _ (by simp)]; exact h3
  · show (w.setCell _ _).cell? _ = _
    rw [World.cell?_setCell_same _ _ _ h4]; simp
  · show (w.setCell _ _).frozen? _ = _
    rw [World.frozen?_setCell]; exact h5
  · rcases h8 with h8 | ⟨b, off, rfl, hb, hc⟩
    · exact .inl h8
    · refine .inr ⟨b, off, rfl, hb, fun i hi => ?_⟩
      obtain ⟨z, z0, z1, hz⟩ := hc i hi
      refine ⟨z, z0, z1, ?_⟩
      show (w.setCell _ _).cell? _ = _
      rw [World.cell?_setCell_other _ _ _ _ (fun h => by injection h; omega)]; exact hz

theorem xor_i64_nat (a b : Nat) (ha : a < 9223372036854775808) (hb : b < 9223372036854775808) : bits .xor .i64 (a : Int) (b : Int) = ((a ^^^ b : Nat) : Int) := by
  have hx : a ^^^ b < 2 ^ 63 := Nat.xor_lt_two_pow (by omega) (by omega)
  have h1 : (BitVec.ofInt 64 (a : Int)).toNat = a := by
    rw [BitVec.ofInt_natCast, BitVec.toNat_ofNat]; exact Nat.mod_eq_of_lt (by omega)
  have h2 : (BitVec.ofInt 64 (b : Int)).toNat = b := by
    rw [BitVec.ofInt_natCast, BitVec.toNat_ofNat]; exact Nat.mod_eq_of_lt (by omega)
  show IntKind.i64.wrap ((BitVec.ofInt 64 (a : Int) ^^^ BitVec.ofInt 64 (b : Int)).toNat : Int) = _
  rw [BitVec.toNat_xor, h1, h2, IntKind.wrap_i64]
  omega
theorem xor_i64_pos (x y : Int) (h0 : 0 ≤ x) (h1 : x < 9223372036854775808) (h2 : 0 ≤ y) (h3 : y < 9223372036854775808) : 0 ≤ bits .xor .i64 x y ∧ bits .xor .i64 x y ≤ 9223372036854775807 := by
  obtain ⟨a, rfl⟩ := Int.eq_ofNat_of_zero_le h0
  obtain ⟨b, rfl⟩ := Int.eq_ofNat_of_zero_le h2
  have hx : a ^^^ b < 2 ^ 63 := Nat.xor_lt_two_pow (by omega) (by omega)
  have e := xor_i64_nat a b (by omega) (by omega)
  constructor <;> (rw [e]; omega)
theorem pick_zero (q m : Nat) (n : Int) (w : World) (p : Nat) (a : Option Addr) (cap : Nat) (h1 : q < w.heap.size) (h2 : p ≤ m) (hm : m ≤ 1000000000) (h3 : w.cell? ⟨q, 0, none⟩ = some (.slice a 0 cap)) (h4 : w.cell? ⟨q, 1, none⟩ = some (.int .i64 p)) (h5 : w.frozen? ⟨q, 1, none⟩ = false) (hn : 1 ≤ n) :
    Calls Tryd.prog 39 #[.pointer (some ⟨q, 0, none⟩), .int .i64 n] w (Picked q m n w) := by
  have c0 : (w.setCell ⟨q, 1, none⟩ (.int .i64 ((p : Int) + 1))).cell? ⟨q, 0, none⟩ = some (.slice a 0 cap) := by rw [World.cell?_setCell_other _ _ _ _ (by simp)]; exact h3
  have R := Lib.hid (rd_step p a 0 cap 0 h1 h2 h3 h4 h5 (by omega) (by omega) (.inl rfl))
  go_enter Tryd.func39, Tryd.ntmps39
  go_wp2
  go_ret
  exact ⟨0, by omega, by omega, rfl, (Sole.refl _ _).setCell _ _, R.out⟩
theorem pick_near (q m : Nat) (n : Int) (w : World) (p b off len cap : Nat) (z : Int) (h1 : q < w.heap.size) (h2 : p ≤ m) (hm : m ≤ 1000000000) (h3 : w.cell? ⟨q, 0, none⟩ = some (.slice (some ⟨b, off, none⟩) len cap)) (h4 : w.cell? ⟨q, 1, none⟩ = some (.int .i64 p)) (h5 : w.frozen? ⟨q, 1, none⟩ = false) (h6 : len ≤ 2000) (h7 : len ≤ cap) (h8 : Feed w q (some ⟨b, off, none⟩) len) (hb : b < q) (hp : p < len) (hz : w.cell? ⟨b, off + p, none⟩ = some (.int .u8 z)) (z0 : 0 ≤ z) (z1 : z ≤ 255) (hn : 1 ≤ n) (hn2 : n ≤ 1000000000) :
    Calls Tryd.prog 39 #[.pointer (some ⟨q, 0, none⟩), .int .i64 n] w (Picked q m n w) := by
  have c0 : (w.setCell ⟨q, 1, none⟩ (.int .i64 ((p : Int) + 1))).cell? ⟨q, 0, none⟩ = some (.slice (some ⟨b, off, none⟩) len cap) := by rw [World.cell?_setCell_other _ _ _ _ (by simp)]; exact h3
  have c1 : (w.setCell ⟨q, 1, none⟩ (.int .i64 ((p : Int) + 1))).cell? ⟨b, off + p, none⟩ = some (.int .u8 z) := by rw [World.cell?_setCell_other _ _ _ _ (fun h => by injection h; omega)]; exact hz
  have R := Lib.hid (rd_step p _ len cap 0 h1 h2 h3 h4 h5 h6 h7 h8)
  have l0 : ((len : Int) == 0) = false := by simp; omega
  have n0 : (n == 0) = false := by simp; omega
  clear h3 h8 hz
  go_enter Tryd.func39, Tryd.ntmps39
  go_wp2
  go_ret
  exact ⟨z % n, Int.emod_nonneg _ (by omega), Int.emod_lt_of_pos _ (by omega), rfl, (Sole.refl _ _).setCell _ _, R.out⟩
theorem far_num (z y : Int) (p len : Nat) (z0 : 0 ≤ z) (z1 : z ≤ 255) (y0 : 0 ≤ y) (y1 : y ≤ 255) (hp : p ≤ 1000000000) (_hl : 1 ≤ len) :
    ∃ X : Int, wrap64 (z * 131 + y * 1117 + (p : Int) * 29 + wrap64 (wrap64 ((p : Int) / (len : Int)) * 53)) = X ∧ 0 ≤ X ∧ X ≤ 1000000000000 := by
  have hd := Nat.div_le_self p len
  have e : ((p : Int) / (len : Int)) = ((p / len : Nat) : Int) := by simp
  rw [e]
  generalize p / len = d at hd
  rw [IntWalk.wrap64_in (d : Int) (by omega), IntWalk.wrap64_in ((d : Int) * 53) (by omega), IntWalk.wrap64_in _ (by omega)]
  exact ⟨_, rfl, by omega, by omega⟩
theorem pick_far (q m : Nat) (n : Int) (w : World) (p b off len cap i j : Nat) (z y : Int) (h1 : q < w.heap.size) (h2 : p ≤ m) (hm : m ≤ 1000000000) (h3 : w.cell? ⟨q, 0, none⟩ = some (.slice (some ⟨b, off, none⟩) len cap)) (h4 : w.cell? ⟨q, 1, none⟩ = some (.int .i64 p)) (h5 : w.frozen? ⟨q, 1, none⟩ = false) (h6 : len ≤ 2000) (h7 : len ≤ cap) (h8 : Feed w q (some ⟨b, off, none⟩) len) (hb : b < q) (hp : len ≤ p) (hl : 1 ≤ len)
    (hi : p % len = i) (hj : (p * 7 + 3) % len = j) (hz : w.cell? ⟨b, off + i, none⟩ = some (.int .u8 z)) (hy : w.cell? ⟨b, off + j, none⟩ = some (.int .u8 y)) (z0 : 0 ≤ z) (z1 : z ≤ 255) (y0 : 0 ≤ y) (y1 : y ≤ 255) (hn : 1 ≤ n) (hn2 : n ≤ 1000000000) :
    Calls Tryd.prog 39 #[.pointer (some ⟨q, 0, none⟩), .int .i64 n] w (Picked q m n w) := by
  have c0 : (w.setCell ⟨q, 1, none⟩ (.int .i64 ((p : Int) + 1))).cell? ⟨q, 0, none⟩ = some (.slice (some ⟨b, off, none⟩) len cap) := by rw [World.cell?_setCell_other _ _ _ _ (by simp)]; exact h3
  have c1 : (w.setCell ⟨q, 1, none⟩ (.int .i64 ((p : Int) + 1))).cell? ⟨b, off + i, none⟩ = some (.int .u8 z) := by rw [World.cell?_setCell_other _ _ _ _ (fun h => by injection h; omega)]; exact hz
  have c2 : (w.setCell ⟨q, 1, none⟩ (.int .i64 ((p : Int) + 1))).cell? ⟨b, off + j, none⟩ = some (.int .u8 y) := by rw [World.cell?_setCell_other _ _ _ _ (fun h => by injection h; omega)]; exact hy
  have R := Lib.hid (fun k => rd_step p _ len cap k h1 h2 h3 h4 h5 h6 h7 h8)
  have l0 : ((len : Int) == 0) = false := by simp; omega
  have n0 : (n == 0) = false := by simp; omega
  have HI := Lib.hid hi
  have HJ := Lib.hid hj
  clear h3 h8 hz hy hi hj
  go_enter Tryd.func39, Tryd.ntmps39
  go_wp2
  have l1 : ¬ len = 0 := by omega
  have i0 : (0 : Int) ≤ (i : Int) := by omega
  have i1 : (i : Int) < (len : Int) := by have := HI.out; have := Nat.mod_lt p (show 0 < len by omega); omega
  have j0 : (0 : Int) ≤ (j : Int) := by omega
  have j1 : (j : Int) < (len : Int) := by have := HJ.out; have := Nat.mod_lt (p * 7 + 3) (show 0 < len by omega); omega
  have e1 : (p : Int).tmod len = i := by rw [Int.tmod_eq_emod_of_nonneg (by omega)]; rw [← HI.out]; simp
  have e2 : ((p : Int) * 7 + 3).tmod len = j := by rw [Int.tmod_eq_emod_of_nonneg (by omega)]; rw [← HJ.out]; simp
  have m1 : IntKind.i64.wrap z = z := IntWalk.i64_in _ (by omega)
  have m2 : IntKind.i64.wrap (z * 131) = z * 131 := IntWalk.i64_in _ (by omega)
  have m3 : IntKind.i64.wrap ((p : Int) * 7) = (p : Int) * 7 := IntWalk.i64_in _ (by omega)
  have m4 : IntKind.i64.wrap ((p : Int) * 7 + 3) = (p : Int) * 7 + 3 := IntWalk.i64_in _ (by omega)
  have m5 : IntKind.i64.wrap y = y := IntWalk.i64_in _ (by omega)
  have m6 : IntKind.i64.wrap (y * 1117) = y * 1117 := IntWalk.i64_in _ (by omega)
  have m7 : IntKind.i64.wrap (z * 131 + y * 1117) = z * 131 + y * 1117 := IntWalk.i64_in _ (by omega)
  have m8 : IntKind.i64.wrap ((p : Int) * 29) = (p : Int) * 29 := IntWalk.i64_in _ (by omega)
  have m9 : IntKind.i64.wrap (z * 131 + y * 1117 + (p : Int) * 29) = z * 131 + y * 1117 + (p : Int) * 29 := IntWalk.i64_in _ (by omega)
  go_quiet (fail)
  clear e1 e2 m1 m2 m3 m4 m5 m6 m7 m8 m9 c0 c1 c2 l0 l1 i1 j1
  obtain ⟨X, hX, X0, X1⟩ := far_num z y p len z0 z1 y0 y1 (by omega) hl
  rw [hX]
  clear hX
  obtain ⟨x0, x1⟩ := xor_i64_pos X (X / 64) X0 (by omega) (by omega) (by omega)
  go_wp2
  go_ret
  exact ⟨bits .xor .i64 X (X / 64) % n, Int.emod_nonneg _ (by omega), Int.emod_lt_of_pos _ (by omega), rfl, ((Sole.refl _ _).setCell _ _).drewN _, R.out _⟩
theorem pick_any (q m : Nat) (n : Int) (w : World) (h : Rd w q m) (hm : m ≤ 1000000000) (hn : 1 ≤ n) (hn2 : n ≤ 1000000000) :
    Calls Tryd.prog 39 #[.pointer (some ⟨q, 0, none⟩), .int .i64 n] w (Picked q m n w) := by
  obtain ⟨p, a, len, cap, h1, h2, h3, h4, h5, h6, h7, h8⟩ := h
  have h8' := h8
  rcases h8 with rfl | ⟨b, off, rfl, hb, hc⟩
  · exact pick_zero q m n w p a cap h1 h2 hm h3 h4 h5 hn
  · by_cases hl : len = 0
    · subst hl
      exact pick_zero q m n w p _ cap h1 h2 hm h3 h4 h5 hn
    · by_cases hp : p < len
      · obtain ⟨z, z0, z1, hz⟩ := hc p hp
        exact pick_near q m n w p b off len cap z h1 h2 hm h3 h4 h5 h6 h7 h8' hb hp hz z0 z1 hn hn2
      · obtain ⟨z, z0, z1, hz⟩ := hc (p % len) (Nat.mod_lt _ (by omega))
        obtain ⟨y, y0, y1, hy⟩ := hc ((p * 7 + 3) % len) (Nat.mod_lt _ (by omega))
        exact pick_far q m n w p b off len cap _ _ z y h1 h2 hm h3 h4 h5 h6 h7 h8' hb (by omega) (by omega) rfl rfl hz hy z0 z1 y0 y1 hn hn2
end Go.Proofs.YtcapfafglikcmaaDoor
end

section
/- The reader's other functions: 'odd', a new reader over a slice of bytes, and a drawn byte. -/
namespace Go.Proofs.YtcapfafglikcmaaDoor
open Go.ChangeShapes Go.WideShapes Go.ChangeAt Go.RowKit

/-- What 'odd' leaves: some answer. -/
def Odded (q m : Nat) (w : World) (e : Ending) (w' : World) : Prop :=
  ∃ b : Bool, e = .returned (.bool b) ∧ Sole q w w' ∧ Rd w' q (m + 1)
/-- What a draw of a number leaves: one between lo and hi; the reader has been asked up to k times more. -/
def Drawn (q m k : Nat) (lo hi : Int) (w : World) (e : Ending) (w' : World) : Prop :=
  ∃ v : Int, lo ≤ v ∧ v ≤ hi ∧ e = .returned (.int .i64 v) ∧ Sole q w w' ∧ Rd w' q (m + k)
theorem odd_any (q m : Nat) (n : Int) (w : World) (h : Rd w q m) (hm : m ≤ 1000000000) (hn : 1 ≤ n) (hn2 : n ≤ 1000000000) :
    Calls Tryd.prog 45 #[.pointer (some ⟨q, 0, none⟩), .int .i64 n] w (Odded q m w) := by
  have H := Lib.hid h
  clear h
  go_enter Tryd.func45, Tryd.ntmps45
  go_wp2_with fail
  refine (pick_any q m n _ H.out hm hn hn2).mono ?_
  rintro e w1 ⟨v, v0, v1, rfl, hs, hr⟩
  go_wp2_with fail
  go_ret
  exact ⟨_, rfl, hs, hr⟩
theorem Rd.lt {w : World} {q m : Nat} (h : Rd w q m) : q < w.heap.size := by
  obtain ⟨p, a, len, cap, h1, _⟩ := h
  exact h1
theorem lit_cell {w w' : World} {q : Nat} {cs : Array Value} {T : TypeId} (lo hi : Int) (hs : Sole q (w.alloc (.cells cs T)) w') (hq : q < w.heap.size) (v : Int) (_h0 : 0 ≤ v) (hv : ∃ u : Int, cs[v.toNat]? = some (.int .i64 u) ∧ lo ≤ u ∧ u ≤ hi) :
    ∃ u : Int, w'.cell? ⟨w.heap.size, v.toNat, none⟩ = some (.int .i64 u) ∧ lo ≤ u ∧ u ≤ hi := by
  obtain ⟨u, hu, u0, u1⟩ := hv
  refine ⟨u, hs.cell (show w.heap.size ≠ q by omega) ?_, u0, u1⟩
  rw [World.cell?_alloc_new]; exact hu
theorem eight (v v5 v6 v7 : Int) (d0 : 0 ≤ v) (d1 : v < 8) (a0 : 0 ≤ v5) (a1 : v5 < 256) (b0 : 0 ≤ v6) (b1 : v6 < 256) (c0 : 0 ≤ v7) (c1 : v7 < 256) :
    ∃ u : Int, (#[Value.int .i64 0, .int .i64 1, .int .i64 127, .int .i64 128, .int .i64 255, .int .i64 v5, .int .i64 v6, .int .i64 v7] : Array Value)[v.toNat]? = some (.int .i64 u) ∧ -1 ≤ u ∧ u ≤ 256 := by
  have h : v = 0 ∨ v = 1 ∨ v = 2 ∨ v = 3 ∨ v = 4 ∨ v = 5 ∨ v = 6 ∨ v = 7 := by omega
  rcases h with rfl | rfl | rfl | rfl | rfl | rfl | rfl | rfl <;> exact ⟨_, rfl, by omega, by omega⟩
theorem two (v : Int) (d0 : 0 ≤ v) (d1 : v < 2) : ∃ u : Int, (#[Value.int .i64 (-1), .int .i64 256] : Array Value)[v.toNat]? = some (.int .i64 u) ∧ -1 ≤ u ∧ u ≤ 256 := by
  have h : v = 0 ∨ v = 1 := by omega
  rcases h with rfl | rfl <;> exact ⟨_, rfl, by omega, by omega⟩
/-- A new reader over a slice that came in. -/
def Opened (w : World) (e : Ending) (w' : World) : Prop :=
  e = .returned (.pointer (some ⟨w.heap.size, 0, none⟩)) ∧ Below w.heap.size w w' ∧ Rd w' w.heap.size 0
theorem getD_mem (zs : List Int) (i : Nat) (h : i < zs.length) : zs.getD i 0 ∈ zs := by simp [List.getD, List.getElem?_eq_getElem h]
theorem feed_of (w : World) (a : Option Addr) (len cap : Nat) (zs : List Int) (h : IsRow .u8 w a len cap zs) (o : Obj) : Feed (w.alloc o) w.heap.size a len := by
  rcases h with ⟨_, h, _⟩ | ⟨x, rfl, hl, hm, hz, hc, hw⟩
  · exact .inl h
  · by_cases h0 : len = 0
    · exact .inl h0
    · obtain ⟨b, off, rfl, hc2⟩ := ints_at hc (by omega)
      have hb : b < w.heap.size := World.block_lt_of_cell? _ _ (hc2 0 (by omega))
      refine .inr ⟨b, off, rfl, hb, fun i hi => ⟨zs.getD i 0, ?_, ?_, ?_⟩⟩
      · have hi' : i < zs.length := by omega
        have := bounds_u8 (hw (zs.getD i 0) (getD_mem zs i hi'))
        omega
      · have hi' : i < zs.length := by omega
        have := bounds_u8 (hw (zs.getD i 0) (getD_mem zs i hi'))
        omega
      · rw [World.cell?_alloc_lt _ _ _ hb]; exact hc2 i (by omega)
theorem feed_less {w : World} {q : Nat} {a : Option Addr} {len len' : Nat} (h : Feed w q a len) (k : len' ≤ len) : Feed w q a len' := by
  rcases h with h | ⟨b, off, rfl, hb, hc⟩
  · exact .inl (by omega)
  · exact .inr ⟨b, off, rfl, hb, fun i hi => hc i (by omega)⟩
theorem rd_new (w : World) (a : Option Addr) (len cap T : Nat) (h6 : len ≤ 2000) (h7 : len ≤ cap) (h8 : Feed (w.alloc (.cells #[.slice a len cap, .int .i64 0] T)) w.heap.size a len) : Rd (w.alloc (.cells #[.slice a len cap, .int .i64 0] T)) w.heap.size 0 :=
  ⟨0, a, len, cap, by simp, Nat.le_refl _, by simp, by simp, by simp, h6, h7, h8⟩
theorem open_any (a : Option Addr) (len cap : Nat) (zs : List Int) (w : World) (h : IsRow .u8 w a len cap zs) :
    Calls Tryd.prog 27 #[.slice a len cap] w (Opened w) := by
  have hl : len ≤ cap := by rcases h with ⟨_, h1, h2, _⟩ | ⟨x, _, hl, _⟩ <;> omega
  have hm : cap ≤ maxLen := by rcases h with ⟨_, h1, h2, _⟩ | ⟨x, _, _, hm, _⟩ <;> simp_all
  have HF := Lib.hid (fun o => feed_of w a len cap zs h o)
  unfold maxLen at hm
  by_cases h2 : len ≤ 2000
  · clear h
    go_enter Tryd.func27, Tryd.ntmps27
    go_wp2
    go_ret
    exact ⟨rfl, (Below.refl _ _).alloc (Nat.le_refl _) _, rd_new w a len cap _ h2 hl (HF.out _)⟩
  · rcases h with ⟨_, h1, _⟩ | ⟨x, rfl, _⟩
    · omega
    · go_enter Tryd.func27, Tryd.ntmps27
      go_wp2
      go_ret
      exact ⟨rfl, (Below.refl _ _).alloc (Nat.le_refl _) _, rd_new w _ 2000 cap _ (by omega) (by omega) (feed_less (HF.out _) (by omega))⟩
end Go.Proofs.YtcapfafglikcmaaDoor
end
