/- The reader from which every law draws its arguments: it stays in its own block, its picks are in range, and nothing else that was there changes. -/
import Derived.Test.YtlppmcflgbeolaaBase
import Derived.OpenShut
import Derived.Laws.Bits64
import Derived.Laws.BitsAllLaws
import Derived.Deep.QuietTactic
import Derived.BigQuiet
namespace Go.Proofs.Ytlppmcflgbeolaa
open Go.ChangeShapes Go.WideShapes Go.ChangeAt Go.RowKit

/-- Of what was there at most block q has changed. -/
structure Sole (q : Nat) (w w' : World) : Prop where
  os : w'.os = w.os
  tape : w'.tape = w.tape
  output : w'.output = w.output
  size : w.heap.size ≤ w'.heap.size
  block : ∀ k, k < w.heap.size → k ≠ q → w'.heap[k]? = w.heap[k]?
theorem Sole.refl (q : Nat) (w : World) : Sole q w w := ⟨rfl, rfl, rfl, Nat.le_refl _, fun _ _ _ => rfl⟩
theorem Sole.trans {q : Nat} {a b c : World} (h : Sole q a b) (k : Sole q b c) : Sole q a c :=
  ⟨k.os.trans h.os, k.tape.trans h.tape, k.output.trans h.output, Nat.le_trans h.size k.size, fun j hj hn => (k.block j (Nat.lt_of_lt_of_le hj h.size) hn).trans (h.block j hj hn)⟩
theorem Sole.drewN {q : Nat} {a w : World} (h : Sole q a w) (n : Nat) : Sole q a (w.drewN n) := ⟨h.os, h.tape, h.output, h.size, h.block⟩
theorem Sole.alloc {q : Nat} {a w : World} (h : Sole q a w) (o : Obj) : Sole q a (w.alloc o) :=
  ⟨h.os, h.tape, h.output, Nat.le_trans h.size (by simp), fun k hk hn => (Below.heap_alloc w o k (Nat.lt_of_lt_of_le hk h.size)).trans (h.block k hk hn)⟩
theorem Sole.setCell {q : Nat} {a w : World} (h : Sole q a w) (j : Nat) (v : Value) : Sole q a (w.setCell ⟨q, j, none⟩ v) :=
  ⟨h.os, h.tape, h.output, by simpa using h.size, fun k hk hn => (Below.heap_setCell w _ v k hn).trans (h.block k hk hn)⟩
theorem Sole.of_below {q : Nat} {w w' : World} (h : Below w.heap.size w w') : Sole q w w' := ⟨h.os, h.tape, h.output, h.size, fun k hk _ => h.block k hk⟩
theorem Sole.below {q B : Nat} {w w' : World} (h : Sole q w w') (hq : B ≤ q) (hB : B ≤ w.heap.size) : Below B w w' :=
  ⟨h.os, h.tape, h.output, h.size, fun k hk => h.block k (by omega) (by omega)⟩
theorem Sole.cell {q : Nat} {w w' : World} (h : Sole q w w') {p : Addr} {v : Value} (hp : p.block ≠ q) (hc : w.cell? p = some v) : w'.cell? p = some v := by
  rw [World.cell?_of_block (w := w) (h.block p.block (World.block_lt_of_cell? _ _ hc) hp)]; exact hc

/-- The bytes from which a reader reads: there are none, or they lie in a block below the reader's. -/
def Feed (w : World) (q : Nat) (a : Option Addr) (len : Nat) : Prop :=
  len = 0 ∨ ∃ b off, a = some ⟨b, off, none⟩ ∧ b < q ∧ ∀ i, i < len → ∃ z : Int, 0 ≤ z ∧ z ≤ 255 ∧ w.cell? ⟨b, off + i, none⟩ = some (.int .u8 z)
/-- The reader in block q has been asked at most m times. -/
def Rd (w : World) (q m : Nat) : Prop :=
  ∃ (p : Nat) (a : Option Addr) (len cap : Nat), q < w.heap.size ∧ p ≤ m ∧ w.cell? ⟨q, 0, none⟩ = some (.slice a len cap) ∧ w.cell? ⟨q, 1, none⟩ = some (.int .i64 p) ∧ w.frozen? ⟨q, 1, none⟩ = false ∧ len ≤ 2000 ∧ len ≤ cap ∧ Feed w q a len
theorem Rd.mono {w : World} {q m m' : Nat} (h : Rd w q m) (k : m ≤ m') : Rd w q m' := by
  obtain ⟨p, a, len, cap, h1, h2, h3⟩ := h
  exact ⟨p, a, len, cap, h1, by omega, h3⟩
theorem Rd.keep {w w' : World} {q m : Nat} (h : Rd w q m) (k : Below w.heap.size w w') : Rd w' q m := by
  obtain ⟨p, a, len, cap, h1, h2, h3, h4, h5, h6, h7, h8⟩ := h
  refine ⟨p, a, len, cap, Nat.lt_of_lt_of_le h1 k.size, h2, (k.cell h1).trans h3, (k.cell h1).trans h4, (k.frozen h1).trans h5, h6, h7, ?_⟩
  rcases h8 with h8 | ⟨b, off, rfl, hb, hc⟩
  · exact .inl h8
  · exact .inr ⟨b, off, rfl, hb, fun i hi => by obtain ⟨z, z0, z1, hz⟩ := hc i hi; exact ⟨z, z0, z1, (k.cell (by show b < _; omega)).trans hz⟩⟩
/-- What a pick leaves. -/
def Picked (q m : Nat) (n : Int) (w : World) (e : Ending) (w' : World) : Prop :=
  ∃ v : Int, 0 ≤ v ∧ v < n ∧ e = .returned (.int .i64 v) ∧ Sole q w w' ∧ Rd w' q (m + 1)
theorem rd_step {w : World} {q m : Nat} (p : Nat) (a : Option Addr) (len cap : Nat) (n : Nat) (h1 : q < w.heap.size) (h2 : p ≤ m) (h3 : w.cell? ⟨q, 0, none⟩ = some (.slice a len cap)) (h4 : w.cell? ⟨q, 1, none⟩ = some (.int .i64 p)) (h5 : w.frozen? ⟨q, 1, none⟩ = false) (h6 : len ≤ 2000) (h7 : len ≤ cap) (h8 : Feed w q a len) :
    Rd ((w.setCell ⟨q, 1, none⟩ (.int .i64 ((p : Int) + 1))).drewN n) q (m + 1) := by
  refine ⟨p + 1, a, len, cap, by simpa using h1, by omega, ?_, ?_, ?_, h6, h7, ?_⟩
  · show (w.setCell _ _).cell? _ = _
    rw [World.cell?_setCell_other _ _ _ _ (by simp)]; exact h3
  · show (w.setCell _ _).cell? _ = _
    rw [World.cell?_setCell_same _ _ _ h4]; simp
  · show (w.setCell _ _).frozen? _ = _
    rw [World.frozen?_setCell]; exact h5
  · rcases h8 with h8 | ⟨b, off, rfl, hb, hc⟩
    · exact .inl h8
    · refine .inr ⟨b, off, rfl, hb, fun i hi => ?_⟩
      obtain ⟨z, z0, z1, hz⟩ := hc i hi
      refine ⟨z, z0, z1, ?_⟩
      show (w.setCell _ _).cell? _ = _
      rw [World.cell?_setCell_other _ _ _ _ (fun h => by injection h; omega)]; exact hz

theorem xor_i64_nat (a b : Nat) (ha : a < 9223372036854775808) (hb : b < 9223372036854775808) : bits .xor .i64 (a : Int) (b : Int) = ((a ^^^ b : Nat) : Int) := by
  have hx : a ^^^ b < 2 ^ 63 := Nat.xor_lt_two_pow (by omega) (by omega)
  have h1 : (BitVec.ofInt 64 (a : Int)).toNat = a := by
    rw [BitVec.ofInt_natCast, BitVec.toNat_ofNat]; exact Nat.mod_eq_of_lt (by omega)
  have h2 : (BitVec.ofInt 64 (b : Int)).toNat = b := by
    rw [BitVec.ofInt_natCast, BitVec.toNat_ofNat]; exact Nat.mod_eq_of_lt (by omega)
  show IntKind.i64.wrap ((BitVec.ofInt 64 (a : Int) ^^^ BitVec.ofInt 64 (b : Int)).toNat : Int) = _
  rw [BitVec.toNat_xor, h1, h2, IntKind.wrap_i64]
  omega
theorem xor_i64_pos (x y : Int) (h0 : 0 ≤ x) (h1 : x < 9223372036854775808) (h2 : 0 ≤ y) (h3 : y < 9223372036854775808) : 0 ≤ bits .xor .i64 x y ∧ bits .xor .i64 x y ≤ 9223372036854775807 := by
  obtain ⟨a, rfl⟩ := Int.eq_ofNat_of_zero_le h0
  obtain ⟨b, rfl⟩ := Int.eq_ofNat_of_zero_le h2
  have hx : a ^^^ b < 2 ^ 63 := Nat.xor_lt_two_pow (by omega) (by omega)
  have e := xor_i64_nat a b (by omega) (by omega)
  constructor <;> (rw [e]; omega)
theorem pick_zero (q m : Nat) (n : Int) (w : World) (p : Nat) (a : Option Addr) (cap : Nat) (h1 : q < w.heap.size) (h2 : p ≤ m) (hm : m ≤ 1000000000) (h3 : w.cell? ⟨q, 0, none⟩ = some (.slice a 0 cap)) (h4 : w.cell? ⟨q, 1, none⟩ = some (.int .i64 p)) (h5 : w.frozen? ⟨q, 1, none⟩ = false) (hn : 1 ≤ n) :
    Calls Try.prog 49 #[.pointer (some ⟨q, 0, none⟩), .int .i64 n] w (Picked q m n w) := by
  have c0 : (w.setCell ⟨q, 1, none⟩ (.int .i64 ((p : Int) + 1))).cell? ⟨q, 0, none⟩ = some (.slice a 0 cap) := by rw [World.cell?_setCell_other _ _ _ _ (by simp)]; exact h3
  have R := Lib.hid (rd_step p a 0 cap 0 h1 h2 h3 h4 h5 (by omega) (by omega) (.inl rfl))
  go_enter Try.func49, Try.ntmps49
  go_wp2
  go_ret
  exact ⟨0, by omega, by omega, rfl, (Sole.refl _ _).setCell _ _, R.out⟩
theorem pick_near (q m : Nat) (n : Int) (w : World) (p b off len cap : Nat) (z : Int) (h1 : q < w.heap.size) (h2 : p ≤ m) (hm : m ≤ 1000000000) (h3 : w.cell? ⟨q, 0, none⟩ = some (.slice (some ⟨b, off, none⟩) len cap)) (h4 : w.cell? ⟨q, 1, none⟩ = some (.int .i64 p)) (h5 : w.frozen? ⟨q, 1, none⟩ = false) (h6 : len ≤ 2000) (h7 : len ≤ cap) (h8 : Feed w q (some ⟨b, off, none⟩) len) (hb : b < q) (hp : p < len) (hz : w.cell? ⟨b, off + p, none⟩ = some (.int .u8 z)) (z0 : 0 ≤ z) (z1 : z ≤ 255) (hn : 1 ≤ n) (hn2 : n ≤ 1000000000) :
    Calls Try.prog 49 #[.pointer (some ⟨q, 0, none⟩), .int .i64 n] w (Picked q m n w) := by
  have c0 : (w.setCell ⟨q, 1, none⟩ (.int .i64 ((p : Int) + 1))).cell? ⟨q, 0, none⟩ = some (.slice (some ⟨b, off, none⟩) len cap) := by rw [World.cell?_setCell_other _ _ _ _ (by simp)]; exact h3
  have c1 : (w.setCell ⟨q, 1, none⟩ (.int .i64 ((p : Int) + 1))).cell? ⟨b, off + p, none⟩ = some (.int .u8 z) := by rw [World.cell?_setCell_other _ _ _ _ (fun h => by injection h; omega)]; exact hz
  have R := Lib.hid (rd_step p _ len cap 0 h1 h2 h3 h4 h5 h6 h7 h8)
  have l0 : ((len : Int) == 0) = false := by simp; omega
  have n0 : (n == 0) = false := by simp; omega
  clear h3 h8 hz
  go_enter Try.func49, Try.ntmps49
  go_wp2
  go_ret
  exact ⟨z % n, Int.emod_nonneg _ (by omega), Int.emod_lt_of_pos _ (by omega), rfl, (Sole.refl _ _).setCell _ _, R.out⟩
theorem far_num (z y : Int) (p len : Nat) (z0 : 0 ≤ z) (z1 : z ≤ 255) (y0 : 0 ≤ y) (y1 : y ≤ 255) (hp : p ≤ 1000000000) (_hl : 1 ≤ len) :
    ∃ X : Int, wrap64 (z * 131 + y * 1117 + (p : Int) * 29 + wrap64 (wrap64 ((p : Int) / (len : Int)) * 53)) = X ∧ 0 ≤ X ∧ X ≤ 1000000000000 := by
  have hd := Nat.div_le_self p len
  have e : ((p : Int) / (len : Int)) = ((p / len : Nat) : Int) := by simp
  rw [e]
  generalize p / len = d at hd
  rw [IntWalk.wrap64_in (d : Int) (by omega), IntWalk.wrap64_in ((d : Int) * 53) (by omega), IntWalk.wrap64_in _ (by omega)]
  exact ⟨_, rfl, by omega, by omega⟩
theorem pick_far (q m : Nat) (n : Int) (w : World) (p b off len cap i j : Nat) (z y : Int) (h1 : q < w.heap.size) (h2 : p ≤ m) (hm : m ≤ 1000000000) (h3 : w.cell? ⟨q, 0, none⟩ = some (.slice (some ⟨b, off, none⟩) len cap)) (h4 : w.cell? ⟨q, 1, none⟩ = some (.int .i64 p)) (h5 : w.frozen? ⟨q, 1, none⟩ = false) (h6 : len ≤ 2000) (h7 : len ≤ cap) (h8 : Feed w q (some ⟨b, off, none⟩) len) (hb : b < q) (hp : len ≤ p) (hl : 1 ≤ len)
    (hi : p % len = i) (hj : (p * 7 + 3) % len = j) (hz : w.cell? ⟨b, off + i, none⟩ = some (.int .u8 z)) (hy : w.cell? ⟨b, off + j, none⟩ = some (.int .u8 y)) (z0 : 0 ≤ z) (z1 : z ≤ 255) (y0 : 0 ≤ y) (y1 : y ≤ 255) (hn : 1 ≤ n) (hn2 : n ≤ 1000000000) :
    Calls Try.prog 49 #[.pointer (some ⟨q, 0, none⟩), .int .i64 n] w (Picked q m n w) := by
  have c0 : (w.setCell ⟨q, 1, none⟩ (.int .i64 ((p : Int) + 1))).cell? ⟨q, 0, none⟩ = some (.slice (some ⟨b, off, none⟩) len cap) := by rw [World.cell?_setCell_other _ _ _ _ (by simp)]; exact h3
  have c1 : (w.setCell ⟨q, 1, none⟩ (.int .i64 ((p : Int) + 1))).cell? ⟨b, off + i, none⟩ = some (.int .u8 z) := by rw [World.cell?_setCell_other _ _ _ _ (fun h => by injection h; omega)]; exact hz
  have c2 : (w.setCell ⟨q, 1, none⟩ (.int .i64 ((p : Int) + 1))).cell? ⟨b, off + j, none⟩ = some (.int .u8 y) := by rw [World.cell?_setCell_other _ _ _ _ (fun h => by injection h; omega)]; exact hy
  have R := Lib.hid (fun k => rd_step p _ len cap k h1 h2 h3 h4 h5 h6 h7 h8)
  have l0 : ((len : Int) == 0) = false := by simp; omega
  have n0 : (n == 0) = false := by simp; omega
  have HI := Lib.hid hi
  have HJ := Lib.hid hj
  clear h3 h8 hz hy hi hj
  go_enter Try.func49, Try.ntmps49
  go_wp2
  have l1 : ¬ len = 0 := by omega
  have i0 : (0 : Int) ≤ (i : Int) := by omega
  have i1 : (i : Int) < (len : Int) := by have := HI.out; have := Nat.mod_lt p (show 0 < len by omega); omega
  have j0 : (0 : Int) ≤ (j : Int) := by omega
  have j1 : (j : Int) < (len : Int) := by have := HJ.out; have := Nat.mod_lt (p * 7 + 3) (show 0 < len by omega); omega
  have e1 : (p : Int).tmod len = i := by rw [Int.tmod_eq_emod_of_nonneg (by omega)]; rw [← HI.out]; simp
  have e2 : ((p : Int) * 7 + 3).tmod len = j := by rw [Int.tmod_eq_emod_of_nonneg (by omega)]; rw [← HJ.out]; simp
  have m1 : IntKind.i64.wrap z = z := IntWalk.i64_in _ (by omega)
  have m2 : IntKind.i64.wrap (z * 131) = z * 131 := IntWalk.i64_in _ (by omega)
  have m3 : IntKind.i64.wrap ((p : Int) * 7) = (p : Int) * 7 := IntWalk.i64_in _ (by omega)
  have m4 : IntKind.i64.wrap ((p : Int) * 7 + 3) = (p : Int) * 7 + 3 := IntWalk.i64_in _ (by omega)
  have m5 : IntKind.i64.wrap y = y := IntWalk.i64_in _ (by omega)
  have m6 : IntKind.i64.wrap (y * 1117) = y * 1117 := IntWalk.i64_in _ (by omega)
  have m7 : IntKind.i64.wrap (z * 131 + y * 1117) = z * 131 + y * 1117 := IntWalk.i64_in _ (by omega)
  have m8 : IntKind.i64.wrap ((p : Int) * 29) = (p : Int) * 29 := IntWalk.i64_in _ (by omega)
  have m9 : IntKind.i64.wrap (z * 131 + y * 1117 + (p : Int) * 29) = z * 131 + y * 1117 + (p : Int) * 29 := IntWalk.i64_in _ (by omega)
  go_quiet (fail)
  clear e1 e2 m1 m2 m3 m4 m5 m6 m7 m8 m9 c0 c1 c2 l0 l1 i1 j1
  obtain ⟨X, hX, X0, X1⟩ := far_num z y p len z0 z1 y0 y1 (by omega) hl
  rw [hX]
  clear hX
  obtain ⟨x0, x1⟩ := xor_i64_pos X (X / 64) X0 (by omega) (by omega) (by omega)
  go_wp2
  go_ret
  exact ⟨bits .xor .i64 X (X / 64) % n, Int.emod_nonneg _ (by omega), Int.emod_lt_of_pos _ (by omega), rfl, ((Sole.refl _ _).setCell _ _).drewN _, R.out _⟩
theorem pick_any (q m : Nat) (n : Int) (w : World) (h : Rd w q m) (hm : m ≤ 1000000000) (hn : 1 ≤ n) (hn2 : n ≤ 1000000000) :
    Calls Try.prog 49 #[.pointer (some ⟨q, 0, none⟩), .int .i64 n] w (Picked q m n w) := by
  obtain ⟨p, a, len, cap, h1, h2, h3, h4, h5, h6, h7, h8⟩ := h
  have h8' := h8
  rcases h8 with rfl | ⟨b, off, rfl, hb, hc⟩
  · exact pick_zero q m n w p a cap h1 h2 hm h3 h4 h5 hn
  · by_cases hl : len = 0
    · subst hl
      exact pick_zero q m n w p _ cap h1 h2 hm h3 h4 h5 hn
    · by_cases hp : p < len
      · obtain ⟨z, z0, z1, hz⟩ := hc p hp
        exact pick_near q m n w p b off len cap z h1 h2 hm h3 h4 h5 h6 h7 h8' hb hp hz z0 z1 hn hn2
      · obtain ⟨z, z0, z1, hz⟩ := hc (p % len) (Nat.mod_lt _ (by omega))
        obtain ⟨y, y0, y1, hy⟩ := hc ((p * 7 + 3) % len) (Nat.mod_lt _ (by omega))
        exact pick_far q m n w p b off len cap _ _ z y h1 h2 hm h3 h4 h5 h6 h7 h8' hb (by omega) (by omega) rfl rfl hz hy z0 z1 y0 y1 hn hn2
end Go.Proofs.Ytlppmcflgbeolaa
