import Derived.Test.YtgciaafapbaliaaGreatDoorOpenM
import Derived.Test.YtgciaafapbaliaaGreatDoorMchE
import Derived.Deep.DeepCutAuto
import Derived.Test.YtgciaafapbaliaaGreatDoorMemB
import Derived.Test.YtgciaafapbaliaaGreatDoorMchC
import Derived.Test.YtgciaafapbaliaaGreatDoorMchQ
import Derived.Test.YtgciaafapbaliaaGreatDoorMchJ
import Derived.Test.YtgciaafapbaliaaGreatDoorMchD1
import Derived.Test.YtgciaafapbaliaaGreatDoorMchD2
import Derived.Test.YtgciaafapbaliaaGreatDoorMchD3
import Derived.Test.YtgciaafapbaliaaGreatDoorMchD4
import Derived.Deep.RegionHeld3

section
/- A memory in a variable of the walk's own: its block q, and its own blocks between lo and hi. -/
namespace Go.Proofs.YtgciaafapbaliaaGreatDoor
open Go.ChangeShapes Go.WideShapes Go.ChangeAt Go.RowKit

structure MB (w : World) (q : Nat) (A : Option Addr) (n c : Nat) (R : Option Addr) (k d : Nat) (M : Mem) (fa fr : List Nat) (lo hi : Nat) : Prop where
  box : Box w q 29 [.slice A n c, .slice R k d, .int .i64 M.bank]
  ram : Ints w A n M.ram fa
  rom : Grid w R k M.rom fr
  new : New lo w (fa ++ fr)
  span : ∀ b ∈ fa ++ fr, lo ≤ b ∧ b < hi
  at_ : q = hi
theorem MB.below {w w' : World} {q : Nat} {A : Option Addr} {n c : Nat} {R : Option Addr} {k d : Nat} {M : Mem} {fa fr : List Nat} {lo hi : Nat} (h : MB w q A n c R k d M fa fr lo hi) (b : Below w.heap.size w w') : MB w' q A n c R k d M fa fr lo hi :=
  ⟨h.box.below b, h.ram.below b, h.rom.below b, h.new.keep (.of_below b), h.span, h.at_⟩
theorem MB.only {S : List Nat} {w w' : World} {q : Nat} {A : Option Addr} {n c : Nat} {R : Option Addr} {k d : Nat} {M : Mem} {fa fr : List Nat} {lo hi l u : Nat} (h : MB w q A n c R k d M fa fr lo hi) (o : Only S w w') (hS : ∀ b ∈ S, l ≤ b ∧ b < u) (hd : hi < l ∨ u ≤ lo) (hl : lo ≤ hi) : MB w' q A n c R k d M fa fr lo hi := by
  have hq := h.at_
  have d1 : ∀ x ∈ fa ++ fr, x ∉ S := fun x hx hs => by have := h.span x hx; have := hS x hs; omega
  have s : Same (fa ++ fr) w w' := .of_only o d1
  exact ⟨h.box.only o (fun hs => by have := hS q hs; omega), h.ram.keep (s.sub fun x hx => List.mem_append_left _ hx), h.rom.keep (s.sub fun x hx => List.mem_append_right _ hx), h.new.keep s, h.span, h.at_⟩
/-- A memory that a call has made, laid into a new variable. -/
theorem MB.new_ {w w' : World} {A : Option Addr} {n c : Nat} {R : Option Addr} {k d : Nat} {M : Mem} {fa fr : List Nat} (hi : Ints w' A n M.ram fa) (hg : Grid w' R k M.rom fr) (hn : New w.heap.size w' (fa ++ fr)) :
    MB (w'.alloc (.cells #[.slice A n c, .slice R k d, .int .i64 M.bank] 29)) w'.heap.size A n c R k d M fa fr w.heap.size w'.heap.size :=
  ⟨Box.new w' _ _, hi.below (below1 w' _), hg.below (below1 w' _), hn.keep (.of_below (below1 w' _)), hn.lt, rfl⟩
theorem sum_small {M : Mem} {N : Nat} (h : Small M N) (hN : N ≤ 1000) : sumLen M.rom ≤ 1000000 := by
  have key : ∀ i, i ≤ M.rom.length → sumLen (M.rom.take i) ≤ i * N := by
    intro i
    induction i with
    | zero => intro _; simp [sumLen]
    | succ i ih =>
      intro hi
      rw [sumLen_take _ _ (by omega), Nat.succ_mul]
      have := ih (by omega)
      have := h.row i
      omega
  have e := key M.rom.length (Nat.le_refl _)
  rw [List.take_of_length_le (Nat.le_refl _)] at e
  have h2 := Nat.mul_le_mul h.rom (Nat.le_refl N)
  have h3 := Nat.mul_le_mul hN hN
  have := Nat.le_trans e (Nat.le_trans h2 h3)
  omega
end Go.Proofs.YtgciaafapbaliaaGreatDoor
end

section
/- What a walk is told of an argument that is a machine. -/
namespace Go.Proofs.YtgciaafapbaliaaGreatDoor
open Go.ChangeShapes Go.WideShapes Go.ChangeAt Go.RowKit

/-- A machine that came in. -/
def InMach (w : World) (A : Option Addr) (n : Nat) (R : Option Addr) (k : Nat) (B : Option Addr) (m : Nat) (X : Mach) : Prop := Fits X 9223372036854775807 ∧ ∃ fa fr fb, MHas w A n R k B m X fa fr fb
theorem nine {α : Type} (l : List α) (h : l.length = 9) : ∃ c0 c1 c2 c3 c4 c5 c6 c7 c8, l = [c0, c1, c2, c3, c4, c5, c6, c7, c8] := by
  match l, h with
  | [c0, c1, c2, c3, c4, c5, c6, c7, c8], _ => exact ⟨c0, c1, c2, c3, c4, c5, c6, c7, c8, rfl⟩
section
variable {H : Type} {enc : TypeId × Value → H} {w : World} {base : Nat} {held : Bool}
theorem slice_of {fuel : Nat} {v : Value} {x : DataW H × List MemPlace} (t0 : DataW.trod enc Tryz.prog w base (fun _ => true) held fuel 22 [v] = some x) : ∃ A n c, v = .slice A n c := by
  rcases open_ints Tryz.underlying22 Tryz.underlying3 (by kernel_rfl) t0 with ⟨hcs, _⟩ | ⟨a, len, cap, zs, hcs, _⟩
  · exact ⟨_, _, _, by simpa using hcs⟩
  · exact ⟨_, _, _, by simpa using hcs⟩
theorem rows_of {fuel : Nat} {v : Value} {x : DataW H × List MemPlace} (t1 : DataW.trod enc Tryz.prog w base (fun _ => true) held fuel 23 [v] = some x) : ∃ R k d, v = .slice R k d := by
  rcases Go.Deep.open_int_rows Tryz.underlying23 Tryz.underlying22 Tryz.underlying3 (by kernel_rfl) (by kernel_rfl) t1 with ⟨hcs, _⟩ | ⟨a, len, cap, _, _, _, _, hcs, _⟩
  · exact ⟨_, _, _, by simpa using hcs⟩
  · exact ⟨_, _, _, by simpa using hcs⟩
theorem mach_in {r : Reach} {b0 : Nat} {v : Value} {dd : DataW H} {p : List MemPlace} (hv : Value.okWide Tryz.prog w r b0 27 v) (h : DataW.Trod enc Tryz.prog w base (fun _ => true) held 27 v dd p) :
    ∃ A c R d B g n k m X, v = .agg #[.slice A n c, .slice R k d, .int .i64 X.mem.bank, .int .i64 X.a, .int .i64 X.at_, .bool X.carry, .slice B m g, .bool X.stop, .int .i64 X.cyc] ∧ InMach w A n R k B m X := by
  obtain ⟨cs, rfl, hsz⟩ := okWide_struct Tryz.underlying27 hv
  have hC : Tryz.prog.cellsOf 27 = 9 := by kernel_rfl
  have kM : Tryz.prog.cellsOf 25 = 3 := by kernel_rfl
  have kI : Tryz.prog.cellsOf 3 = 1 := by kernel_rfl
  have kB : Tryz.prog.cellsOf 4 = 1 := by kernel_rfl
  have kS : Tryz.prog.cellsOf 22 = 1 := by kernel_rfl
  have kSS : Tryz.prog.cellsOf 23 = 1 := by kernel_rfl
  obtain ⟨l⟩ := cs
  obtain ⟨c0, c1, c2, c3, c4, c5, c6, c7, c8, rfl⟩ := nine l (by rw [hC] at hsz; simpa using hsz)
  obtain ⟨fuel, hf⟩ := h
  obtain ⟨xs, n0, _, _, _, hlen, hff⟩ := DataW.trod_struct Tryz.underlying27 hf
  obtain ⟨y0, y1, y2, y3, y4, y5, y6, rfl⟩ : ∃ y0 y1 y2 y3 y4 y5 y6, xs = [y0, y1, y2, y3, y4, y5, y6] := by
    match xs, hlen with
    | [y0, y1, y2, y3, y4, y5, y6], _ => exact ⟨y0, y1, y2, y3, y4, y5, y6, rfl⟩
  have t0 : DataW.trod enc Tryz.prog w base (fun _ => true) held n0 25 [c0, c1, c2] = some y0 := by simpa [Value.cells, kM] using hff 0 _ rfl
  have t1 : DataW.trod enc Tryz.prog w base (fun _ => true) held n0 3 [c3] = some y1 := by simpa [Value.cells, kI] using hff 1 _ rfl
  have t2 : DataW.trod enc Tryz.prog w base (fun _ => true) held n0 3 [c4] = some y2 := by simpa [Value.cells, kI] using hff 2 _ rfl
  have t3 : DataW.trod enc Tryz.prog w base (fun _ => true) held n0 4 [c5] = some y3 := by simpa [Value.cells, kB] using hff 3 _ rfl
  have t4 : DataW.trod enc Tryz.prog w base (fun _ => true) held n0 22 [c6] = some y4 := by simpa [Value.cells, kS] using hff 4 _ rfl
  have t5 : DataW.trod enc Tryz.prog w base (fun _ => true) held n0 4 [c7] = some y5 := by simpa [Value.cells, kB] using hff 5 _ rfl
  have t6 : DataW.trod enc Tryz.prog w base (fun _ => true) held n0 3 [c8] = some y6 := by simpa [Value.cells, kI] using hff 6 _ rfl
  obtain ⟨xs2, n1, _, _, _, hlen2, hff2⟩ := DataW.trod_struct Tryz.underlying25 t0
  obtain ⟨z0, z1, z2, rfl⟩ : ∃ z0 z1 z2, xs2 = [z0, z1, z2] := by
    match xs2, hlen2 with
    | [z0, z1, z2], _ => exact ⟨z0, z1, z2, rfl⟩
  have u0 : DataW.trod enc Tryz.prog w base (fun _ => true) held n1 22 [c0] = some z0 := by simpa [kS] using hff2 0 _ rfl
  have u1 : DataW.trod enc Tryz.prog w base (fun _ => true) held n1 23 [c1] = some z1 := by simpa [kSS] using hff2 1 _ rfl
  have u2 : DataW.trod enc Tryz.prog w base (fun _ => true) held n1 3 [c2] = some z2 := by simpa [kI] using hff2 2 _ rfl
  obtain ⟨A, n, c, rfl⟩ := slice_of u0
  obtain ⟨R, k, d, rfl⟩ := rows_of u1
  obtain ⟨B, m, g, rfl⟩ := slice_of t4
  obtain ⟨bank, hz2, _⟩ := DataW.trod_int Tryz.underlying3 u2
  obtain rfl : c2 = .int .i64 bank := by simpa using hz2
  obtain ⟨a, hz3, _⟩ := DataW.trod_int Tryz.underlying3 t1
  obtain rfl : c3 = .int .i64 a := by simpa using hz3
  obtain ⟨t, hz4, _⟩ := DataW.trod_int Tryz.underlying3 t2
  obtain rfl : c4 = .int .i64 t := by simpa using hz4
  obtain ⟨cyc, hz8, _⟩ := DataW.trod_int Tryz.underlying3 t6
  obtain rfl : c8 = .int .i64 cyc := by simpa using hz8
  obtain ⟨carry, hz5, _⟩ := DataW.trod_bool Tryz.underlying4 t3
  obtain rfl : c5 = .bool carry := by simpa using hz5
  obtain ⟨stop, hz7, _⟩ := DataW.trod_bool Tryz.underlying4 t5
  obtain rfl : c7 = .bool stop := by simpa using hz7
  obtain ⟨hn, xs, fa, hi⟩ := ints_came u0
  obtain ⟨rs, hk, hr, fr, hg⟩ := rows_in u1
  obtain ⟨hm, bs, fb, hb⟩ := ints_came t4
  refine ⟨A, c, R, d, B, g, n, k, m, ⟨⟨xs, rs, bank⟩, a, t, carry, bs, stop, cyc⟩, rfl, ⟨?_, ?_, hr, ?_⟩, fa, fr, fb, hi, hg, hb⟩
  · show xs.length ≤ _; rw [hi.1]; exact hn
  · show rs.length ≤ _; rw [hg.len]; exact hk
  · show bs.length ≤ _; rw [hb.1]; exact hm
end
end Go.Proofs.YtgciaafapbaliaaGreatDoor
end

section
/- The laws' own functions on machines: new memory of their own; numbers written in order, and looked through again. -/
namespace Go.Proofs.YtgciaafapbaliaaGreatDoor
open Go.ChangeShapes Go.WideShapes Go.ChangeAt Go.RowKit

/-- A memory made first, then the return addresses; then blocks below L, before both, written. -/
theorem mach_made {w w1 w2 w3 : World} {X : Mach} {A : Option Addr} {n c : Nat} {R : Option Addr} {k d : Nat} {fa fr fb S : List Nat} {B : Option Addr} {m g : Nat} {L : Nat} (i : Ints w1 A n X.mem.ram fa) (r : Grid w1 R k X.mem.rom fr) (n1 : New L w1 (fa ++ fr)) (o12 : Only S w1 w2) (hi : Ints w2 B m X.back fb) (hn : New w1.heap.size w2 fb) (o23 : Only S w2 w3)
    (hS : ∀ b ∈ S, b < L) (hL : w.heap.size ≤ L) (hL1 : L ≤ w1.heap.size) (b : Below w.heap.size w w3) (hc : n ≤ c) (hd : k ≤ d) (hg : m ≤ g) : MachNew X w (.returned (.agg #[.slice A n c, .slice R k d, .int .i64 X.mem.bank, .int .i64 X.a, .int .i64 X.at_, .bool X.carry, .slice B m g, .bool X.stop, .int .i64 X.cyc])) w3 := by
  have d1 : ∀ b ∈ fa ++ fr, b ∉ S := fun x hx hs => by have := hS x hs; have := (n1.lt x hx).1; omega
  have d2 : ∀ b ∈ fb, b ∉ S := fun x hx hs => by have := hS x hs; have := (hn.lt x hx).1; omega
  have s1 : Same (fa ++ fr) w1 w3 := .of_only (o12.trans o23) d1
  have s2 : Same fb w2 w3 := .of_only o23 d2
  have hw : w.heap.size ≤ w1.heap.size := Nat.le_trans hL hL1
  refine ⟨A, n, c, R, k, d, B, m, g, fa, fr, fb, rfl, ⟨hc, hd, hg⟩, ⟨i.keep (s1.sub fun x hx => List.mem_append_left _ hx), r.keep (s1.sub fun x hx => List.mem_append_right _ hx), hi.keep s2⟩, ((n1.mono hL).keep s1).append ((hn.mono hw).keep s2) (fun x hx hy => ?_), b⟩
  have := (n1.lt x hx).2; have := (hn.lt x hy).1; omega
theorem to_mach (A : Option Addr) (c : Nat) (R : Option Addr) (d : Nat) (B : Option Addr) (g : Nat) (n k m : Nat) (X : Mach) (fa fr fb : List Nat) (w : World) (h : MHas w A n R k B m X fa fr fb) (f : Fits X 1000000000) :
    Calls Tryz.prog 8 #[.agg #[.slice A n c, .slice R k d, .int .i64 X.mem.bank, .int .i64 X.a, .int .i64 X.at_, .bool X.carry, .slice B m g, .bool X.stop, .int .i64 X.cyc]] w (MachNew X w) := by
  have hn := f.n h
  have hk := f.k h
  have hm := f.m h
  have H := Lib.hid h
  have HS := Lib.hid f.row
  clear h f
  go_enter Tryz.func8, Tryz.ntmps8
  go_upto_region 2 with (fail)
  obtain ⟨W, hW⟩ : ∃ W, W = ((w.alloc (.cells #[.slice A n c, .slice R k d, .int .i64 X.mem.bank, .int .i64 X.a, .int .i64 X.at_, .bool X.carry, .slice B m g, .bool X.stop, .int .i64 X.cyc] 27)).alloc (.cells #[.slice none 0 0, .slice none 0 0, .int .i64 0, .int .i64 0, .int .i64 0, .bool false, .slice none 0 0, .bool false, .int .i64 0] 31)).alloc (.cells #[.slice none 0 0, .slice none 0 0, .int .i64 0, .int .i64 0, .int .i64 0, .bool false, .slice none 0 0, .bool false, .int .i64 0] 31) := ⟨_, rfl⟩
  rw [← hW]
  have X0 : Hid (Box W w.heap.size 27 [.slice A n c, .slice R k d, .int .i64 X.mem.bank, .int .i64 X.a, .int .i64 X.at_, .bool X.carry, .slice B m g, .bool X.stop, .int .i64 X.cyc]) := by rw [hW]; exact Lib.hid (((Box.new w _ _).alloc _).alloc _)
  have X1 : Hid (Box W (w.heap.size + 1) 31 [.slice none 0 0, .slice none 0 0, .int .i64 0, .int .i64 0, .int .i64 0, .bool false, .slice none 0 0, .bool false, .int .i64 0]) := by rw [hW]; exact Lib.hid ((Box.new_at (w.alloc _) _ _ _ (by simp)).alloc _)
  have X2 : Hid (Box W (w.heap.size + 1 + 1) 31 [.slice none 0 0, .slice none 0 0, .int .i64 0, .int .i64 0, .int .i64 0, .bool false, .slice none 0 0, .bool false, .int .i64 0]) := by rw [hW]; exact Lib.hid (Box.new_at ((w.alloc _).alloc _) _ _ _ (by simp))
  have B0 : Hid (Below w.heap.size w W) := by rw [hW]; exact Lib.hid (below3 w _ _ _)
  have sW : W.heap.size = w.heap.size + 1 + 1 + 1 := by rw [hW]; simp
  clear hW
  have a0 : W.cell? ⟨w.heap.size, 0, none⟩ = some (.slice A n c) := X0.out.cell 0
  have a1 : W.cell? ⟨w.heap.size, 1, none⟩ = some (.slice R k d) := X0.out.cell 1
  have a2 : W.cell? ⟨w.heap.size, 2, none⟩ = some (.int .i64 X.mem.bank) := X0.out.cell 2
  have a3 : W.cell? ⟨w.heap.size, 3, none⟩ = some (.int .i64 X.a) := X0.out.cell 3
  have a4 : W.cell? ⟨w.heap.size, 4, none⟩ = some (.int .i64 X.at_) := X0.out.cell 4
  have a5 : W.cell? ⟨w.heap.size, 5, none⟩ = some (.bool X.carry) := X0.out.cell 5
  have a6 : W.cell? ⟨w.heap.size, 6, none⟩ = some (.slice B m g) := X0.out.cell 6
  have a7 : W.cell? ⟨w.heap.size, 7, none⟩ = some (.bool X.stop) := X0.out.cell 7
  have a8 : W.cell? ⟨w.heap.size, 8, none⟩ = some (.int .i64 X.cyc) := X0.out.cell 8
  go_wp2_with fail
  refine (to_mem A n c R k d X.mem fa fr _ (H.out.ram.below B0.out) (H.out.rom.below B0.out) hn hk HS.out).mono ?_
  rintro e w1 ⟨A1, n1, c1, R1, k1, d1, fa1, fr1, rfl, hc, hd, i1, g1', nw, b1⟩
  obtain rfl : n = n1 := by have := i1.1; have := H.out.ram.1; omega
  obtain rfl : k = k1 := by have := g1'.len; have := H.out.rom.len; omega
  have B1 : Hid (Below w.heap.size w w1) := B0.out.trans (b1.mono B0.out.size)
  have hL : w.heap.size + 1 + 1 + 1 ≤ w1.heap.size := by have := b1.size; omega
  have Y0 := Lib.hid (X0.out.below b1)
  have Y1 := Lib.hid (X1.out.below b1)
  have Y2 := Lib.hid (X2.out.below b1)
  have I1 := Lib.hid i1
  have G1 := Lib.hid g1'
  have N1 := Lib.hid (show New (w.heap.size + 1 + 1 + 1) w1 (fa1 ++ fr1) by rw [sW] at nw; exact nw)
  clear i1 g1' nw b1 X0 X1 X2 B0 a0 a1 a2 a3 a4 a5 a6 a7 a8
  have e2 : w1.cell? ⟨w.heap.size, 2, none⟩ = some (.int .i64 X.mem.bank) := Y0.out.cell 2
  have e3 : w1.cell? ⟨w.heap.size, 3, none⟩ = some (.int .i64 X.a) := Y0.out.cell 3
  have e4 : w1.cell? ⟨w.heap.size, 4, none⟩ = some (.int .i64 X.at_) := Y0.out.cell 4
  have e5 : w1.cell? ⟨w.heap.size, 5, none⟩ = some (.bool X.carry) := Y0.out.cell 5
  have e6 : w1.cell? ⟨w.heap.size, 6, none⟩ = some (.slice B m g) := Y0.out.cell 6
  have e7 : w1.cell? ⟨w.heap.size, 7, none⟩ = some (.bool X.stop) := Y0.out.cell 7
  have e8 : w1.cell? ⟨w.heap.size, 8, none⟩ = some (.int .i64 X.cyc) := Y0.out.cell 8
  have a0 : w1.cell? ⟨w.heap.size + 1 + 1, 0, none⟩ = some (.slice none 0 0) := Y2.out.cell 0
  have a1 : w1.cell? ⟨w.heap.size + 1 + 1, 1, none⟩ = some (.slice none 0 0) := Y2.out.cell 1
  have a2 : w1.cell? ⟨w.heap.size + 1 + 1, 2, none⟩ = some (.int .i64 0) := Y2.out.cell 2
  have a3 : w1.cell? ⟨w.heap.size + 1 + 1, 3, none⟩ = some (.int .i64 0) := Y2.out.cell 3
  have a4 : w1.cell? ⟨w.heap.size + 1 + 1, 4, none⟩ = some (.int .i64 0) := Y2.out.cell 4
  have a5 : w1.cell? ⟨w.heap.size + 1 + 1, 5, none⟩ = some (.bool false) := Y2.out.cell 5
  have a6 : w1.cell? ⟨w.heap.size + 1 + 1, 6, none⟩ = some (.slice none 0 0) := Y2.out.cell 6
  have a7 : w1.cell? ⟨w.heap.size + 1 + 1, 7, none⟩ = some (.bool false) := Y2.out.cell 7
  have a8 : w1.cell? ⟨w.heap.size + 1 + 1, 8, none⟩ = some (.int .i64 0) := Y2.out.cell 8
  have f0 := Y2.out.frozen 0
  have f1 := Y2.out.frozen 1
  have f2 := Y2.out.frozen 2
  have f3 := Y2.out.frozen 3
  have f4 := Y2.out.frozen 4
  have f5 := Y2.out.frozen 5
  have f6 := Y2.out.frozen 6
  have f7 := Y2.out.frozen 7
  have f8 := Y2.out.frozen 8
  go_upto_region 6 with (fail)
  obtain ⟨V, hV⟩ : ∃ V, V = (((((w1.setCell ⟨w.heap.size + 1 + 1, 0, none⟩ (.slice A1 n c1)).setCell ⟨w.heap.size + 1 + 1, 1, none⟩ (.slice R1 k d1)).setCell ⟨w.heap.size + 1 + 1, 2, none⟩ (.int .i64 X.mem.bank)).setCell ⟨w.heap.size + 1 + 1, 3, none⟩ (.int .i64 X.a)).setCell ⟨w.heap.size + 1 + 1, 4, none⟩ (.int .i64 X.at_)).setCell ⟨w.heap.size + 1 + 1, 5, none⟩ (.bool X.carry) := ⟨_, rfl⟩
  rw [← hV]
  have B2 : Hid (Below w.heap.size w V) := by rw [hV]; exact Lib.hid ((((((B1.out.setCell (show w.heap.size ≤ w.heap.size + 1 + 1 by omega) _).setCell (show w.heap.size ≤ w.heap.size + 1 + 1 by omega) _).setCell (show w.heap.size ≤ w.heap.size + 1 + 1 by omega) _).setCell (show w.heap.size ≤ w.heap.size + 1 + 1 by omega) _).setCell (show w.heap.size ≤ w.heap.size + 1 + 1 by omega) _).setCell (show w.heap.size ≤ w.heap.size + 1 + 1 by omega) _)
  have O2 : Hid (Only [w.heap.size + 1, w.heap.size + 1 + 1] w1 V) := by rw [hV]; exact Lib.hid (((((((Only.refl _ w1).setCell (.inl (by simp)) _).setCell (.inl (by simp)) _).setCell (.inl (by simp)) _).setCell (.inl (by simp)) _).setCell (.inl (by simp)) _).setCell (.inl (by simp)) _)
  have T0 : Hid (Box V w.heap.size 27 [.slice A n c, .slice R k d, .int .i64 X.mem.bank, .int .i64 X.a, .int .i64 X.at_, .bool X.carry, .slice B m g, .bool X.stop, .int .i64 X.cyc]) := by rw [hV]; exact Lib.hid ((((((Y0.out.far (by omega) _).far (by omega) _).far (by omega) _).far (by omega) _).far (by omega) _).far (by omega) _)
  have T1 : Hid (Box V (w.heap.size + 1) 31 [.slice none 0 0, .slice none 0 0, .int .i64 0, .int .i64 0, .int .i64 0, .bool false, .slice none 0 0, .bool false, .int .i64 0]) := by rw [hV]; exact Lib.hid ((((((Y1.out.far (by omega) _).far (by omega) _).far (by omega) _).far (by omega) _).far (by omega) _).far (by omega) _)
  have T2 : Hid (Box V (w.heap.size + 1 + 1) 31 [.slice A1 n c1, .slice R1 k d1, .int .i64 X.mem.bank, .int .i64 X.a, .int .i64 X.at_, .bool X.carry, .slice none 0 0, .bool false, .int .i64 0]) := by rw [hV]; exact Lib.hid ((((((Y2.out.set 0 _).set 1 _).set 2 _).set 3 _).set 4 _).set 5 _)
  have sV : Hid (V.heap.size = w1.heap.size) := by rw [hV]; exact Lib.hid (by simp)
  clear hV Y0 Y1 Y2 a0 a1 a2 a3 a4 a5 a6 a7 a8 f0 f1 f2 f3 f4 f5 f6 f7 f8 e2 e3 e4 e5 e6 e7 e8
  have b6 : V.cell? ⟨w.heap.size, 6, none⟩ = some (.slice B m g) := T0.out.cell 6
  go_wp2_with fail
  refine (to_ints _ _ _ _ _ _ (H.out.back.below B2.out) hm).mono ?_
  rintro e w2 ⟨B1', g1, fb1, rfl, hg, ib, nb, b2⟩
  have U0 := Lib.hid (T0.out.below b2)
  have U1 := Lib.hid (T1.out.below b2)
  have U2 := Lib.hid (T2.out.below b2)
  have IB := Lib.hid ib
  have NB : Hid (New w1.heap.size w2 fb1) := by rw [← sV.out]; exact Lib.hid nb
  have o12 : Hid (Only [w.heap.size + 1, w.heap.size + 1 + 1] w1 w2) := O2.out.trans (.of_below b2)
  have B3 : Hid (Below w.heap.size w w2) := B2.out.trans (b2.mono B2.out.size)
  clear ib nb b2 b6
  have e7 : w2.cell? ⟨w.heap.size, 7, none⟩ = some (.bool X.stop) := U0.out.cell 7
  have e8 : w2.cell? ⟨w.heap.size, 8, none⟩ = some (.int .i64 X.cyc) := U0.out.cell 8
  have a0 : w2.cell? ⟨w.heap.size + 1 + 1, 0, none⟩ = some (.slice A1 n c1) := U2.out.cell 0
  have a1 : w2.cell? ⟨w.heap.size + 1 + 1, 1, none⟩ = some (.slice R1 k d1) := U2.out.cell 1
  have a2 : w2.cell? ⟨w.heap.size + 1 + 1, 2, none⟩ = some (.int .i64 X.mem.bank) := U2.out.cell 2
  have a3 : w2.cell? ⟨w.heap.size + 1 + 1, 3, none⟩ = some (.int .i64 X.a) := U2.out.cell 3
  have a4 : w2.cell? ⟨w.heap.size + 1 + 1, 4, none⟩ = some (.int .i64 X.at_) := U2.out.cell 4
  have a5 : w2.cell? ⟨w.heap.size + 1 + 1, 5, none⟩ = some (.bool X.carry) := U2.out.cell 5
  have a6 : w2.cell? ⟨w.heap.size + 1 + 1, 6, none⟩ = some (.slice none 0 0) := U2.out.cell 6
  have a7 : w2.cell? ⟨w.heap.size + 1 + 1, 7, none⟩ = some (.bool false) := U2.out.cell 7
  have a8 : w2.cell? ⟨w.heap.size + 1 + 1, 8, none⟩ = some (.int .i64 0) := U2.out.cell 8
  have f6 := U2.out.frozen 6
  have f7 := U2.out.frozen 7
  have f8 := U2.out.frozen 8
  have h0 : w2.cell? ⟨w.heap.size + 1, 0, none⟩ = some (.slice none 0 0) := U1.out.cell 0
  have h1 : w2.cell? ⟨w.heap.size + 1, 1, none⟩ = some (.slice none 0 0) := U1.out.cell 1
  have h2 : w2.cell? ⟨w.heap.size + 1, 2, none⟩ = some (.int .i64 0) := U1.out.cell 2
  have h3 : w2.cell? ⟨w.heap.size + 1, 3, none⟩ = some (.int .i64 0) := U1.out.cell 3
  have h4 : w2.cell? ⟨w.heap.size + 1, 4, none⟩ = some (.int .i64 0) := U1.out.cell 4
  have h5 : w2.cell? ⟨w.heap.size + 1, 5, none⟩ = some (.bool false) := U1.out.cell 5
  have h6 : w2.cell? ⟨w.heap.size + 1, 6, none⟩ = some (.slice none 0 0) := U1.out.cell 6
  have h7 : w2.cell? ⟨w.heap.size + 1, 7, none⟩ = some (.bool false) := U1.out.cell 7
  have h8 : w2.cell? ⟨w.heap.size + 1, 8, none⟩ = some (.int .i64 0) := U1.out.cell 8
  have z0 := U1.out.frozen 0
  have z1 := U1.out.frozen 1
  have z2 := U1.out.frozen 2
  have z3 := U1.out.frozen 3
  have z4 := U1.out.frozen 4
  have z5 := U1.out.frozen 5
  have z6 := U1.out.frozen 6
  have z7 := U1.out.frozen 7
  have z8 := U1.out.frozen 8
  go_wp2_with fail
  refine bodyPost_ret (v := .agg #[.slice A1 n c1, .slice R1 k d1, .int .i64 X.mem.bank, .int .i64 X.a, .int .i64 X.at_, .bool X.carry, .slice B1' m g1, .bool X.stop, .int .i64 X.cyc]) (by simp [results, Tryz.results8, go_sem, h0, h1, h2, h3, h4, h5, h6, h7, h8]) rfl ?_
  refine mach_made (S := [w.heap.size + 1, w.heap.size + 1 + 1]) (L := w.heap.size + 1 + 1 + 1) I1.out G1.out N1.out o12.out IB.out NB.out ?_ (by intro b hb; simp at hb; omega) (by omega) hL ?_ hc hd hg
  · exact (((((((((((((Only.refl _ w2).setCell (.inl (by simp)) _).setCell (.inl (by simp)) _).setCell (.inl (by simp)) _).setCell (.inl (by simp)) _).setCell (.inl (by simp)) _).setCell (.inl (by simp)) _).setCell (.inl (by simp)) _).setCell (.inl (by simp)) _).setCell (.inl (by simp)) _).setCell (.inl (by simp)) _).setCell (.inl (by simp)) _).setCell (.inl (by simp)) _)
  · exact ((((((((((((B3.out.setCell (show w.heap.size ≤ w.heap.size + 1 + 1 by omega) _).setCell (show w.heap.size ≤ w.heap.size + 1 + 1 by omega) _).setCell (show w.heap.size ≤ w.heap.size + 1 + 1 by omega) _).setCell (show w.heap.size ≤ w.heap.size + 1 by omega) _).setCell (show w.heap.size ≤ w.heap.size + 1 by omega) _).setCell (show w.heap.size ≤ w.heap.size + 1 by omega) _).setCell (show w.heap.size ≤ w.heap.size + 1 by omega) _).setCell (show w.heap.size ≤ w.heap.size + 1 by omega) _).setCell (show w.heap.size ≤ w.heap.size + 1 by omega) _).setCell (show w.heap.size ≤ w.heap.size + 1 by omega) _).setCell (show w.heap.size ≤ w.heap.size + 1 by omega) _).setCell (show w.heap.size ≤ w.heap.size + 1 by omega) _)
/-- What writing numbers in order into a machine leaves. -/
def MarkedX (A : Option Addr) (n : Nat) (R : Option Addr) (k : Nat) (B : Option Addr) (m : Nat) (q : Int) (X : Mach) (fa fr fb : List Nat) (w : World) (e : Ending) (w' : World) : Prop :=
  ∃ rs' : List (List Int), e = .returned (.int .i64 (q + n + sumLen X.mem.rom + m)) ∧ Only (fa ++ fr ++ fb) w w' ∧ Ints w' A n (upFrom q n) fa ∧ Grid w' R k rs' fr ∧ Marked (q + n) rs' ∧ rs'.map List.length = X.mem.rom.map List.length ∧ Ints w' B m (upFrom (q + n + sumLen X.mem.rom) m) fb
theorem mark_mach (A : Option Addr) (c : Nat) (R : Option Addr) (d : Nat) (B : Option Addr) (g : Nat) (n k m : Nat) (q : Int) (X : Mach) (fa fr fb : List Nat) (L : Nat) (w : World) (h : MHas w A n R k B m X fa fr fb) (hw : New L w (fa ++ fr ++ fb)) (f : Fits X 1000000000) (hs : sumLen X.mem.rom ≤ 1000000000) (q0 : 0 ≤ q) (q1 : q ≤ 1000000000) :
    Calls Tryz.prog 11 #[.agg #[.slice A n c, .slice R k d, .int .i64 X.mem.bank, .int .i64 X.a, .int .i64 X.at_, .bool X.carry, .slice B m g, .bool X.stop, .int .i64 X.cyc], .int .i64 q] w (MarkedX A n R k B m q X fa fr fb w) := by
  have hn := f.n h
  have hk := f.k h
  have hm := f.m h
  have H := Lib.hid h
  have HW := Lib.hid hw
  have ND := List.nodup_append.1 hw.once
  have HD := Lib.hid ND
  have HN : Hid (New L w (fa ++ fr)) := ⟨ND.1, fun b hb => hw.lt b (List.mem_append_left _ hb), fun b hb => hw.free b (List.mem_append_left _ hb)⟩
  clear h hw f ND
  go_enter Tryz.func11, Tryz.ntmps11
  go_wp2_with fail
  refine (mark_mem A n c R k d X.mem.bank q X.mem fa fr L _ (H.out.ram.below (below1 w _)) (H.out.rom.below (below1 w _)) (HN.out.keep (.of_below (below1 w _))) hn hk hs q0 q1).mono ?_
  rintro e w1 ⟨rs', rfl, o1, i1, g1, m1, l1⟩
  have dis : ∀ x ∈ fb, x ∉ fa ++ fr := fun x hx hy => HD.out.2.2 x hy x hx rfl
  have X1 : Hid (Box w1 w.heap.size 31 [.slice A n c, .slice R k d, .int .i64 X.mem.bank, .int .i64 X.a, .int .i64 X.at_, .bool X.carry, .slice B m g, .bool X.stop, .int .i64 X.cyc]) := (Box.new w _ _).only o1 (fun hx => by have := (HN.out.lt _ hx).2; omega)
  have O1 : Hid (Only (fa ++ fr) w w1) := ((Only.refl _ w).alloc _).trans o1
  have I1 := Lib.hid i1
  have G1 := Lib.hid g1
  have M1 := Lib.hid m1
  have L1 := Lib.hid l1
  have K1 := Lib.hid (H.out.back.keep (.of_only O1.out dis))
  have F1 : Hid (∀ x ∈ fb, ∀ o, w1.frozen? ⟨x, o, none⟩ = false) := fun x hx o => (World.frozen?_of_block (a := ⟨x, o, none⟩) (O1.out.block x (H.out.back.lt x hx) (dis x hx))).trans (HW.out.free x (List.mem_append_right _ hx) o)
  have DS := Lib.hid dis
  clear o1 i1 g1 m1 l1 dis
  have a6 : w1.cell? ⟨w.heap.size, 6, none⟩ = some (.slice B m g) := X1.out.cell 6
  go_wp2_with fail
  refine (mark_ints _ _ _ _ _ _ _ K1.out F1.out hm (by omega) (by omega)).mono ?_
  rintro e w2 ⟨rfl, o2, i2, f2⟩
  have O2 := Lib.hid o2
  have I2 := Lib.hid i2
  clear o2 i2 f2
  go_wp2_with fail
  go_ret
  have s2 : Same (fa ++ fr) w1 w2 := .of_only O2.out fun x hx hy => DS.out x hy hx
  exact ⟨rs', rfl, (O1.out.mono (fun x hx => List.mem_append_left _ hx)).trans (O2.out.mono (fun x hx => List.mem_append_right _ hx)), I1.out.keep (s2.sub fun x hx => List.mem_append_left _ hx), G1.out.keep (s2.sub fun x hx => List.mem_append_right _ hx), M1.out, L1.out, I2.out⟩
theorem held_mach (A : Option Addr) (c : Nat) (R : Option Addr) (d : Nat) (B : Option Addr) (g : Nat) (n k m : Nat) (q : Int) (X : Mach) (rs : List (List Int)) (fa fr fb : List Nat) (w : World) (hi : Ints w A n (upFrom q n) fa) (hg : Grid w R k rs fr) (hm : Marked (q + n) rs) (hb : Ints w B m (upFrom (q + n + sumLen rs) m) fb) (hn : n ≤ 1000000000) (hk : k ≤ 1000000000) (hl : m ≤ 1000000000) (hs : sumLen rs ≤ 1000000000) (q0 : 0 ≤ q) (q1 : q ≤ 1000000000) :
    Calls Tryz.prog 12 #[.agg #[.slice A n c, .slice R k d, .int .i64 X.mem.bank, .int .i64 X.a, .int .i64 X.at_, .bool X.carry, .slice B m g, .bool X.stop, .int .i64 X.cyc], .int .i64 q] w fun e w' => e = .returned (.int .i64 (q + n + sumLen rs + m)) ∧ Below w.heap.size w w' := by
  have HI := Lib.hid hi
  have HG := Lib.hid hg
  have HM := Lib.hid hm
  have HB := Lib.hid hb
  clear hi hg hm hb
  go_enter Tryz.func12, Tryz.ntmps12
  go_wp2_with fail
  refine (held_mem A n c R k d X.mem.bank q rs fa fr _ (HI.out.below (below1 w _)) (HG.out.below (below1 w _)) HM.out hn hk hs q0 q1).mono ?_
  rintro e w1 ⟨rfl, b1⟩
  have X1 : Hid (Box w1 w.heap.size 31 [.slice A n c, .slice R k d, .int .i64 X.mem.bank, .int .i64 X.a, .int .i64 X.at_, .bool X.carry, .slice B m g, .bool X.stop, .int .i64 X.cyc]) := (Box.new w _ _).below b1
  have B1 : Hid (Below w.heap.size w w1) := (below1 w _).trans (b1.mono (by simp))
  clear b1
  have a6 : w1.cell? ⟨w.heap.size, 6, none⟩ = some (.slice B m g) := X1.out.cell 6
  go_wp2_with fail
  refine (held_ints _ _ _ _ _ _ (HB.out.below B1.out) hl (by omega) (by omega)).mono ?_; rintro e w' ⟨rfl, rfl⟩
  go_wp2_with fail
  go_ret
  exact ⟨rfl, B1.out⟩
end Go.Proofs.YtgciaafapbaliaaGreatDoor
end

section
/- A machine in a variable of the walk's own: its block q, and its own blocks between lo and hi; and what a size bounds. -/
namespace Go.Proofs.YtgciaafapbaliaaGreatDoor
open Go.ChangeShapes Go.WideShapes Go.ChangeAt Go.RowKit

structure XB (w : World) (q : Nat) (A : Option Addr) (c : Nat) (R : Option Addr) (d : Nat) (B : Option Addr) (g : Nat) (n k m : Nat) (X : Mach) (fa fr fb : List Nat) (lo hi : Nat) : Prop where
  box : Box w q 31 [.slice A n c, .slice R k d, .int .i64 X.mem.bank, .int .i64 X.a, .int .i64 X.at_, .bool X.carry, .slice B m g, .bool X.stop, .int .i64 X.cyc]
  has : MHas w A n R k B m X fa fr fb
  new : New lo w (fa ++ fr ++ fb)
  span : ∀ b ∈ fa ++ fr ++ fb, lo ≤ b ∧ b < hi
  at_ : q = hi
theorem XB.below {w w' : World} {q : Nat} {A : Option Addr} {c : Nat} {R : Option Addr} {d : Nat} {B : Option Addr} {g : Nat} {n k m : Nat} {X : Mach} {fa fr fb : List Nat} {lo hi : Nat} (h : XB w q A c R d B g n k m X fa fr fb lo hi) (b : Below w.heap.size w w') : XB w' q A c R d B g n k m X fa fr fb lo hi :=
  ⟨h.box.below b, h.has.below b, h.new.keep (.of_below b), h.span, h.at_⟩
theorem XB.only {S : List Nat} {w w' : World} {q : Nat} {A : Option Addr} {c : Nat} {R : Option Addr} {d : Nat} {B : Option Addr} {g : Nat} {n k m : Nat} {X : Mach} {fa fr fb : List Nat} {lo hi l u : Nat} (h : XB w q A c R d B g n k m X fa fr fb lo hi) (o : Only S w w') (hS : ∀ b ∈ S, l ≤ b ∧ b < u) (hd : hi < l ∨ u ≤ lo) (hl : lo ≤ hi) : XB w' q A c R d B g n k m X fa fr fb lo hi := by
  have hq := h.at_
  have d1 : ∀ x ∈ fa ++ fr ++ fb, x ∉ S := fun x hx hs => by have := h.span x hx; have := hS x hs; omega
  have s : Same (fa ++ fr ++ fb) w w' := .of_only o d1
  exact ⟨h.box.only o (fun hs => by have := hS q hs; omega), h.has.keep s, h.new.keep s, h.span, h.at_⟩
/-- A machine that a call has made, laid into a new variable. -/
theorem XB.new_ {w w' : World} {A : Option Addr} {c : Nat} {R : Option Addr} {d : Nat} {B : Option Addr} {g : Nat} {n k m : Nat} {X : Mach} {fa fr fb : List Nat} (hh : MHas w' A n R k B m X fa fr fb) (hn : New w.heap.size w' (fa ++ fr ++ fb)) :
    XB (w'.alloc (.cells #[.slice A n c, .slice R k d, .int .i64 X.mem.bank, .int .i64 X.a, .int .i64 X.at_, .bool X.carry, .slice B m g, .bool X.stop, .int .i64 X.cyc] 31)) w'.heap.size A c R d B g n k m X fa fr fb w.heap.size w'.heap.size :=
  ⟨Box.new w' _ _, hh.below (below1 w' _), hn.keep (.of_below (below1 w' _)), hn.lt, rfl⟩
theorem fits_sum {X : Mach} (f : Fits X 256) : sumLen X.mem.rom ≤ 1000000 := sum_small (M := X.mem) (N := 256) ⟨f.ram, f.rom, f.row⟩ (by omega)
theorem fits_sz {w : World} {A : Option Addr} {n : Nat} {R : Option Addr} {k : Nat} {B : Option Addr} {m : Nat} {X : Mach} {fa fr fb : List Nat} (h : MHas w A n R k B m X fa fr fb) {sv : Int} (h0 : 0 ≤ sv) (hv : sv = 1048576 - n - k - sumLen X.mem.rom - m) : Fits X 1048576 ∧ sumLen X.mem.rom ≤ 1048576 := by
  refine ⟨⟨by have := h.ram.1; omega, by have := h.rom.len; omega, fun i => by have := sumLen_row X.mem.rom i; omega, by have := h.back.1; omega⟩, by omega⟩
end Go.Proofs.YtgciaafapbaliaaGreatDoor
end

section
/- Machines tested: the program's function and the model's. -/
namespace Go.Proofs.YtgciaafapbaliaaGreatDoor
open Go.ChangeShapes Go.WideShapes Go.ChangeAt Go.RowKit

theorem allAddresses_any (A : Option Addr) (n c : Nat) (xs : List Int) (fa : List Nat) (w : World) (ha : Ints w A n xs fa) (hn : n ≤ 1000000000) :
    Calls Tryz.prog 46 #[.slice A n c] w fun e w' => e = .returned (.bool (addrsB xs)) ∧ w = w' := by
  have HA := Lib.hid ha
  clear ha
  go_enter Tryz.func46, Tryz.ntmps46
  go_wp2
  go_loop [7] (fun i => ∃ k : Nat, k ≤ n ∧ i = .int .i64 k ∧ ∀ j, j < k → addrB (xs.getD j 0) = true) (fun i => n - (intOf i).toNat)
  case atStart => exact ⟨0, Nat.zero_le _, rfl, fun j hj => by omega⟩
  case round =>
    obtain ⟨k, hk, rfl, hm⟩ := hrel
    have HM := Lib.hid hm
    clear hm
    by_cases hlt : k < n
    · obtain ⟨p, o, rfl, hfp, hp, hc⟩ := HA.out.at_ (by omega)
      have c1 := hc k hlt
      obtain ⟨x, hx⟩ : ∃ x, x = xs.getD k 0 := ⟨_, rfl⟩
      rw [← hx] at c1
      have HX := Lib.hid hx
      clear hc hfp hx
      by_cases hb : addrB x = true
      · have HB := Lib.hid hb
        clear hb
        go_wp2_with fail
        refine (isAddress_any _ _).mono ?_; rintro e w' ⟨rfl, rfl⟩
        rw [HB.out]
        go_wp2_with fail
        go_round
        case rel => exact ⟨k + 1, by omega, by go_num, fun j hj => by
          by_cases h : j = k
          · subst h; rw [← HX.out]; exact HB.out
          · exact HM.out j (by omega)⟩
        case measure => simp [intOf]; omega
      · have HB := Lib.hid (show addrB x = false by simpa using hb)
        have HF := Lib.hid (addrsB_no xs k (by rw [HA.out.1]; exact hlt) (by rw [← HX.out]; exact HB.out))
        clear hb
        go_wp2_with fail
        refine (isAddress_any _ _).mono ?_; rintro e w' ⟨rfl, rfl⟩
        rw [HB.out]
        go_wp2_with fail
        go_ret
        exact ⟨ret_bool HF.out.symm, rfl⟩
    · have HF := Lib.hid ((addrsB_iff xs).2 fun i hi => HM.out i (by have := HA.out.1; omega))
      go_wp2
      go_ret
      exact ⟨ret_bool HF.out.symm, rfl⟩
theorem impl_machValid (A : Option Addr) (c : Nat) (R : Option Addr) (d : Nat) (B : Option Addr) (g : Nat) (n k m : Nat) (X : Mach) (fa fr fb : List Nat) (w : World) (h : MHas w A n R k B m X fa fr fb) (f : Fits X 1000000000) :
    Calls Tryz.prog 31 #[.agg #[.slice A n c, .slice R k d, .int .i64 X.mem.bank, .int .i64 X.a, .int .i64 X.at_, .bool X.carry, .slice B m g, .bool X.stop, .int .i64 X.cyc]] w fun e w' => e = .returned (.bool (machB X)) ∧ Below w.heap.size w w' := by
  have hn := f.n h
  have hk := f.k h
  have hm := f.m h
  have HL := Lib.hid h.back.1
  have H1 := Lib.hid (h.below (below1 w (.cells #[.slice A n c, .slice R k d, .int .i64 X.mem.bank, .int .i64 X.a, .int .i64 X.at_, .bool X.carry, .slice B m g, .bool X.stop, .int .i64 X.cyc] 31)))
  have HS := Lib.hid f.row
  clear h f
  by_cases h1 : byteB X.a = true
  · have K1 := Lib.hid h1
    clear h1
    by_cases h2 : addrB X.at_ = true
    · have K2 := Lib.hid h2
      clear h2
      by_cases h3 : 0 ≤ X.cyc
      · by_cases h4 : X.cyc ≤ 1000000000
        · by_cases h5 : m ≤ 8
          · by_cases h6 : addrsB X.back = true
            · have K6 := Lib.hid h6
              have HF := Lib.hid (show machB X = validB X.mem by have := HL.out; have h5' : X.back.length ≤ 8 := (by omega); simp [machB, K1.out, K2.out, h3, h4, K6.out, h5'])
              clear h6
              go_enter Tryz.func31, Tryz.ntmps31
              go_wp2_with fail
              refine (isByte_any _ _).mono ?_; rintro e w' ⟨rfl, rfl⟩
              rw [K1.out]
              go_wp2_with fail
              refine (isAddress_any _ _).mono ?_; rintro e w' ⟨rfl, rfl⟩
              rw [K2.out]
              go_wp2_with fail
              refine (allAddresses_any _ _ _ _ _ _ H1.out.back hm).mono ?_; rintro e w' ⟨rfl, rfl⟩
              rw [K6.out]
              go_wp2_with fail
              refine (impl_valid _ _ _ _ _ _ _ _ _ _ H1.out.ram H1.out.rom hn hk HS.out).mono ?_; rintro e w' ⟨rfl, b⟩
              have BB := Lib.hid b
              clear b
              go_wp2_with fail
              go_ret
              exact ⟨ret_bool HF.out.symm, (below1 w _).trans (BB.out.mono (by simp))⟩
            · have K6 := Lib.hid (show addrsB X.back = false by simpa using h6)
              have HF := Lib.hid (show machB X = false by simp [machB, K6.out])
              clear h6
              go_enter Tryz.func31, Tryz.ntmps31
              go_wp2_with fail
              refine (isByte_any _ _).mono ?_; rintro e w' ⟨rfl, rfl⟩
              rw [K1.out]
              go_wp2_with fail
              refine (isAddress_any _ _).mono ?_; rintro e w' ⟨rfl, rfl⟩
              rw [K2.out]
              go_wp2_with fail
              refine (allAddresses_any _ _ _ _ _ _ H1.out.back hm).mono ?_; rintro e w' ⟨rfl, rfl⟩
              rw [K6.out]
              go_wp2_with fail
              go_ret
              exact ⟨ret_bool HF.out.symm, below1 w _⟩
          · have HF := Lib.hid (show machB X = false by have := HL.out; have h5' : ¬ X.back.length ≤ 8 := (by omega); simp [machB, h5'])
            go_enter Tryz.func31, Tryz.ntmps31
            go_wp2_with fail
            refine (isByte_any _ _).mono ?_; rintro e w' ⟨rfl, rfl⟩
            rw [K1.out]
            go_wp2_with fail
            refine (isAddress_any _ _).mono ?_; rintro e w' ⟨rfl, rfl⟩
            rw [K2.out]
            go_wp2_with fail
            go_ret
            exact ⟨ret_bool HF.out.symm, below1 w _⟩
        · have HF := Lib.hid (show machB X = false by simp [machB, h4])
          have h4' : decide (X.cyc ≤ 1000000000) = false := by simpa using h4
          have h4'' : 1000000000 < X.cyc := by omega
          clear h4
          go_enter Tryz.func31, Tryz.ntmps31
          go_wp2_with fail
          refine (isByte_any _ _).mono ?_; rintro e w' ⟨rfl, rfl⟩
          rw [K1.out]
          go_wp2_with fail
          refine (isAddress_any _ _).mono ?_; rintro e w' ⟨rfl, rfl⟩
          rw [K2.out]
          go_wp2_with fail
          go_ret
          exact ⟨ret_bool HF.out.symm, below1 w _⟩
      · have HF := Lib.hid (show machB X = false by simp [machB, h3])
        have h3' : X.cyc < 0 := by omega
        clear h3
        go_enter Tryz.func31, Tryz.ntmps31
        go_wp2_with fail
        refine (isByte_any _ _).mono ?_; rintro e w' ⟨rfl, rfl⟩
        rw [K1.out]
        go_wp2_with fail
        refine (isAddress_any _ _).mono ?_; rintro e w' ⟨rfl, rfl⟩
        rw [K2.out]
        go_wp2_with fail
        go_ret
        exact ⟨ret_bool HF.out.symm, below1 w _⟩
    · have K2 := Lib.hid (show addrB X.at_ = false by simpa using h2)
      have HF := Lib.hid (show machB X = false by simp [machB, K2.out])
      clear h2
      go_enter Tryz.func31, Tryz.ntmps31
      go_wp2_with fail
      refine (isByte_any _ _).mono ?_; rintro e w' ⟨rfl, rfl⟩
      rw [K1.out]
      go_wp2_with fail
      refine (isAddress_any _ _).mono ?_; rintro e w' ⟨rfl, rfl⟩
      rw [K2.out]
      go_wp2_with fail
      go_ret
      exact ⟨ret_bool HF.out.symm, below1 w _⟩
  · have K1 := Lib.hid (show byteB X.a = false by simpa using h1)
    have HF := Lib.hid (show machB X = false by simp [machB, K1.out])
    clear h1
    go_enter Tryz.func31, Tryz.ntmps31
    go_wp2_with fail
    refine (isByte_any _ _).mono ?_; rintro e w' ⟨rfl, rfl⟩
    rw [K1.out]
    go_wp2_with fail
    go_ret
    exact ⟨ret_bool HF.out.symm, below1 w _⟩
end Go.Proofs.YtgciaafapbaliaaGreatDoor
end

section
/- Machines tested: the model's function. -/
namespace Go.Proofs.YtgciaafapbaliaaGreatDoor
open Go.ChangeShapes Go.WideShapes Go.ChangeAt Go.RowKit

theorem betB_cyc (X : Mach) : machB X = (addrsB X.back && (validB X.mem && byteB X.a && betB X.at_ 0 1023 && decide (X.back.length ≤ 8) && betB X.cyc 0 1000000000)) := by
  have e : betB X.at_ 0 1023 = addrB X.at_ := rfl
  rw [e]
  simp only [machB, betB]
  cases byteB X.a <;> cases addrB X.at_ <;> cases decide (0 ≤ X.cyc) <;> cases decide (X.cyc ≤ 1000000000) <;> cases decide (X.back.length ≤ 8) <;> cases addrsB X.back <;> cases validB X.mem <;> rfl
theorem spec_machValid (A : Option Addr) (c : Nat) (R : Option Addr) (d : Nat) (B : Option Addr) (g : Nat) (n k m : Nat) (X : Mach) (fa fr fb : List Nat) (w : World) (h : MHas w A n R k B m X fa fr fb) (f : Fits X 1000000000) :
    Calls Tryz.prog 19 #[.agg #[.slice A n c, .slice R k d, .int .i64 X.mem.bank, .int .i64 X.a, .int .i64 X.at_, .bool X.carry, .slice B m g, .bool X.stop, .int .i64 X.cyc]] w fun e w' => e = .returned (.bool (machB X)) ∧ Below w.heap.size w w' := by
  have hn := f.n h
  have hk := f.k h
  have hm := f.m h
  have HL := Lib.hid h.back.1
  have H1 := Lib.hid (h.below (below1 w (.cells #[.slice A n c, .slice R k d, .int .i64 X.mem.bank, .int .i64 X.a, .int .i64 X.at_, .bool X.carry, .slice B m g, .bool X.stop, .int .i64 X.cyc] 31)))
  have HS := Lib.hid f.row
  clear h f
  go_enter Tryz.func19, Tryz.ntmps19
  go_wp2
  go_loop [3] (fun i => ∃ j : Nat, j ≤ m ∧ i = .int .i64 j ∧ ∀ q, q < j → addrB (X.back.getD q 0) = true) (fun i => m - (intOf i).toNat)
  case atStart => exact ⟨0, Nat.zero_le _, rfl, fun j hj => by omega⟩
  case round =>
    obtain ⟨j, hj, rfl, hma⟩ := hrel
    have HM := Lib.hid hma
    clear hma
    by_cases hlt : j < m
    · obtain ⟨p, o, rfl, hfp, hp, hc⟩ := H1.out.back.at_ (by omega)
      have c1 := hc j hlt
      obtain ⟨x, hx⟩ : ∃ x, x = X.back.getD j 0 := ⟨_, rfl⟩
      rw [← hx] at c1
      have HX := Lib.hid hx
      clear hc hfp hx
      by_cases hb : addrB x = true
      · have HB := Lib.hid hb
        clear hb
        go_wp2_with fail
        refine (l1In_any _ _ _ _).mono ?_; rintro e w' ⟨rfl, rfl⟩
        rw [show betB x 0 1023 = true from HB.out]
        go_wp2_with fail
        go_round
        case rel => exact ⟨j + 1, by omega, by go_num, fun q hq => by
          by_cases h : q = j
          · subst h; rw [← HX.out]; exact HB.out
          · exact HM.out q (by omega)⟩
        case measure => simp [intOf]; omega
      · have HB := Lib.hid (show addrB x = false by simpa using hb)
        have HF := Lib.hid (show machB X = false by simp [machB, addrsB_no X.back j (by rw [HL.out]; exact hlt) (by rw [← HX.out]; exact HB.out)])
        clear hb
        go_wp2_with fail
        refine (l1In_any _ _ _ _).mono ?_; rintro e w' ⟨rfl, rfl⟩
        rw [show betB x 0 1023 = false from HB.out]
        go_wp2_with fail
        go_ret
        exact ⟨ret_bool HF.out.symm, below1 w _⟩
    · have HA := Lib.hid ((addrsB_iff X.back).2 fun i hi => HM.out i (by have := HL.out; omega))
      have HF := Lib.hid (show machB X = (validB X.mem && byteB X.a && betB X.at_ 0 1023 && decide (X.back.length ≤ 8) && betB X.cyc 0 1000000000) by rw [betB_cyc, HA.out]; rfl)
      clear HM
      go_wp2_with fail
      refine (spec_valid _ _ _ _ _ _ _ _ _ _ H1.out.ram H1.out.rom hn hk HS.out).mono ?_; rintro e w2 ⟨rfl, b2⟩
      have X2 : Hid (Box w2 w.heap.size 31 [.slice A n c, .slice R k d, .int .i64 X.mem.bank, .int .i64 X.a, .int .i64 X.at_, .bool X.carry, .slice B m g, .bool X.stop, .int .i64 X.cyc]) := (Box.new w _ _).below b2
      have B2 : Hid (Below w.heap.size w w2) := (below1 w _).trans (b2.mono (by simp))
      have d0 : w2.cell? ⟨w.heap.size, 0, none⟩ = some (.slice A n c) := X2.out.cell 0
      have d1 : w2.cell? ⟨w.heap.size, 1, none⟩ = some (.slice R k d) := X2.out.cell 1
      have d2 : w2.cell? ⟨w.heap.size, 2, none⟩ = some (.int .i64 X.mem.bank) := X2.out.cell 2
      have d3 : w2.cell? ⟨w.heap.size, 3, none⟩ = some (.int .i64 X.a) := X2.out.cell 3
      have d4 : w2.cell? ⟨w.heap.size, 4, none⟩ = some (.int .i64 X.at_) := X2.out.cell 4
      have d5 : w2.cell? ⟨w.heap.size, 5, none⟩ = some (.bool X.carry) := X2.out.cell 5
      have d6 : w2.cell? ⟨w.heap.size, 6, none⟩ = some (.slice B m g) := X2.out.cell 6
      have d7 : w2.cell? ⟨w.heap.size, 7, none⟩ = some (.bool X.stop) := X2.out.cell 7
      have d8 : w2.cell? ⟨w.heap.size, 8, none⟩ = some (.int .i64 X.cyc) := X2.out.cell 8
      clear b2
      rcases hv : validB X.mem with _ | _
      · rw [hv] at HF
        have HF := Lib.hid (show machB X = false by rw [HF.out]; rfl)
        clear hv
        go_wp2_with fail
        go_ret
        exact ⟨ret_bool HF.out.symm, B2.out⟩
      · rw [hv] at HF
        clear hv
        go_wp2_with fail
        refine (l1Byte_any _ _).mono ?_; rintro e w' ⟨rfl, rfl⟩
        rcases hv : byteB X.a with _ | _
        · rw [hv] at HF
          have HF := Lib.hid (show machB X = false by rw [HF.out]; rfl)
          clear hv
          go_wp2_with fail
          go_ret
          exact ⟨ret_bool HF.out.symm, B2.out⟩
        · rw [hv] at HF
          clear hv
          go_wp2_with fail
          refine (l1In_any _ _ _ _).mono ?_; rintro e w' ⟨rfl, rfl⟩
          rcases hv : betB X.at_ 0 1023 with _ | _
          · rw [hv] at HF
            have HF := Lib.hid (show machB X = false by rw [HF.out]; rfl)
            clear hv
            go_wp2_with fail
            go_ret
            exact ⟨ret_bool HF.out.symm, B2.out⟩
          · rw [hv] at HF
            clear hv
            by_cases h8 : m ≤ 8
            · have HF := Lib.hid (show machB X = betB X.cyc 0 1000000000 by rw [HF.out]; have := HL.out; simp [show X.back.length ≤ 8 by omega])
              go_wp2_with fail
              refine (l1In_any _ _ _ _).mono ?_; rintro e w' ⟨rfl, rfl⟩
              generalize betB X.cyc 0 1000000000 = u at HF
              go_wp2_with fail
              go_ret
              exact ⟨ret_bool HF.out.symm, B2.out⟩
            · have HF := Lib.hid (show machB X = false by rw [HF.out]; have := HL.out; simp [show ¬ X.back.length ≤ 8 by omega])
              go_wp2_with fail
              go_ret
              exact ⟨ret_bool HF.out.symm, B2.out⟩
end Go.Proofs.YtgciaafapbaliaaGreatDoor
end

section
/- Several steps as plain data; a machine laid into a variable, and handed on. -/
namespace Go.Proofs.YtgciaafapbaliaaGreatDoor
open Go.ChangeShapes Go.WideShapes Go.ChangeAt Go.RowKit

def stepsB (s : Int) : Bool := decide (0 ≤ s) && decide (s ≤ 500)
def runX (X : Mach) (s : Int) : Mach := if stepsB s = true ∧ machB X = true then runN X s.toNat else machZ
def untilX (X : Mach) (ad : Int) : Mach := if addrB ad = true ∧ machB X = true then (untilN ad 500 0 X).2 else machZ
def untilS (X : Mach) (ad : Int) : Int := if addrB ad = true ∧ machB X = true then (untilN ad 500 0 X).1 else 0
theorem run_good {X : Mach} (g : machB X = true) (k : Nat) (hk : k ≤ 500) : GoodX (runN X k) 1000001500 := good_more (good_run (goodX_of g) k) (by omega)
theorem runX_fits (X : Mach) (s : Int) : Fits (runX X s) 256 := by
  unfold runX
  split
  · rename_i h
    have hs : 0 ≤ s ∧ s ≤ 500 := by simpa [stepsB] using h.1
    exact fits_good (run_good h.2 s.toNat (by omega))
  · exact fits_Z _
theorem machZ_new {w w' : World} (b : Below w.heap.size w w') : MachNew machZ w (.returned (.agg #[.slice none 0 0, .slice none 0 0, .int .i64 0, .int .i64 0, .int .i64 0, .bool false, .slice none 0 0, .bool false, .int .i64 0])) w' :=
  ⟨none, 0, 0, none, 0, 0, none, 0, 0, [], [], [], rfl, ⟨Nat.le_refl _, Nat.le_refl _, Nat.le_refl _⟩, ⟨.nil _ _, .nil _ _, .nil _ _⟩, by simpa using New.nil _ _, b⟩
/-- A machine that a call has made, laid into a new variable. -/
theorem machIn_new {w : World} {A : Option Addr} {c : Nat} {R : Option Addr} {d : Nat} {B : Option Addr} {g n k m : Nat} {X : Mach} {fa fr fb : List Nat} {L : Nat} (hc : n ≤ c ∧ k ≤ d ∧ m ≤ g) (hh : MHas w A n R k B m X fa fr fb) (hn : New L w (fa ++ fr ++ fb)) (ho : w.ownsRow L 3 1 (.slice B m g) m (iv X.back)) (hs : ∀ b, (Value.slice B m g).ownBlock = some b → b ∉ fa ++ fr) (hL : L ≤ w.heap.size) :
    MachIn (w.alloc (.cells #[.slice A n c, .slice R k d, .int .i64 X.mem.bank, .int .i64 X.a, .int .i64 X.at_, .bool X.carry, .slice B m g, .bool X.stop, .int .i64 X.cyc] 31)) w.heap.size A c R d B g n k m X fa fr fb L :=
  ⟨Box.new w _ _, hh.below (below1 w _), hn.keep (.of_below (below1 w _)), own_keep ho (below1 w _), fun b hb => ⟨by have := (own_lt ho b hb).2; omega, hs b hb⟩, fun hx => by have := (hn.lt _ hx).2; omega, hL, hc⟩
/-- A machine handed on through the result's own block. -/
theorem mach_handed {w w2 w3 : World} {A : Option Addr} {c : Nat} {R : Option Addr} {d : Nat} {B : Option Addr} {g n k m : Nat} {X : Mach} {fa fr fb S : List Nat} {L : Nat} (hc : n ≤ c ∧ k ≤ d ∧ m ≤ g) (hh : MHas w2 A n R k B m X fa fr fb) (hn : New L w2 (fa ++ fr ++ fb)) (o : Only S w2 w3) (hS : ∀ b ∈ S, b < L) (hL : w.heap.size ≤ L) (b : Below w.heap.size w w3) : MachNew X w (.returned (.agg #[.slice A n c, .slice R k d, .int .i64 X.mem.bank, .int .i64 X.a, .int .i64 X.at_, .bool X.carry, .slice B m g, .bool X.stop, .int .i64 X.cyc])) w3 := by
  have d1 : ∀ b ∈ fa ++ fr ++ fb, b ∉ S := fun x hx hs => by have := hS x hs; have := (hn.lt x hx).1; omega
  have s1 : Same (fa ++ fr ++ fb) w2 w3 := .of_only o d1
  exact ⟨A, n, c, R, k, d, B, m, g, fa, fr, fb, rfl, hc, hh.keep s1, (hn.mono hL).keep s1, b⟩
end Go.Proofs.YtgciaafapbaliaaGreatDoor
end

section
/- Several steps: the program's functions. -/
namespace Go.Proofs.YtgciaafapbaliaaGreatDoor
open Go.ChangeShapes Go.WideShapes Go.ChangeAt Go.RowKit

set_option maxHeartbeats 1000000 in
theorem impl_run (A : Option Addr) (c : Nat) (R : Option Addr) (d : Nat) (B : Option Addr) (g : Nat) (n k m : Nat) (X : Mach) (s : Int) (fa fr fb : List Nat) (w : World) (h : MHas w A n R k B m X fa fr fb) (f : Fits X 1000000000) (ho : Ops w) :
    Calls Tryz.prog 14 #[.agg #[.slice A n c, .slice R k d, .int .i64 X.mem.bank, .int .i64 X.a, .int .i64 X.at_, .bool X.carry, .slice B m g, .bool X.stop, .int .i64 X.cyc], .int .i64 s] w (MachNew (runX X s) w) := by
  have hn := f.n h
  have hk := f.k h
  have hm := f.m h
  have H := Lib.hid h
  have HF := Lib.hid f
  have HO := Lib.hid ho
  have X0 : Hid (Box ((w.alloc (.cells #[.slice A n c, .slice R k d, .int .i64 X.mem.bank, .int .i64 X.a, .int .i64 X.at_, .bool X.carry, .slice B m g, .bool X.stop, .int .i64 X.cyc] 31)).alloc (.cells #[.slice none 0 0, .slice none 0 0, .int .i64 0, .int .i64 0, .int .i64 0, .bool false, .slice none 0 0, .bool false, .int .i64 0] 31)) w.heap.size 31 [.slice A n c, .slice R k d, .int .i64 X.mem.bank, .int .i64 X.a, .int .i64 X.at_, .bool X.carry, .slice B m g, .bool X.stop, .int .i64 X.cyc]) := (Box.new w _ _).alloc _
  have X1 : Hid (Box ((w.alloc (.cells #[.slice A n c, .slice R k d, .int .i64 X.mem.bank, .int .i64 X.a, .int .i64 X.at_, .bool X.carry, .slice B m g, .bool X.stop, .int .i64 X.cyc] 31)).alloc (.cells #[.slice none 0 0, .slice none 0 0, .int .i64 0, .int .i64 0, .int .i64 0, .bool false, .slice none 0 0, .bool false, .int .i64 0] 31)) (w.heap.size + 1) 31 [.slice none 0 0, .slice none 0 0, .int .i64 0, .int .i64 0, .int .i64 0, .bool false, .slice none 0 0, .bool false, .int .i64 0]) := Box.new_at (w.alloc _) _ _ _ (by simp)
  have B0 : Hid (Below w.heap.size w ((w.alloc (.cells #[.slice A n c, .slice R k d, .int .i64 X.mem.bank, .int .i64 X.a, .int .i64 X.at_, .bool X.carry, .slice B m g, .bool X.stop, .int .i64 X.cyc] 31)).alloc (.cells #[.slice none 0 0, .slice none 0 0, .int .i64 0, .int .i64 0, .int .i64 0, .bool false, .slice none 0 0, .bool false, .int .i64 0] 31))) := below2 w _ _
  have H0 := Lib.hid (h.below (below2 w (.cells #[.slice A n c, .slice R k d, .int .i64 X.mem.bank, .int .i64 X.a, .int .i64 X.at_, .bool X.carry, .slice B m g, .bool X.stop, .int .i64 X.cyc] 31) (.cells #[.slice none 0 0, .slice none 0 0, .int .i64 0, .int .i64 0, .int .i64 0, .bool false, .slice none 0 0, .bool false, .int .i64 0] 31)))
  clear h f ho
  by_cases hs0 : s < 0
  · have HE := Lib.hid (show runX X s = machZ by unfold runX; rw [if_neg (fun e => by have := e.1; simp [stepsB] at this; omega)])
    have z1 : decide (s < 0) = true := by simpa using hs0
    go_enter Tryz.func14, Tryz.ntmps14
    go_wp2_with fail
    refine bodyPost_ret (v := .agg #[.slice none 0 0, .slice none 0 0, .int .i64 0, .int .i64 0, .int .i64 0, .bool false, .slice none 0 0, .bool false, .int .i64 0]) (by simp [results, Tryz.results14, go_sem]) rfl ?_
    rw [HE.out]
    exact machZ_new B0.out
  · by_cases hs5 : 500 < s
    · have HE := Lib.hid (show runX X s = machZ by unfold runX; rw [if_neg (fun e => by have := e.1; simp [stepsB] at this; omega)])
      have z1 : decide (s < 0) = false := by simpa using hs0
      go_enter Tryz.func14, Tryz.ntmps14
      go_wp2_with fail
      refine bodyPost_ret (v := .agg #[.slice none 0 0, .slice none 0 0, .int .i64 0, .int .i64 0, .int .i64 0, .bool false, .slice none 0 0, .bool false, .int .i64 0]) (by simp [results, Tryz.results14, go_sem]) rfl ?_
      rw [HE.out]
      exact machZ_new B0.out
    · obtain ⟨S, rfl⟩ := Int.eq_ofNat_of_zero_le (show 0 ≤ s by omega)
      have z1 : decide ((S : Int) < 0) = false := by simp
      have z2 : decide ((500 : Int) < (S : Int)) = false := by simpa using hs5
      have s5 : S ≤ 500 := by omega
      go_enter Tryz.func14, Tryz.ntmps14
      go_wp2_with fail
      refine (impl_machValid A c R d B g n k m X fa fr fb _ H0.out HF.out).mono ?_
      rintro e w1 ⟨rfl, b1⟩
      have Y0 := Lib.hid (X0.out.below b1)
      have Y1 := Lib.hid (X1.out.below b1)
      have B1 := Lib.hid (B0.out.trans (b1.mono B0.out.size))
      have H1 := Lib.hid (H0.out.below b1)
      have hz := Y1.out.lt
      clear b1 X0 X1 B0 H0
      have a0 : w1.cell? ⟨w.heap.size, 0, none⟩ = some (.slice A n c) := Y0.out.cell 0
      have a1 : w1.cell? ⟨w.heap.size, 1, none⟩ = some (.slice R k d) := Y0.out.cell 1
      have a2 : w1.cell? ⟨w.heap.size, 2, none⟩ = some (.int .i64 X.mem.bank) := Y0.out.cell 2
      have a3 : w1.cell? ⟨w.heap.size, 3, none⟩ = some (.int .i64 X.a) := Y0.out.cell 3
      have a4 : w1.cell? ⟨w.heap.size, 4, none⟩ = some (.int .i64 X.at_) := Y0.out.cell 4
      have a5 : w1.cell? ⟨w.heap.size, 5, none⟩ = some (.bool X.carry) := Y0.out.cell 5
      have a6 : w1.cell? ⟨w.heap.size, 6, none⟩ = some (.slice B m g) := Y0.out.cell 6
      have a7 : w1.cell? ⟨w.heap.size, 7, none⟩ = some (.bool X.stop) := Y0.out.cell 7
      have a8 : w1.cell? ⟨w.heap.size, 8, none⟩ = some (.int .i64 X.cyc) := Y0.out.cell 8
      have e0 : w1.cell? ⟨w.heap.size + 1, 0, none⟩ = some (.slice none 0 0) := Y1.out.cell 0
      have e1 : w1.cell? ⟨w.heap.size + 1, 1, none⟩ = some (.slice none 0 0) := Y1.out.cell 1
      have e2 : w1.cell? ⟨w.heap.size + 1, 2, none⟩ = some (.int .i64 0) := Y1.out.cell 2
      have e3 : w1.cell? ⟨w.heap.size + 1, 3, none⟩ = some (.int .i64 0) := Y1.out.cell 3
      have e4 : w1.cell? ⟨w.heap.size + 1, 4, none⟩ = some (.int .i64 0) := Y1.out.cell 4
      have e5 : w1.cell? ⟨w.heap.size + 1, 5, none⟩ = some (.bool false) := Y1.out.cell 5
      have e6 : w1.cell? ⟨w.heap.size + 1, 6, none⟩ = some (.slice none 0 0) := Y1.out.cell 6
      have e7 : w1.cell? ⟨w.heap.size + 1, 7, none⟩ = some (.bool false) := Y1.out.cell 7
      have e8 : w1.cell? ⟨w.heap.size + 1, 8, none⟩ = some (.int .i64 0) := Y1.out.cell 8
      have f0 := Y1.out.frozen 0
      have f1 := Y1.out.frozen 1
      have f2 := Y1.out.frozen 2
      have f3 := Y1.out.frozen 3
      have f4 := Y1.out.frozen 4
      have f5 := Y1.out.frozen 5
      have f6 := Y1.out.frozen 6
      have f7 := Y1.out.frozen 7
      have f8 := Y1.out.frozen 8
      rcases hv : machB X with _ | _
      · have HE := Lib.hid (show runX X S = machZ by unfold runX; rw [hv]; simp)
        clear hv
        go_wp2_with fail
        refine bodyPost_ret (v := .agg #[.slice none 0 0, .slice none 0 0, .int .i64 0, .int .i64 0, .int .i64 0, .bool false, .slice none 0 0, .bool false, .int .i64 0]) (by simp [results, Tryz.results14, go_sem, e0, e1, e2, e3, e4, e5, e6, e7, e8]) rfl ?_
        rw [HE.out]
        exact machZ_new (((((((((B1.out.setCell (show w.heap.size ≤ w.heap.size + 1 by omega) _).setCell (show w.heap.size ≤ w.heap.size + 1 by omega) _).setCell (show w.heap.size ≤ w.heap.size + 1 by omega) _).setCell (show w.heap.size ≤ w.heap.size + 1 by omega) _).setCell (show w.heap.size ≤ w.heap.size + 1 by omega) _).setCell (show w.heap.size ≤ w.heap.size + 1 by omega) _).setCell (show w.heap.size ≤ w.heap.size + 1 by omega) _).setCell (show w.heap.size ≤ w.heap.size + 1 by omega) _).setCell (show w.heap.size ≤ w.heap.size + 1 by omega) _)
      · have HE := Lib.hid (show runX X S = runN X S by unfold runX; rw [hv, if_pos ⟨by simp [stepsB]; omega, rfl⟩]; rfl)
        have HV := Lib.hid hv
        clear hv
        go_wp2_with fail
        refine (clone_mach A c R d B g n k m X fa fr fb _ H1.out HF.out).mono ?_
        rintro e w2 ⟨A2, n2, c2, R2, k2, d2, B2, m2, g2, fa2, fr2, fb2, rfl, hc, hh, hnw, b2, hown, hsole⟩
        have M2 := Lib.hid (machIn_new hc hh hnw hown hsole b2.size)
        have V1 := Lib.hid (Y1.out.below b2)
        have B2' := Lib.hid ((B1.out.trans (b2.mono B1.out.size)))
        have l1 := b2.size
        clear hc hh hnw b2 hown hsole a0 a1 a2 a3 a4 a5 a6 a7 a8 e0 e1 e2 e3 e4 e5 e6 e7 e8 f0 f1 f2 f3 f4 f5 f6 f7 f8
        go_upto_region 4 with (fail)
        go_wp2_with fail
        go_loopw [21] (fun i wr => ∃ j : Nat, j ≤ S ∧ i = .int .i64 j ∧ MachHere wr w2.heap.size (runN X j) w1.heap.size ∧ Box wr (w.heap.size + 1) 31 [.slice none 0 0, .slice none 0 0, .int .i64 0, .int .i64 0, .int .i64 0, .bool false, .slice none 0 0, .bool false, .int .i64 0] ∧ Below w.heap.size w wr) (fun i _ => S - (intOf i).toNat)
        case atStart => exact ⟨0, by omega, rfl, M2.out.here, V1.out.alloc _, B2'.out.alloc B2'.out.size _⟩
        case round =>
          obtain ⟨j, hj, rfl, ⟨A3, c3, R3, d3, B3, g3, n3, k3, m3, fa3, fr3, fb3, hm3⟩, hb3, hbw⟩ := hrel
          have M3 := Lib.hid hm3
          have Z3 := Lib.hid hb3
          have B3' := Lib.hid hbw
          have GR := Lib.hid (run_good HV.out j (by omega))
          have OR := Lib.hid (HO.out.below hbw)
          clear hm3 hb3 hbw M2 V1
          by_cases hlt : j < S
          · go_wp2_with fail
            refine (impl_step M3.out GR.out (by omega) OR.out).mono ?_
            rintro e w4 ⟨rfl, hh4, b4⟩
            have HH := Lib.hid hh4
            have B4 := Lib.hid b4
            clear hh4 b4
            go_wp2_with fail
            go_roundw
            case rel => exact ⟨j + 1, by omega, by go_num, HH.out, Z3.out.keep B4.out (by omega), B3'.out.trans (B4.out.mono B1.out.size)⟩
            case measure => simp [intOf]; omega
          · obtain rfl : j = S := by omega
            obtain ⟨Y, hY⟩ : ∃ Y, Y = runN X j := ⟨_, rfl⟩
            rw [← hY] at M3 HE
            clear GR OR hY
            have a0 : wr.cell? ⟨w2.heap.size, 0, none⟩ = some (.slice A3 n3 c3) := M3.out.box.cell 0
            have a1 : wr.cell? ⟨w2.heap.size, 1, none⟩ = some (.slice R3 k3 d3) := M3.out.box.cell 1
            have a2 : wr.cell? ⟨w2.heap.size, 2, none⟩ = some (.int .i64 Y.mem.bank) := M3.out.box.cell 2
            have a3 : wr.cell? ⟨w2.heap.size, 3, none⟩ = some (.int .i64 Y.a) := M3.out.box.cell 3
            have a4 : wr.cell? ⟨w2.heap.size, 4, none⟩ = some (.int .i64 Y.at_) := M3.out.box.cell 4
            have a5 : wr.cell? ⟨w2.heap.size, 5, none⟩ = some (.bool Y.carry) := M3.out.box.cell 5
            have a6 : wr.cell? ⟨w2.heap.size, 6, none⟩ = some (.slice B3 m3 g3) := M3.out.box.cell 6
            have a7 : wr.cell? ⟨w2.heap.size, 7, none⟩ = some (.bool Y.stop) := M3.out.box.cell 7
            have a8 : wr.cell? ⟨w2.heap.size, 8, none⟩ = some (.int .i64 Y.cyc) := M3.out.box.cell 8
            have e0 : wr.cell? ⟨w.heap.size + 1, 0, none⟩ = some (.slice none 0 0) := Z3.out.cell 0
            have e1 : wr.cell? ⟨w.heap.size + 1, 1, none⟩ = some (.slice none 0 0) := Z3.out.cell 1
            have e2 : wr.cell? ⟨w.heap.size + 1, 2, none⟩ = some (.int .i64 0) := Z3.out.cell 2
            have e3 : wr.cell? ⟨w.heap.size + 1, 3, none⟩ = some (.int .i64 0) := Z3.out.cell 3
            have e4 : wr.cell? ⟨w.heap.size + 1, 4, none⟩ = some (.int .i64 0) := Z3.out.cell 4
            have e5 : wr.cell? ⟨w.heap.size + 1, 5, none⟩ = some (.bool false) := Z3.out.cell 5
            have e6 : wr.cell? ⟨w.heap.size + 1, 6, none⟩ = some (.slice none 0 0) := Z3.out.cell 6
            have e7 : wr.cell? ⟨w.heap.size + 1, 7, none⟩ = some (.bool false) := Z3.out.cell 7
            have e8 : wr.cell? ⟨w.heap.size + 1, 8, none⟩ = some (.int .i64 0) := Z3.out.cell 8
            have f0 := Z3.out.frozen 0
            have f1 := Z3.out.frozen 1
            have f2 := Z3.out.frozen 2
            have f3 := Z3.out.frozen 3
            have f4 := Z3.out.frozen 4
            have f5 := Z3.out.frozen 5
            have f6 := Z3.out.frozen 6
            have f7 := Z3.out.frozen 7
            have f8 := Z3.out.frozen 8
            go_wp2_with fail
            refine bodyPost_ret (v := .agg #[.slice A3 n3 c3, .slice R3 k3 d3, .int .i64 Y.mem.bank, .int .i64 Y.a, .int .i64 Y.at_, .bool Y.carry, .slice B3 m3 g3, .bool Y.stop, .int .i64 Y.cyc]) (by simp [results, Tryz.results14, go_sem, e0, e1, e2, e3, e4, e5, e6, e7, e8]) rfl ?_
            rw [HE.out]
            refine mach_handed (S := [w.heap.size + 1]) M3.out.cap M3.out.has M3.out.new ?_ (by intro b hb; simp at hb; omega) B1.out.size ?_
            · exact ((((((((((Only.refl _ wr).setCell (.inl (by simp)) _).setCell (.inl (by simp)) _).setCell (.inl (by simp)) _).setCell (.inl (by simp)) _).setCell (.inl (by simp)) _).setCell (.inl (by simp)) _).setCell (.inl (by simp)) _).setCell (.inl (by simp)) _).setCell (.inl (by simp)) _)
            · exact (((((((((B3'.out.setCell (show w.heap.size ≤ w.heap.size + 1 by omega) _).setCell (show w.heap.size ≤ w.heap.size + 1 by omega) _).setCell (show w.heap.size ≤ w.heap.size + 1 by omega) _).setCell (show w.heap.size ≤ w.heap.size + 1 by omega) _).setCell (show w.heap.size ≤ w.heap.size + 1 by omega) _).setCell (show w.heap.size ≤ w.heap.size + 1 by omega) _).setCell (show w.heap.size ≤ w.heap.size + 1 by omega) _).setCell (show w.heap.size ≤ w.heap.size + 1 by omega) _).setCell (show w.heap.size ≤ w.heap.size + 1 by omega) _)
theorem impl_stepM (A : Option Addr) (c : Nat) (R : Option Addr) (d : Nat) (B : Option Addr) (g : Nat) (n k m : Nat) (X : Mach) (fa fr fb : List Nat) (w : World) (h : MHas w A n R k B m X fa fr fb) (f : Fits X 1000000000) (ho : Ops w) :
    Calls Tryz.prog 9 #[.agg #[.slice A n c, .slice R k d, .int .i64 X.mem.bank, .int .i64 X.a, .int .i64 X.at_, .bool X.carry, .slice B m g, .bool X.stop, .int .i64 X.cyc]] w (MachNew (runX X 1) w) := by
  have hn := f.n h
  have hk := f.k h
  have hm := f.m h
  have H := Lib.hid h
  have HF := Lib.hid f
  have HO := Lib.hid ho
  have X0 : Hid (Box ((w.alloc (.cells #[.slice A n c, .slice R k d, .int .i64 X.mem.bank, .int .i64 X.a, .int .i64 X.at_, .bool X.carry, .slice B m g, .bool X.stop, .int .i64 X.cyc] 31)).alloc (.cells #[.slice none 0 0, .slice none 0 0, .int .i64 0, .int .i64 0, .int .i64 0, .bool false, .slice none 0 0, .bool false, .int .i64 0] 31)) w.heap.size 31 [.slice A n c, .slice R k d, .int .i64 X.mem.bank, .int .i64 X.a, .int .i64 X.at_, .bool X.carry, .slice B m g, .bool X.stop, .int .i64 X.cyc]) := (Box.new w _ _).alloc _
  have X1 : Hid (Box ((w.alloc (.cells #[.slice A n c, .slice R k d, .int .i64 X.mem.bank, .int .i64 X.a, .int .i64 X.at_, .bool X.carry, .slice B m g, .bool X.stop, .int .i64 X.cyc] 31)).alloc (.cells #[.slice none 0 0, .slice none 0 0, .int .i64 0, .int .i64 0, .int .i64 0, .bool false, .slice none 0 0, .bool false, .int .i64 0] 31)) (w.heap.size + 1) 31 [.slice none 0 0, .slice none 0 0, .int .i64 0, .int .i64 0, .int .i64 0, .bool false, .slice none 0 0, .bool false, .int .i64 0]) := Box.new_at (w.alloc _) _ _ _ (by simp)
  have B0 : Hid (Below w.heap.size w ((w.alloc (.cells #[.slice A n c, .slice R k d, .int .i64 X.mem.bank, .int .i64 X.a, .int .i64 X.at_, .bool X.carry, .slice B m g, .bool X.stop, .int .i64 X.cyc] 31)).alloc (.cells #[.slice none 0 0, .slice none 0 0, .int .i64 0, .int .i64 0, .int .i64 0, .bool false, .slice none 0 0, .bool false, .int .i64 0] 31))) := below2 w _ _
  have H0 := Lib.hid (h.below (below2 w (.cells #[.slice A n c, .slice R k d, .int .i64 X.mem.bank, .int .i64 X.a, .int .i64 X.at_, .bool X.carry, .slice B m g, .bool X.stop, .int .i64 X.cyc] 31) (.cells #[.slice none 0 0, .slice none 0 0, .int .i64 0, .int .i64 0, .int .i64 0, .bool false, .slice none 0 0, .bool false, .int .i64 0] 31)))
  clear h f ho
  have O0 := Lib.hid (HO.out.below B0.out)
  go_enter Tryz.func9, Tryz.ntmps9
  go_wp2_with fail
  refine (impl_run A c R d B g n k m X 1 fa fr fb _ H0.out HF.out O0.out).mono ?_
  rintro e w1 ⟨A3, n3, c3, R3, k3, d3, B3, m3, g3, fa3, fr3, fb3, rfl, hc, hh, hn1, b1⟩
  have Z3 := Lib.hid (X1.out.below b1)
  have B1 := Lib.hid (B0.out.trans (b1.mono B0.out.size))
  have HC := Lib.hid hc
  have HH := Lib.hid hh
  have N1 := Lib.hid (show New (w.heap.size + 1 + 1) w1 (fa3 ++ fr3 ++ fb3) by simpa using hn1)
  clear hc hh hn1 b1
  obtain ⟨Y, hY⟩ : ∃ Y, runX X 1 = Y := ⟨_, rfl⟩
  rw [hY] at HH ⊢
  have HY := Lib.hid hY
  clear hY
  have e0 : w1.cell? ⟨w.heap.size + 1, 0, none⟩ = some (.slice none 0 0) := Z3.out.cell 0
  have e1 : w1.cell? ⟨w.heap.size + 1, 1, none⟩ = some (.slice none 0 0) := Z3.out.cell 1
  have e2 : w1.cell? ⟨w.heap.size + 1, 2, none⟩ = some (.int .i64 0) := Z3.out.cell 2
  have e3 : w1.cell? ⟨w.heap.size + 1, 3, none⟩ = some (.int .i64 0) := Z3.out.cell 3
  have e4 : w1.cell? ⟨w.heap.size + 1, 4, none⟩ = some (.int .i64 0) := Z3.out.cell 4
  have e5 : w1.cell? ⟨w.heap.size + 1, 5, none⟩ = some (.bool false) := Z3.out.cell 5
  have e6 : w1.cell? ⟨w.heap.size + 1, 6, none⟩ = some (.slice none 0 0) := Z3.out.cell 6
  have e7 : w1.cell? ⟨w.heap.size + 1, 7, none⟩ = some (.bool false) := Z3.out.cell 7
  have e8 : w1.cell? ⟨w.heap.size + 1, 8, none⟩ = some (.int .i64 0) := Z3.out.cell 8
  have f0 := Z3.out.frozen 0
  have f1 := Z3.out.frozen 1
  have f2 := Z3.out.frozen 2
  have f3 := Z3.out.frozen 3
  have f4 := Z3.out.frozen 4
  have f5 := Z3.out.frozen 5
  have f6 := Z3.out.frozen 6
  have f7 := Z3.out.frozen 7
  have f8 := Z3.out.frozen 8
  go_wp2_with fail
  refine bodyPost_ret (v := .agg #[.slice A3 n3 c3, .slice R3 k3 d3, .int .i64 Y.mem.bank, .int .i64 Y.a, .int .i64 Y.at_, .bool Y.carry, .slice B3 m3 g3, .bool Y.stop, .int .i64 Y.cyc]) (by simp [results, Tryz.results9, go_sem, e0, e1, e2, e3, e4, e5, e6, e7, e8]) rfl ?_
  rw [HY.out]
  refine mach_handed (w := w) (S := [w.heap.size + 1]) (L := w.heap.size + 1 + 1) HC.out HH.out N1.out ?_ (by intro b hb; simp at hb; omega) (by omega) ?_
  · exact ((((((((((Only.refl _ w1).setCell (.inl (by simp)) _).setCell (.inl (by simp)) _).setCell (.inl (by simp)) _).setCell (.inl (by simp)) _).setCell (.inl (by simp)) _).setCell (.inl (by simp)) _).setCell (.inl (by simp)) _).setCell (.inl (by simp)) _).setCell (.inl (by simp)) _)
  · exact (((((((((B1.out.setCell (show w.heap.size ≤ w.heap.size + 1 by omega) _).setCell (show w.heap.size ≤ w.heap.size + 1 by omega) _).setCell (show w.heap.size ≤ w.heap.size + 1 by omega) _).setCell (show w.heap.size ≤ w.heap.size + 1 by omega) _).setCell (show w.heap.size ≤ w.heap.size + 1 by omega) _).setCell (show w.heap.size ≤ w.heap.size + 1 by omega) _).setCell (show w.heap.size ≤ w.heap.size + 1 by omega) _).setCell (show w.heap.size ≤ w.heap.size + 1 by omega) _).setCell (show w.heap.size ≤ w.heap.size + 1 by omega) _)
end Go.Proofs.YtgciaafapbaliaaGreatDoor
end

section
/- One step of the model's machine. -/
namespace Go.Proofs.YtgciaafapbaliaaGreatDoor
open Go.ChangeShapes Go.WideShapes Go.ChangeAt Go.RowKit

theorem decV_s (op arg : Int) : decV (some (op, arg)) = .tuple #[.agg #[.int .i64 op, .int .i64 arg], .int .i64 (lenN op), .bool true] := rfl
theorem decV_n : decV none = .tuple #[.agg #[.int .i64 0, .int .i64 0], .int .i64 0, .bool false] := rfl
theorem sgo_all {q : Nat} {A : Option Addr} {c : Nat} {R : Option Addr} {d : Nat} {B : Option Addr} {g n k m : Nat} {X : Mach} {fa fr fb : List Nat} {L : Nat} {w : World} {C : Int} (op arg : Int) (h : MachIn w q A c R d B g n k m X fa fr fb L) (gd : GoodX X C) (p0 : 0 ≤ op) (p1 : op ≤ 15) (r0 : 0 ≤ arg) (r1 : arg ≤ 1023) (ho : op = 0 ∨ 10 ≤ op) :
    Calls Tryz.prog 63 #[.pointer (some ⟨q, 0, none⟩), .agg #[.int .i64 op, .int .i64 arg]] w (Did q (doN X op arg) L w) := by
  obtain rfl | rfl | rfl | rfl | rfl | rfl | rfl : op = 0 ∨ op = 10 ∨ op = 11 ∨ op = 12 ∨ op = 13 ∨ op = 14 ∨ op = 15 := by omega
  · rw [doN_0]; exact sgo_wait arg h gd r0 r1
  · rw [doN_10]; exact sgo_jump arg h gd r0 r1
  · rw [doN_11]; exact sgo_zero arg h gd r0 r1
  · rw [doN_12]; exact sgo_carry arg h gd r0 r1
  · rw [doN_13]; exact sgo_call arg h gd r0 r1
  · rw [doN_14]; exact sgo_return arg h gd r0 r1
  · rw [doN_15]; exact sgo_stop arg h gd r0 r1
set_option maxHeartbeats 4000000 in
set_option maxRecDepth 100000 in
theorem sdo_rest {q : Nat} {A : Option Addr} {c : Nat} {R : Option Addr} {d : Nat} {B : Option Addr} {g n k m : Nat} {X : Mach} {fa fr fb : List Nat} {L : Nat} {w : World} {C : Int} (op arg : Int) (h : MachIn w q A c R d B g n k m X fa fr fb L) (gd : GoodX X C) (p0 : 0 ≤ op) (p1 : op ≤ 15) (r0 : 0 ≤ arg) (r1 : arg ≤ 1023) (ho : op = 0 ∨ 10 ≤ op) :
    Calls Tryz.prog 40 #[.pointer (some ⟨q, 0, none⟩), .agg #[.int .i64 op, .int .i64 arg]] w (Did q (doN X op arg) L w) := by
  have q1 : (op == 1) = false := by simp; omega
  have q2 : (op == 2) = false := by simp; omega
  have q3 : (op == 3) = false := by simp; omega
  have q4 : (op == 4) = false := by simp; omega
  have q5 : (op == 5) = false := by simp; omega
  have q6 : (op == 6) = false := by simp; omega
  have q7 : (op == 7) = false := by simp; omega
  have q8 : (op == 8) = false := by simp; omega
  have q9 : (op == 9) = false := by simp; omega
  have HH := Lib.hid (show 0 ≤ op ∧ op ≤ 15 ∧ 0 ≤ arg ∧ arg ≤ 1023 ∧ (op = 0 ∨ 10 ≤ op) from ⟨p0, p1, r0, r1, ho⟩)
  clear p0 p1 r0 r1 ho
  have hL := h.lt
  have HG := Lib.hid gd
  have m0 := h.below (below1 w (.cells #[.int .i64 op, .int .i64 arg] 57))
  have ZW0 := Lib.hid (Box.new w #[.int .i64 op, .int .i64 arg] 57)
  have B00 := Lib.hid ((below1 w (.cells #[.int .i64 op, .int .i64 arg] 57)).mono hL)
  have M0 := Lib.hid m0
  have s0 : Hid ((w.alloc (.cells #[.int .i64 op, .int .i64 arg] 57)).heap.size = w.heap.size + 1) := by show _ = _; simp
  clear h gd m0
  go_enter Tryz.func40, Tryz.ntmps40
  go_upto_region 1 with (fail)
  obtain ⟨W, hW⟩ : ∃ W, W = w.alloc (.cells #[.int .i64 op, .int .i64 arg] 57) := ⟨_, rfl⟩
  rw [← hW] at M0 ZW0 B00 s0
  rw [← hW]
  clear hW
  have z0 : W.cell? ⟨w.heap.size, 0, none⟩ = some (.int .i64 op) := ZW0.out.cell 0
  have z1 : W.cell? ⟨w.heap.size, 1, none⟩ = some (.int .i64 arg) := ZW0.out.cell 1
  have MD : Hid (MachIn W.drew q A c R d B g n k m X fa fr fb L) := M0.out.below (w' := W.drew) ((Below.refl _ _).drew)
  have ZD : Hid (Box W.drew w.heap.size 57 [.int .i64 op, .int .i64 arg]) := ZW0.out
  have lW : L ≤ W.heap.size := M0.out.lt
  go_wp2_with fail
  refine (sgo_all op arg M0.out HG.out HH.out.1 HH.out.2.1 HH.out.2.2.1 HH.out.2.2.2.1 HH.out.2.2.2.2).mono ?_
  rintro e w2 ⟨rfl, hh, b2⟩
  have H2 := Lib.hid hh
  have B2 := Lib.hid b2
  clear hh b2
  go_wp2_with fail
  go_end0
  exact ⟨rfl, H2.out, B00.out.trans B2.out⟩
theorem sdo_all {q : Nat} {A : Option Addr} {c : Nat} {R : Option Addr} {d : Nat} {B : Option Addr} {g n k m : Nat} {X : Mach} {fa fr fb : List Nat} {L : Nat} {w : World} {C : Int} (op arg : Int) (h : MachIn w q A c R d B g n k m X fa fr fb L) (gd : GoodX X C) (p0 : 0 ≤ op) (p1 : op ≤ 15) (r0 : 0 ≤ arg) (r1 : arg ≤ 1023) :
    Calls Tryz.prog 40 #[.pointer (some ⟨q, 0, none⟩), .agg #[.int .i64 op, .int .i64 arg]] w (Did q (doN X op arg) L w) := by
  by_cases ho : op = 0 ∨ 10 ≤ op
  · exact sdo_rest op arg h gd p0 p1 r0 r1 ho
  · obtain rfl | rfl | rfl | rfl | rfl | rfl | rfl | rfl | rfl : op = 1 ∨ op = 2 ∨ op = 3 ∨ op = 4 ∨ op = 5 ∨ op = 6 ∨ op = 7 ∨ op = 8 ∨ op = 9 := by omega
    · rw [doN_1]; exact sdo_set arg h gd r0 r1
    · rw [doN_2]; exact sdo_load arg h gd r0 r1
    · rw [doN_3]; exact sdo_store arg h gd r0 r1
    · rw [doN_4]; exact sdo_add arg h gd r0 r1
    · rw [doN_5]; exact sdo_sub arg h gd r0 r1
    · rw [doN_6]; exact sdo_and arg h gd r0 r1
    · rw [doN_7]; exact sdo_xor arg h gd r0 r1
    · rw [doN_8]; exact sdo_left arg h gd r0 r1
    · rw [doN_9]; exact sdo_right arg h gd r0 r1
set_option maxHeartbeats 4000000 in
theorem spec_step {q : Nat} {A : Option Addr} {c : Nat} {R : Option Addr} {d : Nat} {B : Option Addr} {g n k m : Nat} {X : Mach} {fa fr fb : List Nat} {L : Nat} {w : World} {C : Int} (h : MachIn w q A c R d B g n k m X fa fr fb L) (gd : GoodX X C) (hC : C ≤ 2000000000) :
    Calls Tryz.prog 21 #[.pointer (some ⟨q, 0, none⟩)] w (Did q (stepN X) L w) := by
  have H := Lib.hid h
  have HG := Lib.hid gd
  have e7 : w.cell? ⟨q, 7, none⟩ = some (.bool X.stop) := h.box.cell 7
  by_cases hs : X.stop = true
  · have HE := Lib.hid (show stepN X = X by unfold stepN; rw [if_pos hs])
    rw [hs] at e7
    clear h gd hs
    go_enter Tryz.func21, Tryz.ntmps21
    go_wp2
    go_end0
    exact ⟨rfl, by rw [HE.out]; exact H.out.here, Below.refl _ _⟩
  · rw [show X.stop = false by simpa using hs] at e7
    have HN := Lib.hid hs
    obtain ⟨T, hT⟩ := Int.eq_ofNat_of_zero_le gd.t0
    have t1 : T < 1024 := by have := gd.t1; omega
    have HT := Lib.hid hT
    have lw : L ≤ w.heap.size := h.lt
    have hw := h.box.lt
    clear h gd hs hT
    go_enter Tryz.func21, Tryz.ntmps21
    go_wp2_with fail
    refine (fetch_any H.out HG.out).mono ?_
    rintro e w1 ⟨rfl, b1⟩
    have B1 := Lib.hid (show Below L w w1 from b1.mono lw)
    have M1 := Lib.hid (H.out.below b1)
    have hs1 := b1.size
    clear b1 e7
    rcases hd : fetchN X with _ | ⟨op, arg⟩
    · have HE : Hid (stepN X = { X with stop := true }) := by
        refine Lib.hid ?_
        unfold stepN
        rw [if_neg HN.out, hd]
      rw [decV_n]
      have M1a := Lib.hid (M1.out.below (below1 w1 (.cells #[.int .i64 0, .int .i64 0] 57)))
      have B1a := Lib.hid (B1.out.alloc (Nat.le_trans lw hs1) (.cells #[.int .i64 0, .int .i64 0] 57))
      have e7 : w1.cell? ⟨q, 7, none⟩ = some (.bool X.stop) := M1.out.box.cell 7
      have e7a : (w1.alloc (.cells #[.int .i64 0, .int .i64 0] 57)).cell? ⟨q, 7, none⟩ = some (.bool X.stop) := M1a.out.box.cell 7
      have f7 := M1.out.box.frozen 7
      have f7a := M1a.out.box.frozen 7
      clear hd
      go_wp2_with fail
      go_end0
      exact ⟨rfl, by rw [HE.out]; exact (M1a.out.store 7 (.bool true) { X with stop := true } rfl rfl rfl rfl).here, B1a.out.trans (M1a.out.stored 7 _)⟩
    · have HE : Hid (stepN X = doN (moveN X op) op arg) := by
        refine Lib.hid ?_
        unfold stepN
        rw [if_neg HN.out, hd]
      obtain ⟨hop, l1, p0, p1, r0, r1, r2⟩ := dec_fit hd
      have l3 := (lenN_bd op).2
      rw [decV_s]
      clear hop r2 hd
      obtain ⟨cy, hcy⟩ : ∃ cy, cy = X.cyc := ⟨_, rfl⟩
      have c0 : 0 ≤ cy := by rw [hcy]; exact HG.out.c0
      have c1 : cy ≤ 2000000000 := by have := HG.out.c1; omega
      obtain ⟨Lq, hL⟩ : ∃ Lq, Lq = lenN op := ⟨_, rfl⟩
      obtain ⟨W, hW⟩ : ∃ W, W = w1.alloc (.cells #[.int .i64 op, .int .i64 arg] 57) := ⟨_, rfl⟩
      have HW : Hid (MachIn W q A c R d B g n k m X fa fr fb L) := by rw [hW]; exact Lib.hid (M1.out.below (below1 w1 _))
      have HB : Hid (Box W w1.heap.size 57 [.int .i64 op, .int .i64 arg]) := by rw [hW]; exact Lib.hid (Box.new w1 _ _)
      have BL : Hid (Below L w W) := by rw [hW]; exact Lib.hid (B1.out.alloc (Nat.le_trans lw hs1) _)
      have e4 : W.cell? ⟨q, 4, none⟩ = some (.int .i64 (T : Int)) := by rw [← HT.out]; exact HW.out.box.cell 4
      have e8 : W.cell? ⟨q, 8, none⟩ = some (.int .i64 cy) := by rw [hcy]; exact HW.out.box.cell 8
      have f4 := HW.out.box.frozen 4
      have f8 := HW.out.box.frozen 8
      have GY := Lib.hid (good_move HG.out op)
      have MY : Hid (MachIn ((W.setCell ⟨q, 4, none⟩ (.int .i64 (((T : Int) + Lq) % 1024))).setCell ⟨q, 8, none⟩ (.int .i64 (cy + Lq))) q A c R d B g n k m (moveN X op) fa fr fb L) := by
        refine Lib.hid ?_
        have m1 := HW.out.store 4 (.int .i64 (((T : Int) + Lq) % 1024)) { X with at_ := ((T : Int) + Lq) % 1024 } rfl rfl rfl rfl
        exact m1.store 8 (.int .i64 (cy + Lq)) (moveN X op) (by rw [hL, hcy]; unfold moveN; rw [HT.out]; rfl) rfl rfl rfl
      have BY : Hid (Below L W ((W.setCell ⟨q, 4, none⟩ (.int .i64 (((T : Int) + Lq) % 1024))).setCell ⟨q, 8, none⟩ (.int .i64 (cy + Lq)))) := ((Below.refl L W).setCell H.out.lo _).setCell H.out.lo _
      have qb : w1.heap.size ≠ q := by have := H.out.box.lt; omega
      have ZY : Hid (Box ((W.setCell ⟨q, 4, none⟩ (.int .i64 (((T : Int) + Lq) % 1024))).setCell ⟨q, 8, none⟩ (.int .i64 (cy + Lq))) w1.heap.size 57 [.int .i64 op, .int .i64 arg]) := (HB.out.far qb _).far qb _
      have htm : ((T : Int) + Lq).tmod 1024 = ((T : Int) + Lq) % 1024 := Int.tmod_eq_emod_of_nonneg (by omega)
      rw [← hL] at l1 l3
      rw [← hL]
      clear hcy
      generalize moveN X op = Y at GY MY HE
      clear hL
      go_upto_region 4 with (fail)
      rw [← hW]
      clear hW
      go_upto_region 6 with (fail)
      obtain ⟨V, hV⟩ : ∃ V, V = (W.setCell ⟨q, 4, none⟩ (.int .i64 (((T : Int) + Lq) % 1024))).setCell ⟨q, 8, none⟩ (.int .i64 (cy + Lq)) := ⟨_, rfl⟩
      rw [← hV] at MY BY ZY
      rw [← hV]
      clear hV e4 e8 f4 f8
      have z0 : V.cell? ⟨w1.heap.size, 0, none⟩ = some (.int .i64 op) := ZY.out.cell 0
      have z1 : V.cell? ⟨w1.heap.size, 1, none⟩ = some (.int .i64 arg) := ZY.out.cell 1
      have BX : Hid (Below L w V) := BL.out.trans BY.out
      clear HW HB BL HG HT HN
      go_wp2_with fail
      refine (sdo_all op arg MY.out GY.out p0 p1 r0 r1).mono ?_
      rintro e w4 ⟨rfl, hh, b4⟩
      have HH := Lib.hid hh
      have B4 := Lib.hid b4
      clear hh b4
      go_wp2_with fail
      go_end0
      exact ⟨rfl, by rw [HE.out]; exact HH.out, BX.out.trans B4.out⟩
end Go.Proofs.YtgciaafapbaliaaGreatDoor
end

section
/- Several steps: the model's functions. -/
namespace Go.Proofs.YtgciaafapbaliaaGreatDoor
open Go.ChangeShapes Go.WideShapes Go.ChangeAt Go.RowKit

set_option maxHeartbeats 1000000 in
theorem spec_run (A : Option Addr) (c : Nat) (R : Option Addr) (d : Nat) (B : Option Addr) (g : Nat) (n k m : Nat) (X : Mach) (s : Int) (fa fr fb : List Nat) (w : World) (h : MHas w A n R k B m X fa fr fb) (f : Fits X 1000000000) :
    Calls Tryz.prog 13 #[.agg #[.slice A n c, .slice R k d, .int .i64 X.mem.bank, .int .i64 X.a, .int .i64 X.at_, .bool X.carry, .slice B m g, .bool X.stop, .int .i64 X.cyc], .int .i64 s] w (MachNew (runX X s) w) := by
  have hn := f.n h
  have hk := f.k h
  have hm := f.m h
  have H := Lib.hid h
  have HF := Lib.hid f
  have X0 : Hid (Box ((w.alloc (.cells #[.slice A n c, .slice R k d, .int .i64 X.mem.bank, .int .i64 X.a, .int .i64 X.at_, .bool X.carry, .slice B m g, .bool X.stop, .int .i64 X.cyc] 31)).alloc (.cells #[.slice none 0 0, .slice none 0 0, .int .i64 0, .int .i64 0, .int .i64 0, .bool false, .slice none 0 0, .bool false, .int .i64 0] 31)) w.heap.size 31 [.slice A n c, .slice R k d, .int .i64 X.mem.bank, .int .i64 X.a, .int .i64 X.at_, .bool X.carry, .slice B m g, .bool X.stop, .int .i64 X.cyc]) := (Box.new w _ _).alloc _
  have X1 : Hid (Box ((w.alloc (.cells #[.slice A n c, .slice R k d, .int .i64 X.mem.bank, .int .i64 X.a, .int .i64 X.at_, .bool X.carry, .slice B m g, .bool X.stop, .int .i64 X.cyc] 31)).alloc (.cells #[.slice none 0 0, .slice none 0 0, .int .i64 0, .int .i64 0, .int .i64 0, .bool false, .slice none 0 0, .bool false, .int .i64 0] 31)) (w.heap.size + 1) 31 [.slice none 0 0, .slice none 0 0, .int .i64 0, .int .i64 0, .int .i64 0, .bool false, .slice none 0 0, .bool false, .int .i64 0]) := Box.new_at (w.alloc _) _ _ _ (by simp)
  have B0 : Hid (Below w.heap.size w ((w.alloc (.cells #[.slice A n c, .slice R k d, .int .i64 X.mem.bank, .int .i64 X.a, .int .i64 X.at_, .bool X.carry, .slice B m g, .bool X.stop, .int .i64 X.cyc] 31)).alloc (.cells #[.slice none 0 0, .slice none 0 0, .int .i64 0, .int .i64 0, .int .i64 0, .bool false, .slice none 0 0, .bool false, .int .i64 0] 31))) := below2 w _ _
  have H0 := Lib.hid (h.below (below2 w (.cells #[.slice A n c, .slice R k d, .int .i64 X.mem.bank, .int .i64 X.a, .int .i64 X.at_, .bool X.carry, .slice B m g, .bool X.stop, .int .i64 X.cyc] 31) (.cells #[.slice none 0 0, .slice none 0 0, .int .i64 0, .int .i64 0, .int .i64 0, .bool false, .slice none 0 0, .bool false, .int .i64 0] 31)))
  clear h f
  go_enter Tryz.func13, Tryz.ntmps13
  go_wp2_with fail
  refine (spec_machValid A c R d B g n k m X fa fr fb _ H0.out HF.out).mono ?_
  rintro e w1 ⟨rfl, b1⟩
  have Y0 := Lib.hid (X0.out.below b1)
  have Y1 := Lib.hid (X1.out.below b1)
  have B1 := Lib.hid (B0.out.trans (b1.mono B0.out.size))
  have H1 := Lib.hid (H0.out.below b1)
  have hz := Y1.out.lt
  clear b1 X0 X1 B0 H0
  have a0 : w1.cell? ⟨w.heap.size, 0, none⟩ = some (.slice A n c) := Y0.out.cell 0
  have a1 : w1.cell? ⟨w.heap.size, 1, none⟩ = some (.slice R k d) := Y0.out.cell 1
  have a2 : w1.cell? ⟨w.heap.size, 2, none⟩ = some (.int .i64 X.mem.bank) := Y0.out.cell 2
  have a3 : w1.cell? ⟨w.heap.size, 3, none⟩ = some (.int .i64 X.a) := Y0.out.cell 3
  have a4 : w1.cell? ⟨w.heap.size, 4, none⟩ = some (.int .i64 X.at_) := Y0.out.cell 4
  have a5 : w1.cell? ⟨w.heap.size, 5, none⟩ = some (.bool X.carry) := Y0.out.cell 5
  have a6 : w1.cell? ⟨w.heap.size, 6, none⟩ = some (.slice B m g) := Y0.out.cell 6
  have a7 : w1.cell? ⟨w.heap.size, 7, none⟩ = some (.bool X.stop) := Y0.out.cell 7
  have a8 : w1.cell? ⟨w.heap.size, 8, none⟩ = some (.int .i64 X.cyc) := Y0.out.cell 8
  have e0 : w1.cell? ⟨w.heap.size + 1, 0, none⟩ = some (.slice none 0 0) := Y1.out.cell 0
  have e1 : w1.cell? ⟨w.heap.size + 1, 1, none⟩ = some (.slice none 0 0) := Y1.out.cell 1
  have e2 : w1.cell? ⟨w.heap.size + 1, 2, none⟩ = some (.int .i64 0) := Y1.out.cell 2
  have e3 : w1.cell? ⟨w.heap.size + 1, 3, none⟩ = some (.int .i64 0) := Y1.out.cell 3
  have e4 : w1.cell? ⟨w.heap.size + 1, 4, none⟩ = some (.int .i64 0) := Y1.out.cell 4
  have e5 : w1.cell? ⟨w.heap.size + 1, 5, none⟩ = some (.bool false) := Y1.out.cell 5
  have e6 : w1.cell? ⟨w.heap.size + 1, 6, none⟩ = some (.slice none 0 0) := Y1.out.cell 6
  have e7 : w1.cell? ⟨w.heap.size + 1, 7, none⟩ = some (.bool false) := Y1.out.cell 7
  have e8 : w1.cell? ⟨w.heap.size + 1, 8, none⟩ = some (.int .i64 0) := Y1.out.cell 8
  have f0 := Y1.out.frozen 0
  have f1 := Y1.out.frozen 1
  have f2 := Y1.out.frozen 2
  have f3 := Y1.out.frozen 3
  have f4 := Y1.out.frozen 4
  have f5 := Y1.out.frozen 5
  have f6 := Y1.out.frozen 6
  have f7 := Y1.out.frozen 7
  have f8 := Y1.out.frozen 8
  rcases hv : machB X with _ | _
  · have HE := Lib.hid (show runX X s = machZ by unfold runX; rw [hv]; simp)
    clear hv
    go_wp2_with fail
    refine bodyPost_ret (v := .agg #[.slice none 0 0, .slice none 0 0, .int .i64 0, .int .i64 0, .int .i64 0, .bool false, .slice none 0 0, .bool false, .int .i64 0]) (by simp [results, Tryz.results13, go_sem, e0, e1, e2, e3, e4, e5, e6, e7, e8]) rfl ?_
    rw [HE.out]
    exact machZ_new (((((((((B1.out.setCell (show w.heap.size ≤ w.heap.size + 1 by omega) _).setCell (show w.heap.size ≤ w.heap.size + 1 by omega) _).setCell (show w.heap.size ≤ w.heap.size + 1 by omega) _).setCell (show w.heap.size ≤ w.heap.size + 1 by omega) _).setCell (show w.heap.size ≤ w.heap.size + 1 by omega) _).setCell (show w.heap.size ≤ w.heap.size + 1 by omega) _).setCell (show w.heap.size ≤ w.heap.size + 1 by omega) _).setCell (show w.heap.size ≤ w.heap.size + 1 by omega) _).setCell (show w.heap.size ≤ w.heap.size + 1 by omega) _)
  · have HV := Lib.hid hv
    clear hv
    go_wp2_with fail
    refine (l1In_any _ _ _ _).mono ?_; rintro e w' ⟨rfl, rfl⟩
    rcases hs : betB s 0 500 with _ | _
    · have HE := Lib.hid (show runX X s = machZ by unfold runX; rw [show stepsB s = false from hs]; simp)
      clear hs
      go_wp2_with fail
      refine bodyPost_ret (v := .agg #[.slice none 0 0, .slice none 0 0, .int .i64 0, .int .i64 0, .int .i64 0, .bool false, .slice none 0 0, .bool false, .int .i64 0]) (by simp [results, Tryz.results13, go_sem, e0, e1, e2, e3, e4, e5, e6, e7, e8]) rfl ?_
      rw [HE.out]
      exact machZ_new (((((((((B1.out.setCell (show w.heap.size ≤ w.heap.size + 1 by omega) _).setCell (show w.heap.size ≤ w.heap.size + 1 by omega) _).setCell (show w.heap.size ≤ w.heap.size + 1 by omega) _).setCell (show w.heap.size ≤ w.heap.size + 1 by omega) _).setCell (show w.heap.size ≤ w.heap.size + 1 by omega) _).setCell (show w.heap.size ≤ w.heap.size + 1 by omega) _).setCell (show w.heap.size ≤ w.heap.size + 1 by omega) _).setCell (show w.heap.size ≤ w.heap.size + 1 by omega) _).setCell (show w.heap.size ≤ w.heap.size + 1 by omega) _)
    · have HE := Lib.hid (show runX X s = runN X s.toNat by unfold runX; rw [show stepsB s = true from hs, HV.out, if_pos ⟨rfl, rfl⟩])
      obtain ⟨s0, s5⟩ : 0 ≤ s ∧ s ≤ 500 := by simpa [betB] using hs
      clear hs
      obtain ⟨S, rfl⟩ := Int.eq_ofNat_of_zero_le s0
      have s5 : S ≤ 500 := by omega
      go_wp2_with fail
      refine (copy_mach A c R d B g n k m X fa fr fb _ H1.out HF.out).mono ?_
      rintro e w2 ⟨A2, n2, c2, R2, k2, d2, B2, m2, g2, fa2, fr2, fb2, rfl, hc, hh, hnw, b2, hown, hsole⟩
      have M2 := Lib.hid (machIn_new hc hh hnw hown hsole b2.size)
      have V1 := Lib.hid (Y1.out.below b2)
      have B2' := Lib.hid ((B1.out.trans (b2.mono B1.out.size)))
      have l1 := b2.size
      clear hc hh hnw b2 hown hsole a0 a1 a2 a3 a4 a5 a6 a7 a8 e0 e1 e2 e3 e4 e5 e6 e7 e8 f0 f1 f2 f3 f4 f5 f6 f7 f8
      go_upto_region 4 with (fail)
      go_wp2_with fail
      go_loopw [6] (fun i wr => ∃ j : Nat, j ≤ S ∧ i = .int .i64 j ∧ MachHere wr w2.heap.size (runN X j) w1.heap.size ∧ Box wr (w.heap.size + 1) 31 [.slice none 0 0, .slice none 0 0, .int .i64 0, .int .i64 0, .int .i64 0, .bool false, .slice none 0 0, .bool false, .int .i64 0] ∧ Below w.heap.size w wr) (fun i _ => S - (intOf i).toNat)
      case atStart => exact ⟨0, by omega, rfl, M2.out.here, V1.out.alloc _, B2'.out.alloc B2'.out.size _⟩
      case round =>
        obtain ⟨j, hj, rfl, ⟨A3, c3, R3, d3, B3, g3, n3, k3, m3, fa3, fr3, fb3, hm3⟩, hb3, hbw⟩ := hrel
        have M3 := Lib.hid hm3
        have Z3 := Lib.hid hb3
        have B3' := Lib.hid hbw
        have GR := Lib.hid (run_good HV.out j (by omega))
        clear hm3 hb3 hbw M2 V1
        by_cases hlt : j < S
        · go_wp2_with fail
          refine (spec_step M3.out GR.out (by omega)).mono ?_
          rintro e w4 ⟨rfl, hh4, b4⟩
          have HH := Lib.hid hh4
          have B4 := Lib.hid b4
          clear hh4 b4
          go_wp2_with fail
          go_roundw
          case rel => exact ⟨j + 1, by omega, by go_num, HH.out, Z3.out.keep B4.out (by omega), B3'.out.trans (B4.out.mono B1.out.size)⟩
          case measure => simp [intOf]; omega
        · obtain rfl : j = S := by omega
          have HE2 := Lib.hid (show runX X (j : Int) = runN X j from HE.out)
          have GF := Lib.hid (fits_mono (fits_good GR.out) (show 256 ≤ 1000000000 by omega))
          obtain ⟨Y, hY⟩ : ∃ Y, Y = runN X j := ⟨_, rfl⟩
          rw [← hY] at M3 HE2 GF
          clear GR hY HE
          have a0 : wr.cell? ⟨w2.heap.size, 0, none⟩ = some (.slice A3 n3 c3) := M3.out.box.cell 0
          have a1 : wr.cell? ⟨w2.heap.size, 1, none⟩ = some (.slice R3 k3 d3) := M3.out.box.cell 1
          have a2 : wr.cell? ⟨w2.heap.size, 2, none⟩ = some (.int .i64 Y.mem.bank) := M3.out.box.cell 2
          have a3 : wr.cell? ⟨w2.heap.size, 3, none⟩ = some (.int .i64 Y.a) := M3.out.box.cell 3
          have a4 : wr.cell? ⟨w2.heap.size, 4, none⟩ = some (.int .i64 Y.at_) := M3.out.box.cell 4
          have a5 : wr.cell? ⟨w2.heap.size, 5, none⟩ = some (.bool Y.carry) := M3.out.box.cell 5
          have a6 : wr.cell? ⟨w2.heap.size, 6, none⟩ = some (.slice B3 m3 g3) := M3.out.box.cell 6
          have a7 : wr.cell? ⟨w2.heap.size, 7, none⟩ = some (.bool Y.stop) := M3.out.box.cell 7
          have a8 : wr.cell? ⟨w2.heap.size, 8, none⟩ = some (.int .i64 Y.cyc) := M3.out.box.cell 8
          go_wp2_with fail
          refine (copy_mach A3 c3 R3 d3 B3 g3 n3 k3 m3 Y fa3 fr3 fb3 _ M3.out.has GF.out).mono ?_
          rintro e w5 ⟨A5, n5, c5, R5, k5, d5, B5, m5, g5, fa5, fr5, fb5, rfl, hc5, hh5, hn5, b5, _⟩
          have Z5 := Lib.hid (Z3.out.below b5)
          have B5' := Lib.hid (B3'.out.trans (b5.mono B3'.out.size))
          have HC5 := Lib.hid hc5
          have HH5 := Lib.hid hh5
          have HN5 := Lib.hid hn5
          have l5 := Z3.out.lt
          have l6 := B3'.out.size
          clear hc5 hh5 hn5 b5 a0 a1 a2 a3 a4 a5 a6 a7 a8
          have e0 : w5.cell? ⟨w.heap.size + 1, 0, none⟩ = some (.slice none 0 0) := Z5.out.cell 0
          have e1 : w5.cell? ⟨w.heap.size + 1, 1, none⟩ = some (.slice none 0 0) := Z5.out.cell 1
          have e2 : w5.cell? ⟨w.heap.size + 1, 2, none⟩ = some (.int .i64 0) := Z5.out.cell 2
          have e3 : w5.cell? ⟨w.heap.size + 1, 3, none⟩ = some (.int .i64 0) := Z5.out.cell 3
          have e4 : w5.cell? ⟨w.heap.size + 1, 4, none⟩ = some (.int .i64 0) := Z5.out.cell 4
          have e5 : w5.cell? ⟨w.heap.size + 1, 5, none⟩ = some (.bool false) := Z5.out.cell 5
          have e6 : w5.cell? ⟨w.heap.size + 1, 6, none⟩ = some (.slice none 0 0) := Z5.out.cell 6
          have e7 : w5.cell? ⟨w.heap.size + 1, 7, none⟩ = some (.bool false) := Z5.out.cell 7
          have e8 : w5.cell? ⟨w.heap.size + 1, 8, none⟩ = some (.int .i64 0) := Z5.out.cell 8
          have f0 := Z5.out.frozen 0
          have f1 := Z5.out.frozen 1
          have f2 := Z5.out.frozen 2
          have f3 := Z5.out.frozen 3
          have f4 := Z5.out.frozen 4
          have f5 := Z5.out.frozen 5
          have f6 := Z5.out.frozen 6
          have f7 := Z5.out.frozen 7
          have f8 := Z5.out.frozen 8
          go_wp2_with fail
          refine bodyPost_ret (v := .agg #[.slice A5 n5 c5, .slice R5 k5 d5, .int .i64 Y.mem.bank, .int .i64 Y.a, .int .i64 Y.at_, .bool Y.carry, .slice B5 m5 g5, .bool Y.stop, .int .i64 Y.cyc]) (by simp [results, Tryz.results13, go_sem, e0, e1, e2, e3, e4, e5, e6, e7, e8]) rfl ?_
          rw [HE2.out]
          refine mach_handed (w := w) (S := [w.heap.size + 1]) (L := wr.heap.size) HC5.out HH5.out HN5.out ?_ (by intro b hb; simp at hb; omega) (by omega) ?_
          · exact ((((((((((Only.refl _ w5).setCell (.inl (by simp)) _).setCell (.inl (by simp)) _).setCell (.inl (by simp)) _).setCell (.inl (by simp)) _).setCell (.inl (by simp)) _).setCell (.inl (by simp)) _).setCell (.inl (by simp)) _).setCell (.inl (by simp)) _).setCell (.inl (by simp)) _)
          · exact (((((((((B5'.out.setCell (show w.heap.size ≤ w.heap.size + 1 by omega) _).setCell (show w.heap.size ≤ w.heap.size + 1 by omega) _).setCell (show w.heap.size ≤ w.heap.size + 1 by omega) _).setCell (show w.heap.size ≤ w.heap.size + 1 by omega) _).setCell (show w.heap.size ≤ w.heap.size + 1 by omega) _).setCell (show w.heap.size ≤ w.heap.size + 1 by omega) _).setCell (show w.heap.size ≤ w.heap.size + 1 by omega) _).setCell (show w.heap.size ≤ w.heap.size + 1 by omega) _).setCell (show w.heap.size ≤ w.heap.size + 1 by omega) _)
set_option maxHeartbeats 1000000 in
theorem spec_stepM (A : Option Addr) (c : Nat) (R : Option Addr) (d : Nat) (B : Option Addr) (g : Nat) (n k m : Nat) (X : Mach) (fa fr fb : List Nat) (w : World) (h : MHas w A n R k B m X fa fr fb) (f : Fits X 1000000000) :
    Calls Tryz.prog 7 #[.agg #[.slice A n c, .slice R k d, .int .i64 X.mem.bank, .int .i64 X.a, .int .i64 X.at_, .bool X.carry, .slice B m g, .bool X.stop, .int .i64 X.cyc]] w (MachNew (runX X 1) w) := by
  have hn := f.n h
  have hk := f.k h
  have hm := f.m h
  have H := Lib.hid h
  have HF := Lib.hid f
  have X0 : Hid (Box ((w.alloc (.cells #[.slice A n c, .slice R k d, .int .i64 X.mem.bank, .int .i64 X.a, .int .i64 X.at_, .bool X.carry, .slice B m g, .bool X.stop, .int .i64 X.cyc] 31)).alloc (.cells #[.slice none 0 0, .slice none 0 0, .int .i64 0, .int .i64 0, .int .i64 0, .bool false, .slice none 0 0, .bool false, .int .i64 0] 31)) w.heap.size 31 [.slice A n c, .slice R k d, .int .i64 X.mem.bank, .int .i64 X.a, .int .i64 X.at_, .bool X.carry, .slice B m g, .bool X.stop, .int .i64 X.cyc]) := (Box.new w _ _).alloc _
  have X1 : Hid (Box ((w.alloc (.cells #[.slice A n c, .slice R k d, .int .i64 X.mem.bank, .int .i64 X.a, .int .i64 X.at_, .bool X.carry, .slice B m g, .bool X.stop, .int .i64 X.cyc] 31)).alloc (.cells #[.slice none 0 0, .slice none 0 0, .int .i64 0, .int .i64 0, .int .i64 0, .bool false, .slice none 0 0, .bool false, .int .i64 0] 31)) (w.heap.size + 1) 31 [.slice none 0 0, .slice none 0 0, .int .i64 0, .int .i64 0, .int .i64 0, .bool false, .slice none 0 0, .bool false, .int .i64 0]) := Box.new_at (w.alloc _) _ _ _ (by simp)
  have B0 : Hid (Below w.heap.size w ((w.alloc (.cells #[.slice A n c, .slice R k d, .int .i64 X.mem.bank, .int .i64 X.a, .int .i64 X.at_, .bool X.carry, .slice B m g, .bool X.stop, .int .i64 X.cyc] 31)).alloc (.cells #[.slice none 0 0, .slice none 0 0, .int .i64 0, .int .i64 0, .int .i64 0, .bool false, .slice none 0 0, .bool false, .int .i64 0] 31))) := below2 w _ _
  have H0 := Lib.hid (h.below (below2 w (.cells #[.slice A n c, .slice R k d, .int .i64 X.mem.bank, .int .i64 X.a, .int .i64 X.at_, .bool X.carry, .slice B m g, .bool X.stop, .int .i64 X.cyc] 31) (.cells #[.slice none 0 0, .slice none 0 0, .int .i64 0, .int .i64 0, .int .i64 0, .bool false, .slice none 0 0, .bool false, .int .i64 0] 31)))
  clear h f
  go_enter Tryz.func7, Tryz.ntmps7
  go_wp2_with fail
  refine (spec_machValid A c R d B g n k m X fa fr fb _ H0.out HF.out).mono ?_
  rintro e w1 ⟨rfl, b1⟩
  have Y0 := Lib.hid (X0.out.below b1)
  have Y1 := Lib.hid (X1.out.below b1)
  have B1 := Lib.hid (B0.out.trans (b1.mono B0.out.size))
  have H1 := Lib.hid (H0.out.below b1)
  have hz := Y1.out.lt
  clear b1 X0 X1 B0 H0
  have a0 : w1.cell? ⟨w.heap.size, 0, none⟩ = some (.slice A n c) := Y0.out.cell 0
  have a1 : w1.cell? ⟨w.heap.size, 1, none⟩ = some (.slice R k d) := Y0.out.cell 1
  have a2 : w1.cell? ⟨w.heap.size, 2, none⟩ = some (.int .i64 X.mem.bank) := Y0.out.cell 2
  have a3 : w1.cell? ⟨w.heap.size, 3, none⟩ = some (.int .i64 X.a) := Y0.out.cell 3
  have a4 : w1.cell? ⟨w.heap.size, 4, none⟩ = some (.int .i64 X.at_) := Y0.out.cell 4
  have a5 : w1.cell? ⟨w.heap.size, 5, none⟩ = some (.bool X.carry) := Y0.out.cell 5
  have a6 : w1.cell? ⟨w.heap.size, 6, none⟩ = some (.slice B m g) := Y0.out.cell 6
  have a7 : w1.cell? ⟨w.heap.size, 7, none⟩ = some (.bool X.stop) := Y0.out.cell 7
  have a8 : w1.cell? ⟨w.heap.size, 8, none⟩ = some (.int .i64 X.cyc) := Y0.out.cell 8
  have e0 : w1.cell? ⟨w.heap.size + 1, 0, none⟩ = some (.slice none 0 0) := Y1.out.cell 0
  have e1 : w1.cell? ⟨w.heap.size + 1, 1, none⟩ = some (.slice none 0 0) := Y1.out.cell 1
  have e2 : w1.cell? ⟨w.heap.size + 1, 2, none⟩ = some (.int .i64 0) := Y1.out.cell 2
  have e3 : w1.cell? ⟨w.heap.size + 1, 3, none⟩ = some (.int .i64 0) := Y1.out.cell 3
  have e4 : w1.cell? ⟨w.heap.size + 1, 4, none⟩ = some (.int .i64 0) := Y1.out.cell 4
  have e5 : w1.cell? ⟨w.heap.size + 1, 5, none⟩ = some (.bool false) := Y1.out.cell 5
  have e6 : w1.cell? ⟨w.heap.size + 1, 6, none⟩ = some (.slice none 0 0) := Y1.out.cell 6
  have e7 : w1.cell? ⟨w.heap.size + 1, 7, none⟩ = some (.bool false) := Y1.out.cell 7
  have e8 : w1.cell? ⟨w.heap.size + 1, 8, none⟩ = some (.int .i64 0) := Y1.out.cell 8
  have f0 := Y1.out.frozen 0
  have f1 := Y1.out.frozen 1
  have f2 := Y1.out.frozen 2
  have f3 := Y1.out.frozen 3
  have f4 := Y1.out.frozen 4
  have f5 := Y1.out.frozen 5
  have f6 := Y1.out.frozen 6
  have f7 := Y1.out.frozen 7
  have f8 := Y1.out.frozen 8
  rcases hv : machB X with _ | _
  · have HE := Lib.hid (show runX X 1 = machZ by unfold runX; rw [hv]; simp)
    clear hv
    go_wp2_with fail
    refine bodyPost_ret (v := .agg #[.slice none 0 0, .slice none 0 0, .int .i64 0, .int .i64 0, .int .i64 0, .bool false, .slice none 0 0, .bool false, .int .i64 0]) (by simp [results, Tryz.results7, go_sem, e0, e1, e2, e3, e4, e5, e6, e7, e8]) rfl ?_
    rw [HE.out]
    exact machZ_new (((((((((B1.out.setCell (show w.heap.size ≤ w.heap.size + 1 by omega) _).setCell (show w.heap.size ≤ w.heap.size + 1 by omega) _).setCell (show w.heap.size ≤ w.heap.size + 1 by omega) _).setCell (show w.heap.size ≤ w.heap.size + 1 by omega) _).setCell (show w.heap.size ≤ w.heap.size + 1 by omega) _).setCell (show w.heap.size ≤ w.heap.size + 1 by omega) _).setCell (show w.heap.size ≤ w.heap.size + 1 by omega) _).setCell (show w.heap.size ≤ w.heap.size + 1 by omega) _).setCell (show w.heap.size ≤ w.heap.size + 1 by omega) _)
  · have HE := Lib.hid (show runX X 1 = stepN X by unfold runX; rw [hv, if_pos ⟨rfl, rfl⟩]; rfl)
    have HG := Lib.hid (goodX_of hv)
    clear hv
    go_wp2_with fail
    refine (copy_mach A c R d B g n k m X fa fr fb _ H1.out HF.out).mono ?_
    rintro e w2 ⟨A2, n2, c2, R2, k2, d2, B2, m2, g2, fa2, fr2, fb2, rfl, hc, hh, hnw, b2, hown, hsole⟩
    have M2 := Lib.hid (machIn_new hc hh hnw hown hsole b2.size)
    have V1 := Lib.hid (Y1.out.below b2)
    have B2' := Lib.hid ((B1.out.trans (b2.mono B1.out.size)))
    have l1 := b2.size
    clear hc hh hnw b2 hown hsole a0 a1 a2 a3 a4 a5 a6 a7 a8 e0 e1 e2 e3 e4 e5 e6 e7 e8 f0 f1 f2 f3 f4 f5 f6 f7 f8
    have V1a := Lib.hid (V1.out.alloc (.cells #[.slice A2 n2 c2, .slice R2 k2 d2, .int .i64 X.mem.bank, .int .i64 X.a, .int .i64 X.at_, .bool X.carry, .slice B2 m2 g2, .bool X.stop, .int .i64 X.cyc] 31))
    have B2a := Lib.hid (B2'.out.alloc B2'.out.size (.cells #[.slice A2 n2 c2, .slice R2 k2 d2, .int .i64 X.mem.bank, .int .i64 X.a, .int .i64 X.at_, .bool X.carry, .slice B2 m2 g2, .bool X.stop, .int .i64 X.cyc] 31))
    go_wp2_with fail
    refine (spec_step M2.out HG.out (by omega)).mono ?_
    rintro e w4 ⟨rfl, hh4, b4⟩
    obtain ⟨A3, c3, R3, d3, B3, g3, n3, k3, m3, fa3, fr3, fb3, hm3⟩ := hh4
    have M3 := Lib.hid hm3
    have Z3 := Lib.hid (V1a.out.keep b4 (by omega))
    have B3' := Lib.hid (B2a.out.trans (b4.mono B1.out.size))
    have GF := Lib.hid (fits_mono (fits_good (good_step HG.out)) (show 256 ≤ 1000000000 by omega))
    clear hm3 b4 M2 V1
    obtain ⟨Y, hY⟩ : ∃ Y, Y = stepN X := ⟨_, rfl⟩
    rw [← hY] at M3 HE GF
    clear hY
    have a0 : w4.cell? ⟨w2.heap.size, 0, none⟩ = some (.slice A3 n3 c3) := M3.out.box.cell 0
    have a1 : w4.cell? ⟨w2.heap.size, 1, none⟩ = some (.slice R3 k3 d3) := M3.out.box.cell 1
    have a2 : w4.cell? ⟨w2.heap.size, 2, none⟩ = some (.int .i64 Y.mem.bank) := M3.out.box.cell 2
    have a3 : w4.cell? ⟨w2.heap.size, 3, none⟩ = some (.int .i64 Y.a) := M3.out.box.cell 3
    have a4 : w4.cell? ⟨w2.heap.size, 4, none⟩ = some (.int .i64 Y.at_) := M3.out.box.cell 4
    have a5 : w4.cell? ⟨w2.heap.size, 5, none⟩ = some (.bool Y.carry) := M3.out.box.cell 5
    have a6 : w4.cell? ⟨w2.heap.size, 6, none⟩ = some (.slice B3 m3 g3) := M3.out.box.cell 6
    have a7 : w4.cell? ⟨w2.heap.size, 7, none⟩ = some (.bool Y.stop) := M3.out.box.cell 7
    have a8 : w4.cell? ⟨w2.heap.size, 8, none⟩ = some (.int .i64 Y.cyc) := M3.out.box.cell 8
    go_wp2_with fail
    refine (copy_mach A3 c3 R3 d3 B3 g3 n3 k3 m3 Y fa3 fr3 fb3 _ M3.out.has GF.out).mono ?_
    rintro e w5 ⟨A5, n5, c5, R5, k5, d5, B5, m5, g5, fa5, fr5, fb5, rfl, hc5, hh5, hn5, b5, _⟩
    have Z5 := Lib.hid (Z3.out.below b5)
    have B5' := Lib.hid (B3'.out.trans (b5.mono B3'.out.size))
    have HC5 := Lib.hid hc5
    have HH5 := Lib.hid hh5
    have HN5 := Lib.hid hn5
    have l5 := Z3.out.lt
    have l6 := B3'.out.size
    clear hc5 hh5 hn5 b5 a0 a1 a2 a3 a4 a5 a6 a7 a8
    have e0 : w5.cell? ⟨w.heap.size + 1, 0, none⟩ = some (.slice none 0 0) := Z5.out.cell 0
    have e1 : w5.cell? ⟨w.heap.size + 1, 1, none⟩ = some (.slice none 0 0) := Z5.out.cell 1
    have e2 : w5.cell? ⟨w.heap.size + 1, 2, none⟩ = some (.int .i64 0) := Z5.out.cell 2
    have e3 : w5.cell? ⟨w.heap.size + 1, 3, none⟩ = some (.int .i64 0) := Z5.out.cell 3
    have e4 : w5.cell? ⟨w.heap.size + 1, 4, none⟩ = some (.int .i64 0) := Z5.out.cell 4
    have e5 : w5.cell? ⟨w.heap.size + 1, 5, none⟩ = some (.bool false) := Z5.out.cell 5
    have e6 : w5.cell? ⟨w.heap.size + 1, 6, none⟩ = some (.slice none 0 0) := Z5.out.cell 6
    have e7 : w5.cell? ⟨w.heap.size + 1, 7, none⟩ = some (.bool false) := Z5.out.cell 7
    have e8 : w5.cell? ⟨w.heap.size + 1, 8, none⟩ = some (.int .i64 0) := Z5.out.cell 8
    have f0 := Z5.out.frozen 0
    have f1 := Z5.out.frozen 1
    have f2 := Z5.out.frozen 2
    have f3 := Z5.out.frozen 3
    have f4 := Z5.out.frozen 4
    have f5 := Z5.out.frozen 5
    have f6 := Z5.out.frozen 6
    have f7 := Z5.out.frozen 7
    have f8 := Z5.out.frozen 8
    go_wp2_with fail
    refine bodyPost_ret (v := .agg #[.slice A5 n5 c5, .slice R5 k5 d5, .int .i64 Y.mem.bank, .int .i64 Y.a, .int .i64 Y.at_, .bool Y.carry, .slice B5 m5 g5, .bool Y.stop, .int .i64 Y.cyc]) (by simp [results, Tryz.results7, go_sem, e0, e1, e2, e3, e4, e5, e6, e7, e8]) rfl ?_
    rw [HE.out]
    refine mach_handed (w := w) (S := [w.heap.size + 1]) (L := w4.heap.size) HC5.out HH5.out HN5.out ?_ (by intro b hb; simp at hb; omega) (by omega) ?_
    · exact ((((((((((Only.refl _ w5).setCell (.inl (by simp)) _).setCell (.inl (by simp)) _).setCell (.inl (by simp)) _).setCell (.inl (by simp)) _).setCell (.inl (by simp)) _).setCell (.inl (by simp)) _).setCell (.inl (by simp)) _).setCell (.inl (by simp)) _).setCell (.inl (by simp)) _)
    · exact (((((((((B5'.out.setCell (show w.heap.size ≤ w.heap.size + 1 by omega) _).setCell (show w.heap.size ≤ w.heap.size + 1 by omega) _).setCell (show w.heap.size ≤ w.heap.size + 1 by omega) _).setCell (show w.heap.size ≤ w.heap.size + 1 by omega) _).setCell (show w.heap.size ≤ w.heap.size + 1 by omega) _).setCell (show w.heap.size ≤ w.heap.size + 1 by omega) _).setCell (show w.heap.size ≤ w.heap.size + 1 by omega) _).setCell (show w.heap.size ≤ w.heap.size + 1 by omega) _).setCell (show w.heap.size ≤ w.heap.size + 1 by omega) _)
end Go.Proofs.YtgciaafapbaliaaGreatDoor
end

section
/- A machine run up to an address: the program's function and the model's. -/
namespace Go.Proofs.YtgciaafapbaliaaGreatDoor
open Go.ChangeShapes Go.WideShapes Go.ChangeAt Go.RowKit

/-- A machine in new memory of its own, and a number. -/
def MachNew2 (X : Mach) (s : Int) (w : World) (e : Ending) (w' : World) : Prop := ∃ v, e = .returned (.tuple #[v, .int .i64 s]) ∧ MachNew X w (.returned v) w'
theorem until_stop (ad : Int) (f j : Nat) (X : Mach) (h : X.stop = true) : untilN ad f j X = (j, X) := by
  cases f with
  | zero => rfl
  | succ f => unfold untilN; rw [if_pos h]
theorem until_at (ad : Int) (f j : Nat) (X : Mach) (h : X.stop = false) (ha : (stepN X).at_ = ad) : untilN ad (f + 1) j X = (j + 1, stepN X) := by
  unfold untilN; rw [if_neg (by rw [h]; decide), if_pos ha]
theorem until_on (ad : Int) (f j : Nat) (X : Mach) (h : X.stop = false) (ha : ¬ (stepN X).at_ = ad) : untilN ad (f + 1) j X = untilN ad f (j + 1) (stepN X) := by
  rw [show untilN ad (f + 1) j X = if X.stop = true then (j, X) else if (stepN X).at_ = ad then (j + 1, stepN X) else untilN ad f (j + 1) (stepN X) from rfl, if_neg (by rw [h]; decide), if_neg ha]
theorem until_fin {X : Mach} {ad : Int} (hA : addrB ad = true) (hV : machB X = true) {U : Nat × Mach} {k : Nat} {Y : Mach} (hU : U = untilN ad 500 0 X) (h : U = (k, Y)) {UX : Mach} {US : Int} (hX : UX = untilX X ad) (hS : US = untilS X ad) : UX = Y ∧ US = (k : Int) := by
  rw [hX, hS]
  unfold untilX untilS
  rw [if_pos ⟨hA, hV⟩, if_pos ⟨hA, hV⟩, ← hU, h]
  exact ⟨rfl, rfl⟩
theorem untilX_fits (X : Mach) (ad : Int) : Fits (untilX X ad) 256 := by
  unfold untilX
  split
  · rename_i h
    have e := until_run ad X 500 0
    have e1 : (untilN ad 500 0 X).2 = runN X (untilN ad 500 0 X).1 := e.1
    have e3 : (untilN ad 500 0 X).1 ≤ 0 + 500 := e.2.1
    have e2 : (untilN ad 500 0 X).1 ≤ 500 := by omega
    rw [e1]
    exact fits_good (run_good h.2 _ e2)
  · exact fits_Z _
theorem untilS_bd (X : Mach) (ad : Int) : 0 ≤ untilS X ad ∧ untilS X ad ≤ 500 := by
  unfold untilS
  split
  · have e3 : (untilN ad 500 0 X).1 ≤ 0 + 500 := (until_run ad X 500 0).2.1
    omega
  · omega
set_option maxHeartbeats 4000000 in
theorem impl_until (A : Option Addr) (c : Nat) (R : Option Addr) (d : Nat) (B : Option Addr) (g : Nat) (n k m : Nat) (X : Mach) (ad : Int) (fa fr fb : List Nat) (w : World) (h : MHas w A n R k B m X fa fr fb) (f : Fits X 1000000000) (ho : Ops w) :
    Calls Tryz.prog 16 #[.agg #[.slice A n c, .slice R k d, .int .i64 X.mem.bank, .int .i64 X.a, .int .i64 X.at_, .bool X.carry, .slice B m g, .bool X.stop, .int .i64 X.cyc], .int .i64 ad] w (MachNew2 (untilX X ad) (untilS X ad) w) := by
  obtain ⟨U, hU⟩ : ∃ U, U = untilN ad 500 0 X := ⟨_, rfl⟩
  obtain ⟨UX, hUX⟩ : ∃ UX, UX = untilX X ad := ⟨_, rfl⟩
  obtain ⟨US, hUS⟩ : ∃ US, US = untilS X ad := ⟨_, rfl⟩
  rw [← hUX, ← hUS]
  have HUU := Lib.hid hU
  have HUX := Lib.hid hUX
  have HUS := Lib.hid hUS
  clear hU hUX hUS
  have hn := f.n h
  have hk := f.k h
  have hm := f.m h
  have H := Lib.hid h
  have HF := Lib.hid f
  have HO := Lib.hid ho
  have X0 : Hid (Box ((w.alloc (.cells #[.slice A n c, .slice R k d, .int .i64 X.mem.bank, .int .i64 X.a, .int .i64 X.at_, .bool X.carry, .slice B m g, .bool X.stop, .int .i64 X.cyc] 31)).alloc (.cells #[.slice none 0 0, .slice none 0 0, .int .i64 0, .int .i64 0, .int .i64 0, .bool false, .slice none 0 0, .bool false, .int .i64 0] 31)) w.heap.size 31 [.slice A n c, .slice R k d, .int .i64 X.mem.bank, .int .i64 X.a, .int .i64 X.at_, .bool X.carry, .slice B m g, .bool X.stop, .int .i64 X.cyc]) := (Box.new w _ _).alloc _
  have X1 : Hid (Box ((w.alloc (.cells #[.slice A n c, .slice R k d, .int .i64 X.mem.bank, .int .i64 X.a, .int .i64 X.at_, .bool X.carry, .slice B m g, .bool X.stop, .int .i64 X.cyc] 31)).alloc (.cells #[.slice none 0 0, .slice none 0 0, .int .i64 0, .int .i64 0, .int .i64 0, .bool false, .slice none 0 0, .bool false, .int .i64 0] 31)) (w.heap.size + 1) 31 [.slice none 0 0, .slice none 0 0, .int .i64 0, .int .i64 0, .int .i64 0, .bool false, .slice none 0 0, .bool false, .int .i64 0]) := Box.new_at (w.alloc _) _ _ _ (by simp)
  have B0 : Hid (Below w.heap.size w ((w.alloc (.cells #[.slice A n c, .slice R k d, .int .i64 X.mem.bank, .int .i64 X.a, .int .i64 X.at_, .bool X.carry, .slice B m g, .bool X.stop, .int .i64 X.cyc] 31)).alloc (.cells #[.slice none 0 0, .slice none 0 0, .int .i64 0, .int .i64 0, .int .i64 0, .bool false, .slice none 0 0, .bool false, .int .i64 0] 31))) := below2 w _ _
  have H0 := Lib.hid (h.below (below2 w (.cells #[.slice A n c, .slice R k d, .int .i64 X.mem.bank, .int .i64 X.a, .int .i64 X.at_, .bool X.carry, .slice B m g, .bool X.stop, .int .i64 X.cyc] 31) (.cells #[.slice none 0 0, .slice none 0 0, .int .i64 0, .int .i64 0, .int .i64 0, .bool false, .slice none 0 0, .bool false, .int .i64 0] 31)))
  clear h f ho
  go_enter Tryz.func16, Tryz.ntmps16
  go_wp2_with fail
  refine (isAddress_any _ _).mono ?_; rintro e w' ⟨rfl, rfl⟩
  rcases ha : addrB ad with _ | _
  · have HE := Lib.hid (show UX = machZ by rw [HUX.out]; unfold untilX; rw [ha]; simp)
    have HE2 := Lib.hid (show US = 0 by rw [HUS.out]; unfold untilS; rw [ha]; simp)
    clear ha
    go_wp2_with fail
    refine bodyPost_ret (v := .tuple #[.agg #[.slice none 0 0, .slice none 0 0, .int .i64 0, .int .i64 0, .int .i64 0, .bool false, .slice none 0 0, .bool false, .int .i64 0], .int .i64 0]) (by simp [results, Tryz.results16, go_sem]) rfl ?_
    refine ⟨_, by rw [HE2.out], ?_⟩
    rw [HE.out]
    exact machZ_new B0.out
  have HA := Lib.hid ha
  clear ha
  go_wp2_with fail
  refine (impl_machValid A c R d B g n k m X fa fr fb _ H0.out HF.out).mono ?_
  rintro e w1 ⟨rfl, b1⟩
  have Y0 := Lib.hid (X0.out.below b1)
  have Y1 := Lib.hid (X1.out.below b1)
  have B1 := Lib.hid (B0.out.trans (b1.mono B0.out.size))
  have H1 := Lib.hid (H0.out.below b1)
  have hz := Y1.out.lt
  clear b1 X0 X1 B0 H0
  have a0 : w1.cell? ⟨w.heap.size, 0, none⟩ = some (.slice A n c) := Y0.out.cell 0
  have a1 : w1.cell? ⟨w.heap.size, 1, none⟩ = some (.slice R k d) := Y0.out.cell 1
  have a2 : w1.cell? ⟨w.heap.size, 2, none⟩ = some (.int .i64 X.mem.bank) := Y0.out.cell 2
  have a3 : w1.cell? ⟨w.heap.size, 3, none⟩ = some (.int .i64 X.a) := Y0.out.cell 3
  have a4 : w1.cell? ⟨w.heap.size, 4, none⟩ = some (.int .i64 X.at_) := Y0.out.cell 4
  have a5 : w1.cell? ⟨w.heap.size, 5, none⟩ = some (.bool X.carry) := Y0.out.cell 5
  have a6 : w1.cell? ⟨w.heap.size, 6, none⟩ = some (.slice B m g) := Y0.out.cell 6
  have a7 : w1.cell? ⟨w.heap.size, 7, none⟩ = some (.bool X.stop) := Y0.out.cell 7
  have a8 : w1.cell? ⟨w.heap.size, 8, none⟩ = some (.int .i64 X.cyc) := Y0.out.cell 8
  have e0 : w1.cell? ⟨w.heap.size + 1, 0, none⟩ = some (.slice none 0 0) := Y1.out.cell 0
  have e1 : w1.cell? ⟨w.heap.size + 1, 1, none⟩ = some (.slice none 0 0) := Y1.out.cell 1
  have e2 : w1.cell? ⟨w.heap.size + 1, 2, none⟩ = some (.int .i64 0) := Y1.out.cell 2
  have e3 : w1.cell? ⟨w.heap.size + 1, 3, none⟩ = some (.int .i64 0) := Y1.out.cell 3
  have e4 : w1.cell? ⟨w.heap.size + 1, 4, none⟩ = some (.int .i64 0) := Y1.out.cell 4
  have e5 : w1.cell? ⟨w.heap.size + 1, 5, none⟩ = some (.bool false) := Y1.out.cell 5
  have e6 : w1.cell? ⟨w.heap.size + 1, 6, none⟩ = some (.slice none 0 0) := Y1.out.cell 6
  have e7 : w1.cell? ⟨w.heap.size + 1, 7, none⟩ = some (.bool false) := Y1.out.cell 7
  have e8 : w1.cell? ⟨w.heap.size + 1, 8, none⟩ = some (.int .i64 0) := Y1.out.cell 8
  have f0 := Y1.out.frozen 0
  have f1 := Y1.out.frozen 1
  have f2 := Y1.out.frozen 2
  have f3 := Y1.out.frozen 3
  have f4 := Y1.out.frozen 4
  have f5 := Y1.out.frozen 5
  have f6 := Y1.out.frozen 6
  have f7 := Y1.out.frozen 7
  have f8 := Y1.out.frozen 8
  rcases hv : machB X with _ | _
  · have HE := Lib.hid (show UX = machZ by rw [HUX.out]; unfold untilX; rw [hv]; simp)
    have HE2 := Lib.hid (show US = 0 by rw [HUS.out]; unfold untilS; rw [hv]; simp)
    clear hv
    go_wp2_with fail
    refine bodyPost_ret (v := .tuple #[.agg #[.slice none 0 0, .slice none 0 0, .int .i64 0, .int .i64 0, .int .i64 0, .bool false, .slice none 0 0, .bool false, .int .i64 0], .int .i64 0]) (by simp [results, Tryz.results16, go_sem, e0, e1, e2, e3, e4, e5, e6, e7, e8]) rfl ?_
    refine ⟨_, by rw [HE2.out], ?_⟩
    rw [HE.out]
    exact machZ_new (((((((((B1.out.setCell (show w.heap.size ≤ w.heap.size + 1 by omega) _).setCell (show w.heap.size ≤ w.heap.size + 1 by omega) _).setCell (show w.heap.size ≤ w.heap.size + 1 by omega) _).setCell (show w.heap.size ≤ w.heap.size + 1 by omega) _).setCell (show w.heap.size ≤ w.heap.size + 1 by omega) _).setCell (show w.heap.size ≤ w.heap.size + 1 by omega) _).setCell (show w.heap.size ≤ w.heap.size + 1 by omega) _).setCell (show w.heap.size ≤ w.heap.size + 1 by omega) _).setCell (show w.heap.size ≤ w.heap.size + 1 by omega) _)
  have HV := Lib.hid hv
  clear hv
  go_wp2_with fail
  refine (clone_mach A c R d B g n k m X fa fr fb _ H1.out HF.out).mono ?_
  rintro e w2 ⟨A2, n2, c2, R2, k2, d2, B2, m2, g2, fa2, fr2, fb2, rfl, hc, hh, hnw, b2, hown, hsole⟩
  have M2 := Lib.hid (machIn_new hc hh hnw hown hsole b2.size)
  have V1 := Lib.hid (Y1.out.below b2)
  have B2' := Lib.hid ((B1.out.trans (b2.mono B1.out.size)))
  have l1 := b2.size
  clear hc hh hnw b2 hown hsole a0 a1 a2 a3 a4 a5 a6 a7 a8 e0 e1 e2 e3 e4 e5 e6 e7 e8 f0 f1 f2 f3 f4 f5 f6 f7 f8
  go_upto_region 4 with (fail)
  go_wp2_with fail
  go_loopw [7] (fun i wr => ∃ j : Nat, j ≤ 500 ∧ i = .int .i64 j ∧ MachHere wr w2.heap.size (runN X j) w1.heap.size ∧ Box wr (w.heap.size + 1) 31 [.slice none 0 0, .slice none 0 0, .int .i64 0, .int .i64 0, .int .i64 0, .bool false, .slice none 0 0, .bool false, .int .i64 0] ∧ Below w.heap.size w wr ∧ untilN ad (500 - j) j (runN X j) = U) (fun i _ => 500 - (intOf i).toNat)
  case atStart => exact ⟨0, by omega, rfl, M2.out.here, V1.out.alloc _, B2'.out.alloc B2'.out.size _, HUU.out.symm⟩
  case round =>
    obtain ⟨j, hj, rfl, ⟨A3, c3, R3, d3, B3, g3, n3, k3, m3, fa3, fr3, fb3, hm3⟩, hb3, hbw, hun⟩ := hrel
    have M3 := Lib.hid hm3
    have Z3 := Lib.hid hb3
    have B3' := Lib.hid hbw
    have HU := Lib.hid hun
    have GR := Lib.hid (run_good HV.out j (by omega))
    have OR := Lib.hid (HO.out.below hbw)
    have e7 : wr.cell? ⟨w2.heap.size, 7, none⟩ = some (.bool (runN X j).stop) := hm3.box.cell 7
    clear hm3 hb3 hbw hun M2 V1
    rcases hs : (runN X j).stop with _ | _
    · rw [hs] at e7
      have HS := Lib.hid hs
      clear hs
      by_cases hlt : j < 500
      · have HL := Lib.hid hlt
        have h5 : (j : Int) < 500 := by omega
        have hd5 : decide ((j : Int) < 500) = true := by simpa using h5
        go_wp2_with fail
        refine (impl_step M3.out GR.out (by omega) OR.out).mono ?_
        rintro e w4 ⟨rfl, hh4, b4⟩
        obtain ⟨A3, c3, R3, d3, B3, g3, n3, k3, m3, fa3, fr3, fb3, hm4⟩ := hh4
        have M3 := Lib.hid (show MachIn w4 w2.heap.size A3 c3 R3 d3 B3 g3 n3 k3 m3 (runN X (j + 1)) fa3 fr3 fb3 w1.heap.size from hm4)
        have Z3 := Lib.hid (Z3.out.keep b4 (by omega))
        have B3' := Lib.hid (B3'.out.trans (b4.mono B1.out.size))
        have GZ := Lib.hid (run_good HV.out (j + 1) (by omega))
        obtain ⟨t, ht⟩ : ∃ t, t = (runN X (j + 1)).at_ := ⟨_, rfl⟩
        have HT := Lib.hid ht
        have t4 : w4.cell? ⟨w2.heap.size, 4, none⟩ = some (.int .i64 t) := by rw [ht]; exact M3.out.box.cell 4
        clear hm4 b4 e7 GR ht
        by_cases hat : t = ad
        · have hq : (t == ad) = true := by simp [hat]
          have HU2 := Lib.hid (show U = (j + 1, runN X (j + 1)) by
            rw [← HU.out, show 500 - j = (500 - (j + 1)) + 1 by omega]
            exact until_at ad _ j _ HS.out (by rw [← hat]; exact HT.out.symm))
          clear hat
          go_upto_region 9 with (fail)
          clear t4
          have HQ := Lib.hid (show U = (j + 1, runN X (j + 1)) from HU2.out)
          have HE1 := Lib.hid (show UX = runN X (j + 1) from (until_fin HA.out HV.out HUU.out HQ.out HUX.out HUS.out).1)
          have HE2 := Lib.hid (show US = ((j + 1 : Nat) : Int) from (until_fin HA.out HV.out HUU.out HQ.out HUX.out HUS.out).2)
          have GF := Lib.hid (fits_mono (show Fits (runN X (j + 1)) 256 from fits_good GZ.out) (show 256 ≤ 1000000000 by omega))
          obtain ⟨Y, hY⟩ : ∃ Y, Y = runN X (j + 1) := ⟨_, rfl⟩
          rw [← hY] at M3 HE1 GF
          have hl3 := Z3.out.lt
          clear hY HQ GZ
          have a0 : w4.cell? ⟨w2.heap.size, 0, none⟩ = some (.slice A3 n3 c3) := M3.out.box.cell 0
          have a1 : w4.cell? ⟨w2.heap.size, 1, none⟩ = some (.slice R3 k3 d3) := M3.out.box.cell 1
          have a2 : w4.cell? ⟨w2.heap.size, 2, none⟩ = some (.int .i64 Y.mem.bank) := M3.out.box.cell 2
          have a3 : w4.cell? ⟨w2.heap.size, 3, none⟩ = some (.int .i64 Y.a) := M3.out.box.cell 3
          have a4 : w4.cell? ⟨w2.heap.size, 4, none⟩ = some (.int .i64 Y.at_) := M3.out.box.cell 4
          have a5 : w4.cell? ⟨w2.heap.size, 5, none⟩ = some (.bool Y.carry) := M3.out.box.cell 5
          have a6 : w4.cell? ⟨w2.heap.size, 6, none⟩ = some (.slice B3 m3 g3) := M3.out.box.cell 6
          have a7 : w4.cell? ⟨w2.heap.size, 7, none⟩ = some (.bool Y.stop) := M3.out.box.cell 7
          have a8 : w4.cell? ⟨w2.heap.size, 8, none⟩ = some (.int .i64 Y.cyc) := M3.out.box.cell 8
          have e0 : w4.cell? ⟨w.heap.size + 1, 0, none⟩ = some (.slice none 0 0) := Z3.out.cell 0
          have e1 : w4.cell? ⟨w.heap.size + 1, 1, none⟩ = some (.slice none 0 0) := Z3.out.cell 1
          have e2 : w4.cell? ⟨w.heap.size + 1, 2, none⟩ = some (.int .i64 0) := Z3.out.cell 2
          have e3 : w4.cell? ⟨w.heap.size + 1, 3, none⟩ = some (.int .i64 0) := Z3.out.cell 3
          have e4 : w4.cell? ⟨w.heap.size + 1, 4, none⟩ = some (.int .i64 0) := Z3.out.cell 4
          have e5 : w4.cell? ⟨w.heap.size + 1, 5, none⟩ = some (.bool false) := Z3.out.cell 5
          have e6 : w4.cell? ⟨w.heap.size + 1, 6, none⟩ = some (.slice none 0 0) := Z3.out.cell 6
          have e7 : w4.cell? ⟨w.heap.size + 1, 7, none⟩ = some (.bool false) := Z3.out.cell 7
          have e8 : w4.cell? ⟨w.heap.size + 1, 8, none⟩ = some (.int .i64 0) := Z3.out.cell 8
          have f0 := Z3.out.frozen 0
          have f1 := Z3.out.frozen 1
          have f2 := Z3.out.frozen 2
          have f3 := Z3.out.frozen 3
          have f4 := Z3.out.frozen 4
          have f5 := Z3.out.frozen 5
          have f6 := Z3.out.frozen 6
          have f7 := Z3.out.frozen 7
          have f8 := Z3.out.frozen 8
          go_wp2_with fail
          refine bodyPost_ret (v := .tuple #[.agg #[.slice A3 n3 c3, .slice R3 k3 d3, .int .i64 Y.mem.bank, .int .i64 Y.a, .int .i64 Y.at_, .bool Y.carry, .slice B3 m3 g3, .bool Y.stop, .int .i64 Y.cyc], .int .i64 ((j + 1 : Nat) : Int)]) (by simp [results, Tryz.results16, go_sem, e0, e1, e2, e3, e4, e5, e6, e7, e8]) rfl ?_
          refine ⟨_, by rw [HE2.out], ?_⟩
          rw [HE1.out]
          refine mach_handed (w := w) (S := [w.heap.size + 1]) M3.out.cap M3.out.has M3.out.new ?_ (by intro b hb; simp at hb; omega) B1.out.size ?_
          · exact ((((((((((Only.refl _ w4).setCell (.inl (by simp)) _).setCell (.inl (by simp)) _).setCell (.inl (by simp)) _).setCell (.inl (by simp)) _).setCell (.inl (by simp)) _).setCell (.inl (by simp)) _).setCell (.inl (by simp)) _).setCell (.inl (by simp)) _).setCell (.inl (by simp)) _)
          · exact (((((((((B3'.out.setCell (show w.heap.size ≤ w.heap.size + 1 by omega) _).setCell (show w.heap.size ≤ w.heap.size + 1 by omega) _).setCell (show w.heap.size ≤ w.heap.size + 1 by omega) _).setCell (show w.heap.size ≤ w.heap.size + 1 by omega) _).setCell (show w.heap.size ≤ w.heap.size + 1 by omega) _).setCell (show w.heap.size ≤ w.heap.size + 1 by omega) _).setCell (show w.heap.size ≤ w.heap.size + 1 by omega) _).setCell (show w.heap.size ≤ w.heap.size + 1 by omega) _).setCell (show w.heap.size ≤ w.heap.size + 1 by omega) _)
        · have hq : (t == ad) = false := by simp [hat]
          have HU2 := Lib.hid (show untilN ad (500 - (j + 1)) (j + 1) (runN X (j + 1)) = U by
            rw [← HU.out, show 500 - j = (500 - (j + 1)) + 1 by omega]
            exact (until_on ad _ j _ HS.out (by rw [show (stepN (runN X j)).at_ = t from HT.out.symm]; exact hat)).symm)
          clear hat
          go_wp2_with fail
          go_roundw
          case rel => exact ⟨j + 1, by omega, by go_num, M3.out.here, Z3.out, B3'.out, HU2.out⟩
          case measure => simp [intOf]; omega
      · have HU2 := Lib.hid (show U = (j, runN X j) by rw [← HU.out, show 500 - j = 0 by omega]; rfl)
        have h5 : ¬ (j : Int) < 500 := by omega
        have hd5 : decide ((j : Int) < 500) = false := by simpa using h5
        have GZ := GR
        clear hlt GR
        go_upto_region 9 with (fail)
        clear e7
        have HQ := Lib.hid (show U = (j, runN X j) from HU2.out)
        have HE1 := Lib.hid (show UX = runN X j from (until_fin HA.out HV.out HUU.out HQ.out HUX.out HUS.out).1)
        have HE2 := Lib.hid (show US = ((j : Nat) : Int) from (until_fin HA.out HV.out HUU.out HQ.out HUX.out HUS.out).2)
        have GF := Lib.hid (fits_mono (show Fits (runN X j) 256 from fits_good GZ.out) (show 256 ≤ 1000000000 by omega))
        obtain ⟨Y, hY⟩ : ∃ Y, Y = runN X j := ⟨_, rfl⟩
        rw [← hY] at M3 HE1 GF
        have hl3 := Z3.out.lt
        clear hY HQ GZ
        have a0 : wr.cell? ⟨w2.heap.size, 0, none⟩ = some (.slice A3 n3 c3) := M3.out.box.cell 0
        have a1 : wr.cell? ⟨w2.heap.size, 1, none⟩ = some (.slice R3 k3 d3) := M3.out.box.cell 1
        have a2 : wr.cell? ⟨w2.heap.size, 2, none⟩ = some (.int .i64 Y.mem.bank) := M3.out.box.cell 2
        have a3 : wr.cell? ⟨w2.heap.size, 3, none⟩ = some (.int .i64 Y.a) := M3.out.box.cell 3
        have a4 : wr.cell? ⟨w2.heap.size, 4, none⟩ = some (.int .i64 Y.at_) := M3.out.box.cell 4
        have a5 : wr.cell? ⟨w2.heap.size, 5, none⟩ = some (.bool Y.carry) := M3.out.box.cell 5
        have a6 : wr.cell? ⟨w2.heap.size, 6, none⟩ = some (.slice B3 m3 g3) := M3.out.box.cell 6
        have a7 : wr.cell? ⟨w2.heap.size, 7, none⟩ = some (.bool Y.stop) := M3.out.box.cell 7
        have a8 : wr.cell? ⟨w2.heap.size, 8, none⟩ = some (.int .i64 Y.cyc) := M3.out.box.cell 8
        have e0 : wr.cell? ⟨w.heap.size + 1, 0, none⟩ = some (.slice none 0 0) := Z3.out.cell 0
        have e1 : wr.cell? ⟨w.heap.size + 1, 1, none⟩ = some (.slice none 0 0) := Z3.out.cell 1
        have e2 : wr.cell? ⟨w.heap.size + 1, 2, none⟩ = some (.int .i64 0) := Z3.out.cell 2
        have e3 : wr.cell? ⟨w.heap.size + 1, 3, none⟩ = some (.int .i64 0) := Z3.out.cell 3
        have e4 : wr.cell? ⟨w.heap.size + 1, 4, none⟩ = some (.int .i64 0) := Z3.out.cell 4
        have e5 : wr.cell? ⟨w.heap.size + 1, 5, none⟩ = some (.bool false) := Z3.out.cell 5
        have e6 : wr.cell? ⟨w.heap.size + 1, 6, none⟩ = some (.slice none 0 0) := Z3.out.cell 6
        have e7 : wr.cell? ⟨w.heap.size + 1, 7, none⟩ = some (.bool false) := Z3.out.cell 7
        have e8 : wr.cell? ⟨w.heap.size + 1, 8, none⟩ = some (.int .i64 0) := Z3.out.cell 8
        have f0 := Z3.out.frozen 0
        have f1 := Z3.out.frozen 1
        have f2 := Z3.out.frozen 2
        have f3 := Z3.out.frozen 3
        have f4 := Z3.out.frozen 4
        have f5 := Z3.out.frozen 5
        have f6 := Z3.out.frozen 6
        have f7 := Z3.out.frozen 7
        have f8 := Z3.out.frozen 8
        go_wp2_with fail
        refine bodyPost_ret (v := .tuple #[.agg #[.slice A3 n3 c3, .slice R3 k3 d3, .int .i64 Y.mem.bank, .int .i64 Y.a, .int .i64 Y.at_, .bool Y.carry, .slice B3 m3 g3, .bool Y.stop, .int .i64 Y.cyc], .int .i64 ((j : Nat) : Int)]) (by simp [results, Tryz.results16, go_sem, e0, e1, e2, e3, e4, e5, e6, e7, e8]) rfl ?_
        refine ⟨_, by rw [HE2.out], ?_⟩
        rw [HE1.out]
        refine mach_handed (w := w) (S := [w.heap.size + 1]) M3.out.cap M3.out.has M3.out.new ?_ (by intro b hb; simp at hb; omega) B1.out.size ?_
        · exact ((((((((((Only.refl _ wr).setCell (.inl (by simp)) _).setCell (.inl (by simp)) _).setCell (.inl (by simp)) _).setCell (.inl (by simp)) _).setCell (.inl (by simp)) _).setCell (.inl (by simp)) _).setCell (.inl (by simp)) _).setCell (.inl (by simp)) _).setCell (.inl (by simp)) _)
        · exact (((((((((B3'.out.setCell (show w.heap.size ≤ w.heap.size + 1 by omega) _).setCell (show w.heap.size ≤ w.heap.size + 1 by omega) _).setCell (show w.heap.size ≤ w.heap.size + 1 by omega) _).setCell (show w.heap.size ≤ w.heap.size + 1 by omega) _).setCell (show w.heap.size ≤ w.heap.size + 1 by omega) _).setCell (show w.heap.size ≤ w.heap.size + 1 by omega) _).setCell (show w.heap.size ≤ w.heap.size + 1 by omega) _).setCell (show w.heap.size ≤ w.heap.size + 1 by omega) _).setCell (show w.heap.size ≤ w.heap.size + 1 by omega) _)
    · rw [hs] at e7
      have HU2 := Lib.hid (show U = (j, runN X j) by rw [← HU.out]; exact until_stop ad _ j _ hs)
      have GZ := GR
      clear hs GR
      go_upto_region 9 with (fail)
      clear e7
      have HQ := Lib.hid (show U = (j, runN X j) from HU2.out)
      have HE1 := Lib.hid (show UX = runN X j from (until_fin HA.out HV.out HUU.out HQ.out HUX.out HUS.out).1)
      have HE2 := Lib.hid (show US = ((j : Nat) : Int) from (until_fin HA.out HV.out HUU.out HQ.out HUX.out HUS.out).2)
      have GF := Lib.hid (fits_mono (show Fits (runN X j) 256 from fits_good GZ.out) (show 256 ≤ 1000000000 by omega))
      obtain ⟨Y, hY⟩ : ∃ Y, Y = runN X j := ⟨_, rfl⟩
      rw [← hY] at M3 HE1 GF
      have hl3 := Z3.out.lt
      clear hY HQ GZ
      have a0 : wr.cell? ⟨w2.heap.size, 0, none⟩ = some (.slice A3 n3 c3) := M3.out.box.cell 0
      have a1 : wr.cell? ⟨w2.heap.size, 1, none⟩ = some (.slice R3 k3 d3) := M3.out.box.cell 1
      have a2 : wr.cell? ⟨w2.heap.size, 2, none⟩ = some (.int .i64 Y.mem.bank) := M3.out.box.cell 2
      have a3 : wr.cell? ⟨w2.heap.size, 3, none⟩ = some (.int .i64 Y.a) := M3.out.box.cell 3
      have a4 : wr.cell? ⟨w2.heap.size, 4, none⟩ = some (.int .i64 Y.at_) := M3.out.box.cell 4
      have a5 : wr.cell? ⟨w2.heap.size, 5, none⟩ = some (.bool Y.carry) := M3.out.box.cell 5
      have a6 : wr.cell? ⟨w2.heap.size, 6, none⟩ = some (.slice B3 m3 g3) := M3.out.box.cell 6
      have a7 : wr.cell? ⟨w2.heap.size, 7, none⟩ = some (.bool Y.stop) := M3.out.box.cell 7
      have a8 : wr.cell? ⟨w2.heap.size, 8, none⟩ = some (.int .i64 Y.cyc) := M3.out.box.cell 8
      have e0 : wr.cell? ⟨w.heap.size + 1, 0, none⟩ = some (.slice none 0 0) := Z3.out.cell 0
      have e1 : wr.cell? ⟨w.heap.size + 1, 1, none⟩ = some (.slice none 0 0) := Z3.out.cell 1
      have e2 : wr.cell? ⟨w.heap.size + 1, 2, none⟩ = some (.int .i64 0) := Z3.out.cell 2
      have e3 : wr.cell? ⟨w.heap.size + 1, 3, none⟩ = some (.int .i64 0) := Z3.out.cell 3
      have e4 : wr.cell? ⟨w.heap.size + 1, 4, none⟩ = some (.int .i64 0) := Z3.out.cell 4
      have e5 : wr.cell? ⟨w.heap.size + 1, 5, none⟩ = some (.bool false) := Z3.out.cell 5
      have e6 : wr.cell? ⟨w.heap.size + 1, 6, none⟩ = some (.slice none 0 0) := Z3.out.cell 6
      have e7 : wr.cell? ⟨w.heap.size + 1, 7, none⟩ = some (.bool false) := Z3.out.cell 7
      have e8 : wr.cell? ⟨w.heap.size + 1, 8, none⟩ = some (.int .i64 0) := Z3.out.cell 8
      have f0 := Z3.out.frozen 0
      have f1 := Z3.out.frozen 1
      have f2 := Z3.out.frozen 2
      have f3 := Z3.out.frozen 3
      have f4 := Z3.out.frozen 4
      have f5 := Z3.out.frozen 5
      have f6 := Z3.out.frozen 6
      have f7 := Z3.out.frozen 7
      have f8 := Z3.out.frozen 8
      go_wp2_with fail
      refine bodyPost_ret (v := .tuple #[.agg #[.slice A3 n3 c3, .slice R3 k3 d3, .int .i64 Y.mem.bank, .int .i64 Y.a, .int .i64 Y.at_, .bool Y.carry, .slice B3 m3 g3, .bool Y.stop, .int .i64 Y.cyc], .int .i64 ((j : Nat) : Int)]) (by simp [results, Tryz.results16, go_sem, e0, e1, e2, e3, e4, e5, e6, e7, e8]) rfl ?_
      refine ⟨_, by rw [HE2.out], ?_⟩
      rw [HE1.out]
      refine mach_handed (w := w) (S := [w.heap.size + 1]) M3.out.cap M3.out.has M3.out.new ?_ (by intro b hb; simp at hb; omega) B1.out.size ?_
      · exact ((((((((((Only.refl _ wr).setCell (.inl (by simp)) _).setCell (.inl (by simp)) _).setCell (.inl (by simp)) _).setCell (.inl (by simp)) _).setCell (.inl (by simp)) _).setCell (.inl (by simp)) _).setCell (.inl (by simp)) _).setCell (.inl (by simp)) _).setCell (.inl (by simp)) _)
      · exact (((((((((B3'.out.setCell (show w.heap.size ≤ w.heap.size + 1 by omega) _).setCell (show w.heap.size ≤ w.heap.size + 1 by omega) _).setCell (show w.heap.size ≤ w.heap.size + 1 by omega) _).setCell (show w.heap.size ≤ w.heap.size + 1 by omega) _).setCell (show w.heap.size ≤ w.heap.size + 1 by omega) _).setCell (show w.heap.size ≤ w.heap.size + 1 by omega) _).setCell (show w.heap.size ≤ w.heap.size + 1 by omega) _).setCell (show w.heap.size ≤ w.heap.size + 1 by omega) _).setCell (show w.heap.size ≤ w.heap.size + 1 by omega) _)
set_option maxHeartbeats 4000000 in
theorem spec_until (A : Option Addr) (c : Nat) (R : Option Addr) (d : Nat) (B : Option Addr) (g : Nat) (n k m : Nat) (X : Mach) (ad : Int) (fa fr fb : List Nat) (w : World) (h : MHas w A n R k B m X fa fr fb) (f : Fits X 1000000000) :
    Calls Tryz.prog 15 #[.agg #[.slice A n c, .slice R k d, .int .i64 X.mem.bank, .int .i64 X.a, .int .i64 X.at_, .bool X.carry, .slice B m g, .bool X.stop, .int .i64 X.cyc], .int .i64 ad] w (MachNew2 (untilX X ad) (untilS X ad) w) := by
  obtain ⟨U, hU⟩ : ∃ U, U = untilN ad 500 0 X := ⟨_, rfl⟩
  obtain ⟨UX, hUX⟩ : ∃ UX, UX = untilX X ad := ⟨_, rfl⟩
  obtain ⟨US, hUS⟩ : ∃ US, US = untilS X ad := ⟨_, rfl⟩
  rw [← hUX, ← hUS]
  have HUU := Lib.hid hU
  have HUX := Lib.hid hUX
  have HUS := Lib.hid hUS
  clear hU hUX hUS
  have hn := f.n h
  have hk := f.k h
  have hm := f.m h
  have H := Lib.hid h
  have HF := Lib.hid f
  have X0 : Hid (Box ((w.alloc (.cells #[.slice A n c, .slice R k d, .int .i64 X.mem.bank, .int .i64 X.a, .int .i64 X.at_, .bool X.carry, .slice B m g, .bool X.stop, .int .i64 X.cyc] 31)).alloc (.cells #[.slice none 0 0, .slice none 0 0, .int .i64 0, .int .i64 0, .int .i64 0, .bool false, .slice none 0 0, .bool false, .int .i64 0] 31)) w.heap.size 31 [.slice A n c, .slice R k d, .int .i64 X.mem.bank, .int .i64 X.a, .int .i64 X.at_, .bool X.carry, .slice B m g, .bool X.stop, .int .i64 X.cyc]) := (Box.new w _ _).alloc _
  have X1 : Hid (Box ((w.alloc (.cells #[.slice A n c, .slice R k d, .int .i64 X.mem.bank, .int .i64 X.a, .int .i64 X.at_, .bool X.carry, .slice B m g, .bool X.stop, .int .i64 X.cyc] 31)).alloc (.cells #[.slice none 0 0, .slice none 0 0, .int .i64 0, .int .i64 0, .int .i64 0, .bool false, .slice none 0 0, .bool false, .int .i64 0] 31)) (w.heap.size + 1) 31 [.slice none 0 0, .slice none 0 0, .int .i64 0, .int .i64 0, .int .i64 0, .bool false, .slice none 0 0, .bool false, .int .i64 0]) := Box.new_at (w.alloc _) _ _ _ (by simp)
  have B0 : Hid (Below w.heap.size w ((w.alloc (.cells #[.slice A n c, .slice R k d, .int .i64 X.mem.bank, .int .i64 X.a, .int .i64 X.at_, .bool X.carry, .slice B m g, .bool X.stop, .int .i64 X.cyc] 31)).alloc (.cells #[.slice none 0 0, .slice none 0 0, .int .i64 0, .int .i64 0, .int .i64 0, .bool false, .slice none 0 0, .bool false, .int .i64 0] 31))) := below2 w _ _
  have H0 := Lib.hid (h.below (below2 w (.cells #[.slice A n c, .slice R k d, .int .i64 X.mem.bank, .int .i64 X.a, .int .i64 X.at_, .bool X.carry, .slice B m g, .bool X.stop, .int .i64 X.cyc] 31) (.cells #[.slice none 0 0, .slice none 0 0, .int .i64 0, .int .i64 0, .int .i64 0, .bool false, .slice none 0 0, .bool false, .int .i64 0] 31)))
  clear h f
  go_enter Tryz.func15, Tryz.ntmps15
  go_wp2_with fail
  refine (spec_machValid A c R d B g n k m X fa fr fb _ H0.out HF.out).mono ?_
  rintro e w1 ⟨rfl, b1⟩
  have Y0 := Lib.hid (X0.out.below b1)
  have Y1 := Lib.hid (X1.out.below b1)
  have B1 := Lib.hid (B0.out.trans (b1.mono B0.out.size))
  have H1 := Lib.hid (H0.out.below b1)
  have hz := Y1.out.lt
  clear b1 X0 X1 B0 H0
  have a0 : w1.cell? ⟨w.heap.size, 0, none⟩ = some (.slice A n c) := Y0.out.cell 0
  have a1 : w1.cell? ⟨w.heap.size, 1, none⟩ = some (.slice R k d) := Y0.out.cell 1
  have a2 : w1.cell? ⟨w.heap.size, 2, none⟩ = some (.int .i64 X.mem.bank) := Y0.out.cell 2
  have a3 : w1.cell? ⟨w.heap.size, 3, none⟩ = some (.int .i64 X.a) := Y0.out.cell 3
  have a4 : w1.cell? ⟨w.heap.size, 4, none⟩ = some (.int .i64 X.at_) := Y0.out.cell 4
  have a5 : w1.cell? ⟨w.heap.size, 5, none⟩ = some (.bool X.carry) := Y0.out.cell 5
  have a6 : w1.cell? ⟨w.heap.size, 6, none⟩ = some (.slice B m g) := Y0.out.cell 6
  have a7 : w1.cell? ⟨w.heap.size, 7, none⟩ = some (.bool X.stop) := Y0.out.cell 7
  have a8 : w1.cell? ⟨w.heap.size, 8, none⟩ = some (.int .i64 X.cyc) := Y0.out.cell 8
  have e0 : w1.cell? ⟨w.heap.size + 1, 0, none⟩ = some (.slice none 0 0) := Y1.out.cell 0
  have e1 : w1.cell? ⟨w.heap.size + 1, 1, none⟩ = some (.slice none 0 0) := Y1.out.cell 1
  have e2 : w1.cell? ⟨w.heap.size + 1, 2, none⟩ = some (.int .i64 0) := Y1.out.cell 2
  have e3 : w1.cell? ⟨w.heap.size + 1, 3, none⟩ = some (.int .i64 0) := Y1.out.cell 3
  have e4 : w1.cell? ⟨w.heap.size + 1, 4, none⟩ = some (.int .i64 0) := Y1.out.cell 4
  have e5 : w1.cell? ⟨w.heap.size + 1, 5, none⟩ = some (.bool false) := Y1.out.cell 5
  have e6 : w1.cell? ⟨w.heap.size + 1, 6, none⟩ = some (.slice none 0 0) := Y1.out.cell 6
  have e7 : w1.cell? ⟨w.heap.size + 1, 7, none⟩ = some (.bool false) := Y1.out.cell 7
  have e8 : w1.cell? ⟨w.heap.size + 1, 8, none⟩ = some (.int .i64 0) := Y1.out.cell 8
  have f0 := Y1.out.frozen 0
  have f1 := Y1.out.frozen 1
  have f2 := Y1.out.frozen 2
  have f3 := Y1.out.frozen 3
  have f4 := Y1.out.frozen 4
  have f5 := Y1.out.frozen 5
  have f6 := Y1.out.frozen 6
  have f7 := Y1.out.frozen 7
  have f8 := Y1.out.frozen 8
  rcases hv : machB X with _ | _
  · have HE := Lib.hid (show UX = machZ by rw [HUX.out]; unfold untilX; rw [hv]; simp)
    have HE2 := Lib.hid (show US = 0 by rw [HUS.out]; unfold untilS; rw [hv]; simp)
    clear hv
    go_wp2_with fail
    refine bodyPost_ret (v := .tuple #[.agg #[.slice none 0 0, .slice none 0 0, .int .i64 0, .int .i64 0, .int .i64 0, .bool false, .slice none 0 0, .bool false, .int .i64 0], .int .i64 0]) (by simp [results, Tryz.results15, go_sem, e0, e1, e2, e3, e4, e5, e6, e7, e8]) rfl ?_
    refine ⟨_, by rw [HE2.out], ?_⟩
    rw [HE.out]
    exact machZ_new (((((((((B1.out.setCell (show w.heap.size ≤ w.heap.size + 1 by omega) _).setCell (show w.heap.size ≤ w.heap.size + 1 by omega) _).setCell (show w.heap.size ≤ w.heap.size + 1 by omega) _).setCell (show w.heap.size ≤ w.heap.size + 1 by omega) _).setCell (show w.heap.size ≤ w.heap.size + 1 by omega) _).setCell (show w.heap.size ≤ w.heap.size + 1 by omega) _).setCell (show w.heap.size ≤ w.heap.size + 1 by omega) _).setCell (show w.heap.size ≤ w.heap.size + 1 by omega) _).setCell (show w.heap.size ≤ w.heap.size + 1 by omega) _)
  have HV := Lib.hid hv
  clear hv
  go_wp2_with fail
  refine (l1In_any _ _ _ _).mono ?_; rintro e w' ⟨rfl, rfl⟩
  rcases ha : betB ad 0 1023 with _ | _
  · have ha' : addrB ad = false := ha
    have HE := Lib.hid (show UX = machZ by rw [HUX.out]; unfold untilX; rw [ha']; simp)
    have HE2 := Lib.hid (show US = 0 by rw [HUS.out]; unfold untilS; rw [ha']; simp)
    clear ha ha'
    go_wp2_with fail
    refine bodyPost_ret (v := .tuple #[.agg #[.slice none 0 0, .slice none 0 0, .int .i64 0, .int .i64 0, .int .i64 0, .bool false, .slice none 0 0, .bool false, .int .i64 0], .int .i64 0]) (by simp [results, Tryz.results15, go_sem, e0, e1, e2, e3, e4, e5, e6, e7, e8]) rfl ?_
    refine ⟨_, by rw [HE2.out], ?_⟩
    rw [HE.out]
    exact machZ_new (((((((((B1.out.setCell (show w.heap.size ≤ w.heap.size + 1 by omega) _).setCell (show w.heap.size ≤ w.heap.size + 1 by omega) _).setCell (show w.heap.size ≤ w.heap.size + 1 by omega) _).setCell (show w.heap.size ≤ w.heap.size + 1 by omega) _).setCell (show w.heap.size ≤ w.heap.size + 1 by omega) _).setCell (show w.heap.size ≤ w.heap.size + 1 by omega) _).setCell (show w.heap.size ≤ w.heap.size + 1 by omega) _).setCell (show w.heap.size ≤ w.heap.size + 1 by omega) _).setCell (show w.heap.size ≤ w.heap.size + 1 by omega) _)
  have HA := Lib.hid (show addrB ad = true from ha)
  clear ha
  go_wp2_with fail
  refine (copy_mach A c R d B g n k m X fa fr fb _ H1.out HF.out).mono ?_
  rintro e w2 ⟨A2, n2, c2, R2, k2, d2, B2, m2, g2, fa2, fr2, fb2, rfl, hc, hh, hnw, b2, hown, hsole⟩
  have M2 := Lib.hid (machIn_new hc hh hnw hown hsole b2.size)
  have V1 := Lib.hid (Y1.out.below b2)
  have B2' := Lib.hid ((B1.out.trans (b2.mono B1.out.size)))
  have l1 := b2.size
  clear hc hh hnw b2 hown hsole a0 a1 a2 a3 a4 a5 a6 a7 a8 e0 e1 e2 e3 e4 e5 e6 e7 e8 f0 f1 f2 f3 f4 f5 f6 f7 f8
  go_upto_region 4 with (fail)
  go_wp2_with fail
  go_loopw [7] (fun i wr => ∃ j : Nat, j ≤ 500 ∧ i = .int .i64 j ∧ MachHere wr w2.heap.size (runN X j) w1.heap.size ∧ Box wr (w.heap.size + 1) 31 [.slice none 0 0, .slice none 0 0, .int .i64 0, .int .i64 0, .int .i64 0, .bool false, .slice none 0 0, .bool false, .int .i64 0] ∧ Below w.heap.size w wr ∧ untilN ad (500 - j) j (runN X j) = U) (fun i _ => 500 - (intOf i).toNat)
  case atStart => exact ⟨0, by omega, rfl, M2.out.here, V1.out.alloc _, B2'.out.alloc B2'.out.size _, HUU.out.symm⟩
  case round =>
    obtain ⟨j, hj, rfl, ⟨A3, c3, R3, d3, B3, g3, n3, k3, m3, fa3, fr3, fb3, hm3⟩, hb3, hbw, hun⟩ := hrel
    have M3 := Lib.hid hm3
    have Z3 := Lib.hid hb3
    have B3' := Lib.hid hbw
    have HU := Lib.hid hun
    have GR := Lib.hid (run_good HV.out j (by omega))

    have e7 : wr.cell? ⟨w2.heap.size, 7, none⟩ = some (.bool (runN X j).stop) := hm3.box.cell 7
    clear hm3 hb3 hbw hun M2 V1
    rcases hs : (runN X j).stop with _ | _
    · rw [hs] at e7
      have HS := Lib.hid hs
      clear hs
      by_cases hlt : j < 500
      · have HL := Lib.hid hlt
        have h5 : (j : Int) < 500 := by omega
        have hd5 : decide ((j : Int) < 500) = true := by simpa using h5
        go_wp2_with fail
        refine (spec_step M3.out GR.out (by omega)).mono ?_
        rintro e w4 ⟨rfl, hh4, b4⟩
        obtain ⟨A3, c3, R3, d3, B3, g3, n3, k3, m3, fa3, fr3, fb3, hm4⟩ := hh4
        have M3 := Lib.hid (show MachIn w4 w2.heap.size A3 c3 R3 d3 B3 g3 n3 k3 m3 (runN X (j + 1)) fa3 fr3 fb3 w1.heap.size from hm4)
        have Z3 := Lib.hid (Z3.out.keep b4 (by omega))
        have B3' := Lib.hid (B3'.out.trans (b4.mono B1.out.size))
        have GZ := Lib.hid (run_good HV.out (j + 1) (by omega))
        obtain ⟨t, ht⟩ : ∃ t, t = (runN X (j + 1)).at_ := ⟨_, rfl⟩
        have HT := Lib.hid ht
        have t4 : w4.cell? ⟨w2.heap.size, 4, none⟩ = some (.int .i64 t) := by rw [ht]; exact M3.out.box.cell 4
        clear hm4 b4 e7 GR ht
        by_cases hat : t = ad
        · have hq : (t == ad) = true := by simp [hat]
          have HU2 := Lib.hid (show U = (j + 1, runN X (j + 1)) by
            rw [← HU.out, show 500 - j = (500 - (j + 1)) + 1 by omega]
            exact until_at ad _ j _ HS.out (by rw [← hat]; exact HT.out.symm))
          clear hat
          go_upto_region 9 with (fail)
          clear t4
          have HQ := Lib.hid (show U = (j + 1, runN X (j + 1)) from HU2.out)
          have HE1 := Lib.hid (show UX = runN X (j + 1) from (until_fin HA.out HV.out HUU.out HQ.out HUX.out HUS.out).1)
          have HE2 := Lib.hid (show US = ((j + 1 : Nat) : Int) from (until_fin HA.out HV.out HUU.out HQ.out HUX.out HUS.out).2)
          have GF := Lib.hid (fits_mono (show Fits (runN X (j + 1)) 256 from fits_good GZ.out) (show 256 ≤ 1000000000 by omega))
          obtain ⟨Y, hY⟩ : ∃ Y, Y = runN X (j + 1) := ⟨_, rfl⟩
          rw [← hY] at M3 HE1 GF
          have hl3 := Z3.out.lt
          clear hY HQ GZ
          have a0 : w4.cell? ⟨w2.heap.size, 0, none⟩ = some (.slice A3 n3 c3) := M3.out.box.cell 0
          have a1 : w4.cell? ⟨w2.heap.size, 1, none⟩ = some (.slice R3 k3 d3) := M3.out.box.cell 1
          have a2 : w4.cell? ⟨w2.heap.size, 2, none⟩ = some (.int .i64 Y.mem.bank) := M3.out.box.cell 2
          have a3 : w4.cell? ⟨w2.heap.size, 3, none⟩ = some (.int .i64 Y.a) := M3.out.box.cell 3
          have a4 : w4.cell? ⟨w2.heap.size, 4, none⟩ = some (.int .i64 Y.at_) := M3.out.box.cell 4
          have a5 : w4.cell? ⟨w2.heap.size, 5, none⟩ = some (.bool Y.carry) := M3.out.box.cell 5
          have a6 : w4.cell? ⟨w2.heap.size, 6, none⟩ = some (.slice B3 m3 g3) := M3.out.box.cell 6
          have a7 : w4.cell? ⟨w2.heap.size, 7, none⟩ = some (.bool Y.stop) := M3.out.box.cell 7
          have a8 : w4.cell? ⟨w2.heap.size, 8, none⟩ = some (.int .i64 Y.cyc) := M3.out.box.cell 8
          go_wp2_with fail
          refine (copy_mach A3 c3 R3 d3 B3 g3 n3 k3 m3 Y fa3 fr3 fb3 _ M3.out.has GF.out).mono ?_
          rintro e w5 ⟨A5, n5, c5, R5, k5, d5, B5, m5, g5, fa5, fr5, fb5, rfl, hc5, hh5, hn5, b5, _⟩
          have Z5 := Lib.hid (Z3.out.below b5)
          have B5' := Lib.hid (B3'.out.trans (b5.mono B3'.out.size))
          have HC5 := Lib.hid hc5
          have HH5 := Lib.hid hh5
          have HN5 := Lib.hid hn5
          have l5 := Z3.out.lt
          have l6 := B3'.out.size
          clear hc5 hh5 hn5 b5 a0 a1 a2 a3 a4 a5 a6 a7 a8
          have e0 : w5.cell? ⟨w.heap.size + 1, 0, none⟩ = some (.slice none 0 0) := Z5.out.cell 0
          have e1 : w5.cell? ⟨w.heap.size + 1, 1, none⟩ = some (.slice none 0 0) := Z5.out.cell 1
          have e2 : w5.cell? ⟨w.heap.size + 1, 2, none⟩ = some (.int .i64 0) := Z5.out.cell 2
          have e3 : w5.cell? ⟨w.heap.size + 1, 3, none⟩ = some (.int .i64 0) := Z5.out.cell 3
          have e4 : w5.cell? ⟨w.heap.size + 1, 4, none⟩ = some (.int .i64 0) := Z5.out.cell 4
          have e5 : w5.cell? ⟨w.heap.size + 1, 5, none⟩ = some (.bool false) := Z5.out.cell 5
          have e6 : w5.cell? ⟨w.heap.size + 1, 6, none⟩ = some (.slice none 0 0) := Z5.out.cell 6
          have e7 : w5.cell? ⟨w.heap.size + 1, 7, none⟩ = some (.bool false) := Z5.out.cell 7
          have e8 : w5.cell? ⟨w.heap.size + 1, 8, none⟩ = some (.int .i64 0) := Z5.out.cell 8
          have f0 := Z5.out.frozen 0
          have f1 := Z5.out.frozen 1
          have f2 := Z5.out.frozen 2
          have f3 := Z5.out.frozen 3
          have f4 := Z5.out.frozen 4
          have f5 := Z5.out.frozen 5
          have f6 := Z5.out.frozen 6
          have f7 := Z5.out.frozen 7
          have f8 := Z5.out.frozen 8
          go_wp2_with fail
          refine bodyPost_ret (v := .tuple #[.agg #[.slice A5 n5 c5, .slice R5 k5 d5, .int .i64 Y.mem.bank, .int .i64 Y.a, .int .i64 Y.at_, .bool Y.carry, .slice B5 m5 g5, .bool Y.stop, .int .i64 Y.cyc], .int .i64 ((j + 1 : Nat) : Int)]) (by simp [results, Tryz.results15, go_sem, e0, e1, e2, e3, e4, e5, e6, e7, e8]) rfl ?_
          refine ⟨_, by rw [HE2.out], ?_⟩
          rw [HE1.out]
          refine mach_handed (w := w) (S := [w.heap.size + 1]) (L := w4.heap.size) HC5.out HH5.out HN5.out ?_ (by intro b hb; simp at hb; omega) (by omega) ?_
          · exact ((((((((((Only.refl _ w5).setCell (.inl (by simp)) _).setCell (.inl (by simp)) _).setCell (.inl (by simp)) _).setCell (.inl (by simp)) _).setCell (.inl (by simp)) _).setCell (.inl (by simp)) _).setCell (.inl (by simp)) _).setCell (.inl (by simp)) _).setCell (.inl (by simp)) _)
          · exact (((((((((B5'.out.setCell (show w.heap.size ≤ w.heap.size + 1 by omega) _).setCell (show w.heap.size ≤ w.heap.size + 1 by omega) _).setCell (show w.heap.size ≤ w.heap.size + 1 by omega) _).setCell (show w.heap.size ≤ w.heap.size + 1 by omega) _).setCell (show w.heap.size ≤ w.heap.size + 1 by omega) _).setCell (show w.heap.size ≤ w.heap.size + 1 by omega) _).setCell (show w.heap.size ≤ w.heap.size + 1 by omega) _).setCell (show w.heap.size ≤ w.heap.size + 1 by omega) _).setCell (show w.heap.size ≤ w.heap.size + 1 by omega) _)
        · have hq : (t == ad) = false := by simp [hat]
          have HU2 := Lib.hid (show untilN ad (500 - (j + 1)) (j + 1) (runN X (j + 1)) = U by
            rw [← HU.out, show 500 - j = (500 - (j + 1)) + 1 by omega]
            exact (until_on ad _ j _ HS.out (by rw [show (stepN (runN X j)).at_ = t from HT.out.symm]; exact hat)).symm)
          clear hat
          go_wp2_with fail
          go_roundw
          case rel => exact ⟨j + 1, by omega, by go_num, M3.out.here, Z3.out, B3'.out, HU2.out⟩
          case measure => simp [intOf]; omega
      · have HU2 := Lib.hid (show U = (j, runN X j) by rw [← HU.out, show 500 - j = 0 by omega]; rfl)
        have h5 : ¬ (j : Int) < 500 := by omega
        have hd5 : decide ((j : Int) < 500) = false := by simpa using h5
        have GZ := GR
        clear hlt GR
        go_upto_region 9 with (fail)
        clear e7
        have HQ := Lib.hid (show U = (j, runN X j) from HU2.out)
        have HE1 := Lib.hid (show UX = runN X j from (until_fin HA.out HV.out HUU.out HQ.out HUX.out HUS.out).1)
        have HE2 := Lib.hid (show US = ((j : Nat) : Int) from (until_fin HA.out HV.out HUU.out HQ.out HUX.out HUS.out).2)
        have GF := Lib.hid (fits_mono (show Fits (runN X j) 256 from fits_good GZ.out) (show 256 ≤ 1000000000 by omega))
        obtain ⟨Y, hY⟩ : ∃ Y, Y = runN X j := ⟨_, rfl⟩
        rw [← hY] at M3 HE1 GF
        have hl3 := Z3.out.lt
        clear hY HQ GZ
        have a0 : wr.cell? ⟨w2.heap.size, 0, none⟩ = some (.slice A3 n3 c3) := M3.out.box.cell 0
        have a1 : wr.cell? ⟨w2.heap.size, 1, none⟩ = some (.slice R3 k3 d3) := M3.out.box.cell 1
        have a2 : wr.cell? ⟨w2.heap.size, 2, none⟩ = some (.int .i64 Y.mem.bank) := M3.out.box.cell 2
        have a3 : wr.cell? ⟨w2.heap.size, 3, none⟩ = some (.int .i64 Y.a) := M3.out.box.cell 3
        have a4 : wr.cell? ⟨w2.heap.size, 4, none⟩ = some (.int .i64 Y.at_) := M3.out.box.cell 4
        have a5 : wr.cell? ⟨w2.heap.size, 5, none⟩ = some (.bool Y.carry) := M3.out.box.cell 5
        have a6 : wr.cell? ⟨w2.heap.size, 6, none⟩ = some (.slice B3 m3 g3) := M3.out.box.cell 6
        have a7 : wr.cell? ⟨w2.heap.size, 7, none⟩ = some (.bool Y.stop) := M3.out.box.cell 7
        have a8 : wr.cell? ⟨w2.heap.size, 8, none⟩ = some (.int .i64 Y.cyc) := M3.out.box.cell 8
        go_wp2_with fail
        refine (copy_mach A3 c3 R3 d3 B3 g3 n3 k3 m3 Y fa3 fr3 fb3 _ M3.out.has GF.out).mono ?_
        rintro e w5 ⟨A5, n5, c5, R5, k5, d5, B5, m5, g5, fa5, fr5, fb5, rfl, hc5, hh5, hn5, b5, _⟩
        have Z5 := Lib.hid (Z3.out.below b5)
        have B5' := Lib.hid (B3'.out.trans (b5.mono B3'.out.size))
        have HC5 := Lib.hid hc5
        have HH5 := Lib.hid hh5
        have HN5 := Lib.hid hn5
        have l5 := Z3.out.lt
        have l6 := B3'.out.size
        clear hc5 hh5 hn5 b5 a0 a1 a2 a3 a4 a5 a6 a7 a8
        have e0 : w5.cell? ⟨w.heap.size + 1, 0, none⟩ = some (.slice none 0 0) := Z5.out.cell 0
        have e1 : w5.cell? ⟨w.heap.size + 1, 1, none⟩ = some (.slice none 0 0) := Z5.out.cell 1
        have e2 : w5.cell? ⟨w.heap.size + 1, 2, none⟩ = some (.int .i64 0) := Z5.out.cell 2
        have e3 : w5.cell? ⟨w.heap.size + 1, 3, none⟩ = some (.int .i64 0) := Z5.out.cell 3
        have e4 : w5.cell? ⟨w.heap.size + 1, 4, none⟩ = some (.int .i64 0) := Z5.out.cell 4
        have e5 : w5.cell? ⟨w.heap.size + 1, 5, none⟩ = some (.bool false) := Z5.out.cell 5
        have e6 : w5.cell? ⟨w.heap.size + 1, 6, none⟩ = some (.slice none 0 0) := Z5.out.cell 6
        have e7 : w5.cell? ⟨w.heap.size + 1, 7, none⟩ = some (.bool false) := Z5.out.cell 7
        have e8 : w5.cell? ⟨w.heap.size + 1, 8, none⟩ = some (.int .i64 0) := Z5.out.cell 8
        have f0 := Z5.out.frozen 0
        have f1 := Z5.out.frozen 1
        have f2 := Z5.out.frozen 2
        have f3 := Z5.out.frozen 3
        have f4 := Z5.out.frozen 4
        have f5 := Z5.out.frozen 5
        have f6 := Z5.out.frozen 6
        have f7 := Z5.out.frozen 7
        have f8 := Z5.out.frozen 8
        go_wp2_with fail
        refine bodyPost_ret (v := .tuple #[.agg #[.slice A5 n5 c5, .slice R5 k5 d5, .int .i64 Y.mem.bank, .int .i64 Y.a, .int .i64 Y.at_, .bool Y.carry, .slice B5 m5 g5, .bool Y.stop, .int .i64 Y.cyc], .int .i64 ((j : Nat) : Int)]) (by simp [results, Tryz.results15, go_sem, e0, e1, e2, e3, e4, e5, e6, e7, e8]) rfl ?_
        refine ⟨_, by rw [HE2.out], ?_⟩
        rw [HE1.out]
        refine mach_handed (w := w) (S := [w.heap.size + 1]) (L := wr.heap.size) HC5.out HH5.out HN5.out ?_ (by intro b hb; simp at hb; omega) (by omega) ?_
        · exact ((((((((((Only.refl _ w5).setCell (.inl (by simp)) _).setCell (.inl (by simp)) _).setCell (.inl (by simp)) _).setCell (.inl (by simp)) _).setCell (.inl (by simp)) _).setCell (.inl (by simp)) _).setCell (.inl (by simp)) _).setCell (.inl (by simp)) _).setCell (.inl (by simp)) _)
        · exact (((((((((B5'.out.setCell (show w.heap.size ≤ w.heap.size + 1 by omega) _).setCell (show w.heap.size ≤ w.heap.size + 1 by omega) _).setCell (show w.heap.size ≤ w.heap.size + 1 by omega) _).setCell (show w.heap.size ≤ w.heap.size + 1 by omega) _).setCell (show w.heap.size ≤ w.heap.size + 1 by omega) _).setCell (show w.heap.size ≤ w.heap.size + 1 by omega) _).setCell (show w.heap.size ≤ w.heap.size + 1 by omega) _).setCell (show w.heap.size ≤ w.heap.size + 1 by omega) _).setCell (show w.heap.size ≤ w.heap.size + 1 by omega) _)
    · rw [hs] at e7
      have HU2 := Lib.hid (show U = (j, runN X j) by rw [← HU.out]; exact until_stop ad _ j _ hs)
      have GZ := GR
      clear hs GR
      by_cases hlt : j < 500
      · have h5 : (j : Int) < 500 := by omega
        have hd5 : decide ((j : Int) < 500) = true := by simpa using h5
        clear hlt
        go_upto_region 9 with (fail)
        clear e7
        have HQ := Lib.hid (show U = (j, runN X j) from HU2.out)
        have HE1 := Lib.hid (show UX = runN X j from (until_fin HA.out HV.out HUU.out HQ.out HUX.out HUS.out).1)
        have HE2 := Lib.hid (show US = ((j : Nat) : Int) from (until_fin HA.out HV.out HUU.out HQ.out HUX.out HUS.out).2)
        have GF := Lib.hid (fits_mono (show Fits (runN X j) 256 from fits_good GZ.out) (show 256 ≤ 1000000000 by omega))
        obtain ⟨Y, hY⟩ : ∃ Y, Y = runN X j := ⟨_, rfl⟩
        rw [← hY] at M3 HE1 GF
        have hl3 := Z3.out.lt
        clear hY HQ GZ
        have a0 : wr.cell? ⟨w2.heap.size, 0, none⟩ = some (.slice A3 n3 c3) := M3.out.box.cell 0
        have a1 : wr.cell? ⟨w2.heap.size, 1, none⟩ = some (.slice R3 k3 d3) := M3.out.box.cell 1
        have a2 : wr.cell? ⟨w2.heap.size, 2, none⟩ = some (.int .i64 Y.mem.bank) := M3.out.box.cell 2
        have a3 : wr.cell? ⟨w2.heap.size, 3, none⟩ = some (.int .i64 Y.a) := M3.out.box.cell 3
        have a4 : wr.cell? ⟨w2.heap.size, 4, none⟩ = some (.int .i64 Y.at_) := M3.out.box.cell 4
        have a5 : wr.cell? ⟨w2.heap.size, 5, none⟩ = some (.bool Y.carry) := M3.out.box.cell 5
        have a6 : wr.cell? ⟨w2.heap.size, 6, none⟩ = some (.slice B3 m3 g3) := M3.out.box.cell 6
        have a7 : wr.cell? ⟨w2.heap.size, 7, none⟩ = some (.bool Y.stop) := M3.out.box.cell 7
        have a8 : wr.cell? ⟨w2.heap.size, 8, none⟩ = some (.int .i64 Y.cyc) := M3.out.box.cell 8
        go_wp2_with fail
        refine (copy_mach A3 c3 R3 d3 B3 g3 n3 k3 m3 Y fa3 fr3 fb3 _ M3.out.has GF.out).mono ?_
        rintro e w5 ⟨A5, n5, c5, R5, k5, d5, B5, m5, g5, fa5, fr5, fb5, rfl, hc5, hh5, hn5, b5, _⟩
        have Z5 := Lib.hid (Z3.out.below b5)
        have B5' := Lib.hid (B3'.out.trans (b5.mono B3'.out.size))
        have HC5 := Lib.hid hc5
        have HH5 := Lib.hid hh5
        have HN5 := Lib.hid hn5
        have l5 := Z3.out.lt
        have l6 := B3'.out.size
        clear hc5 hh5 hn5 b5 a0 a1 a2 a3 a4 a5 a6 a7 a8
        have e0 : w5.cell? ⟨w.heap.size + 1, 0, none⟩ = some (.slice none 0 0) := Z5.out.cell 0
        have e1 : w5.cell? ⟨w.heap.size + 1, 1, none⟩ = some (.slice none 0 0) := Z5.out.cell 1
        have e2 : w5.cell? ⟨w.heap.size + 1, 2, none⟩ = some (.int .i64 0) := Z5.out.cell 2
        have e3 : w5.cell? ⟨w.heap.size + 1, 3, none⟩ = some (.int .i64 0) := Z5.out.cell 3
        have e4 : w5.cell? ⟨w.heap.size + 1, 4, none⟩ = some (.int .i64 0) := Z5.out.cell 4
        have e5 : w5.cell? ⟨w.heap.size + 1, 5, none⟩ = some (.bool false) := Z5.out.cell 5
        have e6 : w5.cell? ⟨w.heap.size + 1, 6, none⟩ = some (.slice none 0 0) := Z5.out.cell 6
        have e7 : w5.cell? ⟨w.heap.size + 1, 7, none⟩ = some (.bool false) := Z5.out.cell 7
        have e8 : w5.cell? ⟨w.heap.size + 1, 8, none⟩ = some (.int .i64 0) := Z5.out.cell 8
        have f0 := Z5.out.frozen 0
        have f1 := Z5.out.frozen 1
        have f2 := Z5.out.frozen 2
        have f3 := Z5.out.frozen 3
        have f4 := Z5.out.frozen 4
        have f5 := Z5.out.frozen 5
        have f6 := Z5.out.frozen 6
        have f7 := Z5.out.frozen 7
        have f8 := Z5.out.frozen 8
        go_wp2_with fail
        refine bodyPost_ret (v := .tuple #[.agg #[.slice A5 n5 c5, .slice R5 k5 d5, .int .i64 Y.mem.bank, .int .i64 Y.a, .int .i64 Y.at_, .bool Y.carry, .slice B5 m5 g5, .bool Y.stop, .int .i64 Y.cyc], .int .i64 ((j : Nat) : Int)]) (by simp [results, Tryz.results15, go_sem, e0, e1, e2, e3, e4, e5, e6, e7, e8]) rfl ?_
        refine ⟨_, by rw [HE2.out], ?_⟩
        rw [HE1.out]
        refine mach_handed (w := w) (S := [w.heap.size + 1]) (L := wr.heap.size) HC5.out HH5.out HN5.out ?_ (by intro b hb; simp at hb; omega) (by omega) ?_
        · exact ((((((((((Only.refl _ w5).setCell (.inl (by simp)) _).setCell (.inl (by simp)) _).setCell (.inl (by simp)) _).setCell (.inl (by simp)) _).setCell (.inl (by simp)) _).setCell (.inl (by simp)) _).setCell (.inl (by simp)) _).setCell (.inl (by simp)) _).setCell (.inl (by simp)) _)
        · exact (((((((((B5'.out.setCell (show w.heap.size ≤ w.heap.size + 1 by omega) _).setCell (show w.heap.size ≤ w.heap.size + 1 by omega) _).setCell (show w.heap.size ≤ w.heap.size + 1 by omega) _).setCell (show w.heap.size ≤ w.heap.size + 1 by omega) _).setCell (show w.heap.size ≤ w.heap.size + 1 by omega) _).setCell (show w.heap.size ≤ w.heap.size + 1 by omega) _).setCell (show w.heap.size ≤ w.heap.size + 1 by omega) _).setCell (show w.heap.size ≤ w.heap.size + 1 by omega) _).setCell (show w.heap.size ≤ w.heap.size + 1 by omega) _)
      · have h5 : ¬ (j : Int) < 500 := by omega
        have hd5 : decide ((j : Int) < 500) = false := by simpa using h5
        clear hlt
        go_upto_region 9 with (fail)
        clear e7
        have HQ := Lib.hid (show U = (j, runN X j) from HU2.out)
        have HE1 := Lib.hid (show UX = runN X j from (until_fin HA.out HV.out HUU.out HQ.out HUX.out HUS.out).1)
        have HE2 := Lib.hid (show US = ((j : Nat) : Int) from (until_fin HA.out HV.out HUU.out HQ.out HUX.out HUS.out).2)
        have GF := Lib.hid (fits_mono (show Fits (runN X j) 256 from fits_good GZ.out) (show 256 ≤ 1000000000 by omega))
        obtain ⟨Y, hY⟩ : ∃ Y, Y = runN X j := ⟨_, rfl⟩
        rw [← hY] at M3 HE1 GF
        have hl3 := Z3.out.lt
        clear hY HQ GZ
        have a0 : wr.cell? ⟨w2.heap.size, 0, none⟩ = some (.slice A3 n3 c3) := M3.out.box.cell 0
        have a1 : wr.cell? ⟨w2.heap.size, 1, none⟩ = some (.slice R3 k3 d3) := M3.out.box.cell 1
        have a2 : wr.cell? ⟨w2.heap.size, 2, none⟩ = some (.int .i64 Y.mem.bank) := M3.out.box.cell 2
        have a3 : wr.cell? ⟨w2.heap.size, 3, none⟩ = some (.int .i64 Y.a) := M3.out.box.cell 3
        have a4 : wr.cell? ⟨w2.heap.size, 4, none⟩ = some (.int .i64 Y.at_) := M3.out.box.cell 4
        have a5 : wr.cell? ⟨w2.heap.size, 5, none⟩ = some (.bool Y.carry) := M3.out.box.cell 5
        have a6 : wr.cell? ⟨w2.heap.size, 6, none⟩ = some (.slice B3 m3 g3) := M3.out.box.cell 6
        have a7 : wr.cell? ⟨w2.heap.size, 7, none⟩ = some (.bool Y.stop) := M3.out.box.cell 7
        have a8 : wr.cell? ⟨w2.heap.size, 8, none⟩ = some (.int .i64 Y.cyc) := M3.out.box.cell 8
        go_wp2_with fail
        refine (copy_mach A3 c3 R3 d3 B3 g3 n3 k3 m3 Y fa3 fr3 fb3 _ M3.out.has GF.out).mono ?_
        rintro e w5 ⟨A5, n5, c5, R5, k5, d5, B5, m5, g5, fa5, fr5, fb5, rfl, hc5, hh5, hn5, b5, _⟩
        have Z5 := Lib.hid (Z3.out.below b5)
        have B5' := Lib.hid (B3'.out.trans (b5.mono B3'.out.size))
        have HC5 := Lib.hid hc5
        have HH5 := Lib.hid hh5
        have HN5 := Lib.hid hn5
        have l5 := Z3.out.lt
        have l6 := B3'.out.size
        clear hc5 hh5 hn5 b5 a0 a1 a2 a3 a4 a5 a6 a7 a8
        have e0 : w5.cell? ⟨w.heap.size + 1, 0, none⟩ = some (.slice none 0 0) := Z5.out.cell 0
        have e1 : w5.cell? ⟨w.heap.size + 1, 1, none⟩ = some (.slice none 0 0) := Z5.out.cell 1
        have e2 : w5.cell? ⟨w.heap.size + 1, 2, none⟩ = some (.int .i64 0) := Z5.out.cell 2
        have e3 : w5.cell? ⟨w.heap.size + 1, 3, none⟩ = some (.int .i64 0) := Z5.out.cell 3
        have e4 : w5.cell? ⟨w.heap.size + 1, 4, none⟩ = some (.int .i64 0) := Z5.out.cell 4
        have e5 : w5.cell? ⟨w.heap.size + 1, 5, none⟩ = some (.bool false) := Z5.out.cell 5
        have e6 : w5.cell? ⟨w.heap.size + 1, 6, none⟩ = some (.slice none 0 0) := Z5.out.cell 6
        have e7 : w5.cell? ⟨w.heap.size + 1, 7, none⟩ = some (.bool false) := Z5.out.cell 7
        have e8 : w5.cell? ⟨w.heap.size + 1, 8, none⟩ = some (.int .i64 0) := Z5.out.cell 8
        have f0 := Z5.out.frozen 0
        have f1 := Z5.out.frozen 1
        have f2 := Z5.out.frozen 2
        have f3 := Z5.out.frozen 3
        have f4 := Z5.out.frozen 4
        have f5 := Z5.out.frozen 5
        have f6 := Z5.out.frozen 6
        have f7 := Z5.out.frozen 7
        have f8 := Z5.out.frozen 8
        go_wp2_with fail
        refine bodyPost_ret (v := .tuple #[.agg #[.slice A5 n5 c5, .slice R5 k5 d5, .int .i64 Y.mem.bank, .int .i64 Y.a, .int .i64 Y.at_, .bool Y.carry, .slice B5 m5 g5, .bool Y.stop, .int .i64 Y.cyc], .int .i64 ((j : Nat) : Int)]) (by simp [results, Tryz.results15, go_sem, e0, e1, e2, e3, e4, e5, e6, e7, e8]) rfl ?_
        refine ⟨_, by rw [HE2.out], ?_⟩
        rw [HE1.out]
        refine mach_handed (w := w) (S := [w.heap.size + 1]) (L := wr.heap.size) HC5.out HH5.out HN5.out ?_ (by intro b hb; simp at hb; omega) (by omega) ?_
        · exact ((((((((((Only.refl _ w5).setCell (.inl (by simp)) _).setCell (.inl (by simp)) _).setCell (.inl (by simp)) _).setCell (.inl (by simp)) _).setCell (.inl (by simp)) _).setCell (.inl (by simp)) _).setCell (.inl (by simp)) _).setCell (.inl (by simp)) _).setCell (.inl (by simp)) _)
        · exact (((((((((B5'.out.setCell (show w.heap.size ≤ w.heap.size + 1 by omega) _).setCell (show w.heap.size ≤ w.heap.size + 1 by omega) _).setCell (show w.heap.size ≤ w.heap.size + 1 by omega) _).setCell (show w.heap.size ≤ w.heap.size + 1 by omega) _).setCell (show w.heap.size ≤ w.heap.size + 1 by omega) _).setCell (show w.heap.size ≤ w.heap.size + 1 by omega) _).setCell (show w.heap.size ≤ w.heap.size + 1 by omega) _).setCell (show w.heap.size ≤ w.heap.size + 1 by omega) _).setCell (show w.heap.size ≤ w.heap.size + 1 by omega) _)
end Go.Proofs.YtgciaafapbaliaaGreatDoor
end

section
/- The exact law of RunUntil, walked: it returns true, and changes no memory that was there. -/
namespace Go.Proofs.YtgciaafapbaliaaGreatDoor
open Go.ChangeShapes Go.WideShapes Go.ChangeAt Go.RowKit

theorem new2 {X : Mach} {s : Int} {w w' : World} {e : Ending} (h : MachNew2 X s w e w') : ∃ (A : Option Addr) (n c : Nat) (R : Option Addr) (k d : Nat) (B : Option Addr) (m g : Nat) (fa fr fb : List Nat), e = .returned (.tuple #[.agg #[.slice A n c, .slice R k d, .int .i64 X.mem.bank, .int .i64 X.a, .int .i64 X.at_, .bool X.carry, .slice B m g, .bool X.stop, .int .i64 X.cyc], .int .i64 s]) ∧ (n ≤ c ∧ k ≤ d ∧ m ≤ g) ∧ MHas w' A n R k B m X fa fr fb ∧ New w.heap.size w' (fa ++ fr ++ fb) ∧ Below w.heap.size w w' := by
  obtain ⟨v, rfl, A, n, c, R, k, d, B, m, g, fa, fr, fb, hv, hr⟩ := h
  cases hv
  exact ⟨A, n, c, R, k, d, B, m, g, fa, fr, fb, rfl, hr⟩
set_option maxHeartbeats 4000000 in
theorem walk_FnExactRunUntil (A : Option Addr) (c : Nat) (R : Option Addr) (d : Nat) (B : Option Addr) (g : Nat) (n k m : Nat) (X : Mach) (ad : Int) (w : World) (h : InMach w A n R k B m X) (ho : Ops w) :
    Calls Tryz.prog 5 #[.agg #[.slice A n c, .slice R k d, .int .i64 X.mem.bank, .int .i64 X.a, .int .i64 X.at_, .bool X.carry, .slice B m g, .bool X.stop, .int .i64 X.cyc], .int .i64 ad] w fun e w' => e = .returned (.bool true) ∧ Below w.heap.size w w' := by
  obtain ⟨P, hP⟩ : ∃ P : Mach, P = untilX X ad := ⟨_, rfl⟩
  have HP := Lib.hid hP
  have PS : Hid (Fits P 256) := by rw [hP]; exact Lib.hid (untilX_fits X ad)
  obtain ⟨S, hS⟩ : ∃ S : Int, S = untilS X ad := ⟨_, rfl⟩
  have HSS := Lib.hid hS
  clear hP hS
  have HO := Lib.hid ho
  clear ho
  obtain ⟨hf, fa, fr, fb, hh⟩ := h
  have HH := Lib.hid hh
  have HF := Lib.hid hf
  clear hh hf
  go_enter Tryz.func5, Tryz.ntmps5
  go_wp2_with fail
  refine (sz_mach A c R d B g n k m X fa fr fb 1048576 _ (HH.out.below (below1 w _)) HF.out (by omega) (by omega)).mono ?_
  rintro e w1 ⟨sv, rfl, b1, hv⟩
  have X1 : Hid (Box w1 w.heap.size 27 [.slice A n c, .slice R k d, .int .i64 X.mem.bank, .int .i64 X.a, .int .i64 X.at_, .bool X.carry, .slice B m g, .bool X.stop, .int .i64 X.cyc]) := (Box.new w _ _).below b1
  have B1 : Hid (Below w.heap.size w w1) := (below1 w _).trans (b1.mono (by simp))
  have HV := Lib.hid hv
  clear b1 hv
  by_cases v0 : sv < 0
  · go_wp2_with fail
    go_ret
    exact ⟨rfl, B1.out⟩
  · have FS := Lib.hid (fits_sz HH.out (by omega) (show sv = 1048576 - n - k - sumLen X.mem.rom - m by
      rcases HV.out with h | h
      · omega
      · exact h.2))
    have SF := Lib.hid (fits_mono FS.out.1 (show 1048576 ≤ 1000000000 by omega))
    have sl : sumLen X.mem.rom ≤ 1048576 := FS.out.2
    have sn : n ≤ 1048576 := FS.out.1.n HH.out
    have sk : k ≤ 1048576 := FS.out.1.k HH.out
    have sm : m ≤ 1048576 := FS.out.1.m HH.out
    clear HV HF
    have pl : sumLen P.mem.rom ≤ 1000000 := fits_sum PS.out
    have PF := Lib.hid (fits_mono PS.out (show 256 ≤ 1000000000 by omega))
    have a0 : w1.cell? ⟨w.heap.size, 0, none⟩ = some (.slice A n c) := X1.out.cell 0
    have a1 : w1.cell? ⟨w.heap.size, 1, none⟩ = some (.slice R k d) := X1.out.cell 1
    have a2 : w1.cell? ⟨w.heap.size, 2, none⟩ = some (.int .i64 X.mem.bank) := X1.out.cell 2
    have a3 : w1.cell? ⟨w.heap.size, 3, none⟩ = some (.int .i64 X.a) := X1.out.cell 3
    have a4 : w1.cell? ⟨w.heap.size, 4, none⟩ = some (.int .i64 X.at_) := X1.out.cell 4
    have a5 : w1.cell? ⟨w.heap.size, 5, none⟩ = some (.bool X.carry) := X1.out.cell 5
    have a6 : w1.cell? ⟨w.heap.size, 6, none⟩ = some (.slice B m g) := X1.out.cell 6
    have a7 : w1.cell? ⟨w.heap.size, 7, none⟩ = some (.bool X.stop) := X1.out.cell 7
    have a8 : w1.cell? ⟨w.heap.size, 8, none⟩ = some (.int .i64 X.cyc) := X1.out.cell 8
    go_wp2_with fail
    refine (to_mach A c R d B g n k m X fa fr fb _ (HH.out.below B1.out) SF.out).mono ?_
    rintro e w2 ⟨Ap, np, cp, Rp, kp, dp, Bp, mp, gp, fap, frp, fbp, rfl, hcp, hhp, nwp, bp⟩
    obtain rfl : n = np := by have := hhp.ram.1; have := HH.out.ram.1; omega
    obtain rfl : k = kp := by have := hhp.rom.len; have := HH.out.rom.len; omega
    obtain rfl : m = mp := by have := hhp.back.1; have := HH.out.back.1; omega
    have B2 := Lib.hid (B1.out.trans (bp.mono B1.out.size))
    clear a0 a1 a2 a3 a4 a5 a6 a7 a8
    have X2 := Lib.hid (X1.out.below bp)
    have Hp := Lib.hid hhp
    clear hcp hhp nwp bp
    go_wp2_with fail
    refine (spec_until Ap cp Rp dp Bp gp n k m X ad fap frp fbp _ Hp.out SF.out).mono ?_
    rw [← HP.out, ← HSS.out]
    intro e w3 hz; obtain ⟨As, ns, cs, Rs, ks, ds, Bs, ms, gs, fas, frs, fbs, rfl, hcs, hhs, nws, bs⟩ := new2 hz
    have n256 : ns ≤ 256 := PS.out.n hhs
    have k256 : ks ≤ 256 := PS.out.k hhs
    have m256 : ms ≤ 256 := PS.out.m hhs
    have B3 := Lib.hid (B2.out.trans (bs.mono B2.out.size))
    have X3 := Lib.hid (X2.out.below bs)
    have Ls := Lib.hid hhs.ram.1
    have Ms := Lib.hid hhs.rom.len
    have Os := Lib.hid hhs.back.1
    have z3 : w.heap.size ≤ w3.heap.size := B3.out.size
    have Zs3 := Lib.hid (XB.new_ (w := w2) (c := cs) (d := ds) (g := gs) hhs nws)
    have y3 : w2.heap.size ≤ w3.heap.size := bs.size
    have B3a := Lib.hid (B3.out.alloc B3.out.size (.cells #[.slice As ns cs, .slice Rs ks ds, .int .i64 P.mem.bank, .int .i64 P.a, .int .i64 P.at_, .bool P.carry, .slice Bs ms gs, .bool P.stop, .int .i64 P.cyc] 31))
    have s3 : Hid ((w3.alloc (.cells #[.slice As ns cs, .slice Rs ks ds, .int .i64 P.mem.bank, .int .i64 P.a, .int .i64 P.at_, .bool P.carry, .slice Bs ms gs, .bool P.stop, .int .i64 P.cyc] 31)).heap.size = w3.heap.size + 1) := by show _ = _; simp
    clear hcs hhs nws bs
    have z3' : w.heap.size < w3.heap.size := X3.out.lt
    have X3a := Lib.hid (X3.out.alloc (.cells #[.slice As ns cs, .slice Rs ks ds, .int .i64 P.mem.bank, .int .i64 P.a, .int .i64 P.at_, .bool P.carry, .slice Bs ms gs, .bool P.stop, .int .i64 P.cyc] 31))
    have a0 : w3.cell? ⟨w.heap.size, 0, none⟩ = some (.slice A n c) := X3.out.cell 0
    have a1 : w3.cell? ⟨w.heap.size, 1, none⟩ = some (.slice R k d) := X3.out.cell 1
    have a2 : w3.cell? ⟨w.heap.size, 2, none⟩ = some (.int .i64 X.mem.bank) := X3.out.cell 2
    have a3 : w3.cell? ⟨w.heap.size, 3, none⟩ = some (.int .i64 X.a) := X3.out.cell 3
    have a4 : w3.cell? ⟨w.heap.size, 4, none⟩ = some (.int .i64 X.at_) := X3.out.cell 4
    have a5 : w3.cell? ⟨w.heap.size, 5, none⟩ = some (.bool X.carry) := X3.out.cell 5
    have a6 : w3.cell? ⟨w.heap.size, 6, none⟩ = some (.slice B m g) := X3.out.cell 6
    have a7 : w3.cell? ⟨w.heap.size, 7, none⟩ = some (.bool X.stop) := X3.out.cell 7
    have a8 : w3.cell? ⟨w.heap.size, 8, none⟩ = some (.int .i64 X.cyc) := X3.out.cell 8
    go_wp2_with fail
    refine (to_mach A c R d B g n k m X fa fr fb _ (HH.out.below B3a.out) SF.out).mono ?_
    rintro e w4 ⟨Aq, nq, cq, Rq, kq, dq, Bq, mq, gq, faq, frq, fbq, rfl, hcq, hhq, nwq, bq⟩
    obtain rfl : n = nq := by have := hhq.ram.1; have := HH.out.ram.1; omega
    obtain rfl : k = kq := by have := hhq.rom.len; have := HH.out.rom.len; omega
    obtain rfl : m = mq := by have := hhq.back.1; have := HH.out.back.1; omega
    have B4 := Lib.hid (B3a.out.trans (bq.mono B3a.out.size))
    clear a0 a1 a2 a3 a4 a5 a6 a7 a8
    have Zs4 := Lib.hid (Zs3.out.below bq)
    have X4 := Lib.hid ((X3a.out.below bq).alloc (.cells #[.slice Aq n cq, .slice Rq k dq, .int .i64 X.mem.bank, .int .i64 X.a, .int .i64 X.at_, .bool X.carry, .slice Bq m gq, .bool X.stop, .int .i64 X.cyc] 31))
    have Zs4a := Lib.hid (Zs4.out.below (below1 w4 (.cells #[.slice Aq n cq, .slice Rq k dq, .int .i64 X.mem.bank, .int .i64 X.a, .int .i64 X.at_, .bool X.carry, .slice Bq m gq, .bool X.stop, .int .i64 X.cyc] 31)))
    have Zq4 := Lib.hid (XB.new_ (w := w3.alloc (.cells #[.slice As ns cs, .slice Rs ks ds, .int .i64 P.mem.bank, .int .i64 P.a, .int .i64 P.at_, .bool P.carry, .slice Bs ms gs, .bool P.stop, .int .i64 P.cyc] 31)) (c := cq) (d := dq) (g := gq) hhq nwq)
    have y4 : (w3.alloc (.cells #[.slice As ns cs, .slice Rs ks ds, .int .i64 P.mem.bank, .int .i64 P.a, .int .i64 P.at_, .bool P.carry, .slice Bs ms gs, .bool P.stop, .int .i64 P.cyc] 31)).heap.size ≤ w4.heap.size := bq.size
    have B4a := Lib.hid (B4.out.alloc B4.out.size (.cells #[.slice Aq n cq, .slice Rq k dq, .int .i64 X.mem.bank, .int .i64 X.a, .int .i64 X.at_, .bool X.carry, .slice Bq m gq, .bool X.stop, .int .i64 X.cyc] 31))
    have s4 : Hid ((w4.alloc (.cells #[.slice Aq n cq, .slice Rq k dq, .int .i64 X.mem.bank, .int .i64 X.a, .int .i64 X.at_, .bool X.carry, .slice Bq m gq, .bool X.stop, .int .i64 X.cyc] 31)).heap.size = w4.heap.size + 1) := by show _ = _; simp
    clear hcq hhq nwq bq Zs4
    go_wp2_with fail
    refine (impl_until Aq cq Rq dq Bq gq n k m X ad faq frq fbq _ Zq4.out.has SF.out (HO.out.below B4a.out)).mono ?_
    rw [← HP.out, ← HSS.out]
    intro e w5 hz; obtain ⟨Ag, ng, cg, Rg, kg, dg, Bg, mg, gg, fag, frg, fbg, rfl, hcg, hhg, nwg, bg⟩ := new2 hz
    obtain rfl : ns = ng := by have := hhg.ram.1; have := Ls.out; omega
    obtain rfl : ks = kg := by have := hhg.rom.len; have := Ms.out; omega
    obtain rfl : ms = mg := by have := hhg.back.1; have := Os.out; omega
    have Zs5 := Lib.hid (Zs4a.out.below bg)
    have Zq5 := Lib.hid ((Zq4.out.below bg).below (below1 w5 (.cells #[.slice Ag ns cg, .slice Rg ks dg, .int .i64 P.mem.bank, .int .i64 P.a, .int .i64 P.at_, .bool P.carry, .slice Bg ms gg, .bool P.stop, .int .i64 P.cyc] 31)))
    have X5 := Lib.hid ((X4.out.below bg).alloc (.cells #[.slice Ag ns cg, .slice Rg ks dg, .int .i64 P.mem.bank, .int .i64 P.a, .int .i64 P.at_, .bool P.carry, .slice Bg ms gg, .bool P.stop, .int .i64 P.cyc] 31))
    have Zg5 := Lib.hid (XB.new_ (w := (w4.alloc (.cells #[.slice Aq n cq, .slice Rq k dq, .int .i64 X.mem.bank, .int .i64 X.a, .int .i64 X.at_, .bool X.carry, .slice Bq m gq, .bool X.stop, .int .i64 X.cyc] 31))) (c := cg) (d := dg) (g := gg) hhg nwg)
    have y5 : (w4.alloc (.cells #[.slice Aq n cq, .slice Rq k dq, .int .i64 X.mem.bank, .int .i64 X.a, .int .i64 X.at_, .bool X.carry, .slice Bq m gq, .bool X.stop, .int .i64 X.cyc] 31)).heap.size ≤ w5.heap.size := bg.size
    have B5 := Lib.hid (B4a.out.trans (bg.mono B4a.out.size))
    have B5a := Lib.hid (B5.out.alloc B5.out.size (.cells #[.slice Ag ns cg, .slice Rg ks dg, .int .i64 P.mem.bank, .int .i64 P.a, .int .i64 P.at_, .bool P.carry, .slice Bg ms gg, .bool P.stop, .int .i64 P.cyc] 31))
    have Zs5a := Lib.hid (Zs5.out.below (below1 w5 (.cells #[.slice Ag ns cg, .slice Rg ks dg, .int .i64 P.mem.bank, .int .i64 P.a, .int .i64 P.at_, .bool P.carry, .slice Bg ms gg, .bool P.stop, .int .i64 P.cyc] 31)))
    have zz : w3.heap.size < w5.heap.size := Zs5.out.box.lt
    clear hcg hhg nwg bg
    have c0 : w5.cell? ⟨w3.heap.size, 0, none⟩ = some (.slice As ns cs) := Zs5.out.box.cell 0
    have c1 : w5.cell? ⟨w3.heap.size, 1, none⟩ = some (.slice Rs ks ds) := Zs5.out.box.cell 1
    have c2 : w5.cell? ⟨w3.heap.size, 2, none⟩ = some (.int .i64 P.mem.bank) := Zs5.out.box.cell 2
    have c3 : w5.cell? ⟨w3.heap.size, 3, none⟩ = some (.int .i64 P.a) := Zs5.out.box.cell 3
    have c4 : w5.cell? ⟨w3.heap.size, 4, none⟩ = some (.int .i64 P.at_) := Zs5.out.box.cell 4
    have c5 : w5.cell? ⟨w3.heap.size, 5, none⟩ = some (.bool P.carry) := Zs5.out.box.cell 5
    have c6 : w5.cell? ⟨w3.heap.size, 6, none⟩ = some (.slice Bs ms gs) := Zs5.out.box.cell 6
    have c7 : w5.cell? ⟨w3.heap.size, 7, none⟩ = some (.bool P.stop) := Zs5.out.box.cell 7
    have c8 : w5.cell? ⟨w3.heap.size, 8, none⟩ = some (.int .i64 P.cyc) := Zs5.out.box.cell 8
    go_wp2_with fail
    refine (eq_mach Ag cg Rg dg Bg gg As cs Rs ds Bs gs ns ks ms P fag frg fbg fas frs fbs _ Zg5.out.has Zs5a.out.has PF.out).mono ?_
    rintro e w6 ⟨rfl, b6⟩
    have B6 := Lib.hid (B5a.out.trans (b6.mono B5a.out.size))
    have Zs6 := Lib.hid (Zs5a.out.below b6)
    have Zg6 := Lib.hid (Zg5.out.below b6)
    have Zq6 := Lib.hid (Zq5.out.below b6)
    have X6 := Lib.hid (X5.out.below b6)
    clear b6 c0 c1 c2 c3 c4 c5 c6 c7 c8
    have c0 : w6.cell? ⟨w.heap.size, 0, none⟩ = some (.slice A n c) := X6.out.cell 0
    have c1 : w6.cell? ⟨w.heap.size, 1, none⟩ = some (.slice R k d) := X6.out.cell 1
    have c2 : w6.cell? ⟨w.heap.size, 2, none⟩ = some (.int .i64 X.mem.bank) := X6.out.cell 2
    have c3 : w6.cell? ⟨w.heap.size, 3, none⟩ = some (.int .i64 X.a) := X6.out.cell 3
    have c4 : w6.cell? ⟨w.heap.size, 4, none⟩ = some (.int .i64 X.at_) := X6.out.cell 4
    have c5 : w6.cell? ⟨w.heap.size, 5, none⟩ = some (.bool X.carry) := X6.out.cell 5
    have c6 : w6.cell? ⟨w.heap.size, 6, none⟩ = some (.slice B m g) := X6.out.cell 6
    have c7 : w6.cell? ⟨w.heap.size, 7, none⟩ = some (.bool X.stop) := X6.out.cell 7
    have c8 : w6.cell? ⟨w.heap.size, 8, none⟩ = some (.int .i64 X.cyc) := X6.out.cell 8
    have d0 : w6.cell? ⟨w4.heap.size, 0, none⟩ = some (.slice Aq n cq) := Zq6.out.box.cell 0
    have d1 : w6.cell? ⟨w4.heap.size, 1, none⟩ = some (.slice Rq k dq) := Zq6.out.box.cell 1
    have d2 : w6.cell? ⟨w4.heap.size, 2, none⟩ = some (.int .i64 X.mem.bank) := Zq6.out.box.cell 2
    have d3 : w6.cell? ⟨w4.heap.size, 3, none⟩ = some (.int .i64 X.a) := Zq6.out.box.cell 3
    have d4 : w6.cell? ⟨w4.heap.size, 4, none⟩ = some (.int .i64 X.at_) := Zq6.out.box.cell 4
    have d5 : w6.cell? ⟨w4.heap.size, 5, none⟩ = some (.bool X.carry) := Zq6.out.box.cell 5
    have d6 : w6.cell? ⟨w4.heap.size, 6, none⟩ = some (.slice Bq m gq) := Zq6.out.box.cell 6
    have d7 : w6.cell? ⟨w4.heap.size, 7, none⟩ = some (.bool X.stop) := Zq6.out.box.cell 7
    have d8 : w6.cell? ⟨w4.heap.size, 8, none⟩ = some (.int .i64 X.cyc) := Zq6.out.box.cell 8
    go_wp2_with fail
    have dr : Below w6.heap.size w6 w6.drew := (Below.refl _ _).drew
    have X6d := Lib.hid (X6.out.below dr)
    have Zs6d := Lib.hid (Zs6.out.below dr)
    have Zq6d := Lib.hid (Zq6.out.below dr)
    have Zg6d := Lib.hid (Zg6.out.below dr)
    have B6d := Lib.hid B6.out.drew
    clear dr
    go_region_held3 (fun w' => w'.cell? ⟨w.heap.size, 0, none⟩ = some (.slice A n c) ∧ w'.cell? ⟨w.heap.size, 1, none⟩ = some (.slice R k d) ∧ w'.cell? ⟨w.heap.size, 2, none⟩ = some (.int .i64 X.mem.bank) ∧ w'.cell? ⟨w.heap.size, 3, none⟩ = some (.int .i64 X.a) ∧ w'.cell? ⟨w.heap.size, 4, none⟩ = some (.int .i64 X.at_) ∧ w'.cell? ⟨w.heap.size, 5, none⟩ = some (.bool X.carry) ∧ w'.cell? ⟨w.heap.size, 6, none⟩ = some (.slice B m g) ∧ w'.cell? ⟨w.heap.size, 7, none⟩ = some (.bool X.stop) ∧ w'.cell? ⟨w.heap.size, 8, none⟩ = some (.int .i64 X.cyc) ∧ w'.cell? ⟨w4.heap.size, 0, none⟩ = some (.slice Aq n cq) ∧ w'.cell? ⟨w4.heap.size, 1, none⟩ = some (.slice Rq k dq) ∧ w'.cell? ⟨w4.heap.size, 2, none⟩ = some (.int .i64 X.mem.bank) ∧ w'.cell? ⟨w4.heap.size, 3, none⟩ = some (.int .i64 X.a) ∧ w'.cell? ⟨w4.heap.size, 4, none⟩ = some (.int .i64 X.at_) ∧ w'.cell? ⟨w4.heap.size, 5, none⟩ = some (.bool X.carry) ∧ w'.cell? ⟨w4.heap.size, 6, none⟩ = some (.slice Bq m gq) ∧ w'.cell? ⟨w4.heap.size, 7, none⟩ = some (.bool X.stop) ∧ w'.cell? ⟨w4.heap.size, 8, none⟩ = some (.int .i64 X.cyc))
      (first
        | (with_reducible exact K7.out)
        | (with_reducible exact K8.out)
        | go_keep)
      (first
        | (go_at_call 8; refine (to_mach A c R d B g n k m X fa fr fb _ (HH.out.below B6d.out) SF.out).mono ?_; rintro e w7 ⟨Ar, nr, cr, Rr, kr, dr, Br, mr, gr, far, frr, fbr, rfl, hcr, hhr, nwr, b7⟩; obtain rfl : n = nr := by { have := hhr.ram.1; have := HH.out.ram.1; omega }; obtain rfl : k = kr := by { have := hhr.rom.len; have := HH.out.rom.len; omega }; obtain rfl : m = mr := by { have := hhr.back.1; have := HH.out.back.1; omega }; have X7 := Lib.hid (X6d.out.below b7); have Zs7 := Lib.hid (Zs6d.out.below b7); have Zq7 := Lib.hid (Zq6d.out.below b7); have Zg7 := Lib.hid (Zg6d.out.below b7); have B7 := Lib.hid (B6d.out.trans (b7.mono B6d.out.size)); have K7 : Hid (w7.cell? ⟨w.heap.size, 0, none⟩ = some (.slice A n c) ∧ w7.cell? ⟨w.heap.size, 1, none⟩ = some (.slice R k d) ∧ w7.cell? ⟨w.heap.size, 2, none⟩ = some (.int .i64 X.mem.bank) ∧ w7.cell? ⟨w.heap.size, 3, none⟩ = some (.int .i64 X.a) ∧ w7.cell? ⟨w.heap.size, 4, none⟩ = some (.int .i64 X.at_) ∧ w7.cell? ⟨w.heap.size, 5, none⟩ = some (.bool X.carry) ∧ w7.cell? ⟨w.heap.size, 6, none⟩ = some (.slice B m g) ∧ w7.cell? ⟨w.heap.size, 7, none⟩ = some (.bool X.stop) ∧ w7.cell? ⟨w.heap.size, 8, none⟩ = some (.int .i64 X.cyc) ∧ w7.cell? ⟨w4.heap.size, 0, none⟩ = some (.slice Aq n cq) ∧ w7.cell? ⟨w4.heap.size, 1, none⟩ = some (.slice Rq k dq) ∧ w7.cell? ⟨w4.heap.size, 2, none⟩ = some (.int .i64 X.mem.bank) ∧ w7.cell? ⟨w4.heap.size, 3, none⟩ = some (.int .i64 X.a) ∧ w7.cell? ⟨w4.heap.size, 4, none⟩ = some (.int .i64 X.at_) ∧ w7.cell? ⟨w4.heap.size, 5, none⟩ = some (.bool X.carry) ∧ w7.cell? ⟨w4.heap.size, 6, none⟩ = some (.slice Bq m gq) ∧ w7.cell? ⟨w4.heap.size, 7, none⟩ = some (.bool X.stop) ∧ w7.cell? ⟨w4.heap.size, 8, none⟩ = some (.int .i64 X.cyc)) := ⟨X7.out.cell 0, X7.out.cell 1, X7.out.cell 2, X7.out.cell 3, X7.out.cell 4, X7.out.cell 5, X7.out.cell 6, X7.out.cell 7, X7.out.cell 8, Zq7.out.box.cell 0, Zq7.out.box.cell 1, Zq7.out.box.cell 2, Zq7.out.box.cell 3, Zq7.out.box.cell 4, Zq7.out.box.cell 5, Zq7.out.box.cell 6, Zq7.out.box.cell 7, Zq7.out.box.cell 8⟩; have Hr := Lib.hid hhr; clear hcr hhr nwr b7)
        | (go_at_call 10; refine (eq_mach Aq cq Rq dq Bq gq Ar cr Rr dr Br gr n k m X faq frq fbq far frr fbr _ Zq7.out.has Hr.out SF.out).mono ?_; rintro e w8 ⟨rfl, b8⟩; have X8 := Lib.hid (X7.out.below b8); have Zs8 := Lib.hid (Zs7.out.below b8); have Zq8 := Lib.hid (Zq7.out.below b8); have Zg8 := Lib.hid (Zg7.out.below b8); have B8 := Lib.hid (B7.out.trans (b8.mono B7.out.size)); have K8 : Hid (w8.cell? ⟨w.heap.size, 0, none⟩ = some (.slice A n c) ∧ w8.cell? ⟨w.heap.size, 1, none⟩ = some (.slice R k d) ∧ w8.cell? ⟨w.heap.size, 2, none⟩ = some (.int .i64 X.mem.bank) ∧ w8.cell? ⟨w.heap.size, 3, none⟩ = some (.int .i64 X.a) ∧ w8.cell? ⟨w.heap.size, 4, none⟩ = some (.int .i64 X.at_) ∧ w8.cell? ⟨w.heap.size, 5, none⟩ = some (.bool X.carry) ∧ w8.cell? ⟨w.heap.size, 6, none⟩ = some (.slice B m g) ∧ w8.cell? ⟨w.heap.size, 7, none⟩ = some (.bool X.stop) ∧ w8.cell? ⟨w.heap.size, 8, none⟩ = some (.int .i64 X.cyc) ∧ w8.cell? ⟨w4.heap.size, 0, none⟩ = some (.slice Aq n cq) ∧ w8.cell? ⟨w4.heap.size, 1, none⟩ = some (.slice Rq k dq) ∧ w8.cell? ⟨w4.heap.size, 2, none⟩ = some (.int .i64 X.mem.bank) ∧ w8.cell? ⟨w4.heap.size, 3, none⟩ = some (.int .i64 X.a) ∧ w8.cell? ⟨w4.heap.size, 4, none⟩ = some (.int .i64 X.at_) ∧ w8.cell? ⟨w4.heap.size, 5, none⟩ = some (.bool X.carry) ∧ w8.cell? ⟨w4.heap.size, 6, none⟩ = some (.slice Bq m gq) ∧ w8.cell? ⟨w4.heap.size, 7, none⟩ = some (.bool X.stop) ∧ w8.cell? ⟨w4.heap.size, 8, none⟩ = some (.int .i64 X.cyc)) := ⟨X8.out.cell 0, X8.out.cell 1, X8.out.cell 2, X8.out.cell 3, X8.out.cell 4, X8.out.cell 5, X8.out.cell 6, X8.out.cell 7, X8.out.cell 8, Zq8.out.box.cell 0, Zq8.out.box.cell 1, Zq8.out.box.cell 2, Zq8.out.box.cell 3, Zq8.out.box.cell 4, Zq8.out.box.cell 5, Zq8.out.box.cell 6, Zq8.out.box.cell 7, Zq8.out.box.cell 8⟩; clear b8))
    clear c0 c1 c2 c3 c4 c5 c6 c7 c8 d0 d1 d2 d3 d4 d5 d6 d7 d8
    have c0 : w8.cell? ⟨w4.heap.size, 0, none⟩ = some (.slice Aq n cq) := Zq8.out.box.cell 0
    have c1 : w8.cell? ⟨w4.heap.size, 1, none⟩ = some (.slice Rq k dq) := Zq8.out.box.cell 1
    have c2 : w8.cell? ⟨w4.heap.size, 2, none⟩ = some (.int .i64 X.mem.bank) := Zq8.out.box.cell 2
    have c3 : w8.cell? ⟨w4.heap.size, 3, none⟩ = some (.int .i64 X.a) := Zq8.out.box.cell 3
    have c4 : w8.cell? ⟨w4.heap.size, 4, none⟩ = some (.int .i64 X.at_) := Zq8.out.box.cell 4
    have c5 : w8.cell? ⟨w4.heap.size, 5, none⟩ = some (.bool X.carry) := Zq8.out.box.cell 5
    have c6 : w8.cell? ⟨w4.heap.size, 6, none⟩ = some (.slice Bq m gq) := Zq8.out.box.cell 6
    have c7 : w8.cell? ⟨w4.heap.size, 7, none⟩ = some (.bool X.stop) := Zq8.out.box.cell 7
    have c8 : w8.cell? ⟨w4.heap.size, 8, none⟩ = some (.int .i64 X.cyc) := Zq8.out.box.cell 8
    go_wp2_with fail
    refine (mark_mach Aq cq Rq dq Bq gq n k m 1 X faq frq fbq _ _ Zq8.out.has Zq8.out.new SF.out (by omega) (by omega) (by omega)).mono ?_
    rintro e w9 ⟨rs9, rfl, o9, i9, g9, m9, l9, j9⟩
    have Zs9 := Lib.hid (Zs8.out.only o9 Zq8.out.span (.inl (by have := s3.out; omega)) y3)
    have Zg9 := Lib.hid (Zg8.out.only o9 Zq8.out.span (.inr (by have := s4.out; omega)) y5)
    have X9 := Lib.hid (X8.out.only o9 (fun hx => by have := Zq8.out.span _ hx; have := s3.out; omega))
    have B9 := Lib.hid (B8.out.trans (o9.below (fun b hb => by have := Zq8.out.span _ hb; have := s3.out; omega) B8.out.size))
    clear o9 i9 g9 m9 l9 j9 c0 c1 c2 c3 c4 c5 c6 c7 c8
    obtain ⟨K9, hK9⟩ : ∃ K9 : Int, K9 = 1 + (n : Int) + (sumLen X.mem.rom : Int) + (m : Int) := ⟨_, rfl⟩
    rw [← hK9]
    have hk9 : decide (K9 < 0) = false := by simp; omega
    clear hK9
    have c0 : w9.cell? ⟨w3.heap.size, 0, none⟩ = some (.slice As ns cs) := Zs9.out.box.cell 0
    have c1 : w9.cell? ⟨w3.heap.size, 1, none⟩ = some (.slice Rs ks ds) := Zs9.out.box.cell 1
    have c2 : w9.cell? ⟨w3.heap.size, 2, none⟩ = some (.int .i64 P.mem.bank) := Zs9.out.box.cell 2
    have c3 : w9.cell? ⟨w3.heap.size, 3, none⟩ = some (.int .i64 P.a) := Zs9.out.box.cell 3
    have c4 : w9.cell? ⟨w3.heap.size, 4, none⟩ = some (.int .i64 P.at_) := Zs9.out.box.cell 4
    have c5 : w9.cell? ⟨w3.heap.size, 5, none⟩ = some (.bool P.carry) := Zs9.out.box.cell 5
    have c6 : w9.cell? ⟨w3.heap.size, 6, none⟩ = some (.slice Bs ms gs) := Zs9.out.box.cell 6
    have c7 : w9.cell? ⟨w3.heap.size, 7, none⟩ = some (.bool P.stop) := Zs9.out.box.cell 7
    have c8 : w9.cell? ⟨w3.heap.size, 8, none⟩ = some (.int .i64 P.cyc) := Zs9.out.box.cell 8
    have d0 : w9.cell? ⟨w5.heap.size, 0, none⟩ = some (.slice Ag ns cg) := Zg9.out.box.cell 0
    have d1 : w9.cell? ⟨w5.heap.size, 1, none⟩ = some (.slice Rg ks dg) := Zg9.out.box.cell 1
    have d2 : w9.cell? ⟨w5.heap.size, 2, none⟩ = some (.int .i64 P.mem.bank) := Zg9.out.box.cell 2
    have d3 : w9.cell? ⟨w5.heap.size, 3, none⟩ = some (.int .i64 P.a) := Zg9.out.box.cell 3
    have d4 : w9.cell? ⟨w5.heap.size, 4, none⟩ = some (.int .i64 P.at_) := Zg9.out.box.cell 4
    have d5 : w9.cell? ⟨w5.heap.size, 5, none⟩ = some (.bool P.carry) := Zg9.out.box.cell 5
    have d6 : w9.cell? ⟨w5.heap.size, 6, none⟩ = some (.slice Bg ms gg) := Zg9.out.box.cell 6
    have d7 : w9.cell? ⟨w5.heap.size, 7, none⟩ = some (.bool P.stop) := Zg9.out.box.cell 7
    have d8 : w9.cell? ⟨w5.heap.size, 8, none⟩ = some (.int .i64 P.cyc) := Zg9.out.box.cell 8
    go_wp2_with fail
    refine (eq_mach Ag cg Rg dg Bg gg As cs Rs ds Bs gs ns ks ms P fag frg fbg fas frs fbs _ Zg9.out.has Zs9.out.has PF.out).mono ?_
    rintro e w10 ⟨rfl, b10⟩
    have B10 := Lib.hid (B9.out.trans (b10.mono B9.out.size))
    have Zs10 := Lib.hid (Zs9.out.below b10)
    have Zg10 := Lib.hid (Zg9.out.below b10)
    have X10 := Lib.hid (X9.out.below b10)
    clear b10 c0 c1 c2 c3 c4 c5 c6 c7 c8 d0 d1 d2 d3 d4 d5 d6 d7 d8 hk9
    have c0 : w10.cell? ⟨w5.heap.size, 0, none⟩ = some (.slice Ag ns cg) := Zg10.out.box.cell 0
    have c1 : w10.cell? ⟨w5.heap.size, 1, none⟩ = some (.slice Rg ks dg) := Zg10.out.box.cell 1
    have c2 : w10.cell? ⟨w5.heap.size, 2, none⟩ = some (.int .i64 P.mem.bank) := Zg10.out.box.cell 2
    have c3 : w10.cell? ⟨w5.heap.size, 3, none⟩ = some (.int .i64 P.a) := Zg10.out.box.cell 3
    have c4 : w10.cell? ⟨w5.heap.size, 4, none⟩ = some (.int .i64 P.at_) := Zg10.out.box.cell 4
    have c5 : w10.cell? ⟨w5.heap.size, 5, none⟩ = some (.bool P.carry) := Zg10.out.box.cell 5
    have c6 : w10.cell? ⟨w5.heap.size, 6, none⟩ = some (.slice Bg ms gg) := Zg10.out.box.cell 6
    have c7 : w10.cell? ⟨w5.heap.size, 7, none⟩ = some (.bool P.stop) := Zg10.out.box.cell 7
    have c8 : w10.cell? ⟨w5.heap.size, 8, none⟩ = some (.int .i64 P.cyc) := Zg10.out.box.cell 8
    go_wp2_with fail
    refine (mark_mach Ag cg Rg dg Bg gg ns ks ms 1 P fag frg fbg _ _ Zg10.out.has Zg10.out.new PF.out (by omega) (by omega) (by omega)).mono ?_
    rintro e w11 ⟨rs11, rfl, o11, i11, g11, m11, l11, j11⟩
    have Zs11 := Lib.hid (Zs10.out.only o11 Zg10.out.span (.inl (by have := s3.out; have := s4.out; omega)) y3)
    have B11 := Lib.hid (B10.out.trans (o11.below (fun b hb => by have := Zg10.out.span _ hb; have := s3.out; have := s4.out; omega) B10.out.size))
    have Y11 := Lib.hid (Zg10.out.box.only o11 (fun hx => by have := Zg10.out.span _ hx; omega))
    have X11 := Lib.hid (X10.out.only o11 (fun hx => by have := Zg10.out.span _ hx; have := s3.out; have := s4.out; omega))
    have I11 := Lib.hid i11
    have G11 := Lib.hid g11
    have M11 := Lib.hid m11
    have E11 := Lib.hid (sumLen_same l11)
    have J11 : Hid (Ints w11 Bg ms (upFrom (1 + ns + sumLen rs11) ms) fbg) := by rw [E11.out]; exact Lib.hid j11
    have L11 : sumLen rs11 ≤ 1000000 := by have := E11.out; omega
    clear o11 i11 g11 m11 l11 j11 c0 c1 c2 c3 c4 c5 c6 c7 c8
    have c0 : w11.cell? ⟨w5.heap.size, 0, none⟩ = some (.slice Ag ns cg) := Y11.out.cell 0
    have c1 : w11.cell? ⟨w5.heap.size, 1, none⟩ = some (.slice Rg ks dg) := Y11.out.cell 1
    have c2 : w11.cell? ⟨w5.heap.size, 2, none⟩ = some (.int .i64 P.mem.bank) := Y11.out.cell 2
    have c3 : w11.cell? ⟨w5.heap.size, 3, none⟩ = some (.int .i64 P.a) := Y11.out.cell 3
    have c4 : w11.cell? ⟨w5.heap.size, 4, none⟩ = some (.int .i64 P.at_) := Y11.out.cell 4
    have c5 : w11.cell? ⟨w5.heap.size, 5, none⟩ = some (.bool P.carry) := Y11.out.cell 5
    have c6 : w11.cell? ⟨w5.heap.size, 6, none⟩ = some (.slice Bg ms gg) := Y11.out.cell 6
    have c7 : w11.cell? ⟨w5.heap.size, 7, none⟩ = some (.bool P.stop) := Y11.out.cell 7
    have c8 : w11.cell? ⟨w5.heap.size, 8, none⟩ = some (.int .i64 P.cyc) := Y11.out.cell 8
    go_wp2_with fail
    refine (held_mach Ag cg Rg dg Bg gg ns ks ms 1 P rs11 fag frg fbg _ I11.out G11.out M11.out J11.out (by omega) (by omega) (by omega) (by omega) (by omega) (by omega)).mono ?_
    rintro e w12 ⟨rfl, b12⟩
    rw [E11.out]
    have B12 := Lib.hid (B11.out.trans (b12.mono B11.out.size))
    have Y12 := Lib.hid (Y11.out.below b12)
    have Zs12 := Lib.hid (Zs11.out.below b12)
    have I12 := Lib.hid (I11.out.below b12)
    have G12 := Lib.hid (G11.out.below b12)
    have J12 := Lib.hid (J11.out.below b12)
    have X12 := Lib.hid (X11.out.below b12)
    clear b12 c0 c1 c2 c3 c4 c5 c6 c7 c8
    obtain ⟨KK, hKK⟩ : ∃ KK : Int, KK = 1 + (ns : Int) + (sumLen P.mem.rom : Int) + (ms : Int) := ⟨_, rfl⟩
    have HKK := Lib.hid hKK
    rw [← hKK]
    have k0 : 0 ≤ KK := by omega
    have k1 : decide (KK < 0) = false := by simp; omega
    clear hKK
    have a0 : w12.cell? ⟨w.heap.size, 0, none⟩ = some (.slice A n c) := X12.out.cell 0
    have a1 : w12.cell? ⟨w.heap.size, 1, none⟩ = some (.slice R k d) := X12.out.cell 1
    have a2 : w12.cell? ⟨w.heap.size, 2, none⟩ = some (.int .i64 X.mem.bank) := X12.out.cell 2
    have a3 : w12.cell? ⟨w.heap.size, 3, none⟩ = some (.int .i64 X.a) := X12.out.cell 3
    have a4 : w12.cell? ⟨w.heap.size, 4, none⟩ = some (.int .i64 X.at_) := X12.out.cell 4
    have a5 : w12.cell? ⟨w.heap.size, 5, none⟩ = some (.bool X.carry) := X12.out.cell 5
    have a6 : w12.cell? ⟨w.heap.size, 6, none⟩ = some (.slice B m g) := X12.out.cell 6
    have a7 : w12.cell? ⟨w.heap.size, 7, none⟩ = some (.bool X.stop) := X12.out.cell 7
    have a8 : w12.cell? ⟨w.heap.size, 8, none⟩ = some (.int .i64 X.cyc) := X12.out.cell 8
    go_wp2_with fail
    refine (to_mach A c R d B g n k m X fa fr fb _ (HH.out.below B12.out) SF.out).mono ?_
    rintro e w13 ⟨At, nt, ct, Rt, kt, dt, Bt, mt, gt, fat, frt, fbt, rfl, hct, hht, nwt, bt⟩
    obtain rfl : n = nt := by have := hht.ram.1; have := HH.out.ram.1; omega
    obtain rfl : k = kt := by have := hht.rom.len; have := HH.out.rom.len; omega
    obtain rfl : m = mt := by have := hht.back.1; have := HH.out.back.1; omega
    have B13 := Lib.hid (B12.out.trans (bt.mono B12.out.size))
    clear a0 a1 a2 a3 a4 a5 a6 a7 a8
    have Y13 := Lib.hid (Y12.out.below bt)
    have Zs13 := Lib.hid (Zs12.out.below bt)
    have I13 := Lib.hid (I12.out.below bt)
    have G13 := Lib.hid (G12.out.below bt)
    have J13 := Lib.hid (J12.out.below bt)
    have Ht := Lib.hid hht
    clear hct hht nwt bt
    go_wp2_with fail
    refine (impl_until At ct Rt dt Bt gt n k m X ad fat frt fbt _ Ht.out SF.out (HO.out.below B13.out)).mono ?_
    rw [← HP.out, ← HSS.out]
    intro e w14 hz; obtain ⟨Ah, nh, ch, Rh, kh, dh, Bh, mh, gh, fah, frh, fbh, rfl, hch, hhh, nwh, bh⟩ := new2 hz
    obtain rfl : ns = nh := by have := hhh.ram.1; have := Ls.out; omega
    obtain rfl : ks = kh := by have := hhh.rom.len; have := Ms.out; omega
    obtain rfl : ms = mh := by have := hhh.back.1; have := Os.out; omega
    have Y14 := Lib.hid ((Y13.out.below bh).alloc (.cells #[.slice Ah ns ch, .slice Rh ks dh, .int .i64 P.mem.bank, .int .i64 P.a, .int .i64 P.at_, .bool P.carry, .slice Bh ms gh, .bool P.stop, .int .i64 P.cyc] 31))
    have Zs14 := Lib.hid (Zs13.out.below bh)
    have Zs14a := Lib.hid (Zs14.out.below (below1 w14 (.cells #[.slice Ah ns ch, .slice Rh ks dh, .int .i64 P.mem.bank, .int .i64 P.a, .int .i64 P.at_, .bool P.carry, .slice Bh ms gh, .bool P.stop, .int .i64 P.cyc] 31)))
    have I14 := Lib.hid ((I13.out.below bh).below (below1 w14 (.cells #[.slice Ah ns ch, .slice Rh ks dh, .int .i64 P.mem.bank, .int .i64 P.a, .int .i64 P.at_, .bool P.carry, .slice Bh ms gh, .bool P.stop, .int .i64 P.cyc] 31)))
    have G14 := Lib.hid ((G13.out.below bh).below (below1 w14 (.cells #[.slice Ah ns ch, .slice Rh ks dh, .int .i64 P.mem.bank, .int .i64 P.a, .int .i64 P.at_, .bool P.carry, .slice Bh ms gh, .bool P.stop, .int .i64 P.cyc] 31)))
    have J14 := Lib.hid ((J13.out.below bh).below (below1 w14 (.cells #[.slice Ah ns ch, .slice Rh ks dh, .int .i64 P.mem.bank, .int .i64 P.a, .int .i64 P.at_, .bool P.carry, .slice Bh ms gh, .bool P.stop, .int .i64 P.cyc] 31)))
    have Hh := Lib.hid (hhh.below (below1 w14 (.cells #[.slice Ah ns ch, .slice Rh ks dh, .int .i64 P.mem.bank, .int .i64 P.a, .int .i64 P.at_, .bool P.carry, .slice Bh ms gh, .bool P.stop, .int .i64 P.cyc] 31)))
    have B14 := Lib.hid (B13.out.trans (bh.mono B13.out.size))
    have B14a := Lib.hid (B14.out.alloc B14.out.size (.cells #[.slice Ah ns ch, .slice Rh ks dh, .int .i64 P.mem.bank, .int .i64 P.a, .int .i64 P.at_, .bool P.carry, .slice Bh ms gh, .bool P.stop, .int .i64 P.cyc] 31))
    have zh : w3.heap.size < w14.heap.size := Zs14.out.box.lt
    clear hch hhh nwh bh
    have c0 : w14.cell? ⟨w3.heap.size, 0, none⟩ = some (.slice As ns cs) := Zs14.out.box.cell 0
    have c1 : w14.cell? ⟨w3.heap.size, 1, none⟩ = some (.slice Rs ks ds) := Zs14.out.box.cell 1
    have c2 : w14.cell? ⟨w3.heap.size, 2, none⟩ = some (.int .i64 P.mem.bank) := Zs14.out.box.cell 2
    have c3 : w14.cell? ⟨w3.heap.size, 3, none⟩ = some (.int .i64 P.a) := Zs14.out.box.cell 3
    have c4 : w14.cell? ⟨w3.heap.size, 4, none⟩ = some (.int .i64 P.at_) := Zs14.out.box.cell 4
    have c5 : w14.cell? ⟨w3.heap.size, 5, none⟩ = some (.bool P.carry) := Zs14.out.box.cell 5
    have c6 : w14.cell? ⟨w3.heap.size, 6, none⟩ = some (.slice Bs ms gs) := Zs14.out.box.cell 6
    have c7 : w14.cell? ⟨w3.heap.size, 7, none⟩ = some (.bool P.stop) := Zs14.out.box.cell 7
    have c8 : w14.cell? ⟨w3.heap.size, 8, none⟩ = some (.int .i64 P.cyc) := Zs14.out.box.cell 8
    go_wp2_with fail
    refine (eq_mach Ah ch Rh dh Bh gh As cs Rs ds Bs gs ns ks ms P fah frh fbh fas frs fbs _ Hh.out Zs14a.out.has PF.out).mono ?_
    rintro e w15 ⟨rfl, b15⟩
    have B15 := Lib.hid (B14a.out.trans (b15.mono B14a.out.size))
    have Y15 := Lib.hid (Y14.out.below b15)
    have I15 := Lib.hid (I14.out.below b15)
    have G15 := Lib.hid (G14.out.below b15)
    have J15 := Lib.hid (J14.out.below b15)
    clear b15 c0 c1 c2 c3 c4 c5 c6 c7 c8
    have c0 : w15.cell? ⟨w5.heap.size, 0, none⟩ = some (.slice Ag ns cg) := Y15.out.cell 0
    have c1 : w15.cell? ⟨w5.heap.size, 1, none⟩ = some (.slice Rg ks dg) := Y15.out.cell 1
    have c2 : w15.cell? ⟨w5.heap.size, 2, none⟩ = some (.int .i64 P.mem.bank) := Y15.out.cell 2
    have c3 : w15.cell? ⟨w5.heap.size, 3, none⟩ = some (.int .i64 P.a) := Y15.out.cell 3
    have c4 : w15.cell? ⟨w5.heap.size, 4, none⟩ = some (.int .i64 P.at_) := Y15.out.cell 4
    have c5 : w15.cell? ⟨w5.heap.size, 5, none⟩ = some (.bool P.carry) := Y15.out.cell 5
    have c6 : w15.cell? ⟨w5.heap.size, 6, none⟩ = some (.slice Bg ms gg) := Y15.out.cell 6
    have c7 : w15.cell? ⟨w5.heap.size, 7, none⟩ = some (.bool P.stop) := Y15.out.cell 7
    have c8 : w15.cell? ⟨w5.heap.size, 8, none⟩ = some (.int .i64 P.cyc) := Y15.out.cell 8
    go_wp2_with fail
    refine (held_mach Ag cg Rg dg Bg gg ns ks ms 1 P rs11 fag frg fbg _ I15.out G15.out M11.out J15.out (by omega) (by omega) (by omega) (by omega) (by omega) (by omega)).mono ?_
    rintro e w16 ⟨rfl, b16⟩
    rw [E11.out, ← HKK.out]
    have B16 := Lib.hid (B15.out.trans (b16.mono B15.out.size))
    clear b16 c0 c1 c2 c3 c4 c5 c6 c7 c8
    go_wp2_with fail
    go_ret
    exact ⟨rfl, B16.out⟩
end Go.Proofs.YtgciaafapbaliaaGreatDoor
end
