/- Draws of memories, addresses and bytes for the laws. -/
import Derived.Test.YtlfmagjgplijgaaMemF
import Derived.Test.YtlfmagjgplijgaaRowIn
namespace Go.Proofs.Ytlfmagjgplijgaa
open Go.ChangeShapes Go.WideShapes Go.ChangeAt Go.RowKit

/-- A memory that lies here. -/
def MemHere (w : World) (A : Option Addr) (n c : Nat) (R : Option Addr) (k d : Nat) (M : Mem) : Prop := n ≤ c ∧ k ≤ d ∧ (∃ fa, Ints w A n M.ram fa) ∧ (∃ fr, Grid w R k M.rom fr) ∧ Small M 256
theorem MemHere.below {w w' : World} {A : Option Addr} {n c : Nat} {R : Option Addr} {k d : Nat} {M : Mem} (h : MemHere w A n c R k d M) (b : Below w.heap.size w w') : MemHere w' A n c R k d M := by
  obtain ⟨h1, h2, ⟨fa, h3⟩, ⟨fr, h4⟩, h5⟩ := h
  exact ⟨h1, h2, ⟨fa, h3.below b⟩, ⟨fr, h4.below b⟩, h5⟩
theorem MemHere.drew {w : World} {A : Option Addr} {n c : Nat} {R : Option Addr} {k d : Nat} {M : Mem} (h : MemHere w A n c R k d M) (m : Nat) : MemHere (w.drewN m) A n c R k d M := h.below (below_drewN (Below.refl _ w) m)
theorem MemHere.ram_len {w : World} {A : Option Addr} {n c : Nat} {R : Option Addr} {k d : Nat} {M : Mem} (h : MemHere w A n c R k d M) : M.ram.length = n ∧ n ≤ 256 := by
  obtain ⟨_, _, ⟨fa, h3⟩, _, h5⟩ := h
  exact ⟨h3.1, by rw [← h3.1]; exact h5.ram⟩
theorem MemHere.rom_len {w : World} {A : Option Addr} {n c : Nat} {R : Option Addr} {k d : Nat} {M : Mem} (h : MemHere w A n c R k d M) : M.rom.length = k ∧ k ≤ 256 := by
  obtain ⟨_, _, _, ⟨fr, h4⟩, h5⟩ := h
  exact ⟨h4.len, by rw [← h4.len]; exact h5.rom⟩
/-- What drawing a memory leaves, with more results behind it. -/
def MemGot (w : World) (e : Ending) (w' : World) : Prop := ∃ (A : Option Addr) (n c : Nat) (R : Option Addr) (k d : Nat) (M : Mem), e = .returned (.agg #[.slice A n c, .slice R k d, .int .i64 M.bank]) ∧ MemHere w' A n c R k d M ∧ Below w.heap.size w w'
def MemGot1 (w : World) (e : Ending) (w' : World) : Prop := ∃ (A : Option Addr) (n c : Nat) (R : Option Addr) (k d : Nat) (M : Mem) (x : Int), -1 ≤ x ∧ x ≤ 1024 ∧ e = .returned (.tuple #[.agg #[.slice A n c, .slice R k d, .int .i64 M.bank], .int .i64 x]) ∧ MemHere w' A n c R k d M ∧ Below w.heap.size w w'
def MemGot2 (w : World) (e : Ending) (w' : World) : Prop := ∃ (A : Option Addr) (n c : Nat) (R : Option Addr) (k d : Nat) (M : Mem) (x y : Int), -1 ≤ x ∧ x ≤ 1024 ∧ -1 ≤ y ∧ y ≤ 256 ∧ e = .returned (.tuple #[.agg #[.slice A n c, .slice R k d, .int .i64 M.bank], .int .i64 x, .int .i64 y]) ∧ MemHere w' A n c R k d M ∧ Below w.heap.size w w'
/-- A memory in new memory stays where only older blocks change. -/
theorem here_only {S : List Nat} {w w' : World} {A : Option Addr} {n c : Nat} {R : Option Addr} {k d : Nat} {M : Mem} {fa fr : List Nat} {L : Nat} (hn : n ≤ c) (hk : k ≤ d) (hi : Ints w A n M.ram fa) (hg : Grid w R k M.rom fr) (hw : New L w (fa ++ fr)) (hs : Small M 256) (o : Only S w w') (hS : ∀ b ∈ S, b < L) : MemHere w' A n c R k d M := by
  have sm : Same (fa ++ fr) w w' := .of_only o fun b hb hx => by have := (hw.lt b hb).1; have := hS b hx; omega
  exact ⟨hn, hk, ⟨fa, hi.keep (sm.sub fun x hx => List.mem_append_left _ hx)⟩, ⟨fr, hg.keep (sm.sub fun x hx => List.mem_append_right _ hx)⟩, hs⟩
theorem draw_memWrite (a : Option Addr) (len cap : Nat) (zs : List Int) (w : World) (h : IsRow .u8 w a len cap zs) :
    Calls Try.prog 6 #[.slice a len cap] w (MemGot2 w) := by
  have H := Lib.hid (isRow_stays h (below1 w (.cells #[.slice none 0 0, .slice none 0 0, .int .i64 0] 26)))
  clear h
  go_enter Try.func6, Try.ntmps6
  go_wp2_with fail
  refine (open_any a len cap zs _ H.out).mono ?_
  rintro e w1 ⟨rfl, b1, r1⟩
  have X1 : Hid (Box w1 w.heap.size 26 [.slice none 0 0, .slice none 0 0, .int .i64 0]) := (Box.new w _ _).below b1
  have B1 : Hid (Below w.heap.size w w1) := (below1 w _).trans (b1.mono (by simp))
  have R1 := Lib.hid r1
  have zq : w.heap.size < (w.alloc (.cells #[.slice none 0 0, .slice none 0 0, .int .i64 0] 26)).heap.size := by simp
  generalize (w.alloc (.cells #[.slice none 0 0, .slice none 0 0, .int .i64 0] 26)).heap.size = q at R1 zq
  have zq1 : q < w1.heap.size := R1.out.lt
  clear b1 r1
  go_wp2_with fail
  refine (mem_any q 0 14 _ R1.out (by omega) (by omega) (by omega)).mono ?_
  rintro e w2 ⟨A, n, c, R, k, d, M, fa, fr, rfl, hn, hk, i2, g2, n2, hs, o2, r2⟩
  have X2 := Lib.hid (X1.out.only o2 (by simp; omega))
  have B2 := Lib.hid (B1.out.trans (o2.below (B := w.heap.size) (fun b hb => by simp at hb; omega) B1.out.size))
  have HH : Hid (∀ (S : List Nat) (w' : World), Only S w2 w' → (∀ b ∈ S, b < w1.heap.size) → MemHere w' A n c R k d M) := fun S w' o h => here_only hn hk i2 g2 n2 hs o h
  have R2 := Lib.hid r2
  have ZW : Hid (w1.heap.size ≤ w2.heap.size) := o2.size
  clear i2 g2 n2 o2 r2 hs
  go_wp2_with fail
  have X3 := Lib.hid (X2.out.alloc (.cells #[.slice A n c, .slice R k d, .int .i64 M.bank] 26))
  have Y3 : Hid (Box (w2.alloc (.cells #[.slice A n c, .slice R k d, .int .i64 M.bank] 26)) w2.heap.size 26 [.slice A n c, .slice R k d, .int .i64 M.bank]) := Box.new w2 _ _
  have O3 : Hid (Only [q] w2 (w2.alloc (.cells #[.slice A n c, .slice R k d, .int .i64 M.bank] 26))) := (Only.refl _ w2).alloc _
  have R3 := Lib.hid (R2.out.alloc (.cells #[.slice A n c, .slice R k d, .int .i64 M.bank] 26))
  have z3 : w2.heap.size < (w2.alloc (.cells #[.slice A n c, .slice R k d, .int .i64 M.bank] 26)).heap.size := by simp
  have zw : w1.heap.size ≤ w2.heap.size := ZW.out
  generalize w2.alloc (.cells #[.slice A n c, .slice R k d, .int .i64 M.bank] 26) = w3 at X3 Y3 O3 R3 z3
  refine (place_any q (0 + 800) 14 _ R3.out (by omega) (by omega) (by omega)).mono ?_
  rintro e w5 ⟨x, x0, x1, rfl, o5, r5⟩
  have O5 := Lib.hid (O3.out.trans o5)
  have X5 := Lib.hid (X3.out.only o5 (by simp; omega))
  have Y5 := Lib.hid (Y3.out.only o5 (by simp; omega))
  have R5 := Lib.hid r5
  clear o5 r5
  go_wp2_with fail
  have c0 : w5.cell? ⟨w2.heap.size, 0, none⟩ = some (.slice A n c) := Y5.out.cell 0
  have c1 : w5.cell? ⟨w2.heap.size, 1, none⟩ = some (.slice R k d) := Y5.out.cell 1
  have c2 : w5.cell? ⟨w2.heap.size, 2, none⟩ = some (.int .i64 M.bank) := Y5.out.cell 2
  have RD : Hid (Rd w5.drew q (0 + 800 + 7)) := R5.out.stay (Below.refl _ _).drew
  go_region_with ((go_at_call 23; (with_reducible refine (byte_any q (0 + 800 + 7) 14 _ RD.out (by omega) (by omega) (by omega)).mono ?_); rintro e w4 ⟨v, v0, v1, rfl, s4, r4⟩; have O4 : Hid (Only [q] w2 w4) := O5.out.trans (show Only [q] w5 w4 from ⟨s4.only.os, s4.only.tape, s4.only.output, s4.only.size, s4.only.block⟩); have X4 := Lib.hid (X5.out.only (show Only [q] w5 w4 from ⟨s4.only.os, s4.only.tape, s4.only.output, s4.only.size, s4.only.block⟩) (by simp; omega)); have Y4 := Lib.hid (Y5.out.only (show Only [q] w5 w4 from ⟨s4.only.os, s4.only.tape, s4.only.output, s4.only.size, s4.only.block⟩) (by simp; omega)); have B4 : Hid (Below w.heap.size w w4) := B2.out.trans (O4.out.below (B := w.heap.size) (fun b hb => by simp at hb; omega) B2.out.size); have d0 : w4.cell? ⟨w2.heap.size, 0, none⟩ = some (.slice A n c) := Y4.out.cell 0; have d1 : w4.cell? ⟨w2.heap.size, 1, none⟩ = some (.slice R k d) := Y4.out.cell 1; have d2 : w4.cell? ⟨w2.heap.size, 2, none⟩ = some (.int .i64 M.bank) := Y4.out.cell 2; have e0 : w4.cell? ⟨w.heap.size, 0, none⟩ = some (.slice none 0 0) := X4.out.cell 0; have e1 : w4.cell? ⟨w.heap.size, 1, none⟩ = some (.slice none 0 0) := X4.out.cell 1; have e2 : w4.cell? ⟨w.heap.size, 2, none⟩ = some (.int .i64 0) := X4.out.cell 2; have g0 := X4.out.frozen 0; have g1 := X4.out.frozen 1; have g2 := X4.out.frozen 2; clear s4 r4))
  all_goals
    go_wp2
    refine bodyPost_ret (v := .tuple #[.agg #[.slice A n c, .slice R k d, .int .i64 M.bank], .int .i64 x, .int .i64 v]) (by simp [results, Try.results6, go_sem, e0, e1, e2]) rfl ?_
    exact ⟨A, n, c, R, k, d, M, x, v, x0, x1, v0, v1, rfl, HH.out [q, w.heap.size] _ ((((O4.out.mono (by simp)).setCell (.inl (by simp)) _).setCell (.inl (by simp)) _).setCell (.inl (by simp)) _) (by simp; omega), ((B4.out.setCell (show w.heap.size ≤ w.heap.size from Nat.le_refl _) _).setCell (show w.heap.size ≤ w.heap.size from Nat.le_refl _) _).setCell (show w.heap.size ≤ w.heap.size from Nat.le_refl _) _⟩
end Go.Proofs.Ytlfmagjgplijgaa
