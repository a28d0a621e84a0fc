/- Machines that the laws draw. -/
import Derived.Test.YtcapfafglikcmaaDoorMacD
import Derived.Test.YtcapfafglikcmaaDoorKJ
import Derived.Test.YtcapfafglikcmaaDoorMchA
import Derived.Test.YtcapfafglikcmaaDoorMchB
namespace Go.Proofs.YtcapfafglikcmaaDoor
open Go.ChangeShapes Go.WideShapes Go.ChangeAt Go.RowKit
set_option linter.unusedVariables false

/-- A machine that lies here. -/
def MacHere (w : World) (A : Option Addr) (n c : Nat) (R : Option Addr) (k d : Nat) (B : Option Addr) (m g : Nat) (X : Mach) : Prop := (n ≤ c ∧ k ≤ d ∧ m ≤ g) ∧ (∃ fa fr fb, MHas w A n R k B m X fa fr fb) ∧ Fits X 256
theorem MacHere.below {w w' : World} {A : Option Addr} {n c : Nat} {R : Option Addr} {k d : Nat} {B : Option Addr} {m g : Nat} {X : Mach} (h : MacHere w A n c R k d B m g X) (b : Below w.heap.size w w') : MacHere w' A n c R k d B m g X := by
  obtain ⟨h1, ⟨fa, fr, fb, h2⟩, h3⟩ := h
  exact ⟨h1, ⟨fa, fr, fb, h2.below b⟩, h3⟩
def MacGot (w : World) (e : Ending) (w' : World) : Prop := ∃ (A : Option Addr) (n c : Nat) (R : Option Addr) (k d : Nat) (B : Option Addr) (m g : Nat) (X : Mach), e = .returned (.agg #[.slice A n c, .slice R k d, .int .i64 X.mem.bank, .int .i64 X.a, .int .i64 X.at_, .bool X.carry, .slice B m g, .bool X.stop, .int .i64 X.cyc]) ∧ MacHere w' A n c R k d B m g X ∧ Below w.heap.size w w' ∧ X.cyc ≤ 99
theorem here_mac {w w' : World} {A : Option Addr} {n c : Nat} {R : Option Addr} {k d : Nat} {B : Option Addr} {m g : Nat} {X : Mach} {fa fr fb : List Nat} {L : Nat} {S : List Nat} (hc : n ≤ c ∧ k ≤ d ∧ m ≤ g) (h : MHas w A n R k B m X fa fr fb) (nw : New L w (fa ++ fr ++ fb)) (f : Fits X 256) (o : Only S w w') (hS : ∀ b ∈ S, b < L) : MacHere w' A n c R k d B m g X :=
  ⟨hc, ⟨fa, fr, fb, h.keep (.of_only o fun b hb hx => by have := (nw.lt b hb).1; have := hS b hx; omega)⟩, f⟩
/-- A machine's valid test, of the program and of the model. -/
theorem mac_impl {w : World} {A : Option Addr} {n c : Nat} {R : Option Addr} {k d : Nat} {B : Option Addr} {m g : Nat} {X : Mach} (h : MacHere w A n c R k d B m g X) : Calls Tryd.prog 13 #[.agg #[.slice A n c, .slice R k d, .int .i64 X.mem.bank, .int .i64 X.a, .int .i64 X.at_, .bool X.carry, .slice B m g, .bool X.stop, .int .i64 X.cyc]] w fun e w' => e = .returned (.bool (machB X)) ∧ Below w.heap.size w w' := by
  obtain ⟨_, ⟨fa, fr, fb, hh⟩, f⟩ := h
  exact impl_machValid A c R d B g n k m X fa fr fb w hh (fits_mono f (by omega))
theorem mac_spec {w : World} {A : Option Addr} {n c : Nat} {R : Option Addr} {k d : Nat} {B : Option Addr} {m g : Nat} {X : Mach} (h : MacHere w A n c R k d B m g X) : Calls Tryd.prog 12 #[.agg #[.slice A n c, .slice R k d, .int .i64 X.mem.bank, .int .i64 X.a, .int .i64 X.at_, .bool X.carry, .slice B m g, .bool X.stop, .int .i64 X.cyc]] w fun e w' => e = .returned (.bool (machB X)) ∧ Below w.heap.size w w' := by
  obtain ⟨_, ⟨fa, fr, fb, hh⟩, f⟩ := h
  exact spec_machValid A c R d B g n k m X fa fr fb w hh (fits_mono f (by omega))
set_option maxHeartbeats 4000000 in
theorem draw_macStep (a : Option Addr) (len cap : Nat) (zs : List Int) (w : World) (h : IsRow .u8 w a len cap zs) :
    Calls Tryd.prog 7 #[.slice a len cap] w (MacGot w) := by
  obtain ⟨w0, hw0⟩ : ∃ w0, w0 = w.alloc (.cells #[.slice none 0 0, .slice none 0 0, .int .i64 0, .int .i64 0, .int .i64 0, .bool false, .slice none 0 0, .bool false, .int .i64 0] 28) := ⟨_, rfl⟩
  have H : Hid (IsRow .u8 w0 a len cap zs) := by rw [hw0]; exact isRow_stays h (below1 w _)
  have X0 : Hid (Box w0 w.heap.size 28 [.slice none 0 0, .slice none 0 0, .int .i64 0, .int .i64 0, .int .i64 0, .bool false, .slice none 0 0, .bool false, .int .i64 0]) := by rw [hw0]; exact Box.new w _ _
  have B0 : Hid (Below w.heap.size w w0) := by rw [hw0]; exact below1 w _
  clear h
  go_enter Tryd.func7, Tryd.ntmps7
  go_wp2_with fail
  rw [← hw0]
  clear hw0
  refine (open_any a len cap zs _ H.out).mono ?_
  rintro e w1 ⟨rfl, b1, r1⟩
  have X1 := Lib.hid (X0.out.below b1)
  have B1 := Lib.hid (B0.out.trans (b1.mono B0.out.size))
  have R1 := Lib.hid r1
  have zq : w.heap.size < w0.heap.size := X0.out.lt
  generalize w0.heap.size = q at R1 zq
  have zq1 : q < w1.heap.size := R1.out.lt
  clear b1 r1 H X0 B0
  go_wp2_with fail
  refine (mach_any q 0 14 _ R1.out (by omega) (by omega) (by omega)).mono ?_
  rintro e w2 ⟨A, n, c, R, k, d, B, m, g, X, fa, fr, fb, rfl, hc, hh, nw, ⟨hf, hy⟩, o2, r2⟩
  have X2 := Lib.hid (X1.out.only o2 (by simp; omega))
  have B2 := Lib.hid (B1.out.trans (o2.below (B := w.heap.size) (fun b hb => by simp at hb; omega) B1.out.size))
  have HH : Hid (∀ w', Only [w.heap.size] w2 w' → MacHere w' A n c R k d B m g X) := fun w' o => here_mac hc hh nw hf o (by simp; omega)
  clear hc hh nw o2 r2
  have e0 : w2.cell? ⟨w.heap.size, 0, none⟩ = some (.slice none 0 0) := X2.out.cell 0
  have f0 := X2.out.frozen 0
  have e1 : w2.cell? ⟨w.heap.size, 1, none⟩ = some (.slice none 0 0) := X2.out.cell 1
  have f1 := X2.out.frozen 1
  have e2 : w2.cell? ⟨w.heap.size, 2, none⟩ = some (.int .i64 0) := X2.out.cell 2
  have f2 := X2.out.frozen 2
  have e3 : w2.cell? ⟨w.heap.size, 3, none⟩ = some (.int .i64 0) := X2.out.cell 3
  have f3 := X2.out.frozen 3
  have e4 : w2.cell? ⟨w.heap.size, 4, none⟩ = some (.int .i64 0) := X2.out.cell 4
  have f4 := X2.out.frozen 4
  have e5 : w2.cell? ⟨w.heap.size, 5, none⟩ = some (.bool false) := X2.out.cell 5
  have f5 := X2.out.frozen 5
  have e6 : w2.cell? ⟨w.heap.size, 6, none⟩ = some (.slice none 0 0) := X2.out.cell 6
  have f6 := X2.out.frozen 6
  have e7 : w2.cell? ⟨w.heap.size, 7, none⟩ = some (.bool false) := X2.out.cell 7
  have f7 := X2.out.frozen 7
  have e8 : w2.cell? ⟨w.heap.size, 8, none⟩ = some (.int .i64 0) := X2.out.cell 8
  have f8 := X2.out.frozen 8
  go_wp2_with fail
  refine bodyPost_ret (v := .agg #[.slice A n c, .slice R k d, .int .i64 X.mem.bank, .int .i64 X.a, .int .i64 X.at_, .bool X.carry, .slice B m g, .bool X.stop, .int .i64 X.cyc]) (by simp [results, Tryd.results7, go_sem, e0, e1, e2, e3, e4, e5, e6, e7, e8]) rfl ?_
  exact ⟨A, n, c, R, k, d, B, m, g, X, rfl, HH.out _ ((((((((((Only.refl _ w2).setCell (.inl (by simp)) _).setCell (.inl (by simp)) _).setCell (.inl (by simp)) _).setCell (.inl (by simp)) _).setCell (.inl (by simp)) _).setCell (.inl (by simp)) _).setCell (.inl (by simp)) _).setCell (.inl (by simp)) _).setCell (.inl (by simp)) _), (((((((((B2.out.setCell (Nat.le_refl _) _).setCell (Nat.le_refl _) _).setCell (Nat.le_refl _) _).setCell (Nat.le_refl _) _).setCell (Nat.le_refl _) _).setCell (Nat.le_refl _) _).setCell (Nat.le_refl _) _).setCell (Nat.le_refl _) _).setCell (Nat.le_refl _) _), hy⟩
end Go.Proofs.YtcapfafglikcmaaDoor
