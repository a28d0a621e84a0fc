/- The laws' own functions on machines: counted, copied, compared, written and looked through again. -/
import Derived.Test.YtnfphdpoimjcmaaMemE
import Derived.Test.YtnfphdpoimjcmaaMchMath
namespace Go.Proofs.Ytnfphdpoimjcmaa
open Go.ChangeShapes Go.WideShapes Go.ChangeAt Go.RowKit

/-- What lies behind the slices of a machine. -/
structure MHas (w : World) (A : Option Addr) (n : Nat) (R : Option Addr) (k : Nat) (B : Option Addr) (m : Nat) (X : Mach) (fa fr fb : List Nat) : Prop where
  ram : Ints w A n X.mem.ram fa
  rom : Grid w R k X.mem.rom fr
  back : Ints w B m X.back fb
theorem MHas.below {w w' : World} {A : Option Addr} {n : Nat} {R : Option Addr} {k : Nat} {B : Option Addr} {m : Nat} {X : Mach} {fa fr fb : List Nat} (h : MHas w A n R k B m X fa fr fb) (b : Below w.heap.size w w') : MHas w' A n R k B m X fa fr fb :=
  ⟨h.ram.below b, h.rom.below b, h.back.below b⟩
theorem MHas.keep {w w' : World} {A : Option Addr} {n : Nat} {R : Option Addr} {k : Nat} {B : Option Addr} {m : Nat} {X : Mach} {fa fr fb : List Nat} (h : MHas w A n R k B m X fa fr fb) (b : Same (fa ++ fr ++ fb) w w') : MHas w' A n R k B m X fa fr fb :=
  ⟨h.ram.keep (b.sub fun x hx => by simp [hx]), h.rom.keep (b.sub fun x hx => by simp [hx]), h.back.keep (b.sub fun x hx => by simp [hx])⟩
/-- No list of the machine is too long. -/
structure Fits (X : Mach) (N : Nat) : Prop where
  ram : X.mem.ram.length ≤ N
  rom : X.mem.rom.length ≤ N
  row : ∀ i, (X.mem.rom.getD i []).length ≤ N
  back : X.back.length ≤ N
theorem Fits.n {w : World} {A : Option Addr} {n : Nat} {R : Option Addr} {k : Nat} {B : Option Addr} {m : Nat} {X : Mach} {fa fr fb : List Nat} {N : Nat} (f : Fits X N) (h : MHas w A n R k B m X fa fr fb) : n ≤ N := by have := h.ram.1; have := f.ram; omega
theorem Fits.k {w : World} {A : Option Addr} {n : Nat} {R : Option Addr} {k : Nat} {B : Option Addr} {m : Nat} {X : Mach} {fa fr fb : List Nat} {N : Nat} (f : Fits X N) (h : MHas w A n R k B m X fa fr fb) : k ≤ N := by have := h.rom.len; have := f.rom; omega
theorem Fits.m {w : World} {A : Option Addr} {n : Nat} {R : Option Addr} {k : Nat} {B : Option Addr} {m : Nat} {X : Mach} {fa fr fb : List Nat} {N : Nat} (f : Fits X N) (h : MHas w A n R k B m X fa fr fb) : m ≤ N := by have := h.back.1; have := f.back; omega
theorem fits_mono {X : Mach} {N N' : Nat} (f : Fits X N) (h : N ≤ N') : Fits X N' := ⟨Nat.le_trans f.ram h, Nat.le_trans f.rom h, fun i => Nat.le_trans (f.row i) h, Nat.le_trans f.back h⟩
theorem fits_good {X : Mach} {C : Int} (g : GoodX X C) : Fits X 256 := by
  have s := small_of g.mem
  exact ⟨s.ram, s.rom, s.row, by have := g.len; omega⟩
theorem fits_Z (N : Nat) : Fits machZ N := ⟨by simp [machZ, memZ], by simp [machZ, memZ], fun i => by simp [machZ, memZ], by simp [machZ]⟩
/-- A machine in new memory of its own. -/
def MachNew (X : Mach) (w : World) (e : Ending) (w' : World) : Prop :=
  ∃ (A : Option Addr) (n c : Nat) (R : Option Addr) (k d : Nat) (B : Option Addr) (m g : Nat) (fa fr fb : List Nat), e = .returned (.agg #[.slice A n c, .slice R k d, .int .i64 X.mem.bank, .int .i64 X.a, .int .i64 X.at_, .bool X.carry, .slice B m g, .bool X.stop, .int .i64 X.cyc]) ∧ (n ≤ c ∧ k ≤ d ∧ m ≤ g) ∧ MHas w' A n R k B m X fa fr fb ∧ New w.heap.size w' (fa ++ fr ++ fb) ∧ Below w.heap.size w w'
end Go.Proofs.Ytnfphdpoimjcmaa
