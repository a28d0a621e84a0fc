/- A machine in a variable of the walk's own: its block q, and its own blocks between lo and hi; and what a size bounds. -/
import Derived.Test.YtgciaafapbaliaaOpenX
import Derived.Test.YtgciaafapbaliaaBoxed
import Derived.Test.YtgciaafapbaliaaMchK
namespace Go.Proofs.Ytgciaafapbaliaa
open Go.ChangeShapes Go.WideShapes Go.ChangeAt Go.RowKit

structure XB (w : World) (q : Nat) (A : Option Addr) (c : Nat) (R : Option Addr) (d : Nat) (B : Option Addr) (g : Nat) (n k m : Nat) (X : Mach) (fa fr fb : List Nat) (lo hi : Nat) : Prop where
  box : Box w q 28 [.slice A n c, .slice R k d, .int .i64 X.mem.bank, .int .i64 X.a, .int .i64 X.at_, .bool X.carry, .slice B m g, .bool X.stop, .int .i64 X.cyc]
  has : MHas w A n R k B m X fa fr fb
  new : New lo w (fa ++ fr ++ fb)
  span : ∀ b ∈ fa ++ fr ++ fb, lo ≤ b ∧ b < hi
  at_ : q = hi
theorem XB.below {w w' : World} {q : Nat} {A : Option Addr} {c : Nat} {R : Option Addr} {d : Nat} {B : Option Addr} {g : Nat} {n k m : Nat} {X : Mach} {fa fr fb : List Nat} {lo hi : Nat} (h : XB w q A c R d B g n k m X fa fr fb lo hi) (b : Below w.heap.size w w') : XB w' q A c R d B g n k m X fa fr fb lo hi :=
  ⟨h.box.below b, h.has.below b, h.new.keep (.of_below b), h.span, h.at_⟩
theorem XB.only {S : List Nat} {w w' : World} {q : Nat} {A : Option Addr} {c : Nat} {R : Option Addr} {d : Nat} {B : Option Addr} {g : Nat} {n k m : Nat} {X : Mach} {fa fr fb : List Nat} {lo hi l u : Nat} (h : XB w q A c R d B g n k m X fa fr fb lo hi) (o : Only S w w') (hS : ∀ b ∈ S, l ≤ b ∧ b < u) (hd : hi < l ∨ u ≤ lo) (hl : lo ≤ hi) : XB w' q A c R d B g n k m X fa fr fb lo hi := by
  have hq := h.at_
  have d1 : ∀ x ∈ fa ++ fr ++ fb, x ∉ S := fun x hx hs => by have := h.span x hx; have := hS x hs; omega
  have s : Same (fa ++ fr ++ fb) w w' := .of_only o d1
  exact ⟨h.box.only o (fun hs => by have := hS q hs; omega), h.has.keep s, h.new.keep s, h.span, h.at_⟩
/-- A machine that a call has made, laid into a new variable. -/
theorem XB.new_ {w w' : World} {A : Option Addr} {c : Nat} {R : Option Addr} {d : Nat} {B : Option Addr} {g : Nat} {n k m : Nat} {X : Mach} {fa fr fb : List Nat} (hh : MHas w' A n R k B m X fa fr fb) (hn : New w.heap.size w' (fa ++ fr ++ fb)) :
    XB (w'.alloc (.cells #[.slice A n c, .slice R k d, .int .i64 X.mem.bank, .int .i64 X.a, .int .i64 X.at_, .bool X.carry, .slice B m g, .bool X.stop, .int .i64 X.cyc] 28)) w'.heap.size A c R d B g n k m X fa fr fb w.heap.size w'.heap.size :=
  ⟨Box.new w' _ _, hh.below (below1 w' _), hn.keep (.of_below (below1 w' _)), hn.lt, rfl⟩
theorem fits_sum {X : Mach} (f : Fits X 256) : sumLen X.mem.rom ≤ 1000000 := sum_small (M := X.mem) (N := 256) ⟨f.ram, f.rom, f.row⟩ (by omega)
theorem fits_sz {w : World} {A : Option Addr} {n : Nat} {R : Option Addr} {k : Nat} {B : Option Addr} {m : Nat} {X : Mach} {fa fr fb : List Nat} (h : MHas w A n R k B m X fa fr fb) {sv : Int} (h0 : 0 ≤ sv) (hv : sv = 1048576 - n - k - sumLen X.mem.rom - m) : Fits X 1048576 ∧ sumLen X.mem.rom ≤ 1048576 := by
  refine ⟨⟨by have := h.ram.1; omega, by have := h.rom.len; omega, fun i => by have := sumLen_row X.mem.rom i; omega, by have := h.back.1; omega⟩, by omega⟩
end Go.Proofs.Ytgciaafapbaliaa
