/- Draws of memories, addresses and bytes for the laws. -/
import Derived.Test.YtbcibgfjdenheaaMemF
import Derived.Test.YtbcibgfjdenheaaRowIn
namespace Go.Proofs.Ytbcibgfjdenheaa
open Go.ChangeShapes Go.WideShapes Go.ChangeAt Go.RowKit

/-- A memory that lies here. -/
def MemHere (w : World) (A : Option Addr) (n c : Nat) (R : Option Addr) (k d : Nat) (M : Mem) : Prop := n ≤ c ∧ k ≤ d ∧ (∃ fa, Ints w A n M.ram fa) ∧ (∃ fr, Grid w R k M.rom fr) ∧ Small M 256
theorem MemHere.below {w w' : World} {A : Option Addr} {n c : Nat} {R : Option Addr} {k d : Nat} {M : Mem} (h : MemHere w A n c R k d M) (b : Below w.heap.size w w') : MemHere w' A n c R k d M := by
  obtain ⟨h1, h2, ⟨fa, h3⟩, ⟨fr, h4⟩, h5⟩ := h
  exact ⟨h1, h2, ⟨fa, h3.below b⟩, ⟨fr, h4.below b⟩, h5⟩
theorem MemHere.drew {w : World} {A : Option Addr} {n c : Nat} {R : Option Addr} {k d : Nat} {M : Mem} (h : MemHere w A n c R k d M) (m : Nat) : MemHere (w.drewN m) A n c R k d M := h.below (below_drewN (Below.refl _ w) m)
theorem MemHere.ram_len {w : World} {A : Option Addr} {n c : Nat} {R : Option Addr} {k d : Nat} {M : Mem} (h : MemHere w A n c R k d M) : M.ram.length = n ∧ n ≤ 256 := by
  obtain ⟨_, _, ⟨fa, h3⟩, _, h5⟩ := h
  exact ⟨h3.1, by rw [← h3.1]; exact h5.ram⟩
theorem MemHere.rom_len {w : World} {A : Option Addr} {n c : Nat} {R : Option Addr} {k d : Nat} {M : Mem} (h : MemHere w A n c R k d M) : M.rom.length = k ∧ k ≤ 256 := by
  obtain ⟨_, _, _, ⟨fr, h4⟩, h5⟩ := h
  exact ⟨h4.len, by rw [← h4.len]; exact h5.rom⟩
/-- What drawing a memory leaves, with more results behind it. -/
def MemGot (w : World) (e : Ending) (w' : World) : Prop := ∃ (A : Option Addr) (n c : Nat) (R : Option Addr) (k d : Nat) (M : Mem), e = .returned (.agg #[.slice A n c, .slice R k d, .int .i64 M.bank]) ∧ MemHere w' A n c R k d M ∧ Below w.heap.size w w'
def MemGot1 (w : World) (e : Ending) (w' : World) : Prop := ∃ (A : Option Addr) (n c : Nat) (R : Option Addr) (k d : Nat) (M : Mem) (x : Int), -1 ≤ x ∧ x ≤ 1024 ∧ e = .returned (.tuple #[.agg #[.slice A n c, .slice R k d, .int .i64 M.bank], .int .i64 x]) ∧ MemHere w' A n c R k d M ∧ Below w.heap.size w w'
def MemGot2 (w : World) (e : Ending) (w' : World) : Prop := ∃ (A : Option Addr) (n c : Nat) (R : Option Addr) (k d : Nat) (M : Mem) (x y : Int), -1 ≤ x ∧ x ≤ 1024 ∧ -1 ≤ y ∧ y ≤ 256 ∧ e = .returned (.tuple #[.agg #[.slice A n c, .slice R k d, .int .i64 M.bank], .int .i64 x, .int .i64 y]) ∧ MemHere w' A n c R k d M ∧ Below w.heap.size w w'
/-- A memory in new memory stays where only older blocks change. -/
theorem here_only {S : List Nat} {w w' : World} {A : Option Addr} {n c : Nat} {R : Option Addr} {k d : Nat} {M : Mem} {fa fr : List Nat} {L : Nat} (hn : n ≤ c) (hk : k ≤ d) (hi : Ints w A n M.ram fa) (hg : Grid w R k M.rom fr) (hw : New L w (fa ++ fr)) (hs : Small M 256) (o : Only S w w') (hS : ∀ b ∈ S, b < L) : MemHere w' A n c R k d M := by
  have sm : Same (fa ++ fr) w w' := .of_only o fun b hb hx => by have := (hw.lt b hb).1; have := hS b hx; omega
  exact ⟨hn, hk, ⟨fa, hi.keep (sm.sub fun x hx => List.mem_append_left _ hx)⟩, ⟨fr, hg.keep (sm.sub fun x hx => List.mem_append_right _ hx)⟩, hs⟩
end Go.Proofs.Ytbcibgfjdenheaa
