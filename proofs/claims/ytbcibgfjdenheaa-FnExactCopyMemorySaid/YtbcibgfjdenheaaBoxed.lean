/- A memory in a variable of the walk's own: its block q, and its own blocks between lo and hi. -/
import Derived.Test.YtbcibgfjdenheaaOpenM
namespace Go.Proofs.Ytbcibgfjdenheaa
open Go.ChangeShapes Go.WideShapes Go.ChangeAt Go.RowKit

structure MB (w : World) (q : Nat) (A : Option Addr) (n c : Nat) (R : Option Addr) (k d : Nat) (M : Mem) (fa fr : List Nat) (lo hi : Nat) : Prop where
  box : Box w q 26 [.slice A n c, .slice R k d, .int .i64 M.bank]
  ram : Ints w A n M.ram fa
  rom : Grid w R k M.rom fr
  new : New lo w (fa ++ fr)
  span : ∀ b ∈ fa ++ fr, lo ≤ b ∧ b < hi
  at_ : q = hi
theorem MB.below {w w' : World} {q : Nat} {A : Option Addr} {n c : Nat} {R : Option Addr} {k d : Nat} {M : Mem} {fa fr : List Nat} {lo hi : Nat} (h : MB w q A n c R k d M fa fr lo hi) (b : Below w.heap.size w w') : MB w' q A n c R k d M fa fr lo hi :=
  ⟨h.box.below b, h.ram.below b, h.rom.below b, h.new.keep (.of_below b), h.span, h.at_⟩
theorem MB.only {S : List Nat} {w w' : World} {q : Nat} {A : Option Addr} {n c : Nat} {R : Option Addr} {k d : Nat} {M : Mem} {fa fr : List Nat} {lo hi l u : Nat} (h : MB w q A n c R k d M fa fr lo hi) (o : Only S w w') (hS : ∀ b ∈ S, l ≤ b ∧ b < u) (hd : hi < l ∨ u ≤ lo) (hl : lo ≤ hi) : MB w' q A n c R k d M fa fr lo hi := by
  have hq := h.at_
  have d1 : ∀ x ∈ fa ++ fr, x ∉ S := fun x hx hs => by have := h.span x hx; have := hS x hs; omega
  have s : Same (fa ++ fr) w w' := .of_only o d1
  exact ⟨h.box.only o (fun hs => by have := hS q hs; omega), h.ram.keep (s.sub fun x hx => List.mem_append_left _ hx), h.rom.keep (s.sub fun x hx => List.mem_append_right _ hx), h.new.keep s, h.span, h.at_⟩
/-- A memory that a call has made, laid into a new variable. -/
theorem MB.new_ {w w' : World} {A : Option Addr} {n c : Nat} {R : Option Addr} {k d : Nat} {M : Mem} {fa fr : List Nat} (hi : Ints w' A n M.ram fa) (hg : Grid w' R k M.rom fr) (hn : New w.heap.size w' (fa ++ fr)) :
    MB (w'.alloc (.cells #[.slice A n c, .slice R k d, .int .i64 M.bank] 26)) w'.heap.size A n c R k d M fa fr w.heap.size w'.heap.size :=
  ⟨Box.new w' _ _, hi.below (below1 w' _), hg.below (below1 w' _), hn.keep (.of_below (below1 w' _)), hn.lt, rfl⟩
theorem sum_small {M : Mem} {N : Nat} (h : Small M N) (hN : N ≤ 1000) : sumLen M.rom ≤ 1000000 := by
  have key : ∀ i, i ≤ M.rom.length → sumLen (M.rom.take i) ≤ i * N := by
    intro i
    induction i with
    | zero => intro _; simp [sumLen]
    | succ i ih =>
      intro hi
      rw [sumLen_take _ _ (by omega), Nat.succ_mul]
      have := ih (by omega)
      have := h.row i
      omega
  have e := key M.rom.length (Nat.le_refl _)
  rw [List.take_of_length_le (Nat.le_refl _)] at e
  have h2 := Nat.mul_le_mul h.rom (Nat.le_refl N)
  have h3 := Nat.mul_le_mul hN hN
  have := Nat.le_trans e (Nat.le_trans h2 h3)
  omega
end Go.Proofs.Ytbcibgfjdenheaa
