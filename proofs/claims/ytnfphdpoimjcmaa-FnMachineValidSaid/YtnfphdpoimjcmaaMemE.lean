/- The laws' own functions on memories: counted, copied, compared, written and looked through again. -/
import Derived.Test.YtnfphdpoimjcmaaSliceK
import Derived.Test.YtnfphdpoimjcmaaMemMath
namespace Go.Proofs.Ytnfphdpoimjcmaa
open Go.ChangeShapes Go.WideShapes Go.ChangeAt Go.RowKit

/-- A memory in new memory of its own. -/
def MemNew (M : Mem) (w : World) (e : Ending) (w' : World) : Prop :=
  ∃ (A : Option Addr) (n c : Nat) (R : Option Addr) (k d : Nat) (fa fr : List Nat), e = .returned (.agg #[.slice A n c, .slice R k d, .int .i64 M.bank]) ∧ n ≤ c ∧ k ≤ d ∧ Ints w' A n M.ram fa ∧ Grid w' R k M.rom fr ∧ New w.heap.size w' (fa ++ fr) ∧ Below w.heap.size w w'
/-- What counting a memory leaves. -/
def SizedM (n k : Nat) (M : Mem) (left : Int) (w : World) (e : Ending) (w' : World) : Prop :=
  ∃ v : Int, e = .returned (.int .i64 v) ∧ Below w.heap.size w w' ∧ (v < 0 ∨ (0 ≤ v ∧ v = left - n - k - sumLen M.rom))
theorem mem_new_end {w w1 w2 w3 : World} {M : Mem} {A : Option Addr} {n c : Nat} {R : Option Addr} {k d : Nat} {fp fq S : List Nat} {L : Nat} (i : Ints w1 A n M.ram fp) (n1 : New L w1 fp) (g : Grid w2 R k M.rom fq) (n2 : New w1.heap.size w2 fq) (o12 : Only S w1 w2) (o23 : Only S w2 w3)
    (hS : ∀ b ∈ S, b < L) (hL : w.heap.size ≤ L) (hL1 : L ≤ w1.heap.size) (b : Below w.heap.size w w3) (hc : n ≤ c) (hd : k ≤ d) : MemNew M w (.returned (.agg #[.slice A n c, .slice R k d, .int .i64 M.bank])) w3 := by
  have d1 : ∀ b ∈ fp, b ∉ S := fun x hx hs => by have := hS x hs; have := (n1.lt x hx).1; omega
  have d2 : ∀ b ∈ fq, b ∉ S := fun x hx hs => by have := hS x hs; have := (n2.lt x hx).1; omega
  have s1 : Same fp w1 w3 := .of_only (o12.trans o23) d1
  have s2 : Same fq w2 w3 := .of_only o23 d2
  refine ⟨A, n, c, R, k, d, fp, fq, rfl, hc, hd, i.keep s1, g.keep s2, ((n1.mono hL).keep s1).append ((n2.mono (Nat.le_trans hL hL1)).keep s2) (fun x hx hy => ?_), b⟩
  have := (n1.lt x hx).2
  have := (n2.lt x hy).1
  omega
/-- The rows were made first, then the working memory; then block q, before both, was written. -/
theorem mem_new_rows {w wr w1 : World} {M : Mem} {A : Option Addr} {n c : Nat} {R : Option Addr} {k d : Nat} {fp fq : List Nat} {q L : Nat} (g : Grid wr R k M.rom fq) (n2 : New L wr fq) (i : Ints w1 A n M.ram fp) (n1 : New wr.heap.size w1 fp) (b : Below wr.heap.size wr w1)
    (hq : q < L) (hc : n ≤ c) (hd : k ≤ d) (hw : w.heap.size ≤ L) (hL : L ≤ wr.heap.size) : ∀ w3, Only [q] w1 w3 → Below w.heap.size w w3 → MemNew M w (.returned (.agg #[.slice A n c, .slice R k d, .int .i64 M.bank])) w3 := by
  intro w3 o3 b3
  have d1 : ∀ x ∈ fp, x ∉ [q] := fun x hx hs => by have := (n1.lt x hx).1; simp at hs; omega
  have d2 : ∀ x ∈ fq, x ∉ [q] := fun x hx hs => by have := (n2.lt x hx).1; simp at hs; omega
  have s1 : Same fp w1 w3 := .of_only o3 d1
  have s2 : Same fq wr w3 := .of_only ((Only.of_below b).trans o3) d2
  refine ⟨A, n, c, R, k, d, fp, fq, rfl, hc, hd, i.keep s1, g.keep s2, ((n1.mono (by omega)).keep s1).append ((n2.mono hw).keep s2) (fun x hx hy => ?_), b3⟩
  have := (n1.lt x hx).1
  have := (n2.lt x hy).2
  omega
/-- What writing numbers in order into a memory leaves. -/
def MarkedM (A : Option Addr) (n : Nat) (R : Option Addr) (k : Nat) (q : Int) (M : Mem) (fa fr : List Nat) (w : World) (e : Ending) (w' : World) : Prop :=
  ∃ rs' : List (List Int), e = .returned (.int .i64 (q + n + sumLen M.rom)) ∧ Only (fa ++ fr) w w' ∧ Ints w' A n (upFrom q n) fa ∧ Grid w' R k rs' fr ∧ Marked (q + n) rs' ∧ rs'.map List.length = M.rom.map List.length
end Go.Proofs.Ytnfphdpoimjcmaa
