/- Contracts of the model's functions on memory (chapter 2): a copy. -/
import Derived.Test.YtgciaafapbaliaaMemT
import Derived.Deep.DeepCutAuto
namespace Go.Proofs.Ytgciaafapbaliaa
open Go.ChangeShapes Go.WideShapes Go.ChangeAt Go.RowKit

/-- What the copy has come to: the working memory is copied, j rows are. -/
structure CopyIn (w wr : World) (q L : Nat) (A1 : Option Addr) (n d1 : Nat) (M : Mem) (fp : List Nat) (bx : List Value) (j : Nat) (v : Value) (D : List Row) : Prop where
  grow : Grow wr L M.rom j v D
  top : L ≤ wr.heap.size
  ram : Ints wr A1 n M.ram fp
  cap : n ≤ d1
  new : New (w.heap.size + 1 + 1) wr fp
  lt : ∀ b ∈ fp, b < L
  off : q ∉ fp
  lo : w.heap.size + 1 + 1 ≤ q ∧ q < L
  below : Below w.heap.size w wr
  x0 : Box wr w.heap.size 26 bx
  x1 : Box wr (w.heap.size + 1) 26 [.slice none 0 0, .slice none 0 0, .int .i64 0]
  xq : Box wr q 26 [.slice A1 n d1, v, .int .i64 M.bank]
theorem copy_round {w wr w2 : World} {q L : Nat} {A1 : Option Addr} {n d1 : Nat} {M : Mem} {fp : List Nat} {bx : List Value} {k j : Nat} {v v' : Value} {D D' : List Row} (hj : j < k) (h : CopyIn w wr q L A1 n d1 M fp bx j v D) (gn : Grow w2 L M.rom (j + 1) v' D') (b2 : Below L wr w2) :
    ∃ (i : Nat) (u : Value) (E : List Row), i ≤ k ∧ Value.int .i64 ((j : Int) + 1) = .int .i64 i ∧ CopyIn w (w2.setCell ⟨q, 1, none⟩ v') q L A1 n d1 M fp bx i u E := by
  have o : Only [q] w2 (w2.setCell ⟨q, 1, none⟩ v') := (Only.refl _ w2).setCell (.inl (by simp)) _
  have lo := h.lo
  have tp := h.top
  have s2 := b2.size
  have s : Same fp wr (w2.setCell ⟨q, 1, none⟩ v') := ⟨by simpa using b2.size, fun b hb _ => (o.block b (by have := h.lt b hb; omega) (fun e => by simp at e; subst e; exact h.off hb)).trans (b2.block b (h.lt b hb))⟩
  exact ⟨j + 1, v', D', by omega, by go_num, gn.only o (by simp; omega), by simp; omega, h.ram.keep s, h.cap, h.new.keep s, h.lt, h.off, lo, (h.below.trans (b2.mono (by omega))).setCell (by simp; omega) _, (h.x0.keep b2 (by omega)).far (by omega) _, (h.x1.keep b2 (by omega)).far (by omega) _, (h.xq.keep b2 (by omega)).set 1 _⟩
/-- The working memory was copied (into w1), and block q was laid for the copy: behind the append, or ahead of it. -/
theorem copy_after {w W w1 : World} {A1 : Option Addr} {n d1 : Nat} {M : Mem} {fp : List Nat} {bx : List Value} (hi : Ints w1 A1 n M.ram fp) (hn : New W.heap.size w1 fp) (hd : n ≤ d1) (b1 : Below W.heap.size W w1) (B0 : Below w.heap.size w W) (zW : w.heap.size + 1 < W.heap.size) (X0 : Box W w.heap.size 26 bx) (X1 : Box W (w.heap.size + 1) 26 [.slice none 0 0, .slice none 0 0, .int .i64 0]) :
    CopyIn w (w1.alloc (.cells #[.slice A1 n d1, .slice none 0 0, .int .i64 M.bank] 26)) w1.heap.size (w1.heap.size + 1) A1 n d1 M fp bx 0 (.slice none 0 0) [] := by
  have s1 := b1.size
  have k1 := below1 w1 (.cells #[.slice A1 n d1, .slice none 0 0, .int .i64 M.bank] 26)
  refine ⟨Grow.none_ _ _ _, by simp, hi.below k1, hd, (hn.mono (by omega)).keep (.of_below k1), fun b hb => by have := (hn.lt b hb).2; omega, fun hb => by have := (hn.lt _ hb).2; omega, by omega, ((B0.trans (b1.mono B0.size)).alloc (by omega) _), (X0.below b1).alloc _, (X1.below b1).alloc _, Box.new w1 _ _⟩
theorem copy_before {w W w1 : World} {q : Nat} {A1 : Option Addr} {n d1 : Nat} {M : Mem} {fp : List Nat} {bx : List Value} (hi : Ints w1 A1 n M.ram fp) (hn : New W.heap.size w1 fp) (hq : q ∉ fp) (hd : n ≤ d1) (b1 : Below W.heap.size W w1) (B0 : Below w.heap.size w W) (zW : w.heap.size + 1 < W.heap.size) (X0 : Box W w.heap.size 26 bx) (X1 : Box W (w.heap.size + 1) 26 [.slice none 0 0, .slice none 0 0, .int .i64 0])
    (hqW : W.heap.size ≤ q) (xq : Box w1 q 26 [.slice none 0 0, .slice none 0 0, .int .i64 0]) :
    CopyIn w (((w1.setCell ⟨q, 0, none⟩ (.slice A1 n d1)).setCell ⟨q, 1, none⟩ (.slice none 0 0)).setCell ⟨q, 2, none⟩ (.int .i64 M.bank)) q w1.heap.size A1 n d1 M fp bx 0 (.slice none 0 0) [] := by
  have s1 := b1.size
  have lq := xq.lt
  have o : Only [q] w1 (((w1.setCell ⟨q, 0, none⟩ (.slice A1 n d1)).setCell ⟨q, 1, none⟩ (.slice none 0 0)).setCell ⟨q, 2, none⟩ (.int .i64 M.bank)) := (((Only.refl _ w1).setCell (.inl (by simp)) _).setCell (.inl (by simp)) _).setCell (.inl (by simp)) _
  have s : Same fp w1 (((w1.setCell ⟨q, 0, none⟩ (.slice A1 n d1)).setCell ⟨q, 1, none⟩ (.slice none 0 0)).setCell ⟨q, 2, none⟩ (.int .i64 M.bank)) := .of_only o fun x hx e => by simp at e; subst e; exact hq hx
  refine ⟨Grow.none_ _ _ _, by simp, hi.keep s, hd, (hn.mono (by omega)).keep s, fun b hb => (hn.lt b hb).2, hq, by omega, (B0.trans (b1.mono B0.size)).trans (o.below (by simp; omega) (by omega)), (X0.below b1).only o (by simp; omega), (X1.below b1).only o (by simp; omega), ((xq.set 0 _).set 1 _).set 2 _⟩
/-- A literal laid beside the copy's own block. -/
theorem own_empty_then (w : World) (t : TypeId) (o : Obj) : ((w.alloc (.cells #[] t)).alloc o).drew.ownsRow w.heap.size t 1 (.slice (some ⟨w.heap.size, 0, none⟩) 0 0) 0 [] := (own_keep (own_empty w t w.heap.size (Nat.le_refl _)) (below1 _ o)).drew
theorem own_empty_after (w : World) (t : TypeId) (o : Obj) : ((w.alloc o).alloc (.cells #[] t)).drew.ownsRow w.heap.size t 1 (.slice (some ⟨w.heap.size + 1, 0, none⟩) 0 0) 0 [] := by
  have := (own_empty (w.alloc o) t w.heap.size (by simp)).drew
  rwa [show (w.alloc o).heap.size = w.heap.size + 1 from by simp] at this
theorem cell_set3 {w1 : World} {q b i : Nat} {u v x y : Value} (h : w1.cell? ⟨b, i, none⟩ = some y) (hb : b ≠ q) : (((w1.setCell ⟨q, 0, none⟩ u).setCell ⟨q, 1, none⟩ v).setCell ⟨q, 2, none⟩ x).cell? ⟨b, i, none⟩ = some y := by
  have o : Only [q] w1 (((w1.setCell ⟨q, 0, none⟩ u).setCell ⟨q, 1, none⟩ v).setCell ⟨q, 2, none⟩ x) := (((Only.refl _ w1).setCell (.inl (by simp)) _).setCell (.inl (by simp)) _).setCell (.inl (by simp)) _
  exact (World.cell?_of_block (a := ⟨b, i, none⟩) (o.block b (World.block_lt_of_cell? _ _ h) (by simpa using hb))).trans h
theorem cell_alloc {w1 : World} {b i : Nat} {y : Value} {o : Obj} (h : w1.cell? ⟨b, i, none⟩ = some y) : (w1.alloc o).cell? ⟨b, i, none⟩ = some y := by
  rw [World.cell?_alloc_lt _ _ _ (World.block_lt_of_cell? _ _ h)]; exact h
theorem fp_off {v : Value} {fp : List Nat} {l q s : Nat} (hown : ∀ x ∈ fp, v.ownBlock = some x) (hat : v.ownBlock = some l ∨ v.ownBlock = some s) (h1 : l ≠ q) (h2 : s ≠ q) : q ∉ fp := by
  intro hq
  have e := hown q hq
  rcases hat with h | h
  · rw [h] at e; injection e with e; exact h1 e
  · rw [h] at e; injection e with e; exact h2 e
end Go.Proofs.Ytgciaafapbaliaa
