/- Drawn banks: one to three, each of 256 bytes, in new memory. -/
import Derived.Test.YtihohmmfgamecaaOrderE
import Derived.Test.YtihohmmfgamecaaGrow
namespace Go.Proofs.Ytihohmmfgamecaa
open Go.ChangeShapes Go.WideShapes Go.ChangeAt Go.RowKit

/-- A bank in the making: n bytes, in a row of the call's own from block B on; of what was there in w0 at most the reader has changed. -/
structure Bank (q B : Nat) (w0 wr : World) (c : Nat) (A : Option Addr) (n d : Nat) (xs : List Int) : Prop where
  own : wr.ownsRow B 3 1 (.slice A n d) n (iv xs)
  len : xs.length = n
  bytes : bytesB xs = true
  only : Only [q] w0 wr
  rd : Rd wr q c
  base : B ≤ wr.heap.size
  top : w0.heap.size ≤ B
theorem Bank.other {q B : Nat} {w0 wr w' : World} {c c' : Nat} {A : Option Addr} {n d : Nat} {xs : List Int} (h : Bank q B w0 wr c A n d xs) (hq : q < B) (o : Only [q] wr w') (r : Rd w' q c') : Bank q B w0 w' c' A n d xs :=
  ⟨own_only h.own o (fun b hb e => by simp at hb; subst hb; have := (own_lt h.own _ e).1; omega), h.len, h.bytes, h.only.trans o, r, Nat.le_trans h.base o.size, h.top⟩
theorem bytesB_append {xs ys : List Int} (h : bytesB xs = true) (k : bytesB ys = true) : bytesB (xs ++ ys) = true := by
  unfold bytesB at *; rw [List.all_append, h, k]; rfl
theorem Bank.next {q B : Nat} {w0 wr w' : World} {c : Nat} {A : Option Addr} {n d m : Nat} {xs ys : List Int} {v' : Value} (h : Bank q B w0 wr c A n d xs) (hq : q < w0.heap.size) (own2 : w'.ownsRow B 3 1 v' (n + m) (iv (xs ++ ys))) (gr : wr.grownBy w' (Value.slice A n d).ownBlock) (hm : ys.length = m) (hy : bytesB ys = true) :
    ∃ A' d', v' = .slice A' (n + m) d' ∧ Bank q B w0 w' c A' (n + m) d' (xs ++ ys) := by
  obtain ⟨A', d', fp, rfl, _⟩ := own_ints own2
  have tp := h.top
  have lt := own_lt h.own
  have bl : Below B wr w' := (Below.refl B wr).grown gr h.base (fun k hk => (lt k hk).1)
  refine ⟨A', d', rfl, own2, by rw [List.length_append, h.len, hm], bytesB_append h.bytes hy, ?_, h.rd.stay (bl.mono (by omega)), Nat.le_trans h.base gr.size, tp⟩
  exact ⟨gr.os.trans h.only.os, gr.tape.trans h.only.tape, gr.output.trans h.only.output, Nat.le_trans h.only.size gr.size, fun k hk hn => (bl.block k (by omega)).trans (h.only.block k hk hn)⟩
theorem Grow.next_ {w1 W w2 : World} {N : Nat} {L : Nat} {rs : List (List Int)} {j : Nat} {v : Value} {D : List Row} (h : Grow w1 L rs j v D) (hL : L ≤ N) (lo : ∀ b ∈ D.flatMap Row.fp, b < N) (gl : ∀ g, v.ownBlock = some g → g < N) (hj : j < rs.length) {A : Option Addr} {m c : Nat} {fp : List Nat} (hm : m ≤ c) (hi : Ints w1 A m (rs.getD j []) fp) (hw : New N w1 fp)
    (bW : Below w1.heap.size w1 W) {g cap : Nat} (own2 : w2.ownsRow L 30 1 (.slice (some ⟨g, 0, none⟩) (j + 1) cap) (j + 1) (D.map Row.val ++ [.slice A m c])) (gr : W.grownBy w2 v.ownBlock) (hat : v.ownBlock = some g ∨ g = W.heap.size) :
    Grow w2 L rs (j + 1) (.slice (some ⟨g, 0, none⟩) (j + 1) cap) (D ++ [⟨A, m, c, rs.getD j [], fp⟩]) := by
  have hW := h.below bW
  obtain ⟨S, hS1, hS2⟩ : ∃ S : List Nat, (∀ b, v.ownBlock = some b → b ∈ S) ∧ ∀ b ∈ S, v.ownBlock = some b := by
    rcases hv : v.ownBlock with _ | b
    · exact ⟨[], by simp, by simp⟩
    · exact ⟨[b], by simp, by simp⟩
  have o2 : Only S W w2 := grown_only gr hS1
  have d1 : ∀ x ∈ D.flatMap Row.fp, x ∉ S := fun x hx hs => h.off x hx (hS2 x hs)
  have d2 : ∀ x ∈ fp, x ∉ S := fun x hx hs => by have := gl x (hS2 x hs); have := (hw.lt x hx).1; omega
  refine ⟨by simp [h.len], ?_, ?_, fun r hr => ?_, ?_, fun b hb e => ?_⟩
  · rw [List.map_append, h.xs, List.take_succ_eq_append_getElem hj]
    simp [List.getD, List.getElem?_eq_getElem hj]
  · rw [List.map_append]; exact own2
  · rcases List.mem_append.1 hr with hr | hr
    · exact ⟨(hW.ok r hr).1, (hW.ok r hr).2.keep (.of_only o2 fun x hx => d1 x (List.mem_flatMap.2 ⟨r, hr, hx⟩))⟩
    · simp at hr; subst hr
      exact ⟨hm, (hi.below bW).keep (.of_only o2 d2)⟩
  · rw [List.flatMap_append]
    simp only [List.flatMap_cons, List.flatMap_nil, List.append_nil]
    exact (hW.new.keep (.of_only o2 d1)).append (((hw.mono hL).keep (.of_below bW)).keep (.of_only o2 d2)) (fun x hx hy => by
      have := lo x hx
      have := (hw.lt x hy).1
      omega)
  · have e1 : some g = some b := e
    injection e1 with e1
    subst e1
    rw [List.flatMap_append] at hb
    simp only [List.flatMap_cons, List.flatMap_nil, List.append_nil] at hb
    rcases List.mem_append.1 hb with hb | hb
    · rcases hat with hat | hat
      · exact h.off g hb hat
      · have := (h.new.lt g hb).2; have := bW.size; omega
    · rcases hat with hat | hat
      · have := gl g hat; have := (hw.lt g hb).1; omega
      · have := (hw.lt g hb).2; have := bW.size; omega
theorem Grow.more {w : World} {L : Nat} {rs : List (List Int)} {j : Nat} {v : Value} {D : List Row} (h : Grow w L rs j v D) (hl : rs.length = j) (xs : List Int) : Grow w L (rs ++ [xs]) j v D :=
  ⟨h.len, by rw [h.xs, List.take_append_of_le_length (by omega)], h.own, h.ok, h.new, h.off⟩
theorem getD_snoc (rs : List (List Int)) (xs : List Int) : (rs ++ [xs]).getD rs.length [] = xs := by simp [List.getD]
theorem three (v y : Int) (d0 : 0 ≤ v) (d1 : v < 3) (y0 : 0 ≤ y) (y1 : y < 256) : ∃ u : Int, (#[Value.int .i64 0, .int .i64 y, .int .i64 15] : Array Value)[v.toNat]? = some (.int .i64 u) ∧ byteB u = true := by
  have h : v = 0 ∨ v = 1 ∨ v = 2 := by omega
  rcases h with rfl | rfl | rfl
  · exact ⟨0, rfl, by decide⟩
  · exact ⟨y, rfl, byteB_mk y0 (by omega)⟩
  · exact ⟨15, rfl, by decide⟩
/-- A slice's length. -/
def lenOf : Value → Nat | .slice _ n _ => n | _ => 0
theorem one_cell (w : World) (u : Int) : Ints (w.alloc (.cells #[.int .i64 u] 3)) (some ⟨w.heap.size, 0, none⟩) 1 [u] [w.heap.size] := by
  refine ⟨rfl, .inr ⟨by omega, w.heap.size, 0, rfl, rfl, by simp, fun x hx => ?_⟩⟩
  obtain rfl : x = 0 := by omega
  rw [Nat.zero_add, World.cell?_alloc_new]; rfl
theorem Only.then_below {S : List Nat} {a b c : World} (h : Only S a b) (k : Below a.heap.size b c) : Only S a c :=
  ⟨k.os.trans h.os, k.tape.trans h.tape, k.output.trans h.output, Nat.le_trans h.size k.size, fun j hj hn => (k.block j hj).trans (h.block j hj hn)⟩
theorem banks_snoc {rs : List (List Int)} {i : Nat} {xs : List Int} (hl : rs.length = i) (hb : ∀ x, x < i → bankB (rs.getD x []) = true) (hx : bankB xs = true) : ∀ x, x < i + 1 → bankB ((rs ++ [xs]).getD x []) = true := by
  intro x h
  by_cases he : x = i
  · subst he; rw [← hl, getD_snoc]; exact hx
  · have : (rs ++ [xs]).getD x [] = rs.getD x [] := by simp only [List.getD_eq_getElem?_getD]; rw [List.getElem?_append_left (by omega)]
    rw [this]; exact hb x (by omega)
theorem int_eq {a b : Int} (h : a = b) : Value.int .i64 a = .int .i64 b := by rw [h]
/-- What drawing banks leaves. -/
def RomDrawn (q m : Nat) (w : World) (e : Ending) (w' : World) : Prop :=
  ∃ (R : Option Addr) (k d : Nat) (rs : List (List Int)) (fr : List Nat), e = .returned (.slice R k d) ∧ k ≤ d ∧ 1 ≤ k ∧ k ≤ 3 ∧ Grid w' R k rs fr ∧ New w.heap.size w' fr ∧ (∀ i, i < k → bankB (rs.getD i []) = true) ∧ Only [q] w w' ∧ Rd w' q (m + 700) ∧ ∃ D, Grow w' w.heap.size rs k (.slice R k d) D
end Go.Proofs.Ytihohmmfgamecaa
