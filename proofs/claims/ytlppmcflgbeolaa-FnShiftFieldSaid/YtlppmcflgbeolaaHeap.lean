/- What lies in memory: slices of integers, slices of such slices, and the blocks in which they lie. -/
import Derived.Test.YtlppmcflgbeolaaBase
import Derived.OpenShut
import Derived.Laws.OwnMore
import Derived.Laws.Rows
import Derived.Deep.Draws
namespace Go.Proofs.Ytlppmcflgbeolaa
open Go.ChangeShapes Go.WideShapes Go.ChangeAt Go.RowKit

/-- Of what was there at most the blocks of S have changed. -/
structure Only (S : List Nat) (w w' : World) : Prop where
  os : w'.os = w.os
  tape : w'.tape = w.tape
  output : w'.output = w.output
  size : w.heap.size ≤ w'.heap.size
  block : ∀ k, k < w.heap.size → k ∉ S → w'.heap[k]? = w.heap[k]?
theorem Only.refl (S : List Nat) (w : World) : Only S w w := ⟨rfl, rfl, rfl, Nat.le_refl _, fun _ _ _ => rfl⟩
theorem Only.trans {S : List Nat} {a b c : World} (h : Only S a b) (k : Only S b c) : Only S a c :=
  ⟨k.os.trans h.os, k.tape.trans h.tape, k.output.trans h.output, Nat.le_trans h.size k.size, fun j hj hn => (k.block j (Nat.lt_of_lt_of_le hj h.size) hn).trans (h.block j hj hn)⟩
theorem Only.mono {S T : List Nat} {a b : World} (h : Only S a b) (k : ∀ x ∈ S, x ∈ T) : Only T a b := ⟨h.os, h.tape, h.output, h.size, fun j hj hn => h.block j hj (fun e => hn (k j e))⟩
theorem Only.of_below {S : List Nat} {w w' : World} (h : Below w.heap.size w w') : Only S w w' := ⟨h.os, h.tape, h.output, h.size, fun k hk _ => h.block k hk⟩
theorem Only.below {S : List Nat} {B : Nat} {w w' : World} (h : Only S w w') (hS : ∀ b ∈ S, B ≤ b) (hB : B ≤ w.heap.size) : Below B w w' :=
  ⟨h.os, h.tape, h.output, h.size, fun k hk => h.block k (by omega) (fun e => by have := hS k e; omega)⟩
theorem Only.drewN {S : List Nat} {a w : World} (h : Only S a w) (n : Nat) : Only S a (w.drewN n) := ⟨h.os, h.tape, h.output, h.size, h.block⟩
theorem Only.alloc {S : List Nat} {a w : World} (h : Only S a w) (o : Obj) : Only S a (w.alloc o) :=
  ⟨h.os, h.tape, h.output, Nat.le_trans h.size (by simp), fun k hk hn => (Below.heap_alloc w o k (Nat.lt_of_lt_of_le hk h.size)).trans (h.block k hk hn)⟩
theorem Only.setCell {S : List Nat} {a w : World} (h : Only S a w) {q j : Nat} (hq : q ∈ S ∨ a.heap.size ≤ q) (v : Value) : Only S a (w.setCell ⟨q, j, none⟩ v) :=
  ⟨h.os, h.tape, h.output, by simpa using h.size, fun k hk hn => (Below.heap_setCell w _ v k (by
    rintro rfl
    rcases hq with hq | hq
    · exact hn hq
    · omega)).trans (h.block k hk hn)⟩
theorem below_drewN {B : Nat} {a w : World} (h : Below B a w) (n : Nat) : Below B a (w.drewN n) := ⟨h.os, h.tape, h.output, h.size, h.block⟩

theorem below1 (w : World) (o : Obj) : Below w.heap.size w (w.alloc o) := (Below.refl _ w).alloc (Nat.le_refl _) _
theorem below2 (w : World) (o p : Obj) : Below w.heap.size w ((w.alloc o).alloc p) := (below1 w o).alloc (by simp) _
theorem below3 (w : World) (o p q : Obj) : Below w.heap.size w (((w.alloc o).alloc p).alloc q) := (below2 w o p).alloc (by simp; omega) _

/-- The blocks of fp are as they were. -/
def Same (fp : List Nat) (w w' : World) : Prop := w.heap.size ≤ w'.heap.size ∧ ∀ b ∈ fp, b < w.heap.size → w'.heap[b]? = w.heap[b]?
theorem Same.of_below {fp : List Nat} {w w' : World} (h : Below w.heap.size w w') : Same fp w w' := ⟨h.size, fun b _ hb => h.block b hb⟩
theorem Same.of_only {S fp : List Nat} {w w' : World} (h : Only S w w') (k : ∀ b ∈ fp, b ∉ S) : Same fp w w' := ⟨h.size, fun b hb hl => h.block b hl (k b hb)⟩
theorem Same.sub {fp fq : List Nat} {w w' : World} (h : Same fp w w') (k : ∀ b ∈ fq, b ∈ fp) : Same fq w w' := ⟨h.1, fun b hb hl => h.2 b (k b hb) hl⟩

/-- The slice with address A and length n holds the integers xs; fp: the block, if there is one. -/
def Ints (w : World) (A : Option Addr) (n : Nat) (xs : List Int) (fp : List Nat) : Prop :=
  xs.length = n ∧ ((n = 0 ∧ fp = []) ∨ (0 < n ∧ ∃ b o, A = some ⟨b, o, none⟩ ∧ fp = [b] ∧ b < w.heap.size ∧ ∀ i, i < n → w.cell? ⟨b, o + i, none⟩ = some (.int .i64 (xs.getD i 0))))
theorem Ints.keep {w w' : World} {A : Option Addr} {n : Nat} {xs : List Int} {fp : List Nat} (h : Ints w A n xs fp) (k : Same fp w w') : Ints w' A n xs fp := by
  obtain ⟨hl, h | ⟨hn, b, o, rfl, rfl, hb, hc⟩⟩ := h
  · exact ⟨hl, .inl h⟩
  · have e := k.2 b (by simp) hb
    exact ⟨hl, .inr ⟨hn, b, o, rfl, rfl, Nat.lt_of_lt_of_le hb k.1, fun i hi => (World.cell?_of_block (a := ⟨b, o + i, none⟩) e).trans (hc i hi)⟩⟩
theorem Ints.below {w w' : World} {A : Option Addr} {n : Nat} {xs : List Int} {fp : List Nat} (h : Ints w A n xs fp) (k : Below w.heap.size w w') : Ints w' A n xs fp := h.keep (.of_below k)
theorem Ints.at_ {w : World} {A : Option Addr} {n : Nat} {xs : List Int} {fp : List Nat} (h : Ints w A n xs fp) (hn : 0 < n) :
    ∃ b o, A = some ⟨b, o, none⟩ ∧ fp = [b] ∧ b < w.heap.size ∧ ∀ i, i < n → w.cell? ⟨b, o + i, none⟩ = some (.int .i64 (xs.getD i 0)) := by
  obtain ⟨hl, ⟨rfl, _⟩ | ⟨_, h⟩⟩ := h
  · omega
  · exact h
theorem Ints.lt {w : World} {A : Option Addr} {n : Nat} {xs : List Int} {fp : List Nat} (h : Ints w A n xs fp) : ∀ b ∈ fp, b < w.heap.size := by
  obtain ⟨hl, ⟨_, rfl⟩ | ⟨_, b, o, _, rfl, hb, _⟩⟩ := h
  · simp
  · simpa using hb
theorem Ints.nil (w : World) (A : Option Addr) : Ints w A 0 [] [] := ⟨rfl, .inl ⟨rfl, rfl⟩⟩
/-- New memory: no block twice, all from block L on, none frozen. -/
structure New (L : Nat) (w : World) (fp : List Nat) : Prop where
  once : fp.Nodup
  lt : ∀ b ∈ fp, L ≤ b ∧ b < w.heap.size
  free : ∀ b ∈ fp, ∀ o, w.frozen? ⟨b, o, none⟩ = false
theorem New.nil (L : Nat) (w : World) : New L w [] := ⟨by simp, by simp, by simp⟩
theorem New.keep {L : Nat} {w w' : World} {fp : List Nat} (h : New L w fp) (k : Same fp w w') : New L w' fp :=
  ⟨h.once, fun b hb => ⟨(h.lt b hb).1, Nat.lt_of_lt_of_le (h.lt b hb).2 k.1⟩, fun b hb o => (World.frozen?_of_block (a := ⟨b, o, none⟩) (k.2 b hb (h.lt b hb).2)).trans (h.free b hb o)⟩
theorem New.mono {L L' : Nat} {w : World} {fp : List Nat} (h : New L w fp) (k : L' ≤ L) : New L' w fp := ⟨h.once, fun b hb => ⟨Nat.le_trans k (h.lt b hb).1, (h.lt b hb).2⟩, h.free⟩
theorem New.one {L : Nat} {w : World} {b : Nat} (h : L ≤ b) (hb : b < w.heap.size) (hf : ∀ o, w.frozen? ⟨b, o, none⟩ = false) : New L w [b] :=
  ⟨by simp, by simpa using ⟨h, hb⟩, by simpa using hf⟩
theorem New.append {L : Nat} {w : World} {fp fq : List Nat} (h : New L w fp) (k : New L w fq) (d : ∀ b ∈ fp, b ∉ fq) : New L w (fp ++ fq) :=
  ⟨List.nodup_append.2 ⟨h.once, k.once, fun a ha _ hb e => d a ha (e ▸ hb)⟩, fun b hb => (List.mem_append.1 hb).elim (h.lt b) (k.lt b), fun b hb => (List.mem_append.1 hb).elim (h.free b) (k.free b)⟩

/-- Block b holds the cells cs, and no more; none is frozen: a struct of the call's own. -/
def Box (w : World) (b : Nat) (t : TypeId) (cs : List Value) : Prop := w.heap[b]? = some (.cells cs.toArray t (0, 0))
theorem Box.lt {w : World} {b : Nat} {t : TypeId} {cs : List Value} (h : Box w b t cs) : b < w.heap.size := by
  by_cases hl : b < w.heap.size
  · exact hl
  · unfold Box at h; rw [Array.getElem?_eq_none (by omega)] at h; cases h
theorem Box.cell {w : World} {b : Nat} {t : TypeId} {cs : List Value} (h : Box w b t cs) (i : Nat) : w.cell? ⟨b, i, none⟩ = cs[i]? := by
  rw [cell_of_row w b i _ t (0, 0) h]; simp
theorem Box.frozen {w : World} {b : Nat} {t : TypeId} {cs : List Value} (h : Box w b t cs) (i : Nat) : w.frozen? ⟨b, i, none⟩ = false := by
  unfold Box at h; simp [World.frozen?, h]
theorem Box.new (w : World) (cs : Array Value) (t : TypeId) : Box (w.alloc (.cells cs t)) w.heap.size t cs.toList := by
  unfold Box; rw [heap_alloc_new]
theorem Box.new_at (w : World) (cs : Array Value) (t : TypeId) (n : Nat) (h : n = w.heap.size) : Box (w.alloc (.cells cs t)) n t cs.toList := h ▸ Box.new w cs t
theorem Box.alloc {w : World} {b : Nat} {t : TypeId} {cs : List Value} (h : Box w b t cs) (o : Obj) : Box (w.alloc o) b t cs := (Below.heap_alloc w o b h.lt).trans h
theorem Box.below {w w' : World} {b : Nat} {t : TypeId} {cs : List Value} (h : Box w b t cs) (k : Below w.heap.size w w') : Box w' b t cs := (k.block b h.lt).trans h
theorem Box.keep {w w' : World} {b B : Nat} {t : TypeId} {cs : List Value} (h : Box w b t cs) (k : Below B w w') (hb : b < B) : Box w' b t cs := (k.block b hb).trans h
theorem Box.only {S : List Nat} {w w' : World} {b : Nat} {t : TypeId} {cs : List Value} (h : Box w b t cs) (k : Only S w w') (hb : b ∉ S) : Box w' b t cs := (k.block b h.lt hb).trans h
theorem Box.set {w : World} {b : Nat} {t : TypeId} {cs : List Value} (h : Box w b t cs) (i : Nat) (v : Value) : Box (w.setCell ⟨b, i, none⟩ v) b t (cs.set i v) := by
  unfold Box at h ⊢
  simp [World.setCell, Array.getElem?_modify, h]
theorem Box.far {w : World} {b : Nat} {t : TypeId} {cs : List Value} (h : Box w b t cs) {b' i : Nat} (hb : b ≠ b') (v : Value) : Box (w.setCell ⟨b', i, none⟩ v) b t cs := (Below.heap_setCell w ⟨b', i, none⟩ v b hb).trans h
theorem Box.drewN {w : World} {b : Nat} {t : TypeId} {cs : List Value} (h : Box w b t cs) (n : Nat) : Box (w.drewN n) b t cs := h

/-- One row of a slice of slices. -/
structure Row where
  a : Option Addr
  n : Nat
  c : Nat
  xs : List Int
  fp : List Nat
def Row.val (r : Row) : Value := .slice r.a r.n r.c
def RowOk (w : World) (r : Row) : Prop := r.n ≤ r.c ∧ Ints w r.a r.n r.xs r.fp
/-- The slice with address A and length n holds slices that hold the rows rs; fp: all the blocks. -/
def Grid (w : World) (A : Option Addr) (n : Nat) (rs : List (List Int)) (fp : List Nat) : Prop :=
  ∃ D : List Row, D.map Row.xs = rs ∧ D.length = n ∧ (∀ r ∈ D, RowOk w r) ∧
    ((n = 0 ∧ fp = []) ∨ (0 < n ∧ ∃ b o, A = some ⟨b, o, none⟩ ∧ fp = b :: D.flatMap Row.fp ∧ b < w.heap.size ∧ ∀ i r, D[i]? = some r → w.cell? ⟨b, o + i, none⟩ = some r.val))
theorem Grid.len {w : World} {A : Option Addr} {n : Nat} {rs : List (List Int)} {fp : List Nat} (h : Grid w A n rs fp) : rs.length = n := by
  obtain ⟨D, rfl, h, _⟩ := h
  simpa using h
theorem Grid.nil (w : World) (A : Option Addr) : Grid w A 0 [] [] := ⟨[], rfl, rfl, by simp, .inl ⟨rfl, rfl⟩⟩
theorem Grid.lt {w : World} {A : Option Addr} {n : Nat} {rs : List (List Int)} {fp : List Nat} (h : Grid w A n rs fp) : ∀ b ∈ fp, b < w.heap.size := by
  obtain ⟨D, rfl, hl, hr, ⟨_, rfl⟩ | ⟨_, b, o, _, rfl, hb, _⟩⟩ := h
  · simp
  · intro x hx
    rcases List.mem_cons.1 hx with rfl | hx
    · exact hb
    · obtain ⟨r, hr', hx⟩ := List.mem_flatMap.1 hx
      exact (hr r hr').2.lt x hx
theorem Grid.keep {w w' : World} {A : Option Addr} {n : Nat} {rs : List (List Int)} {fp : List Nat} (h : Grid w A n rs fp) (k : Same fp w w') : Grid w' A n rs fp := by
  obtain ⟨D, rfl, hl, hr, ⟨h0, rfl⟩ | ⟨hn, b, o, rfl, rfl, hb, hc⟩⟩ := h
  · have hD : D = [] := List.eq_nil_of_length_eq_zero (by omega)
    subst hD
    exact ⟨[], rfl, hl, by simp, .inl ⟨h0, rfl⟩⟩
  · have e := k.2 b (by simp) hb
    refine ⟨D, rfl, hl, fun r hr' => ⟨(hr r hr').1, (hr r hr').2.keep (k.sub fun x hx => ?_)⟩, .inr ⟨hn, b, o, rfl, rfl, Nat.lt_of_lt_of_le hb k.1, fun i r hi => (World.cell?_of_block (a := ⟨b, o + i, none⟩) e).trans (hc i r hi)⟩⟩
    exact List.mem_cons_of_mem _ (List.mem_flatMap.2 ⟨r, hr', hx⟩)
theorem Grid.below {w w' : World} {A : Option Addr} {n : Nat} {rs : List (List Int)} {fp : List Nat} (h : Grid w A n rs fp) (k : Below w.heap.size w w') : Grid w' A n rs fp := h.keep (.of_below k)
/-- One row, read. -/
theorem Grid.row {w : World} {A : Option Addr} {n : Nat} {rs : List (List Int)} {fp : List Nat} (h : Grid w A n rs fp) {i : Nat} (hi : i < n) :
    ∃ b o a m c fr, A = some ⟨b, o, none⟩ ∧ b < w.heap.size ∧ w.cell? ⟨b, o + i, none⟩ = some (.slice a m c) ∧ m ≤ c ∧ Ints w a m (rs.getD i []) fr ∧ (∀ x ∈ fr, x ∈ fp) := by
  obtain ⟨D, rfl, hl, hr, ⟨h0, rfl⟩ | ⟨hn, b, o, rfl, rfl, hb, hc⟩⟩ := h
  · omega
  · have hiD : i < D.length := by omega
    have e : D[i]? = some D[i] := List.getElem?_eq_getElem hiD
    have hm : D[i] ∈ D := List.getElem_mem hiD
    have ex : (D.map Row.xs).getD i [] = D[i].xs := by simp [List.getD, e]
    refine ⟨b, o, D[i].a, D[i].n, D[i].c, D[i].fp, rfl, hb, hc i _ e, (hr _ hm).1, ?_, fun x hx => List.mem_cons_of_mem _ (List.mem_flatMap.2 ⟨_, hm, hx⟩)⟩
    rw [ex]; exact (hr _ hm).2
theorem flatMap_disj {D : List Row} (h : (D.flatMap Row.fp).Nodup) {i j : Nat} {r s : Row} (hi : D[i]? = some r) (hj : D[j]? = some s) (hne : i ≠ j) : ∀ x ∈ r.fp, x ∉ s.fp := by
  induction D generalizing i j with
  | nil => simp at hi
  | cons a D ih =>
    rw [List.flatMap_cons, List.nodup_append] at h
    obtain ⟨_, h2, h3⟩ := h
    intro x hx hy
    cases i with
    | zero =>
      cases j with
      | zero => exact hne rfl
      | succ j =>
        simp at hi; subst hi
        simp at hj
        exact h3 x hx x (List.mem_flatMap.2 ⟨s, List.mem_of_getElem? hj, hy⟩) rfl
    | succ i =>
      cases j with
      | zero =>
        simp at hj; subst hj
        simp at hi
        exact h3 x hy x (List.mem_flatMap.2 ⟨r, List.mem_of_getElem? hi, hx⟩) rfl
      | succ j =>
        simp at hi hj
        exact ih h2 hi hj (by omega) x hx hy
theorem flatMap_set {D : List Row} {i : Nat} {r s : Row} (hi : D[i]? = some r) (e : s.fp = r.fp) : (D.set i s).flatMap Row.fp = D.flatMap Row.fp := by
  induction D generalizing i with
  | nil => simp
  | cons a D ih =>
    cases i with
    | zero => simp at hi; subst hi; simp [e]
    | succ i => simp at hi; simp [ih hi]
/-- One row, to be written: what the whole is when the row has been written. -/
theorem Grid.put {w : World} {A : Option Addr} {n : Nat} {rs : List (List Int)} {fp : List Nat} (h : Grid w A n rs fp) (nd : fp.Nodup) {i : Nat} (hi : i < n) :
    ∃ b o a m c fr, A = some ⟨b, o, none⟩ ∧ b < w.heap.size ∧ w.cell? ⟨b, o + i, none⟩ = some (.slice a m c) ∧ m ≤ c ∧ Ints w a m (rs.getD i []) fr ∧ (∀ x ∈ fr, x ∈ fp) ∧
      ∀ w' xs', Only fr w w' → Ints w' a m xs' fr → Grid w' A n (rs.set i xs') fp := by
  obtain ⟨D, rfl, hl, hr, ⟨h0, rfl⟩ | ⟨hn, b, o, rfl, rfl, hb, hc⟩⟩ := h
  · omega
  · have hiD : i < D.length := by omega
    have e : D[i]? = some D[i] := List.getElem?_eq_getElem hiD
    have hm : D[i] ∈ D := List.getElem_mem hiD
    have ex : (D.map Row.xs).getD i [] = D[i].xs := by simp [List.getD, e]
    have hin : ∀ x ∈ D[i].fp, x ∈ D.flatMap Row.fp := fun x hx => List.mem_flatMap.2 ⟨_, hm, hx⟩
    refine ⟨b, o, D[i].a, D[i].n, D[i].c, D[i].fp, rfl, hb, hc i _ e, (hr _ hm).1, ?_, fun x hx => List.mem_cons_of_mem _ (hin x hx), fun w' xs' ho hx' => ?_⟩
    · rw [ex]; exact (hr _ hm).2
    · obtain ⟨nd1, nd2⟩ := List.nodup_cons.1 nd
      have eb := ho.block b hb (fun hx => nd1 (hin b hx))
      refine ⟨D.set i ⟨D[i].a, D[i].n, D[i].c, xs', D[i].fp⟩, by rw [List.map_set], by simpa using hl, fun r hr' => ?_, .inr ⟨hn, b, o, rfl, ?_, Nat.lt_of_lt_of_le hb ho.size, fun j r hj => ?_⟩⟩
      · obtain ⟨j, hj, rfl⟩ := List.getElem_of_mem hr'
        have hjD : j < D.length := by simpa using hj
        rw [List.getElem_set]
        split
        · exact ⟨(hr _ hm).1, hx'⟩
        · rename_i hne
          have hjm : D[j] ∈ D := List.getElem_mem hjD
          exact ⟨(hr _ hjm).1, (hr _ hjm).2.keep (.of_only ho (flatMap_disj nd2 (List.getElem?_eq_getElem hjD) e (by omega)))⟩
      · rw [flatMap_set (s := ⟨D[i].a, D[i].n, D[i].c, xs', D[i].fp⟩) e rfl]
      · rw [World.cell?_of_block (a := ⟨b, o + j, none⟩) eb]
        rw [List.getElem?_set] at hj
        split at hj
        · rename_i hij
          subst hij
          injection hj with hj
          subst hj
          exact hc i D[i] e
        · exact hc j r hj
end Go.Proofs.Ytlppmcflgbeolaa
