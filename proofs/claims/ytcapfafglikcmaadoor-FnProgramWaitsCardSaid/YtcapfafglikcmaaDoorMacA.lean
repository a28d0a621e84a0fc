/- A drawn machine: what the drawn parts of it are, and the machine in the making. -/
import Derived.Test.YtcapfafglikcmaaDoorKI
import Derived.Test.YtcapfafglikcmaaDoorMemF
import Derived.Test.YtcapfafglikcmaaDoorKG
import Derived.Test.YtcapfafglikcmaaDoorKE
namespace Go.Proofs.YtcapfafglikcmaaDoor
open Go.ChangeShapes Go.WideShapes Go.ChangeAt Go.RowKit
set_option linter.unusedVariables false

/-- A long list of integers lies in no block of a struct. -/
theorem ints_off {w : World} {b : Nat} {t : TypeId} {cs : List Value} (hb : Box w b t cs) (h9 : cs.length = 9) (hz : cs[0]? = some (.slice none 0 0)) {A : Option Addr} {n : Nat} {xs : List Int} {fp : List Nat} (h : Ints w A n xs fp) (hn : 9 ≤ n) : b ∉ fp := by
  obtain ⟨hl, ⟨h0, _⟩ | ⟨h0, b', o, rfl, rfl, hb', hc⟩⟩ := h
  · omega
  · intro hx
    simp at hx
    subst hx
    have e8 := hc 8 (by omega)
    rw [hb.cell] at e8
    have l8 := (List.getElem?_eq_some_iff.1 e8).1
    obtain rfl : o = 0 := by omega
    have e0 := hc 0 (by omega)
    rw [hb.cell, Nat.zero_add, hz] at e0
    injection e0 with e0
    cases e0
theorem grid_off {w : World} {b : Nat} {t : TypeId} {cs : List Value} (hb : Box w b t cs) (h9 : cs.length = 9) (hz : cs[0]? = some (.slice none 0 0)) (hs : ∀ A n c, Value.slice A n c ∈ cs → n = 0) {A : Option Addr} {n : Nat} {rs : List (List Int)} {fp : List Nat} (h : Grid w A n rs fp) (hw : ∀ r ∈ rs, 9 ≤ r.length) : b ∉ fp := by
  obtain ⟨D, rfl, hl, hr, ⟨_, rfl⟩ | ⟨h0, b', o, rfl, rfl, hb', hc⟩⟩ := h
  · simp
  · intro hx
    rcases List.mem_cons.1 hx with rfl | hx
    · have hD : 0 < D.length := by omega
      have e := hc 0 D[0] (List.getElem?_eq_getElem hD)
      rw [hb.cell] at e
      have h1 := hs _ _ _ (List.mem_of_getElem? e)
      have h2 := (hr D[0] (List.getElem_mem hD)).2.1
      have h3 := hw D[0].xs (List.mem_map.2 ⟨_, List.getElem_mem hD, rfl⟩)
      omega
    · obtain ⟨r, hr', hx⟩ := List.mem_flatMap.1 hx
      have h3 := hw r.xs (List.mem_map.2 ⟨r, hr', rfl⟩)
      have h2 := (hr r hr').2.1
      exact ints_off hb h9 hz (hr r hr').2 (by omega) hx
/-- A drawn memory, wherever its struct lies. -/
structure MemOk (L : Nat) (w : World) (A : Option Addr) (n c : Nat) (R : Option Addr) (k d : Nat) (M : Mem) (fa fr : List Nat) : Prop where
  ram : Ints w A n M.ram fa
  rom : Grid w R k M.rom fr
  new : New L w (fa ++ fr)
  small : Small M 256
  wide : Wide M
  n : n ≤ c
  k : k ≤ d
theorem MemOk.same {L : Nat} {w w' : World} {A : Option Addr} {n c : Nat} {R : Option Addr} {k d : Nat} {M : Mem} {fa fr : List Nat} (h : MemOk L w A n c R k d M fa fr) (s : Same (fa ++ fr) w w') : MemOk L w' A n c R k d M fa fr :=
  ⟨h.ram.keep (s.sub fun x hx => List.mem_append_left _ hx), h.rom.keep (s.sub fun x hx => List.mem_append_right _ hx), h.new.keep s, h.small, h.wide, h.n, h.k⟩
theorem MemOk.only {L : Nat} {S : List Nat} {w w' : World} {A : Option Addr} {n c : Nat} {R : Option Addr} {k d : Nat} {M : Mem} {fa fr : List Nat} (h : MemOk L w A n c R k d M fa fr) (o : Only S w w') (hS : ∀ b ∈ S, b < L) : MemOk L w' A n c R k d M fa fr :=
  h.same (.of_only o fun b hb hx => by have := (h.new.lt b hb).1; have := hS b hx; omega)
theorem MemOk.off {L : Nat} {w : World} {A : Option Addr} {n c : Nat} {R : Option Addr} {k d : Nat} {M : Mem} {fa fr : List Nat} (h : MemOk L w A n c R k d M fa fr) {b : Nat} (hb : Box w b 28 [.slice none 0 0, .slice none 0 0, .int .i64 0, .int .i64 0, .int .i64 0, .bool false, .slice none 0 0, .bool false, .int .i64 0]) : b ∉ fa ++ fr := fun hx => by
  rcases List.mem_append.1 hx with hx | hx
  · exact ints_off hb rfl rfl h.ram (by have := h.ram.1; have := h.wide.1; omega) hx
  · refine grid_off hb rfl rfl (fun A n c hm => ?_) h.rom h.wide.2 hx
    simp at hm
    exact hm.2.1
/-- A memory whose blocks begin at L. -/
def TMem (L : Nat) : Value → World → Prop := fun v w => ∃ (A : Option Addr) (n c : Nat) (R : Option Addr) (k d : Nat) (M : Mem) (fa fr : List Nat), v = .agg #[.slice A n c, .slice R k d, .int .i64 M.bank] ∧ MemOk L w A n c R k d M fa fr
theorem stab_tmem {S : List Nat} {D : World → Prop} {L : Nat} (hS : ∀ b ∈ S, b < L) : Stab (Rel S D) (TMem L) := by
  rintro _ w w' hR ⟨A, n, c, R, k, d, M, fa, fr, hv, hm⟩
  exact ⟨A, n, c, R, k, d, M, fa, fr, hv, hm.only hR.only hS⟩
/-- A machine's struct with such a memory in it. -/
def TMac (L : Nat) : Value → World → Prop := fun v w => ∃ (A : Option Addr) (n c : Nat) (R : Option Addr) (k d : Nat) (M : Mem) (fa fr : List Nat) (a t z : Int) (y : Bool), v = .agg #[.slice A n c, .slice R k d, .int .i64 M.bank, .int .i64 a, .int .i64 t, .bool y, .slice none 0 0, .bool false, .int .i64 z] ∧ z ≤ 99 ∧ MemOk L w A n c R k d M fa fr
theorem stab_tmac {S : List Nat} {D : World → Prop} {L : Nat} (hS : ∀ b ∈ S, b < L) : Stab (Rel S D) (TMac L) := by
  rintro _ w w' hR ⟨A, n, c, R, k, d, M, fa, fr, a, t, z, y, hv, hz, hm⟩
  exact ⟨A, n, c, R, k, d, M, fa, fr, a, t, z, y, hv, hz, hm.only hR.only hS⟩
section
variable {ops : Array Oper} {Q : Exit → Act → World → Prop} {T : Nat → Value → World → Prop} {a0 : Act} {S : List Nat} {q m : Nat} {w0 : World} {J D : World → Prop} {i : Nat} {o : Oper}
/-- An operation that asks once at most, where 800 times are allowed. -/
theorem ob_wide {P : Program} (h : ∀ m', m' ≤ m + 799 * ops.size → Ob P ops Q (Cls S q m' w0 J) (Rel S D) T a0 i o) : Ob P ops Q (fun k => Cls S q m w0 J (800 * k)) (Rel S D) T a0 i o := by
  intro k a w hk hI hF hp
  have e : m + 800 * k = m + 799 * k + k := by omega
  have h1 := h (m + 799 * k) (by omega) k a w hk ⟨hI.only, by rw [← e]; exact hI.rd, hI.more⟩ hF hp
  have go : ∀ w', Cls S q (m + 799 * k) w0 J (k + 1) w' → Cls S q m w0 J (800 * (k + 1)) w' := fun w' c => ⟨c.only, c.rd.mono (by omega), c.more⟩
  exact ⟨fun hw => Oper.wp_mono (fun a' w' ⟨v, g1, g2, g3, g4⟩ => ⟨v, g1, g2, go _ g3, g4⟩) (h1.1 hw), fun hw => ⟨(h1.2 hw).1, go _ (h1.2 hw).2.1, (h1.2 hw).2.2⟩⟩
/-- A memory is drawn. -/
theorem ob_mem (hg : o.guard = none) (x y : Operand) (n : Int) (ty : Array TypeId) (hop : o.op = .call { callee := .value (.func 44), args := #[x, y], argTypes := ty }) (hq : q ∈ S) (hJ : Kept q J) (hD : Kept q D) (hm : m + 800 * ops.size ≤ 50000) (hn : 1 ≤ n) (hn2 : n ≤ 1000)
    (hx : ∀ (ρ : Operand → Value) w, PreR ops T ρ w o.after.toList → ρ x = .pointer (some ⟨q, 0, none⟩) ∧ ρ y = .int .i64 n) (hT : ∀ v w, TMem w0.heap.size v w → T i (dstV o v) w) :
    Ob Tryd.prog ops Q (fun k => Cls S q m w0 J (800 * k)) (Rel S D) T a0 i o := by
  intro k a w hk hI hF hp
  have hw : wantV ops (slotV a) o = true := by unfold wantV; rw [hg]
  refine ⟨fun _ => ?_, fun hn => by rw [hw] at hn; cases hn⟩
  unfold Oper.wp
  refine upon_of_T (K := fun v w' => Rel S D w w' ∧ Cls S q m w0 J (800 * (k + 1)) w' ∧ T i (dstV o v) w') ?_
  obtain ⟨h1, h2⟩ := hx a.eval w (pre_eq _ hp)
  have h3 : a.eval (.func 44) = .func (.func 44) #[] #[] := rfl
  have e : (execOp a.eval o).run Tryd.prog w = .ok (.enter 44 #[.pointer (some ⟨q, 0, none⟩), .int .i64 n]) w := by
    generalize a.eval = ρ at h1 h2 h3
    unfold execOp; rw [hop]
    simp [go_sem, h1, h2, h3]
  rw [e, UponT_enter]
  refine (mem_wide q (m + 800 * k) n w hI.rd (by omega) hn hn2).mono ?_
  rintro e w' ⟨A, n', c, R, k', d, M, fa, fr, rfl, g1, g2, g3, g4, g5, g6, ho, hr, hwd⟩
  have hz := hI.only.size
  have hoS : Only S w w' := ho.mono (by simp; exact hq)
  exact ⟨_, rfl, ⟨hoS, hD w w' ho⟩, ⟨hI.only.trans hoS, hr.mono (by omega), hJ w w' ho hI.more⟩, hT _ _ ⟨A, n', c, R, k', d, M, fa, fr, rfl, g3, g4, g5.mono hz, g6, hwd, g1, g2⟩⟩
end
theorem MachIn.only {S : List Nat} {w w' : World} {q : Nat} {A : Option Addr} {c : Nat} {R : Option Addr} {d : Nat} {B : Option Addr} {g n k m : Nat} {X : Mach} {fa fr fb : List Nat} {L : Nat} (h : MachIn w q A c R d B g n k m X fa fr fb L) (o : Only S w w') (hS : ∀ b ∈ S, b < L) : MachIn w' q A c R d B g n k m X fa fr fb L := by
  have sm : Same (fa ++ fr ++ fb) w w' := .of_only o fun b hb hx => by have := (h.new.lt b hb).1; have := hS b hx; omega
  exact ⟨h.box.only o fun hx => by have := hS _ hx; have := h.lo; omega, h.has.keep sm, h.new.keep sm, own_only h.own o fun b hb e => by have := (own_lt h.own b e).1; have := hS b hb; omega, h.sole, h.off, h.lo, h.cap⟩
/-- A machine in the making: in block b, of the call's own; the reader has been asked at most c times. -/
structure MacAt (w w' : World) (q c b L : Nat) (X : Mach) : Prop where
  mach : MachHere w' b X L
  res : Box w' w.heap.size 28 [.slice none 0 0, .slice none 0 0, .int .i64 0, .int .i64 0, .int .i64 0, .bool false, .slice none 0 0, .bool false, .int .i64 0]
  only : Only [q] w w'
  rd : Rd w' q c
  lo : w.heap.size < L
  q : q < w.heap.size
  fit : Fits X 256
  cyc : X.cyc ≤ 99
theorem MacAt.other {w w1 w2 : World} {q c c' b L : Nat} {X : Mach} (h : MacAt w w1 q c b L X) (o : Only [q] w1 w2) (r : Rd w2 q c') : MacAt w w2 q c' b L X := by
  obtain ⟨A, c1, R, d, B, g, n, k, m, fa, fr, fb, hm⟩ := h.mach
  have lo := h.lo
  have hq := h.q
  exact ⟨(hm.only o (by simp; omega)).here, h.res.only o (by simp; omega), h.only.trans o, r, h.lo, h.q, h.fit, h.cyc⟩
/-- What a change in place leaves. -/
theorem MacAt.turn {w w1 w2 : World} {q c b L : Nat} {X Y : Mach} (h : MacAt w w1 q c b L X) (hm : MachHere w2 b Y L) (k : Below L w1 w2) (f : Fits Y 256) (hc : Y.cyc ≤ 99) : MacAt w w2 q c b L Y := by
  have lo := h.lo
  have hq := h.q
  exact ⟨hm, h.res.keep k (by omega), ⟨k.os.trans h.only.os, k.tape.trans h.only.tape, k.output.trans h.only.output, Nat.le_trans h.only.size k.size, fun j hj hn => (k.block j (by omega)).trans (h.only.block j hj hn)⟩, h.rd.stay ⟨k.os, k.tape, k.output, k.size, fun j hj => k.block j (by omega)⟩, h.lo, h.q, f, hc⟩
theorem make9 (W : World) : (Instr.makeSlice 23 (.int .i64 9) (.int .i64 9)).run Tryd.prog W = .ok (.slice (some ⟨W.heap.size, 0, none⟩) 9 9) (W.alloc (.cells (madeCells #[.int .i64 0] 9) 3)) :=
  Go.run_make_row' (P := Tryd.prog) 23 3 (.int .i64 0) 8 Tryd.underlying23 infoInt rfl .i64 .i64 9 (by omega) (by omega) W
def nines : List Int := [0, 0, 0, 0, 0, 0, 0, 0, 0]
theorem own_made9 (W : World) (L : Nat) (h : L ≤ W.heap.size) : (W.alloc (.cells (madeCells #[.int .i64 0] 9) 3)).ownsRow L 3 1 (.slice (some ⟨W.heap.size, 0, none⟩) 9 9) 9 (iv nines) :=
  ⟨rfl, .inr ⟨W.heap.size, 9, madeCells #[.int .i64 0] 9, rfl, h, heap_alloc_new W _, Nat.le_refl _, by unfold maxLen; omega, by simp [madeCells], by simp [madeCells, iv, nines, Array.range]⟩⟩
theorem pick_pair (x y v : Int) (d0 : 0 ≤ v) (d1 : v < 2) : ∃ u : Int, (#[Value.int .i64 x, .int .i64 y] : Array Value)[v.toNat]? = some (.int .i64 u) := by
  have h : v = 0 ∨ v = 1 := by omega
  rcases h with rfl | rfl <;> exact ⟨_, rfl⟩
/-- What drawing a machine leaves. -/
def MacDrawn (q m : Nat) (w : World) (e : Ending) (w' : World) : Prop :=
  ∃ (A : Option Addr) (n c : Nat) (R : Option Addr) (k d : Nat) (B : Option Addr) (m' g : Nat) (X : Mach) (fa fr fb : List Nat), e = .returned (.agg #[.slice A n c, .slice R k d, .int .i64 X.mem.bank, .int .i64 X.a, .int .i64 X.at_, .bool X.carry, .slice B m' g, .bool X.stop, .int .i64 X.cyc]) ∧ (n ≤ c ∧ k ≤ d ∧ m' ≤ g) ∧ MHas w' A n R k B m' X fa fr fb ∧ New w.heap.size w' (fa ++ fr ++ fb) ∧ (Fits X 256 ∧ X.cyc ≤ 99) ∧ Only [q] w w' ∧ Rd w' q (m + 20000)
theorem MacAt.end_ {w w1 w2 : World} {q m c b L : Nat} {X : Mach} (h : MacAt w w1 q c b L X) (hc : c ≤ m + 20000) {A : Option Addr} {c1 : Nat} {R : Option Addr} {d : Nat} {B : Option Addr} {g n k m' : Nat} {fa fr fb : List Nat} (hm : MachIn w1 b A c1 R d B g n k m' X fa fr fb L) (o : Only [w.heap.size] w1 w2) :
    MacDrawn q m w (.returned (.agg #[.slice A n c1, .slice R k d, .int .i64 X.mem.bank, .int .i64 X.a, .int .i64 X.at_, .bool X.carry, .slice B m' g, .bool X.stop, .int .i64 X.cyc])) w2 := by
  have lo := h.lo
  have hq := h.q
  have sm : Same (fa ++ fr ++ fb) w1 w2 := .of_only o fun y hy e => by have := (hm.new.lt y hy).1; simp at e; omega
  refine ⟨A, n, c1, R, k, d, B, m', g, X, fa, fr, fb, rfl, hm.cap, hm.has.keep sm, (hm.new.keep sm).mono (by omega), ⟨h.fit, h.cyc⟩, ?_, ?_⟩
  · exact ⟨o.os.trans h.only.os, o.tape.trans h.only.tape, o.output.trans h.only.output, Nat.le_trans h.only.size o.size, fun j hj hn => (o.block j (by have := h.only.size; omega) (by simp; omega)).trans (h.only.block j hj hn)⟩
  · exact (h.rd.stay ⟨o.os, o.tape, o.output, o.size, fun j hj => o.block j (by have := h.rd.lt; omega) (by simp; omega)⟩).mono hc
end Go.Proofs.YtcapfafglikcmaaDoor
