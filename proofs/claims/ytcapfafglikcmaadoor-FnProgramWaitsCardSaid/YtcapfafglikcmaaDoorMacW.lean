/- Machines as values: what the functions on machines make of them. -/
import Derived.Test.YtcapfafglikcmaaDoorMacH
import Derived.Test.YtcapfafglikcmaaDoorKK
import Derived.Test.YtcapfafglikcmaaDoorKL
import Derived.Test.YtcapfafglikcmaaDoorMchW
import Derived.Test.YtcapfafglikcmaaDoorMchX
import Derived.Test.YtcapfafglikcmaaDoorTypedL
namespace Go.Proofs.YtcapfafglikcmaaDoor
open Go.ChangeShapes Go.WideShapes Go.ChangeAt Go.RowKit
set_option linter.unusedVariables false

/-- A machine as a value. -/
def TX (X : Mach) : Value → World → Prop := fun v w => ∃ (A : Option Addr) (n c : Nat) (R : Option Addr) (k d : Nat) (B : Option Addr) (m g : Nat), v = .agg #[.slice A n c, .slice R k d, .int .i64 X.mem.bank, .int .i64 X.a, .int .i64 X.at_, .bool X.carry, .slice B m g, .bool X.stop, .int .i64 X.cyc] ∧ MacHere w A n c R k d B m g X
theorem TX.below {X : Mach} {v : Value} {w w' : World} (h : TX X v w) (b : Below w.heap.size w w') : TX X v w' := by
  obtain ⟨A, n, c, R, k, d, B, m, g, rfl, hm⟩ := h
  exact ⟨A, n, c, R, k, d, B, m, g, rfl, hm.below b⟩
theorem stabB_x (X : Mach) : Stab RlB (TX X) := fun _ _ _ hR h => TX.below h hR
theorem stabB_tv (x : Value) : Stab RlB (TV x) := fun _ _ _ _ h => h
theorem stabB_any : Stab RlB (fun _ _ => True) := fun _ _ _ _ _ => trivial
theorem MacHere.ramLen {w : World} {A : Option Addr} {n c : Nat} {R : Option Addr} {k d : Nat} {B : Option Addr} {m g : Nat} {X : Mach} (h : MacHere w A n c R k d B m g X) : n = X.mem.ram.length := by
  obtain ⟨_, ⟨fa, fr, fb, hh⟩, _⟩ := h; exact hh.ram.1.symm
theorem MacHere.romLen {w : World} {A : Option Addr} {n c : Nat} {R : Option Addr} {k d : Nat} {B : Option Addr} {m g : Nat} {X : Mach} (h : MacHere w A n c R k d B m g X) : k = X.mem.rom.length := by
  obtain ⟨_, ⟨fa, fr, fb, hh⟩, _⟩ := h; exact hh.rom.len.symm
theorem MacHere.backLen {w : World} {A : Option Addr} {n c : Nat} {R : Option Addr} {k d : Nat} {B : Option Addr} {m g : Nat} {X : Mach} (h : MacHere w A n c R k d B m g X) : m = X.back.length := by
  obtain ⟨_, ⟨fa, fr, fb, hh⟩, _⟩ := h; exact hh.back.1.symm
/-- A call that returns a machine. -/
def RetX (X : Mach) (w : World) (e : Ending) (w' : World) : Prop := ∃ v, e = .returned v ∧ Below w.heap.size w w' ∧ TX X v w'
theorem ret_new {X : Mach} {w w' : World} {e : Ending} (h : MachNew X w e w') (f : Fits X 256) : RetX X w e w' := by
  obtain ⟨A, n, c, R, k, d, B, m, g, fa, fr, fb, rfl, hc, hh, nw, b⟩ := h
  exact ⟨_, rfl, b, A, n, c, R, k, d, B, m, g, rfl, hc, ⟨fa, fr, fb, hh⟩, f⟩
/-- A machine and a number. -/
def RetX2 (X : Mach) (s : Int) (w : World) (e : Ending) (w' : World) : Prop := ∃ v, e = .returned (.tuple #[v, .int .i64 s]) ∧ Below w.heap.size w w' ∧ TX X v w'
theorem ret_new2 {X : Mach} {s : Int} {w w' : World} {e : Ending} (h : MachNew2 X s w e w') (f : Fits X 256) : RetX2 X s w e w' := by
  obtain ⟨v, rfl, h⟩ := h
  obtain ⟨v', e, b, t⟩ := ret_new h f
  injection e with e
  subst e
  exact ⟨_, rfl, b, t⟩
section
variable {X : Mach} {v v' : Value} {w : World}
theorem tx_run (h : TX X v w) (ho : Ops w) (s : Int) : Calls Tryd.prog 19 #[v, .int .i64 s] w (RetX (runX X s) w) := by
  obtain ⟨A, n, c, R, k, d, B, m, g, rfl, _, ⟨fa, fr, fb, hh⟩, f⟩ := h
  exact (impl_run A c R d B g n k m X s fa fr fb w hh (fits_mono f (by omega)) ho).mono fun e w' h => ret_new h (runX_fits X s)
theorem tx_srun (h : TX X v w) (s : Int) : Calls Tryd.prog 20 #[v, .int .i64 s] w (RetX (runX X s) w) := by
  obtain ⟨A, n, c, R, k, d, B, m, g, rfl, _, ⟨fa, fr, fb, hh⟩, f⟩ := h
  exact (spec_run A c R d B g n k m X s fa fr fb w hh (fits_mono f (by omega))).mono fun e w' h => ret_new h (runX_fits X s)
theorem tx_step (h : TX X v w) (ho : Ops w) : Calls Tryd.prog 8 #[v] w (RetX (runX X 1) w) := by
  obtain ⟨A, n, c, R, k, d, B, m, g, rfl, _, ⟨fa, fr, fb, hh⟩, f⟩ := h
  exact (impl_stepM A c R d B g n k m X fa fr fb w hh (fits_mono f (by omega)) ho).mono fun e w' h => ret_new h (runX_fits X 1)
theorem tx_sstep (h : TX X v w) : Calls Tryd.prog 10 #[v] w (RetX (runX X 1) w) := by
  obtain ⟨A, n, c, R, k, d, B, m, g, rfl, _, ⟨fa, fr, fb, hh⟩, f⟩ := h
  exact (spec_stepM A c R d B g n k m X fa fr fb w hh (fits_mono f (by omega))).mono fun e w' h => ret_new h (runX_fits X 1)
theorem tx_until (h : TX X v w) (ho : Ops w) (s : Int) : Calls Tryd.prog 22 #[v, .int .i64 s] w (RetX2 (untilX X s) (untilS X s) w) := by
  obtain ⟨A, n, c, R, k, d, B, m, g, rfl, _, ⟨fa, fr, fb, hh⟩, f⟩ := h
  exact (impl_until A c R d B g n k m X s fa fr fb w hh (fits_mono f (by omega)) ho).mono fun e w' h => ret_new2 h (untilX_fits X s)
theorem tx_suntil (h : TX X v w) (s : Int) : Calls Tryd.prog 23 #[v, .int .i64 s] w (RetX2 (untilX X s) (untilS X s) w) := by
  obtain ⟨A, n, c, R, k, d, B, m, g, rfl, _, ⟨fa, fr, fb, hh⟩, f⟩ := h
  exact (spec_until A c R d B g n k m X s fa fr fb w hh (fits_mono f (by omega))).mono fun e w' h => ret_new2 h (untilX_fits X s)
theorem tx_same (h : TX X v w) (h' : TX X v' w) : Calls Tryd.prog 9 #[v, v'] w fun e w' => e = .returned (.bool true) ∧ Below w.heap.size w w' := by
  obtain ⟨A, n, c, R, k, d, B, m, g, rfl, hm⟩ := h
  obtain ⟨A', n', c', R', k', d', B', m', g', rfl, hm'⟩ := h'
  obtain rfl : n = n' := hm.ramLen.trans hm'.ramLen.symm
  obtain rfl : k = k' := hm.romLen.trans hm'.romLen.symm
  obtain rfl : m = m' := hm.backLen.trans hm'.backLen.symm
  obtain ⟨_, ⟨fa, fr, fb, hh⟩, f⟩ := hm
  obtain ⟨_, ⟨fa', fr', fb', hh'⟩, _⟩ := hm'
  exact same_mach A c R d B g A' c' R' d' B' g' n k m X fa fr fb fa' fr' fb' w hh hh' (fits_mono f (by omega))
end
/-- The machine in a variable, loaded. -/
theorem load_mach {w : World} {b : Nat} {v0 v1 v2 v3 v4 v5 v6 v7 v8 : Value} (h : Box w b 28 [v0, v1, v2, v3, v4, v5, v6, v7, v8]) (ρ : Operand → Value) (x : Operand) (hx : ρ x = .pointer (some ⟨b, 0, none⟩)) {o : Oper} (ho : o.op = .load 28 x) :
    (execOp ρ o).run Tryd.prog w = .ok (.value (.agg #[v0, v1, v2, v3, v4, v5, v6, v7, v8])) w := by
  have c0 := h.cell 0
  have c1 := h.cell 1
  have c2 := h.cell 2
  have c3 := h.cell 3
  have c4 := h.cell 4
  have c5 := h.cell 5
  have c6 := h.cell 6
  have c7 := h.cell 7
  have c8 := h.cell 8
  unfold execOp; rw [ho]
  simp only [hx]
  clear hx h
  go_simp
/-- A variable that holds a machine. -/
def VX (w : World) (b : Nat) (X : Mach) : Prop := ∃ (A : Option Addr) (n c : Nat) (R : Option Addr) (k d : Nat) (B : Option Addr) (m g : Nat), Box w b 28 [.slice A n c, .slice R k d, .int .i64 X.mem.bank, .int .i64 X.a, .int .i64 X.at_, .bool X.carry, .slice B m g, .bool X.stop, .int .i64 X.cyc] ∧ MacHere w A n c R k d B m g X
theorem VX.below {w w' : World} {b : Nat} {X : Mach} (h : VX w b X) (k : Below w.heap.size w w') : VX w' b X := by
  obtain ⟨A, n, c, R, k', d, B, m, g, hb, hm⟩ := h
  exact ⟨A, n, c, R, k', d, B, m, g, hb.below k, hm.below k⟩
section
variable {ops : Array Oper} {Q : Exit → Act → World → Prop} {T : Nat → Value → World → Prop} {a0 : Act} {w0 : World} {i : Nat} {o : Oper}
/-- Loading such a variable. -/
theorem lb_loadX (x : Operand) (b : Nat) (X : Mach) (hop : o.op = .load 28 x) (hv : VX w0 b X) (hw : ∀ (ρ : Operand → Value) w, PreR ops T ρ w o.after.toList → wantV ops (slotR ρ) o = true)
    (hx : ∀ (ρ : Operand → Value), (∀ n, (ops.toList.all fun o => o.dst != some n) = true → ρ (.tmp n) = a0.eval (.tmp n)) → ρ x = .pointer (some ⟨b, 0, none⟩)) (hT : ∀ v w, TX X v w → T i (dstV o v) w) : Ob Tryd.prog ops Q (ClB w0) RlB T a0 i o :=
  lb_gen hw fun ρ w hb _ _ hf _ => by
    obtain ⟨A, n, c, R, k, d, B, m, g, hbx, hm⟩ := hv.below hb
    rw [load_mach hbx ρ x (hx ρ hf) hop]
    exact ⟨Below.refl _ _, hT _ _ ⟨A, n, c, R, k, d, B, m, g, rfl, hm⟩⟩
/-- A call that returns a machine. -/
theorem lb_callX (X : Mach) (f : FuncId) (xs : Array Operand) (ty : Array TypeId) (hcf : ∀ (args : Array Value) (w : World), (callFunc f args).run Tryd.prog w = .ok (.enter f args) w) (hop : o.op = .call { callee := .value (.func f), args := xs, argTypes := ty }) (hw : ∀ (ρ : Operand → Value) w, PreR ops T ρ w o.after.toList → wantV ops (slotR ρ) o = true)
    (h : ∀ (ρ : Operand → Value) w, Below w0.heap.size w0 w → (∀ v, ρ (.const v) = v) → PreR ops T ρ w o.after.toList → ∃ args, xs.map ρ = args ∧ Calls Tryd.prog f args w (RetX X w)) (hT : ∀ v w, TX X v w → T i (dstV o v) w) : Ob Tryd.prog ops Q (ClB w0) RlB T a0 i o :=
  lb_call f xs ty hcf hop hw fun ρ w hb hc hp => by
    obtain ⟨args, ha, hC⟩ := h ρ w hb hc hp
    exact ⟨args, ha, hC.mono fun e w' ⟨v, he, b, t⟩ => ⟨v, he, b, hT _ _ t⟩⟩
/-- A call that returns true. -/
theorem lb_callT (f : FuncId) (xs : Array Operand) (ty : Array TypeId) (hcf : ∀ (args : Array Value) (w : World), (callFunc f args).run Tryd.prog w = .ok (.enter f args) w) (hop : o.op = .call { callee := .value (.func f), args := xs, argTypes := ty }) (hw : ∀ (ρ : Operand → Value) w, PreR ops T ρ w o.after.toList → wantV ops (slotR ρ) o = true)
    (h : ∀ (ρ : Operand → Value) w, Below w0.heap.size w0 w → (∀ v, ρ (.const v) = v) → PreR ops T ρ w o.after.toList → ∃ args, xs.map ρ = args ∧ Calls Tryd.prog f args w fun e w' => e = .returned (.bool true) ∧ Below w.heap.size w w') (hT : ∀ w, T i (dstV o (.bool true)) w) : Ob Tryd.prog ops Q (ClB w0) RlB T a0 i o :=
  lb_call f xs ty hcf hop hw fun ρ w hb hc hp => by
    obtain ⟨args, ha, hC⟩ := h ρ w hb hc hp
    exact ⟨args, ha, hC.mono fun e w' ⟨he, b⟩ => ⟨.bool true, he, b, hT _⟩⟩
end
end Go.Proofs.YtcapfafglikcmaaDoor
