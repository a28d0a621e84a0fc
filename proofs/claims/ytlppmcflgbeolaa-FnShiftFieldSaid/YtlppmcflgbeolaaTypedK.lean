/- Typed regions of the laws' draws: what is asked of one operation, whatever kind it is, and the kinds that draws are made of. -/
import Derived.Test.YtlppmcflgbeolaaTyped
import Derived.Test.YtlppmcflgbeolaaDraw
import Derived.Test.YtlppmcflgbeolaaOrderE
import Derived.IntWalk
namespace Go.Proofs.Ytlppmcflgbeolaa
open Go.ChangeShapes Go.WideShapes Go.ChangeAt Go.RowKit

def slotR (ρ : Operand → Value) : Option Tmp → Value
  | some d => ρ (.tmp d)
  | none => undef
def PreR (ops : Array Oper) (T : Nat → Value → World → Prop) (ρ : Operand → Value) (w : World) : List Edge → Prop
  | [] => True
  | e :: r => (Region.binds .any e = true → T e.on (slotR ρ ((ops[e.on]?).bind (·.dst))) w) ∧ PreR ops T ρ w r
theorem slot_eq (a : Act) (d : Option Tmp) : slotV a d = slotR a.eval d := by cases d <;> rfl
theorem pre_eq {ops : Array Oper} {T : Nat → Value → World → Prop} {a : Act} {w : World} : ∀ (es : List Edge), Pre ops T a w es → PreR ops T a.eval w es
  | [], _ => trivial
  | _ :: r, h => ⟨fun hb => slot_eq a _ ▸ h.1 hb, pre_eq r h.2⟩
/-- How one operation may end: with a value, with nothing, or with a call. -/
def UponT (P : Program) (K : Value → World → Prop) : Result Next → Prop
  | .ok (.value v) w' => K v w'
  | .ok .skip w' => K undef w'
  | .ok (.enter f args) w' => Calls P f args w' fun e w'' => ∃ v, e = .returned v ∧ K v w''
  | _ => False
theorem UponT_value {P : Program} {K : Value → World → Prop} {v : Value} {w : World} : UponT P K (.ok (.value v) w) = K v w := rfl
theorem UponT_skip {P : Program} {K : Value → World → Prop} {w : World} : UponT P K (.ok .skip w) = K undef w := rfl
theorem UponT_enter {P : Program} {K : Value → World → Prop} {f : FuncId} {args : Array Value} {w : World} : UponT P K (.ok (.enter f args) w) = Calls P f args w fun e w'' => ∃ v, e = .returned v ∧ K v w'' := rfl
theorem upon_of_T {P : Program} {o : Oper} {a : Act} {K : Value → World → Prop} {Q : Exit → Act → World → Prop} {r : Result Next} (h : UponT P K r) : o.upon P a (fun a' w' => ∃ v, a' = a.put o.dst v ∧ K v w') Q r := by
  cases r with
  | ok n w' =>
    cases n <;> simp only [UponT] at h
    case value v => exact ⟨v, rfl, h⟩
    case skip => exact ⟨undef, rfl, h⟩
    case enter f args => exact Calls.mono h fun e w'' ⟨v, he, hK⟩ => by subst he; exact ⟨v, rfl, hK⟩
  | halt x w' => simp only [UponT] at h

/-- The class of worlds of a draw's region: only the blocks S have changed, the reader has been asked at most k times more. -/
structure Cls (S : List Nat) (q m : Nat) (w0 : World) (J : World → Prop) (k : Nat) (w : World) : Prop where
  only : Only S w0 w
  rd : Rd w q (m + k)
  more : J w
structure Rel (S : List Nat) (D : World → Prop) (w w' : World) : Prop where
  only : Only S w w'
  done : D w → D w'
/-- J and D hold on as long as the reader's block alone changes. -/
def Kept (q : Nat) (J : World → Prop) : Prop := ∀ w w', Only [q] w w' → J w → J w'
section
variable {P : Program} {ops : Array Oper} {Q : Exit → Act → World → Prop} {T : Nat → Value → World → Prop} {a0 : Act} {S : List Nat} {q m : Nat} {w0 : World} {J D : World → Prop} {i : Nat} {o : Oper}

/-- What is asked of an operation. -/
theorem ob_gen (hg : o.guard = none) (h : ∀ (ρ : Operand → Value) k w, k < ops.size → Cls S q m w0 J k w → (∀ v, ρ (.const v) = v) → (∀ f, ρ (.func f) = .func (.func f) #[] #[]) → (∀ n, (ops.toList.all fun o => o.dst != some n) = true → ρ (.tmp n) = a0.eval (.tmp n)) → PreR ops T ρ w o.after.toList →
      UponT P (fun v w' => Rel S D w w' ∧ Cls S q m w0 J (k + 1) w' ∧ T i (dstV o v) w') ((execOp ρ o).run P w)) :
    Ob P ops Q (Cls S q m w0 J) (Rel S D) T a0 i o := by
  intro k a w hk hI hF hp
  have h1 := h a.eval k w hk hI (fun _ => rfl) (fun _ => rfl) (fun n hn => by
    show a.tmps.getD n undef = a0.tmps.getD n undef
    refine hF.same n fun j o' ho' hd => ?_
    rw [List.all_eq_true] at hn
    have := hn o' (List.mem_of_getElem? (i := j) (by simpa using ho'))
    simp [hd] at this) (pre_eq _ hp)
  have hw : wantV ops (slotV a) o = true := by unfold wantV; rw [hg]
  refine ⟨fun _ => ?_, fun hn => by rw [hw] at hn; cases hn⟩
  unfold Oper.wp
  exact upon_of_T h1
/-- What is asked of an operation that changes the reader's block at most. -/
theorem ob_only (hg : o.guard = none) (hq : q ∈ S) (hJ : Kept q J) (hD : Kept q D)
    (h : ∀ (ρ : Operand → Value) k w, k < ops.size → Cls S q m w0 J k w → (∀ v, ρ (.const v) = v) → (∀ f, ρ (.func f) = .func (.func f) #[] #[]) → (∀ n, (ops.toList.all fun o => o.dst != some n) = true → ρ (.tmp n) = a0.eval (.tmp n)) → PreR ops T ρ w o.after.toList →
      UponT P (fun v w' => Only [q] w w' ∧ Rd w' q (m + (k + 1)) ∧ T i (dstV o v) w') ((execOp ρ o).run P w)) :
    Ob P ops Q (Cls S q m w0 J) (Rel S D) T a0 i o :=
  ob_gen hg fun ρ k w hk hI hc hf hx hp => by
    have h1 := h ρ k w hk hI hc hf hx hp
    have hS : ∀ w', Only [q] w w' → Only S w w' := fun w' ho => ho.mono (by simp; exact hq)
    generalize (execOp ρ o).run P w = r at h1 ⊢
    have go : ∀ v w', (Only [q] w w' ∧ Rd w' q (m + (k + 1)) ∧ T i (dstV o v) w') → Rel S D w w' ∧ Cls S q m w0 J (k + 1) w' ∧ T i (dstV o v) w' := fun v w' ⟨b1, b2, b3⟩ =>
      ⟨⟨hS w' b1, hD w w' b1⟩, ⟨hI.only.trans (hS w' b1), b2, hJ w w' b1 hI.more⟩, b3⟩
    cases r with
    | ok n w' =>
      cases n <;> simp only [UponT] at h1 ⊢
      case value v => exact go v w' h1
      case skip => exact go undef w' h1
      case enter f args => exact Calls.mono h1 fun e w'' ⟨v, he, hK⟩ => ⟨v, he, go v w'' hK⟩
    | halt x w' => simp only [UponT] at h1
/-- An operation that yields a value and leaves the world alone. -/
theorem ob_val (hg : o.guard = none) (v : Value) (hq : q ∈ S) (hJ : Kept q J) (hD : Kept q D)
    (h : ∀ (ρ : Operand → Value) k w, Cls S q m w0 J k w → (∀ v, ρ (.const v) = v) → (∀ n, (ops.toList.all fun o => o.dst != some n) = true → ρ (.tmp n) = a0.eval (.tmp n)) → PreR ops T ρ w o.after.toList →
      (execOp ρ o).run P w = .ok (.value v) w ∧ T i (dstV o v) w) :
    Ob P ops Q (Cls S q m w0 J) (Rel S D) T a0 i o :=
  ob_only hg hq hJ hD fun ρ k w _ hI hc _ hx hp => by
    obtain ⟨e, ht⟩ := h ρ k w hI hc hx hp
    rw [e]
    exact ⟨Only.refl _ _, hI.rd.mono (by omega), ht⟩
end

/-! The predicates that draws are made of. -/
/-- A value known whole. -/
def TV (x : Value) : Value → World → Prop := fun v _ => v = x
/-- An integer in a range. -/
def TI (lo hi : Int) : Value → World → Prop := fun v _ => ∃ z : Int, v = .int .i64 z ∧ lo ≤ z ∧ z ≤ hi
def TB : Value → World → Prop := fun v _ => ∃ b : Bool, v = .bool b
/-- A literal of integers in a range, in a block that the region itself has laid. -/
def LitIn (S : List Nat) (w : World) (b len : Nat) (lo hi : Int) : Prop := b < w.heap.size ∧ b ∉ S ∧ ∀ j, j < len → ∃ z : Int, w.cell? ⟨b, j, none⟩ = some (.int .i64 z) ∧ lo ≤ z ∧ z ≤ hi
theorem LitIn.only {S : List Nat} {w w' : World} {b len : Nat} {lo hi : Int} (h : LitIn S w b len lo hi) (o : Only S w w') : LitIn S w' b len lo hi :=
  ⟨Nat.lt_of_lt_of_le h.1 o.size, h.2.1, fun j hj => by obtain ⟨z, hz, h1⟩ := h.2.2 j hj; exact ⟨z, (World.cell?_of_block (a := ⟨b, j, none⟩) (o.block b h.1 h.2.1)).trans hz, h1⟩⟩
def TL (S : List Nat) (len : Nat) (lo hi : Int) : Value → World → Prop := fun v w => ∃ b, v = .slice (some ⟨b, 0, none⟩) len len ∧ LitIn S w b len lo hi
def TP (S : List Nat) (lo hi : Int) : Value → World → Prop := fun v w => ∃ b j len, v = .pointer (some ⟨b, j, none⟩) ∧ j < len ∧ LitIn S w b len lo hi
def Stab (R : World → World → Prop) (t : Value → World → Prop) : Prop := ∀ v w w', R w w' → t v w → t v w'
def StabAll (R : World → World → Prop) : List (Value → World → Prop) → Prop
  | [] => True
  | t :: r => Stab R t ∧ StabAll R r
def Ty (ts : List (Value → World → Prop)) (i : Nat) : Value → World → Prop := ts.getD i (fun _ _ => True)
theorem stab_ty {R : World → World → Prop} : ∀ (ts : List (Value → World → Prop)), StabAll R ts → ∀ i v w w', R w w' → Ty ts i v w → Ty ts i v w'
  | [], _, _, _, _, _, _, _ => trivial
  | t :: r, h, i, v, w, w', hR, ht => by
    cases i with
    | zero => exact h.1 v w w' hR ht
    | succ i => exact stab_ty r h.2 i v w w' hR ht
section
variable {S : List Nat} {D : World → Prop}
theorem stab_tv (x : Value) : Stab (Rel S D) (TV x) := fun _ _ _ _ h => h
theorem stab_ti (lo hi : Int) : Stab (Rel S D) (TI lo hi) := fun _ _ _ _ h => h
theorem stab_tb : Stab (Rel S D) TB := fun _ _ _ _ h => h
theorem stab_tl (len : Nat) (lo hi : Int) : Stab (Rel S D) (TL S len lo hi) := fun _ _ _ hR ⟨b, hv, hl⟩ => ⟨b, hv, hl.only hR.only⟩
theorem stab_tp (lo hi : Int) : Stab (Rel S D) (TP S lo hi) := fun _ _ _ hR ⟨b, j, len, hv, hj, hl⟩ => ⟨b, j, len, hv, hj, hl.only hR.only⟩
theorem stab_done (D' : World → Prop) (h : ∀ w, D w → D' w) (h' : ∀ w, D' w → D w) : Stab (Rel S D) (fun _ w => D' w) := fun _ _ _ hR ht => h _ (hR.done (h' _ ht))
end
section
variable {ops : Array Oper} {Q : Exit → Act → World → Prop} {T : Nat → Value → World → Prop} {a0 : Act} {S : List Nat} {q m : Nat} {w0 : World} {J D : World → Prop} {i : Nat} {o : Oper}
/-- move, assign -/
theorem ob_move (hg : o.guard = none) (x : Operand) (hop : o.op = .move x ∨ o.op = .assign x) (hq : q ∈ S) (hJ : Kept q J) (hD : Kept q D)
    (h : ∀ (ρ : Operand → Value) w, (∀ v, ρ (.const v) = v) → (∀ n, (ops.toList.all fun o => o.dst != some n) = true → ρ (.tmp n) = a0.eval (.tmp n)) → PreR ops T ρ w o.after.toList → T i (dstV o (ρ x)) w) :
    Ob Try.prog ops Q (Cls S q m w0 J) (Rel S D) T a0 i o :=
  ob_only hg hq hJ hD fun ρ k w _ hI hc _ hx hp => by
    have e : (execOp ρ o).run Try.prog w = .ok (.value (ρ x)) w := by
      rcases hop with h | h <;> (unfold execOp; rw [h]; rfl)
    rw [e]
    exact ⟨Only.refl _ _, hI.rd.mono (by omega), h ρ w hc hx hp⟩
theorem ob_pick (hg : o.guard = none) (x : Operand) (n : Int) (ty : Array TypeId) (hop : o.op = .call { callee := .value (.func 49), args := #[x, .const (.int .i64 n)], argTypes := ty }) (hq : q ∈ S) (hJ : Kept q J) (hD : Kept q D) (hm : m + ops.size ≤ 1000000000) (hn : 1 ≤ n) (hn2 : n ≤ 1000000000)
    (hx : ∀ (ρ : Operand → Value) w, PreR ops T ρ w o.after.toList → ρ x = .pointer (some ⟨q, 0, none⟩)) (hT : ∀ v w, TI 0 (n - 1) v w → T i (dstV o v) w) :
    Ob Try.prog ops Q (Cls S q m w0 J) (Rel S D) T a0 i o :=
  ob_only hg hq hJ hD fun ρ k w hk hI hc hf _ hp => by
    have e : (execOp ρ o).run Try.prog w = .ok (.enter 49 #[.pointer (some ⟨q, 0, none⟩), .int .i64 n]) w := by
      have h1 := hx ρ w hp
      have h2 := hc (.int .i64 n)
      have h3 := hf 49
      unfold execOp; rw [hop]
      simp [go_sem, h1, h2, h3]
    rw [e, UponT_enter]
    refine (pick_any q (m + k) n w hI.rd (by omega) hn hn2).mono ?_
    rintro e w' ⟨z, z0, z1, rfl, hs, hr⟩
    exact ⟨_, rfl, hs.only, hr, hT _ _ ⟨z, rfl, z0, by omega⟩⟩
/-- A literal of integers. -/
theorem ob_build (hg : o.guard = none) (len : Nat) (lo hi : Int) (hq : q ∈ S) (hJ : Kept q J) (hD : Kept q D) (hS : ∀ b ∈ S, b < w0.heap.size)
    (hrun : ∀ (ρ : Operand → Value) w, (∀ v, ρ (.const v) = v) → (∀ n, (ops.toList.all fun o => o.dst != some n) = true → ρ (.tmp n) = a0.eval (.tmp n)) → PreR ops T ρ w o.after.toList →
      ∃ cs : Array Value, (execOp ρ o).run Try.prog w = .ok (.value (.slice (some ⟨w.heap.size, 0, none⟩) len len)) (w.alloc (.cells cs 3)) ∧ ∀ j, j < len → ∃ z : Int, cs[j]? = some (.int .i64 z) ∧ lo ≤ z ∧ z ≤ hi)
    (hT : ∀ v w, TL S len lo hi v w → T i (dstV o v) w) : Ob Try.prog ops Q (Cls S q m w0 J) (Rel S D) T a0 i o :=
  ob_only hg hq hJ hD fun ρ k w hk hI hc _ hx hp => by
    obtain ⟨cs, e, hcs⟩ := hrun ρ w hc hx hp
    rw [e]
    refine ⟨(Only.refl _ _).alloc _, (hI.rd.mono (by omega)).alloc _, hT _ _ ⟨w.heap.size, rfl, by simp, fun h => ?_, fun j hj => ?_⟩⟩
    · have := hS _ h
      have := hI.only.size
      omega
    · obtain ⟨z, hz, h1⟩ := hcs j hj
      exact ⟨z, by rw [World.cell?_alloc_new]; exact hz, h1⟩
/-- The address of an element of a literal. -/
theorem ob_index (hg : o.guard = none) (x y : Operand) (len : Nat) (lo hi : Int) (hop : o.op = .indexAddr 23 x y) (hq : q ∈ S) (hJ : Kept q J) (hD : Kept q D)
    (hx : ∀ (ρ : Operand → Value) w, PreR ops T ρ w o.after.toList → TL S len lo hi (ρ x) w ∧ TI 0 (len - 1) (ρ y) w) (hT : ∀ v w, TP S lo hi v w → T i (dstV o v) w) :
    Ob Try.prog ops Q (Cls S q m w0 J) (Rel S D) T a0 i o :=
  ob_only hg hq hJ hD fun ρ k w _ hI _ _ _ hp => by
    obtain ⟨⟨b, h1, hl⟩, z, h2, z0, z1⟩ := hx ρ w hp
    have z2 : z < (len : Int) := by omega
    have e : (execOp ρ o).run Try.prog w = .ok (.value (.pointer (some ⟨b, z.toNat, none⟩))) w := by
      unfold execOp; rw [hop]
      simp only [h1, h2]
      clear h1 h2 hl
      go_simp
    rw [e]
    exact ⟨Only.refl _ _, hI.rd.mono (by omega), hT _ _ ⟨b, _, len, rfl, by omega, hl⟩⟩
/-- An element of a literal is read. -/
theorem ob_load (hg : o.guard = none) (x : Operand) (lo hi : Int) (hop : o.op = .load 3 x) (hq : q ∈ S) (hJ : Kept q J) (hD : Kept q D)
    (hx : ∀ (ρ : Operand → Value) w, PreR ops T ρ w o.after.toList → TP S lo hi (ρ x) w) (hT : ∀ v w, TI lo hi v w → T i (dstV o v) w) :
    Ob Try.prog ops Q (Cls S q m w0 J) (Rel S D) T a0 i o :=
  ob_only hg hq hJ hD fun ρ k w _ hI _ _ _ hp => by
    obtain ⟨b, j, len, h1, hj, hl⟩ := hx ρ w hp
    obtain ⟨z, hz, z0, z1⟩ := hl.2.2 j hj
    have e : (execOp ρ o).run Try.prog w = .ok (.value (.int .i64 z)) w := by
      unfold execOp; rw [hop]
      simp only [h1]
      clear h1 hl
      go_simp
    rw [e]
    exact ⟨Only.refl _ _, hI.rd.mono (by omega), hT _ _ ⟨z, rfl, z0, z1⟩⟩
/-- A sum or a product with a constant. -/
theorem ob_add (hg : o.guard = none) (x y : Operand) (c lo hi lo' hi' : Int) (ty ty' : TypeId) (hty : ty = 3) (hop : o.op = .binOp .add ty x y ty') (hq : q ∈ S) (hJ : Kept q J) (hD : Kept q D)
    (hx : ∀ (ρ : Operand → Value) w, (∀ v, ρ (.const v) = v) → PreR ops T ρ w o.after.toList → (TI lo hi (ρ x) w ∧ ρ y = .int .i64 c) ∨ (TI lo hi (ρ y) w ∧ ρ x = .int .i64 c)) (h1 : lo' = lo + c) (h2 : hi' = hi + c) (h3 : -1000000000 ≤ lo') (h4 : hi' ≤ 1000000000) (hT : ∀ v w, TI lo' hi' v w → T i (dstV o v) w) :
    Ob Try.prog ops Q (Cls S q m w0 J) (Rel S D) T a0 i o :=
  ob_only hg hq hJ hD fun ρ k w _ hI hc _ _ hp => by
    subst hty
    have e : ∃ z : Int, lo' ≤ z ∧ z ≤ hi' ∧ (execOp ρ o).run Try.prog w = .ok (.value (.int .i64 z)) w := by
      rcases hx ρ w hc hp with ⟨⟨z, g1, z0, z1⟩, g2⟩ | ⟨⟨z, g1, z0, z1⟩, g2⟩
      · refine ⟨z + c, by omega, by omega, ?_⟩
        have hw : IntKind.i64.wrap (z + c) = z + c := IntWalk.i64_in _ (by omega)
        unfold execOp; rw [hop]
        simp only [g1, g2]
        clear g1 g2
        go_simp
      · refine ⟨c + z, by omega, by omega, ?_⟩
        have hw : IntKind.i64.wrap (c + z) = c + z := IntWalk.i64_in _ (by omega)
        unfold execOp; rw [hop]
        simp only [g1, g2]
        clear g1 g2
        go_simp
    obtain ⟨z, z0, z1, e⟩ := e
    rw [e]
    exact ⟨Only.refl _ _, hI.rd.mono (by omega), hT _ _ ⟨z, rfl, z0, z1⟩⟩
theorem ob_mul (hg : o.guard = none) (x y : Operand) (c lo hi lo' hi' : Int) (ty ty' : TypeId) (hty : ty = 3) (hop : o.op = .binOp .mul ty x y ty') (hq : q ∈ S) (hJ : Kept q J) (hD : Kept q D)
    (hx : ∀ (ρ : Operand → Value) w, (∀ v, ρ (.const v) = v) → PreR ops T ρ w o.after.toList → TI lo hi (ρ x) w ∧ ρ y = .int .i64 c) (c0 : 0 ≤ c) (h1 : lo' = lo * c) (h2 : hi' = hi * c) (h3 : -1000000000 ≤ lo') (h4 : hi' ≤ 1000000000) (hT : ∀ v w, TI lo' hi' v w → T i (dstV o v) w) :
    Ob Try.prog ops Q (Cls S q m w0 J) (Rel S D) T a0 i o :=
  ob_only hg hq hJ hD fun ρ k w _ hI hc _ _ hp => by
    subst hty
    obtain ⟨⟨z, g1, z0, z1⟩, g2⟩ := hx ρ w hc hp
    have a1 := Int.mul_le_mul_of_nonneg_right z0 c0
    have a2 := Int.mul_le_mul_of_nonneg_right z1 c0
    have hw : IntKind.i64.wrap (z * c) = z * c := IntWalk.i64_in _ (by omega)
    have e : (execOp ρ o).run Try.prog w = .ok (.value (.int .i64 (z * c))) w := by
      unfold execOp; rw [hop]
      simp only [g1, g2]
      clear g1 g2 a1 a2
      go_simp
    rw [e]
    exact ⟨Only.refl _ _, hI.rd.mono (by omega), hT _ _ ⟨z * c, rfl, by omega, by omega⟩⟩
end
/-- No byte of the laws' text. -/
def plainV (v : Value) : Prop := ∀ z : Int, v ≠ .int .u8 z
/-- The result's block: n cells, no byte among them. -/
def Res (res : Nat) (t : TypeId) (n : Nat) (w : World) : Prop := ∃ cs : List Value, cs.length = n ∧ Box w res t cs ∧ ∀ v ∈ cs, plainV v
theorem Res.kept {q res : Nat} {t : TypeId} {n : Nat} (h : res ≠ q) : Kept q (Res res t n) := fun _ _ o ⟨cs, h1, h2, h3⟩ => ⟨cs, h1, h2.only o (by simpa using h), h3⟩
theorem box_kept {q res : Nat} {t : TypeId} {cs : List Value} (h : res ≠ q) : Kept q (fun w => Box w res t cs) := fun _ _ o h2 => h2.only o (by simpa using h)
theorem Rd.store {w : World} {q m res : Nat} {t : TypeId} {cs : List Value} (h : Rd w q m) (hb : Box w res t cs) (hp : ∀ v ∈ cs, plainV v) (hne : res ≠ q) (i : Nat) (v : Value) : Rd (w.setCell ⟨res, i, none⟩ v) q m := by
  obtain ⟨p, a, len, cap, h1, h2, h3, h4, h5, h6, h7, h8⟩ := h
  refine ⟨p, a, len, cap, by simpa using h1, h2, ?_, ?_, ?_, h6, h7, ?_⟩
  · rw [World.cell?_setCell_other _ _ _ _ (fun e => by injection e; omega)]; exact h3
  · rw [World.cell?_setCell_other _ _ _ _ (fun e => by injection e; omega)]; exact h4
  · rw [World.frozen?_setCell]; exact h5
  · rcases h8 with h8 | ⟨b, off, rfl, hbq, hc⟩
    · exact .inl h8
    · refine .inr ⟨b, off, rfl, hbq, fun j hj => ?_⟩
      obtain ⟨z, z0, z1, hz⟩ := hc j hj
      refine ⟨z, z0, z1, ?_⟩
      by_cases e : b = res
      · subst e
        rw [hb.cell] at hz
        exact absurd rfl (hp _ (List.mem_of_getElem? hz) z)
      · rw [World.cell?_setCell_other _ _ _ _ (fun e' => by injection e'; omega)]; exact hz
def setAll (w : World) (b : Nat) : Nat → List Value → World
  | _, [] => w
  | i, v :: r => setAll (w.setCell ⟨b, i, none⟩ v) b (i + 1) r
theorem setAll_only {S : List Nat} {b : Nat} (hb : b ∈ S) : ∀ (vs : List Value) (i : Nat) (w0 w : World), Only S w0 w → Only S w0 (setAll w b i vs)
  | [], _, _, _, h => h
  | _ :: r, i, _, _, h => setAll_only hb r (i + 1) _ _ (h.setCell (.inl hb) _)
theorem setAll_box {b : Nat} {t : TypeId} : ∀ (vs pre cs : List Value) (w : World), Box w b t (pre ++ cs) → cs.length = vs.length → Box (setAll w b pre.length vs) b t (pre ++ vs)
  | [], pre, cs, w, h, hl => by
    obtain rfl : cs = [] := List.length_eq_zero_iff.1 hl
    exact h
  | v :: r, pre, cs, w, h, hl => by
    match cs, hl with
    | c :: cs', hl =>
      have h1 := h.set pre.length v
      rw [List.set_append_right _ _ (Nat.le_refl _), Nat.sub_self, List.set_cons_zero] at h1
      have h2 := setAll_box r (pre ++ [v]) cs' _ (by simpa using h1) (by simpa using hl)
      simpa [setAll] using h2
theorem setAll_rd {b q m : Nat} {t : TypeId} (hne : b ≠ q) : ∀ (vs : List Value) (i : Nat) (w : World), (∀ v ∈ vs, plainV v) → (∃ cs, Box w b t cs ∧ ∀ v ∈ cs, plainV v) → Rd w q m → Rd (setAll w b i vs) q m
  | [], _, _, _, _, h => h
  | v :: r, i, w, hp, ⟨cs, hb, hc⟩, h => setAll_rd hne r (i + 1) _ (fun x hx => hp x (by simp [hx])) ⟨_, hb.set i v, fun x hx => by
      rcases List.mem_or_eq_of_mem_set hx with hx | rfl
      · exact hc x hx
      · exact hp x (by simp)⟩ (h.store hb hc hne i v)
/-- The result is stored. -/
theorem ob_put {ops : Array Oper} {Q : Exit → Act → World → Prop} {T : Nat → Value → World → Prop} {a0 : Act} {S : List Nat} {q m : Nat} {w0 : World} {i : Nat} {o : Oper} (hg : o.guard = none) (res : Nat) (t : TypeId) (vs : List Value) (hres : res ∈ S) (hne : res ≠ q) (hpl : ∀ v ∈ vs, plainV v)
    (hrun : ∀ (ρ : Operand → Value) w cs, Box w res t cs → cs.length = vs.length → (∀ v, ρ (.const v) = v) → (∀ n, (ops.toList.all fun o => o.dst != some n) = true → ρ (.tmp n) = a0.eval (.tmp n)) → PreR ops T ρ w o.after.toList → (execOp ρ o).run Try.prog w = .ok .skip (setAll w res 0 vs))
    (hT : ∀ v w, Box w res t vs → T i v w) :
    Ob Try.prog ops Q (Cls S q m w0 (Res res t vs.length)) (Rel S fun w => Box w res t vs) T a0 i o :=
  ob_gen hg fun ρ k w _ hI hc _ hx hp => by
    obtain ⟨cs, hl, hb, hcp⟩ := hI.more
    rw [hrun ρ w cs hb hl hc hx hp, UponT_skip]
    have h1 := setAll_only hres vs 0 w w (Only.refl _ _)
    have h2 : Box (setAll w res 0 vs) res t vs := setAll_box vs [] cs w (by simpa using hb) hl
    exact ⟨⟨h1, fun _ => h2⟩, ⟨hI.only.trans h1, setAll_rd hne vs 0 w hpl ⟨cs, hb, hcp⟩ (hI.rd.mono (by omega)), vs, rfl, h2, hpl⟩, hT _ _ h2⟩
end Go.Proofs.Ytlppmcflgbeolaa
