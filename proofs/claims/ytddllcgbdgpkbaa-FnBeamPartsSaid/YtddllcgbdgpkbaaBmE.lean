/- What the laws of chapter 13 draw. -/
import Derived.Test.YtddllcgbdgpkbaaBmD
namespace Go.Proofs.Ytddllcgbdgpkbaa
open Go.ChangeShapes Go.WideShapes Go.ChangeAt Go.RowKit
set_option linter.unusedVariables false

/-- The class of worlds of a draw's region: only the blocks S have changed, the reader has been asked at most k times more. -/
structure ClsX (S : List Nat) (q m : Nat) (w0 : World) (J : World → Prop) (k : Nat) (w : World) : Prop where
  only : Only S w0 w
  rd : Rd w q (m + 100 * k)
  more : J w
section
variable {P : Program} {ops : Array Oper} {Q : Exit → Act → World → Prop} {T : Nat → Value → World → Prop} {a0 : Act} {S : List Nat} {q m : Nat} {w0 : World} {J D : World → Prop} {i : Nat} {o : Oper}

/-- What is asked of an operation. -/
theorem ox_gen (hg : o.guard = none) (h : ∀ (ρ : Operand → Value) k w, k < ops.size → ClsX S q m w0 J k w → (∀ v, ρ (.const v) = v) → (∀ f, ρ (.func f) = .func (.func f) #[] #[]) → (∀ n, (ops.toList.all fun o => o.dst != some n) = true → ρ (.tmp n) = a0.eval (.tmp n)) → PreR ops T ρ w o.after.toList →
      UponT P (fun v w' => Rel S D w w' ∧ ClsX S q m w0 J (k + 1) w' ∧ T i (dstV o v) w') ((execOp ρ o).run P w)) :
    Ob P ops Q (ClsX S q m w0 J) (Rel S D) T a0 i o := by
  intro k a w hk hI hF hp
  have h1 := h a.eval k w hk hI (fun _ => rfl) (fun _ => rfl) (fun n hn => by
    show a.tmps.getD n undef = a0.tmps.getD n undef
    refine hF.same n fun j o' ho' hd => ?_
    rw [List.all_eq_true] at hn
    have := hn o' (List.mem_of_getElem? (i := j) (by simpa using ho'))
    simp [hd] at this) (pre_eq _ hp)
  have hw : wantV ops (slotV a) o = true := by unfold wantV; rw [hg]
  refine ⟨fun _ => ?_, fun hn => by rw [hw] at hn; cases hn⟩
  unfold Oper.wp
  exact upon_of_T h1
/-- What is asked of an operation that changes the reader's block at most. -/
theorem ox_only (hg : o.guard = none) (hq : q ∈ S) (hJ : Kept q J) (hD : Kept q D)
    (h : ∀ (ρ : Operand → Value) k w, k < ops.size → ClsX S q m w0 J k w → (∀ v, ρ (.const v) = v) → (∀ f, ρ (.func f) = .func (.func f) #[] #[]) → (∀ n, (ops.toList.all fun o => o.dst != some n) = true → ρ (.tmp n) = a0.eval (.tmp n)) → PreR ops T ρ w o.after.toList →
      UponT P (fun v w' => Only [q] w w' ∧ Rd w' q (m + 100 * (k + 1)) ∧ T i (dstV o v) w') ((execOp ρ o).run P w)) :
    Ob P ops Q (ClsX S q m w0 J) (Rel S D) T a0 i o :=
  ox_gen hg fun ρ k w hk hI hc hf hx hp => by
    have h1 := h ρ k w hk hI hc hf hx hp
    have hS : ∀ w', Only [q] w w' → Only S w w' := fun w' ho => ho.mono (by simp; exact hq)
    generalize (execOp ρ o).run P w = r at h1 ⊢
    have go : ∀ v w', (Only [q] w w' ∧ Rd w' q (m + 100 * (k + 1)) ∧ T i (dstV o v) w') → Rel S D w w' ∧ ClsX S q m w0 J (k + 1) w' ∧ T i (dstV o v) w' := fun v w' ⟨b1, b2, b3⟩ =>
      ⟨⟨hS w' b1, hD w w' b1⟩, ⟨hI.only.trans (hS w' b1), b2, hJ w w' b1 hI.more⟩, b3⟩
    cases r with
    | ok n w' =>
      cases n <;> simp only [UponT] at h1 ⊢
      case value v => exact go v w' h1
      case skip => exact go undef w' h1
      case enter f args => exact Calls.mono h1 fun e w'' ⟨v, he, hK⟩ => ⟨v, he, go v w'' hK⟩
    | halt x w' => simp only [UponT] at h1
/-- An operation that yields a value and leaves the world alone. -/
theorem ox_val (hg : o.guard = none) (v : Value) (hq : q ∈ S) (hJ : Kept q J) (hD : Kept q D)
    (h : ∀ (ρ : Operand → Value) k w, ClsX S q m w0 J k w → (∀ v, ρ (.const v) = v) → (∀ n, (ops.toList.all fun o => o.dst != some n) = true → ρ (.tmp n) = a0.eval (.tmp n)) → PreR ops T ρ w o.after.toList →
      (execOp ρ o).run P w = .ok (.value v) w ∧ T i (dstV o v) w) :
    Ob P ops Q (ClsX S q m w0 J) (Rel S D) T a0 i o :=
  ox_only hg hq hJ hD fun ρ k w _ hI hc _ hx hp => by
    obtain ⟨e, ht⟩ := h ρ k w hI hc hx hp
    rw [e]
    exact ⟨Only.refl _ _, hI.rd.mono (by omega), ht⟩
end
section
variable {ops : Array Oper} {Q : Exit → Act → World → Prop} {T : Nat → Value → World → Prop} {a0 : Act} {S : List Nat} {q m : Nat} {w0 : World} {J D : World → Prop} {i : Nat} {o : Oper}
theorem ox_move (hg : o.guard = none) (x : Operand) (hop : o.op = .move x ∨ o.op = .assign x) (hq : q ∈ S) (hJ : Kept q J) (hD : Kept q D)
    (h : ∀ (ρ : Operand → Value) w, (∀ v, ρ (.const v) = v) → (∀ n, (ops.toList.all fun o => o.dst != some n) = true → ρ (.tmp n) = a0.eval (.tmp n)) → PreR ops T ρ w o.after.toList → T i (dstV o (ρ x)) w) :
    Ob Try.prog ops Q (ClsX S q m w0 J) (Rel S D) T a0 i o :=
  ox_only hg hq hJ hD fun ρ k w _ hI hc _ hx hp => by
    have e : (execOp ρ o).run Try.prog w = .ok (.value (ρ x)) w := by
      rcases hop with h | h <;> (unfold execOp; rw [h]; rfl)
    rw [e]
    exact ⟨Only.refl _ _, hI.rd.mono (by omega), h ρ w hc hx hp⟩
end
/-- The result is stored. -/
theorem ox_put {ops : Array Oper} {Q : Exit → Act → World → Prop} {T : Nat → Value → World → Prop} {a0 : Act} {S : List Nat} {q m : Nat} {w0 : World} {i : Nat} {o : Oper} (hg : o.guard = none) (res : Nat) (t : TypeId) (vs : List Value) (hres : res ∈ S) (hne : res ≠ q) (hpl : ∀ v ∈ vs, plainV v)
    (hrun : ∀ (ρ : Operand → Value) w cs, Box w res t cs → cs.length = vs.length → (∀ v, ρ (.const v) = v) → (∀ n, (ops.toList.all fun o => o.dst != some n) = true → ρ (.tmp n) = a0.eval (.tmp n)) → PreR ops T ρ w o.after.toList → (execOp ρ o).run Try.prog w = .ok .skip (setAll w res 0 vs))
    (hT : ∀ v w, Box w res t vs → T i v w) :
    Ob Try.prog ops Q (ClsX S q m w0 (Res res t vs.length)) (Rel S fun w => Box w res t vs) T a0 i o :=
  ox_gen hg fun ρ k w _ hI hc _ hx hp => by
    obtain ⟨cs, hl, hb, hcp⟩ := hI.more
    rw [hrun ρ w cs hb hl hc hx hp, UponT_skip]
    have h1 := setAll_only hres vs 0 w w (Only.refl _ _)
    have h2 : Box (setAll w res 0 vs) res t vs := setAll_box vs [] cs w (by simpa using hb) hl
    exact ⟨⟨h1, fun _ => h2⟩, ⟨hI.only.trans h1, setAll_rd hne vs 0 w hpl ⟨cs, hb, hcp⟩ (hI.rd.mono (by omega)), vs, rfl, h2, hpl⟩, hT _ _ h2⟩
/-- Changes, as they came out of a draw. -/
def TCh (L0 : Nat) : Value → World → Prop := fun v w => ∃ (A : Option Addr) (n c : Nat) (L : List Int) (fs : List Nat), v = .slice A n c ∧ n ≤ 100 ∧ n ≤ c ∧ Ints w A (3 * n) L fs ∧ ∀ b ∈ fs, L0 ≤ b
theorem stab_ch {S : List Nat} {D : World → Prop} {L0 : Nat} (hS : ∀ b ∈ S, b < L0) : Stab (Rel S D) (TCh L0) := fun _ w w' (hR : Rel S D w w') ⟨A, n, c, L, fs, hv, hn, hc, hi, hb⟩ => ⟨A, n, c, L, fs, hv, hn, hc, hi.keep (.of_only hR.only fun b hb' hs => by have := hb b hb'; have := hS b hs; omega), hb⟩
section
variable {ops : Array Oper} {Q : Exit → Act → World → Prop} {T : Nat → Value → World → Prop} {a0 : Act} {S : List Nat} {q m : Nat} {w0 : World} {J D : World → Prop} {i : Nat} {o : Oper}
theorem ox_chgs (hg : o.guard = none) (x : Operand) (n : Int) (ty : Array TypeId) (hop : o.op = .call { callee := .value (.func 34), args := #[x, .const (.int .i64 n)], argTypes := ty }) (hq : q ∈ S) (hJ : Kept q J) (hD : Kept q D) (hm : m + 100 * ops.size ≤ 90000) (hn : 1 ≤ n) (hn2 : n ≤ 1000)
    (hx : ∀ (ρ : Operand → Value) w, (∀ n, (ops.toList.all fun o => o.dst != some n) = true → ρ (.tmp n) = a0.eval (.tmp n)) → PreR ops T ρ w o.after.toList → ρ x = .pointer (some ⟨q, 0, none⟩)) (hT : ∀ v w, TCh w0.heap.size v w → T i (dstV o v) w) :
    Ob Try.prog ops Q (ClsX S q m w0 J) (Rel S D) T a0 i o :=
  ox_only hg hq hJ hD fun ρ k w hk hI hc hf hxx hp => by
    have e : (execOp ρ o).run Try.prog w = .ok (.enter 34 #[.pointer (some ⟨q, 0, none⟩), .int .i64 n]) w := by
      have h1 := hx ρ w hxx hp
      have h2 := hc (.int .i64 n)
      have h3 := hf 34
      unfold execOp; rw [hop]
      simp [go_sem, h1, h2, h3]
    rw [e]
    refine (changes_any q (m + 100 * k) n w hI.rd (by omega) hn hn2).mono ?_
    rintro e w' ⟨A, nn, c, L, fs, rfl, h1, h2, h3, h4, h5, h6⟩
    exact ⟨_, rfl, h5, h6.mono (by omega), hT _ _ ⟨A, nn, c, L, fs, rfl, h1, h2, h3, fun b hb => by have := (h4.lt b hb).1; have := hI.only.size; omega⟩⟩
end
/-- Changes that a law got; with shifts; with a background and a line. -/
def ChgGot (w : World) (e : Ending) (w' : World) : Prop := ∃ (A : Option Addr) (n c : Nat) (L : List Int) (fs : List Nat), e = .returned (.slice A n c) ∧ n ≤ 100 ∧ n ≤ c ∧ Ints w' A (3 * n) L fs ∧ Below w.heap.size w w'
def PtsGot (w : World) (e : Ending) (w' : World) : Prop := ∃ (x y : Int) (A : Option Addr) (n c : Nat) (L : List Int) (fs : List Nat), e = .returned (.tuple #[.int .i64 x, .int .i64 y, .slice A n c]) ∧ n ≤ 100 ∧ n ≤ c ∧ Ints w' A (3 * n) L fs ∧ Below w.heap.size w w'
def BmGot (w : World) (e : Ending) (w' : World) : Prop := ∃ (F : Fld) (A : Option Addr) (c : Nat) (T : Option Addr) (d : Nat) (fa ft : List Nat) (y : Int) (Al : Option Addr) (n c' : Nat) (L : List Int) (fl : List Nat), e = .returned (.tuple #[fv F A c T d, .int .i64 y, .slice Al n c']) ∧ (-1 ≤ y ∧ y ≤ 1000) ∧ F.xs.length ≤ 1000 ∧ F.nt ≤ 1000 ∧ F.xs.length ≤ c ∧ F.nt ≤ d ∧ n ≤ 100 ∧ n ≤ c' ∧ FHas w' A T F fa ft ∧ Ints w' Al (3 * n) L fl ∧ Below w.heap.size w w'
set_option maxRecDepth 100000 in
set_option maxHeartbeats 4000000 in
theorem draw_changesValid (a : Option Addr) (len cap : Nat) (zs : List Int) (w : World) (h : IsRow .u8 w a len cap zs) : Calls Try.prog 10 #[.slice a len cap] w (ChgGot w) := by
  have H := Lib.hid h
  clear h
  go_enter Try.func10, Try.ntmps10
  go_wp2_with fail
  refine (open_any a len cap zs _ H.out).mono ?_
  rintro e w1 ⟨rfl, b1, r1⟩
  have B1 := Lib.hid b1
  have R1 := Lib.hid r1
  have zq : w.heap.size ≤ w.heap.size := Nat.le_refl _
  clear b1 r1
  go_wp2_with fail
  refine (changes_any _ 0 2 _ R1.out (by omega) (by omega) (by omega)).mono ?_
  rintro e w2 ⟨A, n, c, L, fs, rfl, hn, hc, hi, hnw, o2, r2⟩
  have B2 := Lib.hid (B1.out.trans (o2.below (B := w.heap.size) (fun b hb => by simp at hb; omega) B1.out.size))
  have I2 := Lib.hid hi
  clear o2 r2 hi hnw
  go_wp2_with fail
  go_ret
  exact ⟨A, n, c, L, fs, rfl, hn, hc, I2.out, B2.out⟩
set_option maxRecDepth 100000 in
set_option maxHeartbeats 4000000 in
theorem draw_beamParts (a : Option Addr) (len cap : Nat) (zs : List Int) (w : World) (h : IsRow .u8 w a len cap zs) : Calls Try.prog 20 #[.slice a len cap] w (PtsGot w) := by
  have H := Lib.hid h
  clear h
  go_enter Try.func20, Try.ntmps20
  go_wp2_with fail
  refine (open_any a len cap zs _ H.out).mono ?_
  rintro e w1 ⟨rfl, b1, r1⟩
  have B1 := Lib.hid b1
  have R1 := Lib.hid r1
  have zq1 : w.heap.size < w1.heap.size := R1.out.lt
  obtain ⟨q, hq⟩ : ∃ q, w.heap.size = q := ⟨_, rfl⟩
  have HQ := Lib.hid hq
  rw [hq] at R1 zq1 ⊢
  clear b1 r1 hq
  go_wp2_with fail
  refine (changes_any q 0 12 _ R1.out (by omega) (by omega) (by omega)).mono ?_
  rintro e w2 ⟨A, n, c, L, fs, rfl, hn, hc, hi, hnw, o2, r2⟩
  have B2 : Hid (Below w.heap.size w w2) := Lib.hid (B1.out.trans (o2.below (B := w.heap.size) (fun b hb => by simp at hb; have := HQ.out; omega) B1.out.size))
  have I2 := Lib.hid hi
  have R2 := Lib.hid r2
  have HF : Hid (∀ b ∈ fs, b ≠ q) := Lib.hid fun b hb => by have := (hnw.lt b hb).1; omega
  clear o2 r2 hi hnw R1 B1
  go_wp2_with fail
  refine (pick_any q _ 256 _ R2.out (by omega) (by omega) (by omega)).mono ?_
  rintro e w3 ⟨x, x0, x1, rfl, s3, r3⟩
  have B3 : Hid (Below w.heap.size w w3) := Lib.hid (B2.out.trans (s3.only.below (B := w.heap.size) (fun b hb => by simp at hb; have := HQ.out; omega) B2.out.size))
  have I3 := Lib.hid (I2.out.keep (.of_only s3.only fun b hb hs => by simp at hs; exact HF.out b hb hs))
  have R3 := Lib.hid r3
  clear s3 r3 I2 R2 B2
  go_wp2_with fail
  refine (pick_any q _ 14 _ R3.out (by omega) (by omega) (by omega)).mono ?_
  rintro e w4 ⟨z, z0, z1, rfl, s4, r4⟩
  have B4 : Hid (Below w.heap.size w w4) := Lib.hid (B3.out.trans (s4.only.below (B := w.heap.size) (fun b hb => by simp at hb; have := HQ.out; omega) B3.out.size))
  have I4 := Lib.hid (I3.out.keep (.of_only s4.only fun b hb hs => by simp at hs; exact HF.out b hb hs))
  have R4 := Lib.hid r4
  clear s4 r4 I3 R3 B3
  obtain ⟨zz, hzz, zz0, zz1⟩ : ∃ zz, z.tdiv 13 = zz ∧ 0 ≤ zz ∧ zz ≤ 1 := ⟨_, rfl, by rw [Int.tdiv_eq_ediv_of_nonneg z0]; omega, by rw [Int.tdiv_eq_ediv_of_nonneg z0]; omega⟩
  have hw1 : IntKind.i64.wrap zz = zz := by rw [IntKind.wrap_i64]; omega
  have hw2 : IntKind.i64.wrap (zz * 300) = zz * 300 := by rw [IntKind.wrap_i64]; omega
  have hw3 : IntKind.i64.wrap (x + zz * 300) = x + zz * 300 := by rw [IntKind.wrap_i64]; omega
  go_upto_region 4 with fail
  generalize x + zz * 300 = sx
  clear hw1 hw2 hw3 hzz zz0 zz1 x0 x1 z0 z1
  go_wp2_with fail
  refine (pick_any q _ 20 _ R4.out (by omega) (by omega) (by omega)).mono ?_
  rintro e w5 ⟨sy, _, _, rfl, s5, r5⟩
  have B5 : Hid (Below w.heap.size w w5) := Lib.hid (B4.out.trans (s5.only.below (B := w.heap.size) (fun b hb => by simp at hb; have := HQ.out; omega) B4.out.size))
  have I5 := Lib.hid (I4.out.keep (.of_only s5.only fun b hb hs => by simp at hs; exact HF.out b hb hs))
  have R5 := Lib.hid r5
  clear s5 r5 I4 R4 B4
  by_cases hn0 : 0 < n
  · have hn' : (0 : Int) < n := by omega
    go_wp2_with fail
    refine (pick_any q _ 3 _ R5.out (by omega) (by omega) (by omega)).mono ?_
    rintro e w6 ⟨v, _, _, rfl, s6, r6⟩
    have B6 : Hid (Below w.heap.size w w6) := Lib.hid (B5.out.trans (s6.only.below (B := w.heap.size) (fun b hb => by simp at hb; have := HQ.out; omega) B5.out.size))
    have I6 := Lib.hid (I5.out.keep (.of_only s6.only fun b hb hs => by simp at hs; exact HF.out b hb hs))
    clear s6 r6 I5 R5 B5
    by_cases hv : v = 0
    · subst hv
      obtain ⟨p, o, rfl, _, _, hcc⟩ := I6.out.at_ (by omega)
      have c1 : w6.cell? ⟨p, o + 1, none⟩ = some (.int .i64 (L.getD 1 0)) := hcc 1 (by omega)
      have c2 : w6.cell? ⟨p, o + 2, none⟩ = some (.int .i64 (L.getD 2 0)) := hcc 2 (by omega)
      generalize L.getD 1 0 = u1 at c1
      generalize L.getD 2 0 = u2 at c2
      clear hcc
      go_wp2_with fail
      exact bodyPost_ret (v := .tuple #[.int .i64 u1, .int .i64 u2, .slice (some ⟨p, o, none⟩) n c]) (by simp [results, Try.results20, go_sem]) rfl ⟨u1, u2, _, n, c, L, fs, rfl, hn, hc, I6.out, B6.out⟩
    · have hvd : decide (v = 0) = false := decide_eq_false hv
      go_wp2_with fail
      exact bodyPost_ret (v := .tuple #[.int .i64 sx, .int .i64 sy, .slice A n c]) (by simp [results, Try.results20, go_sem]) rfl ⟨sx, sy, _, n, c, L, fs, rfl, hn, hc, I6.out, B6.out⟩
  · obtain rfl : n = 0 := by omega
    go_wp2_with fail
    exact bodyPost_ret (v := .tuple #[.int .i64 sx, .int .i64 sy, .slice A 0 c]) (by simp [results, Try.results20, go_sem]) rfl ⟨sx, sy, _, 0, c, L, fs, rfl, hn, hc, I5.out, B5.out⟩
set_option maxRecDepth 100000 in
set_option maxHeartbeats 4000000 in
theorem draw_beamLine (a : Option Addr) (len cap : Nat) (zs : List Int) (w : World) (h : IsRow .u8 w a len cap zs) : Calls Try.prog 14 #[.slice a len cap] w (BmGot w) := by
  have H := Lib.hid (isRow_stays h (below1 w (.cells #[.int .i64 0, .slice none 0 0, .slice none 0 0, .int .i64 0, .int .i64 0] 33)))
  clear h
  go_enter Try.func14, Try.ntmps14
  go_wp2_with fail
  refine (open_any a len cap zs _ H.out).mono ?_
  rintro e w1 ⟨rfl, b1, r1⟩
  have X1 : Hid (Box w1 w.heap.size 33 (fcs 0 none 0 0 none 0 0 0 0)) := (Box.new w _ _).below b1
  have B1 : Hid (Below w.heap.size w w1) := (below1 w (.cells #[.int .i64 0, .slice none 0 0, .slice none 0 0, .int .i64 0, .int .i64 0] 33)).trans (b1.mono (by simp))
  have R1 := Lib.hid r1
  have zq : w.heap.size < (w.alloc (.cells #[.int .i64 0, .slice none 0 0, .slice none 0 0, .int .i64 0, .int .i64 0] 33)).heap.size := by simp
  generalize (w.alloc (.cells #[.int .i64 0, .slice none 0 0, .slice none 0 0, .int .i64 0, .int .i64 0] 33)).heap.size = q at R1 zq
  have zq1 : q < w1.heap.size := R1.out.lt
  clear b1 r1
  go_wp2_with fail
  refine (field_any q 0 14 _ R1.out (by omega) (by omega) (by omega)).mono ?_
  rintro e w2 ⟨F, A, c, T, d, fa, ft, rfl, hx, ht, hxc, htd, hf, hnew, o2, r2⟩
  have X2 := Lib.hid (X1.out.only o2 (by simp; omega))
  have B2 := Lib.hid (B1.out.trans (o2.below (B := w.heap.size) (fun b hb => by simp at hb; omega) B1.out.size))
  have z12 : w1.heap.size ≤ w2.heap.size := o2.size
  have R2 := Lib.hid r2
  have F2 := Lib.hid hf
  have N2 := Lib.hid hnew
  have zr : w.heap.size < w1.heap.size := X1.out.lt
  clear o2 r2 hf hnew X1 B1 R1
  have X3 := Lib.hid (X2.out.alloc (.cells (fcs F.w A F.xs.length c T F.nt d F.sx F.sy).toArray 33))
  have Y3 : Hid (Box (w2.alloc (.cells (fcs F.w A F.xs.length c T F.nt d F.sx F.sy).toArray 33)) w2.heap.size 33 (fcs F.w A F.xs.length c T F.nt d F.sx F.sy)) := Box.new w2 _ _
  have B3 := Lib.hid (B2.out.alloc B2.out.size (.cells (fcs F.w A F.xs.length c T F.nt d F.sx F.sy).toArray 33))
  have R3 := Lib.hid (R2.out.alloc (.cells (fcs F.w A F.xs.length c T F.nt d F.sx F.sy).toArray 33))
  have F3 := Lib.hid (F2.out.below (below1 w2 (.cells (fcs F.w A F.xs.length c T F.nt d F.sx F.sy).toArray 33)))
  go_upto_region 3 with (fail)
  have za : w.heap.size < w2.heap.size := X2.out.lt
  have zb : q < w2.heap.size := R2.out.lt
  generalize w2.alloc (.cells #[.int .i64 F.w, .slice A F.xs.length c, .slice T F.nt d, .int .i64 F.sx, .int .i64 F.sy] 33) = w3 at X3 Y3 B3 R3 F3 ⊢
  generalize w2.heap.size = bk at Y3 za zb z12 N2 ⊢
  go_wp2_with fail
  refine (pick_any q _ 18 _ R3.out (by omega) (by omega) (by omega)).mono ?_
  rintro e w4 ⟨y0, yy0, yy1, rfl, s4, r4⟩
  have X4 := Lib.hid (X3.out.only s4.only (by simp; omega))
  have Y4 := Lib.hid (Y3.out.only s4.only (by simp; omega))
  have F4 := Lib.hid (F3.out.stay N2.out s4.only (by simp; omega))
  have B4 := Lib.hid (B3.out.trans (s4.only.below (B := w.heap.size) (fun b hb => by simp at hb; omega) B3.out.size))
  have R4 := Lib.hid r4
  clear s4 r4 X3 Y3 F3 B3 R3
  have hwy : IntKind.i64.wrap (y0 - 1) = y0 - 1 := by rw [IntKind.wrap_i64]; omega
  obtain ⟨y, hy⟩ : ∃ y, y0 - 1 = y := ⟨_, rfl⟩
  have hyb : -1 ≤ y ∧ y ≤ 1000 := by omega
  rw [hy] at hwy
  go_upto_region 4 with (fail)
  have zr4 : w.heap.size < w4.heap.size := X4.out.lt
  have zq4 : q < w4.heap.size := R4.out.lt
  obtain ⟨r, hr⟩ : ∃ r, w.heap.size = r := ⟨_, rfl⟩
  have zrq : r ≠ q := by omega
  have zrb : r ≠ bk := by omega
  have zqb : q ≠ bk := by omega
  have X4r : Hid (Box w4 r 33 (fcs 0 none 0 0 none 0 0 0 0)) := by rw [← hr]; exact X4
  have hS : ∀ b ∈ [q, r], b < w4.heap.size := by simp; omega
  have hJ : Kept q (Res r 33 (fcs F.w A F.xs.length c T F.nt d F.sx F.sy).length) := Res.kept zrq
  have hD : Kept q (fun wx => Box wx r 33 (fcs F.w A F.xs.length c T F.nt d F.sx F.sy)) := box_kept zrq
  have hqS : q ∈ [q, r] := by simp
  rw [hr]
  clear hy
  refine wp_region_typed (ClsX [q, r] q (0 + 1000 + 1) w4 (Res r 33 (fcs F.w A F.xs.length c T F.nt d F.sx F.sy).length)) (Rel [q, r] (fun wx => Box wx r 33 (fcs F.w A F.xs.length c T F.nt d F.sx F.sy)))
    (Ty [TV (fv F A c T d), TV (.int .i64 y), TV (.pointer (some ⟨q, 0, none⟩)), TCh w4.heap.size, fun _ wx => Box wx r 33 (fcs F.w A F.xs.length c T F.nt d F.sx F.sy), TV (.int .i64 y), TCh w4.heap.size])
    (by kernel_rfl) (by kernel_rfl) (stab_ty _ ⟨stab_tv _, stab_tv _, stab_tv _, stab_ch hS, stab_done _ (fun _ h => h) (fun _ h => h), stab_tv _, stab_ch hS, trivial⟩)
    ⟨(Only.refl _ w4).trans (.of_below (Below.refl _ _).drew), R4.out.stay (Below.refl _ _).drew, fcs 0 none 0 0 none 0 0 0 0, rfl, X4r.out, plain_fcs⟩ ?_ ?_
  · refine ⟨?_, ?_, ?_, ?_, ?_, ?_, ?_, trivial⟩
    · refine ox_val rfl (fv F A c T d) hqS hJ hD fun ρ kk wx hI _ hx _ => ⟨?_, rfl⟩
      exact exec_loadF ρ _ (.tmp 6) wx bk rfl (hx 6 rfl) (Y4.out.only hI.only (by simp; omega))
    · exact ox_move rfl (.tmp 7) (.inl rfl) hqS hJ hD fun ρ wx _ hx _ => hx 7 rfl
    · exact ox_move rfl (.tmp 5) (.inl rfl) hqS hJ hD fun ρ wx _ hx _ => hx 5 rfl
    · exact ox_chgs rfl (.tmp 17) 14 _ rfl hqS hJ hD (by simp) (by omega) (by omega) (fun ρ wx _ hp => hp.1 rfl) (fun _ _ h => h)
    · refine ox_put rfl r _ (fcs F.w A F.xs.length c T F.nt d F.sx F.sy) (by simp) zrq plain_fcs (fun ρ wx cs hb hl' _ hx hp => ?_) (fun _ _ h => h)
      have hr' := setAll_fld (fcs F.w A F.xs.length c T F.nt d F.sx F.sy) [] cs wx hb hl'
      simp only [List.nil_append, List.length_nil] at hr'
      rw [hr']
      exact exec_storeF ρ _ (.tmp 2) (.tmp 15) wx r rfl (hx 2 rfl) (hp.1 rfl) hb hl'
    · exact ox_move rfl (.tmp 16) (.inr rfl) hqS hJ hD fun ρ wx _ hx hp => hp.1 rfl
    · exact ox_move rfl (.tmp 18) (.inr rfl) hqS hJ hD fun ρ wx _ hx hp => hp.1 rfl
  · intro vs wx hI hF
    obtain ⟨-, -, -, -, hd, h5, h6, -⟩ := hF
    obtain ⟨Al, n, c', L, fl, h6, hn, hc', hil, hfl⟩ : TCh w4.heap.size (vs 6) wx := h6
    have O5 := Lib.hid hI.only
    have DB : Hid (Box wx r 33 (fcs F.w A F.xs.length c T F.nt d F.sx F.sy)) := Lib.hid hd
    replace h5 : vs 5 = .int .i64 y := h5
    have IL := Lib.hid hil
    simp only [putAll, Act.put, List.setIfInBounds_toArray, List.set_cons_zero, List.set_cons_succ, h5, h6]
    have F5 := Lib.hid (F4.out.stay N2.out O5.out (by simp; omega))
    have B5 := Lib.hid (B4.out.trans (O5.out.below (B := w.heap.size) (fun b hb => by simp at hb; omega) B4.out.size))
    clear hI hd h5 h6 hil hfl
    go_wp2_with fail
    exact bodyPost_ret (fld_ret3 rfl rfl DB.out _ _ rfl rfl) rfl ⟨F, A, c, T, d, fa, ft, y, Al, n, c', L, fl, rfl, hyb, hx, ht, hxc, htd, hn, hc', F5.out, IL.out, B5.out⟩
end Go.Proofs.Ytddllcgbdgpkbaa
