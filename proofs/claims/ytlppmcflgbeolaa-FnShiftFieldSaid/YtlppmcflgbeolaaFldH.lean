/- The program's ShiftField. -/
import Derived.Test.YtlppmcflgbeolaaFldG
namespace Go.Proofs.Ytlppmcflgbeolaa
open Go.ChangeShapes Go.WideShapes Go.ChangeAt Go.RowKit
set_option linter.unusedVariables false

theorem fld_info : (Try.prog.info? 26).map (·.size) = some 5 := by kernel_rfl
/-- The cells of a background. -/
abbrev fcs (W : Int) (A : Option Addr) (n c : Nat) (T : Option Addr) (m d : Nat) (sx sy : Int) : List Value := [.int .i64 W, .slice A n c, .slice T m d, .int .i64 sx, .int .i64 sy]
/-- What a function with one background for its result hands back. -/
theorem fld_ret {fn : Func} {p : Tmp} {tmps : Array Value} {w : World} {b : Nat} {t : TypeId} {W : Int} {A : Option Addr} {n c : Nat} {T : Option Addr} {m d : Nat} {sx sy : Int} (hr : fn.results = #[.cell p 26]) (hp : tmps.getD p undef = .pointer (some ⟨b, 0, none⟩)) (hb : Box w b t (fcs W A n c T m d sx sy)) : (results fn tmps).run Try.prog w = .ok (fldV W A n c T m d sx sy) w :=
  results_cell_row hr tmps w b t (fcs W A n c T m d sx sy).toArray (0, 0) _ hp hb Try.underlying26 rfl fld_info
/-- A new background as a result. -/
def FNew (F : Fld) (w : World) (e : Ending) (w' : World) : Prop :=
  ∃ (A : Option Addr) (c : Nat) (T : Option Addr) (d : Nat) (fa ft : List Nat), e = .returned (fv F A c T d) ∧ F.xs.length ≤ c ∧ F.nt ≤ d ∧ FHas w' A T F fa ft ∧ New w.heap.size w' (fa ++ ft) ∧ Below w.heap.size w w'
section
variable {ops : Array Oper} {rest : List Oper} {o : Oper} {a : Act} {w : World} {Q : Exit → Act → World → Prop} {W : Int} {A : Option Addr} {n c : Nat} {T : Option Addr} {m d : Nat} {sx sy : Int}
theorem fs_load {t : TypeId} (hw : Region.wanted o (yielded ops a.tmps) = true) (x : Operand) (ho : o.op = .load 26 x) (b : Nat) (hx : a.eval x = .pointer (some ⟨b, 0, none⟩)) (hb : Box w b t (fcs W A n c T m d sx sy))
    (h : wpList Try.prog ops Q rest (a.put o.dst (fldV W A n c T m d sx sy)) w) : wpList Try.prog ops Q (o :: rest) a w :=
  wpList_step fun K hK => by
    rw [if_pos hw]
    exact wp_load_row _ x ho b hx t (fcs W A n c T m d sx sy).toArray (0, 0) _ hb Try.underlying26 rfl fld_info (hK _ _ h)
theorem fs_store {t : TypeId} (hw : Region.wanted o (yielded ops a.tmps) = true) (x y : Operand) (ho : o.op = .store 26 x y) (b : Nat) (hx : a.eval x = .pointer (some ⟨b, 0, none⟩)) (hy : a.eval y = fldV W A n c T m d sx sy) (cs : List Value) (hb : Box w b t cs) (hc : cs.length = 5)
    (h : wpList Try.prog ops Q rest (a.put o.dst undef) (w.setRow b (fcs W A n c T m d sx sy).toArray)) : wpList Try.prog ops Q (o :: rest) a w :=
  wpList_step fun K hK => by
    rw [if_pos hw]
    exact wp_store_row _ x y ho b (fcs W A n c T m d sx sy).toArray hx hy t cs.toArray hb fld_info (by simpa using hc) (by simp [Value.oneCell']) (hK _ _ h)
end
/-- Two slices, made one after the other, and what changes beside them. -/
theorem fnew_of {w w1 w2 w3 w4 : World} {S : List Nat} {A2 A3 : Option Addr} {f2 f3 : List Nat} {xs zs : List Int} {n m : Nat} (n2 : New w1.heap.size w2 f2) (n3 : New w2.heap.size w3 f3) (h1 : w.heap.size ≤ w1.heap.size) (b12 : w1.heap.size ≤ w2.heap.size) (b3 : Below w2.heap.size w2 w3) (i2 : Ints w2 A2 n xs f2) (i3 : Ints w3 A3 m zs f3) (ho : Only S w3 w4) (hS : ∀ b ∈ S, b < w1.heap.size) :
    Ints w4 A2 n xs f2 ∧ Ints w4 A3 m zs f3 ∧ New w.heap.size w4 (f2 ++ f3) := by
  have s2 : Same f2 w3 w4 := .of_only ho fun b hb hs => by have := (n2.lt b hb).1; have := hS b hs; omega
  have s3 : Same f3 w3 w4 := .of_only ho fun b hb hs => by have := (n3.lt b hb).1; have := hS b hs; omega
  exact ⟨(i2.below b3).keep s2, i3.keep s3, (((n2.mono h1).keep (.of_below b3)).keep s2).append ((n3.mono (by omega)).keep s3) fun b hb hc => by have := (n2.lt b hb).2; have := (n3.lt b hc).1; omega⟩
theorem im_wrap (a m : Int) (w : World) (hm : 1 ≤ m) (hm2 : m ≤ 64) (h0 : -1000 ≤ a) (h1 : a ≤ 1000) :
    Calls Try.prog 53 #[.int .i64 a, .int .i64 m] w fun e w' => e = .returned (.int .i64 (a % m)) ∧ w = w' := by
  have hw := wrap_mod a m (by omega)
  have b1 : -m < a.tmod m ∧ a.tmod m < m := by
    have h2 := Int.emod_nonneg a (show m ≠ 0 by omega)
    have h3 := Int.emod_lt_of_pos a (show 0 < m by omega)
    rw [Int.tmod_eq_emod]
    split <;> omega
  obtain ⟨r, hr⟩ : ∃ r, a.tmod m = r := ⟨_, rfl⟩
  rw [hr] at hw b1
  obtain ⟨b1, b2⟩ := b1
  obtain ⟨q, hq⟩ : ∃ q, (r + m).tmod m = q := ⟨_, rfl⟩
  have hm0 : m ≠ 0 := by omega
  have q0 : 0 ≤ r + m := by omega
  have hq2 : (r + m) % m = q := by rw [← hq]; exact (Int.tmod_eq_emod_of_nonneg q0).symm
  have HW := Lib.hid hw
  have HQ := Lib.hid hq
  clear hw hq
  go_enter Try.func53, Try.ntmps53
  go_wp2_with fail
  go_ret
  exact ⟨ret_int (by rw [← HW.out, HQ.out]; exact hq2), rfl⟩
set_option maxHeartbeats 2000000 in
theorem im_cloneField (F : Fld) (A : Option Addr) (c : Nat) (T : Option Addr) (d : Nat) (fa ft : List Nat) (w : World) (hF : FHas w A T F fa ft) (hs : FSmall F) :
    Calls Try.prog 52 #[fv F A c T d] w (FNew F w) := by
  obtain ⟨w1, hw1⟩ : ∃ w1, w1 = (w.alloc (.cells #[.int .i64 F.w, .slice A F.xs.length c, .slice T F.nt d, .int .i64 F.sx, .int .i64 F.sy] 26)).alloc (.cells #[.int .i64 0, .slice none 0 0, .slice none 0 0, .int .i64 0, .int .i64 0] 26) := ⟨_, rfl⟩
  have X1 : Hid (Box w1.drew w.heap.size 26 (fcs F.w A F.xs.length c T F.nt d F.sx F.sy)) := by rw [hw1]; exact (Box.new w _ _).alloc _
  have Y1 : Hid (Box w1.drew (w.heap.size + 1) 26 (fcs 0 none 0 0 none 0 0 0 0)) := by rw [hw1]; exact Box.new_at _ _ _ _ (by simp)
  have B1 : Hid (Below w.heap.size w w1.drew) := by rw [hw1]; exact (below2 w _ _).drew
  have HF := Lib.hid (FHas.below hF B1.out)
  have HS := Lib.hid hs
  clear hF hs
  have x0 : w1.cell? ⟨w.heap.size, 0, none⟩ = some (.int .i64 F.w) := X1.out.cell 0
  have x1 : w1.cell? ⟨w.heap.size, 1, none⟩ = some (.slice A F.xs.length c) := X1.out.cell 1
  have x2 : w1.cell? ⟨w.heap.size, 2, none⟩ = some (.slice T F.nt d) := X1.out.cell 2
  have x3 : w1.cell? ⟨w.heap.size, 3, none⟩ = some (.int .i64 F.sx) := X1.out.cell 3
  have x4 : w1.cell? ⟨w.heap.size, 4, none⟩ = some (.int .i64 F.sy) := X1.out.cell 4
  go_enter Try.func52, Try.ntmps52
  go_upto_region 1 with (fail)
  rw [← hw1]
  clear hw1
  go_region_law (first
    | (go_simp; go_at_call 69; refine (clone_ints A F.xs.length c F.xs fa _ HF.out.1 HS.out.1).mono ?_; rintro e w2 ⟨A2, c2, f2, rfl, hc2, i2, n2, b2⟩; have HC2 := Lib.hid hc2; have I2 := Lib.hid i2; have N2 := Lib.hid n2; have X2 := Lib.hid (X1.out.below b2); have Y2 := Lib.hid (Y1.out.below b2); have HT2 := Lib.hid (HF.out.2.below b2); have B2 := Lib.hid (below_then B1.out b2); have HL2 := Lib.hid b2.size; have z2 : w2.cell? ⟨w.heap.size, 2, none⟩ = some (.slice T F.nt d) := X2.out.cell 2; clear hc2 i2 n2 b2)
    | (go_simp; go_at_call 70; refine (clone_tiles T F.nt d F.zs ft _ HT2.out HS.out.2).mono ?_; rintro e w3 ⟨A3, c3, f3, rfl, hc3, i3, n3, b3⟩; have HC3 := Lib.hid hc3; have Q3 := Lib.hid b3; have I3 := Lib.hid i3; have N3 := Lib.hid n3; have X3 := Lib.hid (X2.out.below b3); have Y3 := Lib.hid (Y2.out.below b3); have B3 := Lib.hid (below_then B2.out b3); have J3 := Lib.hid (I2.out.below b3); have M3 := Lib.hid (N2.out.keep (.of_below b3)); have y1 := X3.out.cell 1; have y2 := X3.out.cell 2; have u1 := X3.out.frozen 1; have u2 := X3.out.frozen 2; clear hc3 i3 n3 b3))
  all_goals
    have X4 := Lib.hid ((X3.out.set 1 (.slice A2 F.xs.length c2)).set 2 (.slice A3 F.nt c3))
    have Y4 := Lib.hid ((Y3.out.far (b' := w.heap.size) (i := 1) (by omega) (.slice A2 F.xs.length c2)).far (b' := w.heap.size) (i := 2) (by omega) (.slice A3 F.nt c3))
    have O4 := Lib.hid (((Only.refl [w.heap.size, w.heap.size + 1] w3).setCell (q := w.heap.size) (j := 1) (.inl (by simp)) (.slice A2 F.xs.length c2)).setCell (q := w.heap.size) (j := 2) (.inl (by simp)) (.slice A3 F.nt c3))
    have B4 := Lib.hid ((B3.out.setCell (p := ⟨w.heap.size, 1, none⟩) (Nat.le_refl _) (.slice A2 F.xs.length c2)).setCell (p := ⟨w.heap.size, 2, none⟩) (Nat.le_refl _) (.slice A3 F.nt c3))
    generalize (w3.setCell ⟨w.heap.size, 1, none⟩ (.slice A2 F.xs.length c2)).setCell ⟨w.heap.size, 2, none⟩ (.slice A3 F.nt c3) = w4 at X4 Y4 O4 B4 ⊢
    have HK := Lib.hid (show w.heap.size ≤ w1.drew.heap.size ∧ ∀ b ∈ [w.heap.size, w.heap.size + 1], b < w1.drew.heap.size from ⟨B1.out.size, by have := Y1.out.lt; simp only [List.mem_cons, List.mem_nil_iff, or_false]; rintro b (rfl | rfl) <;> omega⟩)
    clear x0 x1 x2 x3 x4 y1 y2 u1 u2
    go_wp2_with (first | (refine fs_load (by rfl) _ rfl w.heap.size rfl X4.out ?_) | (refine fs_store (by rfl) _ _ rfl (w.heap.size + 1) rfl rfl _ Y4.out rfl ?_))
    refine bodyPost_ret (v := fv F A2 c2 A3 c3) (fld_ret rfl rfl (Box.row Y4.out)) rfl ?_
    have hfn := fnew_of (w := w) N2.out N3.out HK.out.1 HL2.out Q3.out I2.out I3.out (O4.out.row (g := w.heap.size + 1) (.inl (by simp)) (fcs F.w A2 F.xs.length c2 A3 F.nt c3 F.sx F.sy).toArray) HK.out.2
    exact ⟨A2, c2, A3, c3, f2, f3, rfl, HC2.out, HC3.out, ⟨hfn.1, hfn.2.1⟩, hfn.2.2, below_row B4.out (by omega) _⟩
theorem im_isShiftChange (x : Int) (w : World) : Calls Try.prog 51 #[.int .i64 x] w fun e w' => e = .returned (.bool (betB x (-255) 255)) ∧ w = w' := by
  by_cases h0 : -255 ≤ x
  · by_cases h1 : x ≤ 255
    · have HB := Lib.hid (betB_iff.2 ⟨h0, h1⟩)
      go_enter Try.func51, Try.ntmps51
      go_wp2_with fail
      go_ret
      exact ⟨ret_bool HB.out.symm, rfl⟩
    · have HB := Lib.hid (betB_no (show ¬ (-255 ≤ x ∧ x ≤ 255) by omega))
      have hd : decide (x ≤ 255) = false := by simp; omega
      clear h1
      go_enter Try.func51, Try.ntmps51
      go_wp2_with fail
      go_ret
      exact ⟨ret_bool HB.out.symm, rfl⟩
  · have HB := Lib.hid (betB_no (show ¬ (-255 ≤ x ∧ x ≤ 255) by omega))
    have hd : decide (-255 ≤ x) = false := by simp; omega
    clear h0
    go_enter Try.func51, Try.ntmps51
    go_wp2_with fail
    go_ret
    exact ⟨ret_bool HB.out.symm, rfl⟩
theorem wrap_small (x : Int) (h0 : -1000000 ≤ x) (h1 : x ≤ 1000000) : IntKind.i64.wrap x = x := by
  simp [IntKind.wrap, IntKind.bits, IntKind.signed]
  omega
theorem fnew_zero {w w' : World} (b : Below w.heap.size w w') : FNew Fld.zero w (.returned (fldV 0 none 0 0 none 0 0 0 0)) w' :=
  ⟨none, 0, none, 0, [], [], rfl, Nat.le_refl _, Nat.le_refl _, ⟨.nil _ _, .nil _ _⟩, .nil _ _, b⟩
set_option maxHeartbeats 4000000 in
theorem im_shiftField (F : Fld) (A : Option Addr) (c : Nat) (T : Option Addr) (d : Nat) (fa ft : List Nat) (dx dy : Int) (w : World) (hF : FHas w A T F fa ft) (hs : FSmall F) :
    Calls Try.prog 24 #[fv F A c T d, .int .i64 dx, .int .i64 dy] w (FNew (shT F dx dy) w) := by
  obtain ⟨w1, hw1⟩ : ∃ w1, w1 = (w.alloc (.cells #[.int .i64 F.w, .slice A F.xs.length c, .slice T F.nt d, .int .i64 F.sx, .int .i64 F.sy] 26)).alloc (.cells #[.int .i64 0, .slice none 0 0, .slice none 0 0, .int .i64 0, .int .i64 0] 26) := ⟨_, rfl⟩
  have X1 : Hid (Box w1 w.heap.size 26 (fcs F.w A F.xs.length c T F.nt d F.sx F.sy)) := by rw [hw1]; exact (Box.new w _ _).alloc _
  have Y1 : Hid (Box w1 (w.heap.size + 1) 26 (fcs 0 none 0 0 none 0 0 0 0)) := by rw [hw1]; exact Box.new_at _ _ _ _ (by simp)
  have B1 : Hid (Below w.heap.size w w1) := by rw [hw1]; exact below2 w _ _
  have HF := Lib.hid (FHas.below hF B1.out)
  have HS := Lib.hid hs
  clear hF hs
  go_enter Try.func24, Try.ntmps24
  go_wp2_with fail
  rw [← hw1]
  clear hw1
  generalize hb0 : w.heap.size = b0 at X1 Y1 B1 ⊢
  generalize hb1 : b0 + 1 = b1 at Y1 ⊢
  have HB0 := Lib.hid hb0
  have HB1 := Lib.hid hb1
  clear hb0 hb1
  refine (im_isShiftChange dx _).mono ?_; rintro e w2 ⟨rfl, rfl⟩
  cases hx : betB dx (-255) 255
  · have HT : Hid (shT F dx dy = Fld.zero) := Lib.hid (by unfold shT; rw [hx]; simp)
    clear hx
    go_wp2_with (first | (refine fs_store (by rfl) _ _ rfl b1 rfl rfl _ Y1.out rfl ?_))
    refine bodyPost_ret (v := fldV 0 none 0 0 none 0 0 0 0) (fld_ret rfl rfl (Box.row Y1.out)) rfl ?_
    rw [HT.out]
    exact fnew_zero (by rw [HB0.out]; exact below_row B1.out (by have := HB1.out; omega) _)
  have HX := Lib.hid hx
  clear hx
  go_wp2_with fail
  refine (im_isShiftChange dy _).mono ?_; rintro e w2 ⟨rfl, rfl⟩
  cases hx : betB dy (-255) 255
  · have HT : Hid (shT F dx dy = Fld.zero) := Lib.hid (by unfold shT; rw [hx]; simp)
    clear hx
    go_wp2_with (first | (refine fs_store (by rfl) _ _ rfl b1 rfl rfl _ Y1.out rfl ?_))
    refine bodyPost_ret (v := fldV 0 none 0 0 none 0 0 0 0) (fld_ret rfl rfl (Box.row Y1.out)) rfl ?_
    rw [HT.out]
    exact fnew_zero (by rw [HB0.out]; exact below_row B1.out (by have := HB1.out; omega) _)
  have HY := Lib.hid hx
  clear hx
  go_wp2_with (first | (refine fs_load (by rfl) _ rfl b0 rfl X1.out ?_))
  refine (im_fieldValid F A c T d fa ft _ HF.out HS.out).mono ?_; rintro e w2 ⟨rfl, b2⟩
  have X2 := Lib.hid (X1.out.below b2)
  have Y2 := Lib.hid (Y1.out.below b2)
  have HF2 := Lib.hid (HF.out.below b2)
  have B2 : Hid (Below b0 w w2) := Lib.hid (B1.out.trans (b2.mono (by have := X1.out.lt; omega)))
  clear b2 X1 Y1 HF B1
  cases hx : fldB F
  · have HT : Hid (shT F dx dy = Fld.zero) := Lib.hid (by unfold shT; rw [hx]; simp)
    clear hx
    go_wp2_with (first | (refine fs_store (by rfl) _ _ rfl b1 rfl rfl _ Y2.out rfl ?_))
    refine bodyPost_ret (v := fldV 0 none 0 0 none 0 0 0 0) (fld_ret rfl rfl (Box.row Y2.out)) rfl ?_
    rw [HT.out]
    exact fnew_zero (by rw [HB0.out]; exact below_row B2.out (by have := HB1.out; omega) _)
  have HT := Lib.hid (shT_yes hx HX.out HY.out)
  have HV := Lib.hid (fldB_iff.1 hx)
  clear hx
  go_wp2_with (first | (refine fs_load (by rfl) _ rfl b0 rfl X2.out ?_))
  refine (im_cloneField F A c T d fa ft _ HF2.out HS.out).mono ?_; rintro e w3 ⟨A3, c3, T3, d3, fa3, ft3, rfl, hc3, hd3, hf3, hn3, b3⟩
  have X3 := Lib.hid (X2.out.below b3)
  have Y3 := Lib.hid (Y2.out.below b3)
  have HF3 := Lib.hid hf3
  have HN3 := Lib.hid (hn3.mono (show b0 ≤ w2.heap.size by have := X2.out.lt; omega))
  have HX3 := Lib.hid (fun b hb => (hn3.lt b hb).1)
  have HQ3 := Lib.hid b3.size
  have HC3 := Lib.hid (And.intro hc3 hd3)
  have B3 : Hid (Below b0 w w3) := Lib.hid (B2.out.trans (b3.mono (by have := X2.out.lt; omega)))
  have HL := Lib.hid (And.intro X2.out.lt Y2.out.lt)
  clear hf3 hn3 hc3 hd3 b3 X2 Y2 HF2 B2
  go_wp2_with fail
  obtain ⟨w4, hw4⟩ : ∃ w4, w4 = w3.alloc (.cells #[.int .i64 F.w, .slice A3 F.xs.length c3, .slice T3 F.nt d3, .int .i64 F.sx, .int .i64 F.sy] 26) := ⟨_, rfl⟩
  obtain ⟨g, hg⟩ : ∃ g, g = w3.heap.size := ⟨_, rfl⟩
  have X4 : Hid (Box w4 b0 26 (fcs F.w A F.xs.length c T F.nt d F.sx F.sy)) := by rw [hw4]; exact X3.out.alloc _
  have Y4 : Hid (Box w4 b1 26 (fcs 0 none 0 0 none 0 0 0 0)) := by rw [hw4]; exact Y3.out.alloc _
  have Z4 : Hid (Box w4 g 26 (fcs F.w A3 F.xs.length c3 T3 F.nt d3 F.sx F.sy)) := by rw [hw4, hg]; exact Box.new _ _ _
  have B4 : Hid (Below b0 w w4) := by rw [hw4]; exact B3.out.alloc (by have := X3.out.lt; omega) _
  have O4 : Hid (Only [g, b1] w3 w4) := by rw [hw4]; exact (Only.refl _ _).alloc _
  rw [← hw4, ← hg]
  have HG : Hid (b0 < b1 ∧ b1 < w2.heap.size ∧ w2.heap.size ≤ w3.heap.size ∧ g = w3.heap.size) := Lib.hid ⟨by have := HB1.out; omega, HL.out.2, by
    have := HC3.out
    exact HQ3.out, hg⟩
  clear hw4 hg
  have n0 : (0 : Int) ≤ F.xs.length := by omega
  obtain ⟨v1, v8⟩ := And.intro HV.out.w1 HV.out.w8
  have sx0 := HV.out.x0
  have sx1 := HV.out.x1
  have sy0 := HV.out.y0
  have sy1 := HV.out.y1
  obtain ⟨r1, r8⟩ := HV.out.rows.2
  have dx1 := (betB_iff.1 HX.out).1
  have dx2 := (betB_iff.1 HX.out).2
  have dy1 := (betB_iff.1 HY.out).1
  have dy2 := (betB_iff.1 HY.out).2
  have X4d : Hid (Box w4.drew b0 26 (fcs F.w A F.xs.length c T F.nt d F.sx F.sy)) := Lib.hid X4.out
  have Y4d : Hid (Box w4.drew b1 26 (fcs 0 none 0 0 none 0 0 0 0)) := Lib.hid Y4.out
  have Z4d : Hid (Box w4.drew g 26 (fcs F.w A3 F.xs.length c3 T3 F.nt d3 F.sx F.sy)) := Lib.hid Z4.out
  have B4d : Hid (Below b0 w w4.drew) := Lib.hid B4.out.drew
  have O4d : Hid (Only [g, b1] w3 w4.drew) := Lib.hid (O4.out.drewN 1)
  have x0 : w4.cell? ⟨b0, 0, none⟩ = some (.int .i64 F.w) := X4.out.cell 0
  have x1 : w4.cell? ⟨b0, 1, none⟩ = some (.slice A F.xs.length c) := X4.out.cell 1
  have x2 : w4.cell? ⟨b0, 2, none⟩ = some (.slice T F.nt d) := X4.out.cell 2
  have x3 : w4.cell? ⟨b0, 3, none⟩ = some (.int .i64 F.sx) := X4.out.cell 3
  have x4 : w4.cell? ⟨b0, 4, none⟩ = some (.int .i64 F.sy) := X4.out.cell 4
  have hwx := wrap_small (F.sx + dx) (by omega) (by omega)
  clear X4 Y4 Z4 B4 O4 X3 Y3 B3
  go_region_law (first
    | (go_simp; go_at_call 54; refine (im_width F.w A F.xs.length c T F.nt d F.sx F.sy _ v1 v8).mono ?_; rintro e w5 ⟨rfl, b5⟩; have X5 := Lib.hid (X4d.out.below b5); have Y5 := Lib.hid (Y4d.out.below b5); have Z5 := Lib.hid (Z4d.out.below b5); have B5 : Hid (Below b0 w w5) := Lib.hid (B4d.out.trans (b5.mono (by have := X4d.out.lt; omega))); have O5 := Lib.hid (O4d.out.trans (Only.of_below b5)); have y3 := X5.out.cell 3; have z3 := Z5.out.cell 3; have u3 := Z5.out.frozen 3; clear b5)
    | (go_simp; go_at_call 53; refine (im_wrap (F.sx + dx) (8 * F.w) _ (by omega) (by omega) (by omega) (by omega)).mono ?_; rintro e w6 ⟨rfl, rfl⟩))
  all_goals
    obtain ⟨nx, hnx⟩ : ∃ nx, (F.sx + dx) % (8 * F.w) = nx := ⟨_, rfl⟩
    have HNX := Lib.hid hnx
    rw [hnx]
    clear hnx
    have X6 : Hid (Box (w5.setCell ⟨g, 3, none⟩ (.int .i64 nx)).drew b0 26 (fcs F.w A F.xs.length c T F.nt d F.sx F.sy)) := Lib.hid (X5.out.far (b' := g) (i := 3) (by have := HG.out; omega) _)
    have Y6 : Hid (Box (w5.setCell ⟨g, 3, none⟩ (.int .i64 nx)).drew b1 26 (fcs 0 none 0 0 none 0 0 0 0)) := Lib.hid (Y5.out.far (b' := g) (i := 3) (by have := HG.out; omega) _)
    have Z6 : Hid (Box (w5.setCell ⟨g, 3, none⟩ (.int .i64 nx)).drew g 26 (fcs F.w A3 F.xs.length c3 T3 F.nt d3 nx F.sy)) := Lib.hid (Z5.out.set 3 (.int .i64 nx))
    have B6 : Hid (Below b0 w (w5.setCell ⟨g, 3, none⟩ (.int .i64 nx)).drew) := Lib.hid (B5.out.setCell (p := ⟨g, 3, none⟩) (show b0 ≤ g by have := HG.out; omega) _).drew
    have O6 : Hid (Only [g, b1] w3 (w5.setCell ⟨g, 3, none⟩ (.int .i64 nx)).drew) := Lib.hid ((O5.out.setCell (q := g) (j := 3) (.inl (by simp)) _).drewN 1)
    clear X4d Y4d Z4d B4d O4d X5 Y5 Z5 B5 O5 x0 x1 x2 x3 x4 y3 z3 u3 hwx
    generalize w5.setCell ⟨g, 3, none⟩ (.int .i64 nx) = w6 at X6 Y6 Z6 B6 O6 ⊢
    have x0 : w6.cell? ⟨b0, 0, none⟩ = some (.int .i64 F.w) := X6.out.cell 0
    have x1 : w6.cell? ⟨b0, 1, none⟩ = some (.slice A F.xs.length c) := X6.out.cell 1
    have x2 : w6.cell? ⟨b0, 2, none⟩ = some (.slice T F.nt d) := X6.out.cell 2
    have x3 : w6.cell? ⟨b0, 3, none⟩ = some (.int .i64 F.sx) := X6.out.cell 3
    have x4 : w6.cell? ⟨b0, 4, none⟩ = some (.int .i64 F.sy) := X6.out.cell 4
    have hwy := wrap_small (F.sy + dy) (by omega) (by omega)
    have HH : Hid (∀ W : World, Calls Try.prog 55 #[fldV F.w A F.xs.length c T F.nt d F.sx F.sy] W fun e w' => e = .returned (.int .i64 (8 * F.rw_)) ∧ Below W.heap.size W w') := Lib.hid fun W => im_height F.w A F.xs.length c T F.nt d F.sx F.sy W v1 v8 HS.out.1
    go_wp2_with fail
    go_region_law (first
      | (go_simp; go_at_call 55; refine (HH.out _).mono ?_; rintro e w7 ⟨rfl, b7⟩; have X7 := Lib.hid (X6.out.below b7); have Y7 := Lib.hid (Y6.out.below b7); have Z7 := Lib.hid (Z6.out.below b7); have B7 : Hid (Below b0 w w7) := Lib.hid (B6.out.trans (b7.mono (by have := X6.out.lt; omega))); have O7 := Lib.hid (O6.out.trans (Only.of_below b7)); have y4 := X7.out.cell 4; have z4 := Z7.out.cell 4; have u4 := Z7.out.frozen 4; clear b7)
      | (go_simp; go_at_call 53; refine (im_wrap (F.sy + dy) (8 * F.rw_) _ (by omega) (by omega) (by omega) (by omega)).mono ?_; rintro e w8 ⟨rfl, rfl⟩))
    all_goals
      obtain ⟨ny, hny⟩ : ∃ ny, (F.sy + dy) % (8 * F.rw_) = ny := ⟨_, rfl⟩
      have HNY := Lib.hid hny
      rw [hny]
      clear hny
      have Y8 := Lib.hid (Y7.out.far (b' := g) (i := 4) (by have := HG.out; omega) (.int .i64 ny))
      have Z8 : Hid (Box (w7.setCell ⟨g, 4, none⟩ (.int .i64 ny)) g 26 (fcs F.w A3 F.xs.length c3 T3 F.nt d3 nx ny)) := Lib.hid (Z7.out.set 4 (.int .i64 ny))
      have B8 := Lib.hid (B7.out.setCell (p := ⟨g, 4, none⟩) (show b0 ≤ g by have := HG.out; omega) (.int .i64 ny))
      have O8 := Lib.hid (O7.out.setCell (q := g) (j := 4) (.inl (by simp)) (.int .i64 ny))
      clear X6 Y6 Z6 B6 O6 X7 Y7 Z7 B7 O7 x0 x1 x2 x3 x4 y4 z4 u4 hwy HH
      generalize w7.setCell ⟨g, 4, none⟩ (.int .i64 ny) = w9 at Y8 Z8 B8 O8 ⊢
      go_wp2_with (first | (refine fs_load (by rfl) _ rfl g rfl Z8.out ?_) | (refine fs_store (by rfl) _ _ rfl b1 rfl rfl _ Y8.out rfl ?_))
      refine bodyPost_ret (v := fldV F.w A3 F.xs.length c3 T3 F.nt d3 nx ny) (fld_ret rfl rfl (Box.row Y8.out)) rfl ?_
      have O9 := O8.out.row (g := b1) (.inl (by simp)) (fcs F.w A3 F.xs.length c3 T3 F.nt d3 nx ny).toArray
      have hno : ∀ b ∈ fa3 ++ ft3, b ∉ [g, b1] := fun b hb hs => by
        have h1 := HX3.out b hb
        have h2 := (HN3.out.lt b hb).2
        have h3 := HG.out
        simp only [List.mem_cons, List.mem_nil_iff, or_false] at hs
        omega
      have s9 : Same (fa3 ++ ft3) w3 _ := .of_only O9 hno
      rw [HT.out]
      have e : fldV F.w A3 F.xs.length c3 T3 F.nt d3 nx ny = fv (shF F dx dy) A3 c3 T3 d3 := by rw [← HNX.out, ← HNY.out]; rfl
      rw [e]
      refine ⟨A3, c3, T3, d3, fa3, ft3, rfl, HC3.out.1, HC3.out.2, ⟨HF3.out.1.keep (s9.sub fun b hb => List.mem_append_left _ hb), HF3.out.2.keep (s9.sub fun b hb => List.mem_append_right _ hb)⟩, (HN3.out.keep s9).mono (by rw [HB0.out]; omega), ?_⟩
      rw [HB0.out]
      exact below_row B8.out (by have := HG.out; omega) _
end Go.Proofs.Ytlppmcflgbeolaa
