/- The program's empty line, a row drawn into it, a sprite's row. -/
import Derived.Test.YtacebhncecninaaGG
import Derived.Test.YtacebhncecninaaSprH
import Derived.Test.YtacebhncecninaaGD
import Derived.Test.YtacebhncecninaaGC
import Derived.Test.YtacebhncecninaaGH
namespace Go.Proofs.Ytacebhncecninaa
open Go.ChangeShapes Go.WideShapes Go.ChangeAt Go.RowKit
set_option linter.unusedVariables false

theorem ty_line : ArrTy 96 64 := ⟨⟨_, Try.underlying96, rfl⟩, by kernel_rfl⟩
theorem run_allocLine (w : World) : (Instr.alloc 96 true (.tuple #[])).run Try.prog w = .ok (.pointer (some ⟨w.heap.size, 0, none⟩)) (w.alloc (.cells (iv z64).toArray 96)) := by
  have e : (iv z64).toArray = #[.int .i64 0, .int .i64 0, .int .i64 0, .int .i64 0, .int .i64 0, .int .i64 0, .int .i64 0, .int .i64 0, .int .i64 0, .int .i64 0, .int .i64 0, .int .i64 0, .int .i64 0, .int .i64 0, .int .i64 0, .int .i64 0, .int .i64 0, .int .i64 0, .int .i64 0, .int .i64 0, .int .i64 0, .int .i64 0, .int .i64 0, .int .i64 0, .int .i64 0, .int .i64 0, .int .i64 0, .int .i64 0, .int .i64 0, .int .i64 0, .int .i64 0, .int .i64 0, .int .i64 0, .int .i64 0, .int .i64 0, .int .i64 0, .int .i64 0, .int .i64 0, .int .i64 0, .int .i64 0, .int .i64 0, .int .i64 0, .int .i64 0, .int .i64 0, .int .i64 0, .int .i64 0, .int .i64 0, .int .i64 0, .int .i64 0, .int .i64 0, .int .i64 0, .int .i64 0, .int .i64 0, .int .i64 0, .int .i64 0, .int .i64 0, .int .i64 0, .int .i64 0, .int .i64 0, .int .i64 0, .int .i64 0, .int .i64 0, .int .i64 0, .int .i64 0] := by kernel_rfl
  rw [e]
  go_simp
section
variable {ops : Array Oper} {rest : List Oper} {o : Oper} {a : Act} {w : World} {Q : Exit → Act → World → Prop}
theorem sl_alloc (hw : Region.wanted o (yielded ops a.tmps) = true) (ho : o.op = .alloc 96)
    (h : wpList Try.prog ops Q rest (a.put o.dst (.pointer (some ⟨w.heap.size, 0, none⟩))) (w.alloc (.cells (iv z64).toArray 96))) : wpList Try.prog ops Q (o :: rest) a w :=
  wpList_step fun K hK => by
    rw [if_pos hw]
    unfold Oper.wp execOp
    simp only [ho, Sem.run_bind, run_allocLine, Result.andThen_ok, Sem.run_pure]
    exact hK _ _ h
end
theorem line_cell {w : World} {b : Nat} {t : TypeId} {L : List Int} {i : Nat} (h : Box w b t (iv L)) (hl : L.length = 64) (hi : i < 64) : w.cell? ⟨b, i, none⟩ = some (.int .i64 (L.getD i 0)) := (h.cell i).trans (iv_at L i (by omega))
set_option maxRecDepth 100000 in
set_option maxHeartbeats 2000000 in
theorem im_newLine (w : World) : Calls Try.prog 106 #[] w fun e w' => ∃ L, e = .returned (.agg (iv L).toArray) ∧ LineIs L (emptyK 32) ∧ Below w.heap.size w w' := by
  go_enter Try.func106, Try.ntmps106
  go_wp2_with (refine sl_alloc (by rfl) rfl ?_)
  obtain ⟨w1, hw1⟩ : ∃ w1, w1 = (w.alloc (.cells (iv z64).toArray 96)).alloc (.cells (iv z64).toArray 96) := ⟨_, rfl⟩
  have X1 : Hid (Box w1 w.heap.size 96 (iv z64)) := by rw [hw1]; exact (Box.new w _ _).alloc _
  have Y1 : Hid (Box w1 (w.heap.size + 1) 96 (iv z64)) := by rw [hw1]; exact Box.new_at _ _ _ _ (by simp)
  have B1 : Hid (Below w.heap.size w w1) := by rw [hw1]; exact below2 w _ _
  rw [← hw1]
  clear hw1
  go_loopw [3] (fun i wr => ∃ (x : Nat) (L : List Int), x ≤ 32 ∧ i = .int .i64 x ∧ LineIs L (emptyK x) ∧ Box wr (w.heap.size + 1) 96 (iv L) ∧ Box wr w.heap.size 96 (iv z64) ∧ Below w.heap.size w wr) (fun i _ => 32 - (intOf i).toNat)
  case atStart => exact ⟨0, z64, by omega, rfl, empty_zero, Y1.out, X1.out, B1.out⟩
  case round =>
    obtain ⟨x, L, hx, rfl, hl, hy, hx0, hb⟩ := hrel
    have HL := Lib.hid hl
    have YR := Lib.hid hy
    have XR := Lib.hid hx0
    have BR := Lib.hid hb
    clear hl hy hx0 hb X1 Y1 B1
    by_cases hlt : x < 32
    · have hlt' : (x : Int) < 32 := by omega
      have c1 := line_cell YR.out HL.out.1 (show x * 2 < 64 by omega)
      have g1 := YR.out.frozen (x * 2)
      generalize L.getD (x * 2) 0 = v at c1
      go_wp2_with fail
      have ys := YR.out.set (x * 2) (.int .i64 (-1))
      rw [iv_set] at ys
      have YS := Lib.hid ys
      have XS : Hid (Box (wr.setCell ⟨w.heap.size + 1, x * 2, none⟩ (.int .i64 (-1))) w.heap.size 96 (iv z64)) := Lib.hid (XR.out.far (by show w.heap.size ≠ w.heap.size + 1; omega) _)
      have BS := Lib.hid (BR.out.setCell (p := ⟨w.heap.size + 1, x * 2, none⟩) (by show w.heap.size ≤ w.heap.size + 1; omega) (.int .i64 (-1)))
      clear ys c1 g1
      go_roundw
      case rel => exact ⟨x + 1, L.set (x * 2) (-1), by omega, by go_num, by rw [Nat.mul_comm x 2]; exact empty_step HL.out hlt, YS.out, XS.out, BS.out⟩
      case measure => simp [intOf]; omega
    · obtain rfl : x = 32 := by omega
      go_wp2_with (first | (refine sa_load ty_line (by rfl) _ rfl (w.heap.size + 1) 0 rfl _ (iv L) (iv L) YR.out (by simp [HL.out.1]) (fun j v h => by simpa using h) ?_) | (refine sa_store ty_line (by rfl) _ _ rfl w.heap.size rfl _ _ (iv L) rfl XR.out (by simp [z64_len]) (by simp [HL.out.1]) (iv_all _) ?_))
      exact bodyPost_ret (v := .agg (iv L).toArray) (arr_ret ty_line rfl rfl (Box.row XR.out) (by simp [HL.out.1])) rfl ⟨L, rfl, HL.out, below_row BR.out (Nat.le_refl _) _⟩
theorem wrap_any (sx : Int) (q : Nat) (hs : -1000 ≤ sx ∧ sx ≤ 1000) (hq : q < 8) : IntKind.i64.wrap (sx + q) = sx + q := by rw [IntKind.wrap_i64]; omega
theorem line_set2 {L : List Int} (b X : Nat) (k p : Int) {w : World} {t : TypeId} (h : Box w b t (iv L)) : Box ((w.setCell ⟨b, X * 2, none⟩ (.int .i64 k)).setCell ⟨b, X * 2 + 1, none⟩ (.int .i64 p)) b t (iv ((L.set (2 * X) k).set (2 * X + 1) p)) := by
  have h1 := (h.set (X * 2) (.int .i64 k)).set (X * 2 + 1) (.int .i64 p)
  rw [iv_set, iv_set, Nat.mul_comm X 2] at h1
  rwa [Nat.mul_comm X 2]
set_option maxRecDepth 100000 in
set_option maxHeartbeats 4000000 in
theorem im_draw (b : Nat) (k : Nat) (sx : Int) (A : Option Addr) (c : Nat) (xs : List Int) (fp : List Nat) (L : List Int) (f : Nat → Int × Int) (w : World) (hI : Ints w A 8 xs fp) (hb : b ∉ fp) (hB : Box w b 96 (iv L)) (hf : LineIs L f) (hs : -1000 ≤ sx ∧ sx ≤ 1000) :
    Calls Try.prog 110 #[.pointer (some ⟨b, 0, none⟩), .int .i64 k, .int .i64 sx, .slice A 8 c] w fun e w' => (∃ v, e = .returned v) ∧ Only [b] w w' ∧ ∃ L', Box w' b 96 (iv L') ∧ LineIs L' (drawK k sx xs f 8) := by
  obtain ⟨p, o, rfl, hfp, hpl, hc⟩ := hI.at_ (by omega)
  have hbp : p ≠ b := by rintro rfl; rw [hfp] at hb; simp at hb
  have HC : Hid (∀ w', Only [b] w w' → ∀ i, i < 8 → w'.cell? ⟨p, o + i, none⟩ = some (.int .i64 (xs.getD i 0))) := Lib.hid fun w' hw i hi => by
    rw [World.cell?_of_block (a := ⟨p, o + i, none⟩) (hw.block p hpl (by simpa using hbp))]
    exact hc i hi
  have XB := Lib.hid hB
  have HF := Lib.hid hf
  clear hI hb hB hf hc hfp
  go_enter Try.func110, Try.ntmps110
  go_wp2_with fail
  go_loopw [13] (fun i wr => ∃ (q : Nat) (L : List Int), q ≤ 8 ∧ i = .int .i64 q ∧ LineIs L (drawK k sx xs f q) ∧ Box wr b 96 (iv L) ∧ Only [b] w wr) (fun i _ => 8 - (intOf i).toNat)
  case atStart => exact ⟨0, L, by omega, rfl, by rw [drawK_zero]; exact HF.out, XB.out, Only.refl _ _⟩
  case round =>
    obtain ⟨q, L1, hq, rfl, hl, hy, ho⟩ := hrel
    have HL := Lib.hid hl
    have YR := Lib.hid hy
    have OR := Lib.hid ho
    clear hl hy ho XB HF
    by_cases hlt : q < 8
    · have hlt' : (q : Int) < 8 := by omega
      have c1 := HC.out wr OR.out q hlt
      have HN : Hid (xs.getD q 0 = 0 ∨ sx + (q : Int) < 0 ∨ 31 < sx + (q : Int) → LineIs L1 (drawK k sx xs f (q + 1))) := Lib.hid fun h => line_same HL.out h
      have HP : Hid (xs.getD q 0 ≠ 0 → ∀ X : Nat, (X : Int) = sx + q → X < 32 → LineIs ((L1.set (2 * X) k).set (2 * X + 1) (xs.getD q 0)) (drawK k sx xs f (q + 1))) := Lib.hid fun h X hX hb => line_step HL.out h hX hb
      generalize xs.getD q 0 = v at c1 HN HP
      have hw := wrap_any sx q hs hlt
      by_cases hv : v = 0
      · have H1 := Lib.hid (HN.out (.inl hv))
        subst hv
        go_wp2_with fail
        go_roundw
        case rel => exact ⟨q + 1, L1, by omega, by go_num, H1.out, YR.out, OR.out⟩
        case measure => simp [intOf]; omega
      · have hv' : decide (v = 0) = false := by simpa using hv
        go_wp2_with fail
        refine (im_isColumn (sx + q) _).mono ?_; rintro e w2 ⟨rfl, rfl⟩
        cases hcl : betB (sx + q) 0 31
        · have H1 : Hid (LineIs L1 (drawK k sx xs f (q + 1))) := Lib.hid (HN.out (.inr (by
            by_cases h : 0 ≤ sx + (q : Int) ∧ sx + (q : Int) ≤ 31
            · rw [betB_iff.2 h] at hcl; cases hcl
            · omega)))
          go_wp2_with fail
          go_roundw
          case rel => exact ⟨q + 1, L1, by omega, by go_num, H1.out, YR.out, OR.out⟩
          case measure => simp [intOf]; omega
        · have hb := betB_iff.1 hcl
          obtain ⟨X, hX⟩ : ∃ X : Nat, (X : Int) = sx + q := ⟨(sx + q).toNat, by omega⟩
          have hX32 : X < 32 := by omega
          have hX32' : (X : Int) < 32 := by omega
          have H1 := Lib.hid (HP.out hv X hX hX32)
          have c2 := line_cell YR.out HL.out.1 (show X * 2 < 64 by omega)
          have c3 := line_cell YR.out HL.out.1 (show X * 2 + 1 < 64 by omega)
          have g2 := YR.out.frozen (X * 2)
          have g3 := YR.out.frozen (X * 2 + 1)
          generalize L1.getD (X * 2) 0 = v2 at c2
          generalize L1.getD (X * 2 + 1) 0 = v3 at c3
          have YS := Lib.hid (line_set2 b X (k : Int) v YR.out)
          have OS := Lib.hid ((OR.out.setCell (q := b) (j := X * 2) (.inl (by simp)) (.int .i64 k)).setCell (q := b) (j := X * 2 + 1) (.inl (by simp)) (.int .i64 v))
          rw [← hX]
          clear hb hcl hX
          go_wp2_with fail
          go_roundw
          case rel => exact ⟨q + 1, _, by omega, by go_num, H1.out, YS.out, OS.out⟩
          case measure => simp [intOf]; omega
    · obtain rfl : q = 8 := by omega
      go_wp2_with fail
      go_end0
      exact ⟨⟨_, rfl⟩, OR.out, L1, YR.out, HL.out⟩
end Go.Proofs.Ytacebhncecninaa
