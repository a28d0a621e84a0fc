/- The walk of the law of ParseOrder. -/
import Derived.Test.YtmdldoofljdakaaDoorLine
import Derived.Test.YtmdldoofljdakaaDoorOrdL
import Derived.Test.YtmdldoofljdakaaDoorSPar
namespace Go.Proofs.YtmdldoofljdakaaDoor
open Go.ChangeShapes Go.WideShapes Go.ChangeAt Go.RowKit

theorem dec_last (n : Nat) (hn : n ≤ 1023) : (Lib.decDigits n).getLast? ≠ some 32 ∧ Lib.decDigits n ≠ [] := by
  have h := dec_all (fun l _ => decide (l.getLast? ≠ some 32) && decide (l ≠ [])) (by decide +kernel) n hn
  simp only [Bool.and_eq_true, decide_eq_true_eq] at h
  exact h
theorem fmt_last {op arg : Int} (h : ordB op arg = true) : (fmtN op arg).getLast? ≠ some 32 := by
  obtain ⟨k, hk, rfl, h0, h1, _⟩ := fmt_ne h
  have hn := name_at k hk (fun l _ => decide (l.getLast? ≠ some 32)) (by decide +kernel)
  simp only [decide_eq_true_eq] at hn
  rcases fmt_parts h with ⟨_, _, e⟩ | ⟨_, e⟩ <;> rw [e]
  · exact hn
  · obtain ⟨hd, hne⟩ := dec_last arg.toNat (by omega)
    obtain ⟨x, r, hr⟩ := List.exists_cons_of_ne_nil hne
    rw [hr] at hd ⊢
    simpa [List.getLast?_append, List.getLast?_cons_cons] using hd
theorem par_space (s : List UInt8) : parN (s ++ [32]) = none := by
  apply par_none
  intro op arg hv e
  have := fmt_last hv
  rw [e] at this
  simp at this
def StrGot (w : World) (e : Ending) (w' : World) : Prop := ∃ l : List UInt8, e = .returned (.string ⟨l.toArray⟩) ∧ l.length ≤ 30 ∧ Below w.heap.size w w'
theorem draw_par (a : Option Addr) (len cap : Nat) (zs : List Int) (w : World) (h : IsRow .u8 w a len cap zs) :
    Calls Tryd.prog 17 #[.slice a len cap] w (StrGot w) := by
  have H := Lib.hid h
  clear h
  go_enter Tryd.func17, Tryd.ntmps17
  go_wp2_with fail
  refine (open_any a len cap zs _ H.out).mono ?_
  rintro e w1 ⟨rfl, b1, r1⟩
  have B1 := Lib.hid b1
  have R1 := Lib.hid r1
  clear b1 r1
  go_wp2_with fail
  refine (line_any w.heap.size 0 3 _ R1.out (by omega) (by omega) (by omega)).mono ?_
  rintro e w2 ⟨l, rfl, hl, o2, r2⟩
  have B2 := Lib.hid (B1.out.trans (o2.below (B := w.heap.size) (fun b hb => by simp at hb; omega) B1.out.size))
  clear o2 r2
  generalize hS : (⟨l.toArray⟩ : ByteArray) = S
  have HS := Lib.hid hS
  clear hS
  go_wp2_with fail
  go_ret
  exact ⟨l, ret_sb HS.out.symm, hl, B2.out⟩
set_option maxHeartbeats 4000000 in
theorem walk_FnParseOrder (a0 : Option Addr) (len0 cap0 : Nat) (z0 : List Int) (w : World) (w0 : IsRow .u8 w a0 len0 cap0 z0) (ho : NumEnv w) :
    Calls Tryd.prog 4 #[.slice a0 len0 cap0] w fun e w' => e = .returned (.bool true) ∧ Below w.heap.size w w' := by
  have H := Lib.hid w0
  have HO := Lib.hid ho
  have HE : Hid (Env w) := ho.1
  have HQ : Hid (Ops w) := ho.1.1
  have hl := isRow_len w0
  clear w0 ho
  by_cases hs : len0 ≤ 1048576
  · go_enter Tryd.func4, Tryd.ntmps4
    go_wp2_with fail
    refine (draw_par _ _ _ _ _ H.out).mono ?_; rintro e w1 ⟨s, rfl, hn, b1⟩
    have B1 := Lib.hid b1
    clear b1
    obtain ⟨SS, hSS⟩ : ∃ SS : ByteArray, SS = ⟨s.toArray⟩ := ⟨_, rfl⟩
    rw [← hSS]
    have HSS := Lib.hid hSS
    clear hSS
    obtain ⟨op, arg, ok, hV⟩ : ∃ op arg ok, parV (parN s) = .tuple #[.agg #[.int .i64 op, .int .i64 arg], .bool ok] := ⟨_, _, _, rfl⟩
    have HV := Lib.hid hV
    clear hV
    go_wp2_with fail
    rw [HSS.out]
    refine (impl_par s (by omega) _ (HO.out.below B1.out)).mono ?_; rintro e w2 ⟨rfl, b2⟩
    rw [HV.out, ← HSS.out]
    have B2 : Hid (Below w.heap.size w (w2.alloc (.cells #[.int .i64 op, .int .i64 arg] 24))) := (below_then B1.out b2).alloc (below_then B1.out b2).size _
    clear b2
    go_wp2_with fail
    rw [HSS.out]
    refine (spec_par s _).mono ?_; rintro e w3 ⟨rfl, b3⟩
    rw [HV.out, ← HSS.out]
    have X3 : Hid (Box w3 w2.heap.size 24 [.int .i64 op, .int .i64 arg]) := (Box.new w2 _ _).below b3
    have B3 := Lib.hid (below_then B2.out b3)
    clear b3
    have c0 : w3.cell? ⟨w2.heap.size, 0, none⟩ = some (.int .i64 op) := X3.out.cell 0
    have c1 : w3.cell? ⟨w2.heap.size, 1, none⟩ = some (.int .i64 arg) := X3.out.cell 1
    have z3 : w2.heap.size < w3.heap.size := X3.out.lt
    cases hp : parN s with
    | none =>
      have HV' := HV.out
      rw [hp] at HV'
      injection HV' with HV'
      obtain ⟨rfl, rfl, rfl⟩ : op = 0 ∧ arg = 0 ∧ ok = false := by
        simp [pOp, pArg] at HV'
        exact ⟨HV'.1.1.symm, HV'.1.2.symm, by simpa using HV'.2.symm⟩
      go_wp2_with fail
      refine (alive_any _).mono ?_; rintro e w' ⟨rfl, rfl⟩
      go_wp2_with fail
      go_ret
      exact ⟨rfl, B3.out.alloc B3.out.size _⟩
    | some x =>
      obtain ⟨op', arg'⟩ := x
      have HV' := HV.out
      rw [hp] at HV'
      injection HV' with HV'
      obtain ⟨rfl, rfl, rfl⟩ : op = op' ∧ arg = arg' ∧ ok = true := by
        simp [pOp, pArg] at HV'
        exact ⟨HV'.1.1.symm, HV'.1.2.symm, by simpa using HV'.2.symm⟩
      obtain ⟨hv, hf, _⟩ := par_some hp
      have HVd := Lib.hid hv
      have HF := Lib.hid hf
      clear hp HV HV' hv hf
      obtain ⟨S2, hS2⟩ : ∃ S2 : ByteArray, S2 = ⟨(s ++ [32]).toArray⟩ := ⟨_, rfl⟩
      have hadd : ∀ w', (Op.stringOp .add SS ⟨#[32]⟩).run Tryd.prog w' = .ok (.string S2) w' := fun w' => by
        rw [HSS.out, hS2]; exact run_string_add_lists w' s [32] (by omega) (by simp)
      have HS2 := Lib.hid hS2
      clear hS2
      go_wp2_with fail
      rw [HS2.out]
      have B3a : Hid (Below w.heap.size w (w3.alloc (.cells #[.int .i64 op, .int .i64 arg] 24))) := B3.out.alloc B3.out.size _
      refine (impl_par (s ++ [32]) (by simp; omega) _ (HO.out.below B3a.out)).mono ?_; rintro e w4 ⟨rfl, b4⟩
      rw [par_space, ← HS2.out]
      have hV2 : parV none = .tuple #[.agg #[.int .i64 0, .int .i64 0], .bool false] := rfl
      rw [hV2]
      clear hV2
      have X4 := Lib.hid ((X3.out.alloc (.cells #[.int .i64 op, .int .i64 arg] 24)).below b4)
      have B4 := Lib.hid (below_then B3a.out b4)
      clear b4 c0 c1
      go_upto_region 11 with (fail)
      obtain ⟨W, hW⟩ : ∃ W, W = w4.alloc (.cells #[.int .i64 0, .int .i64 0] 24) := ⟨_, rfl⟩
      rw [← hW]
      have c0 : W.cell? ⟨w2.heap.size, 0, none⟩ = some (.int .i64 op) := by rw [hW]; exact (X4.out.alloc _).cell 0
      have c1 : W.cell? ⟨w2.heap.size, 1, none⟩ = some (.int .i64 arg) := by rw [hW]; exact (X4.out.alloc _).cell 1
      have BW : Hid (Below w.heap.size w W) := by rw [hW]; exact B4.out.alloc B4.out.size _
      have zW : w2.heap.size < W.heap.size := by rw [hW]; have := X4.out.lt; simp; omega
      clear hW
      go_wp2_with fail
      refine (impl_ordValid _ _ _ (HQ.out.below BW.out)).mono ?_; rintro e w8 ⟨rfl, b8⟩
      rw [HVd.out]
      have d0 : w8.cell? ⟨w2.heap.size, 0, none⟩ = some (.int .i64 op) := (b8.cell (by simp; omega)).trans c0
      have d1 : w8.cell? ⟨w2.heap.size, 1, none⟩ = some (.int .i64 arg) := (b8.cell (by simp; omega)).trans c1
      have B8 := Lib.hid (below_then BW.out b8)
      clear b8 c0 c1
      go_wp2_with fail
      refine (impl_fmt _ _ _ (HE.out.below B8.out)).mono ?_; rintro e w9 ⟨rfl, b9⟩
      rw [HF.out, ← HSS.out]
      have B9 := Lib.hid (below_then B8.out b9)
      clear b9 d0 d1
      go_wp2_with fail
      go_ret
      exact ⟨rfl, B9.out⟩
  · go_enter Tryd.func4, Tryd.ntmps4
    go_wp2_with fail
    go_ret
    exact ⟨rfl, Below.refl _ _⟩
end Go.Proofs.YtmdldoofljdakaaDoor
