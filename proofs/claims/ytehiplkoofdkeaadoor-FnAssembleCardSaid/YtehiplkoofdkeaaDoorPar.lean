/- ParseOrder: the program's. -/
import Derived.Test.YtehiplkoofdkeaaDoorNum
namespace Go.Proofs.YtehiplkoofdkeaaDoor
open Go.ChangeShapes Go.WideShapes Go.ChangeAt Go.RowKit Go.WideMaps

/-- What ParseOrder returns. -/
def pOp : Option (Int × Int) → Int | some (op, _) => op | none => 0
def pArg : Option (Int × Int) → Int | some (_, arg) => arg | none => 0
def parV (d : Option (Int × Int)) : Value := .tuple #[.agg #[.int .i64 (pOp d), .int .i64 (pArg d)], .bool d.isSome]
/-- The map of the operations lies in block b. -/
def OpMap (w : World) (b : Nat) : Prop := w.ownsMap Tryd.prog 9 (plainElem Tryd.prog 3) b 16 (opD 16)
theorem OpMap.lt {w : World} {b : Nat} (h : OpMap w b) : b < w.heap.size := by
  obtain ⟨es, c, h, _⟩ := h
  exact (Array.getElem?_eq_some_iff.1 h).1
theorem OpMap.below {w w' : World} {b : Nat} (h : OpMap w b) (k : Below w.heap.size w w') : OpMap w' b := by
  have hl := h.lt
  obtain ⟨es, c, h1, h2⟩ := h
  exact ⟨es, c, (k.block _ hl).trans h1, h2⟩
theorem par_ret_some {s : List UInt8} {op arg : Int} {w w' : World} (h : parN s = some (op, arg)) (b : Below w.heap.size w w') : Ending.returned (.tuple #[.agg #[.int .i64 op, .int .i64 arg], .bool true]) = .returned (parV (parN s)) ∧ Below w.heap.size w w' := by
  rw [h]; exact ⟨rfl, b⟩
theorem par_ret_none {s : List UInt8} {w w' : World} (h : parN s = none) (b : Below w.heap.size w w') : Ending.returned (.tuple #[.agg #[.int .i64 0, .int .i64 0], .bool false]) = .returned (parV (parN s)) ∧ Below w.heap.size w w' := by
  rw [h]; exact ⟨rfl, b⟩
set_option maxRecDepth 100000 in
set_option maxHeartbeats 2000000 in
theorem impl_parse (b : Nat) (s : List UInt8) (hs : s.length ≤ 1048577) (w : World) (h : NumEnv w) (hm : OpMap w b) : Calls Tryd.prog 15 #[.map (some b), .string ⟨s.toArray⟩] w fun e w' => e = .returned (parV (parN s)) ∧ Below w.heap.size w w' := by
  have H := Lib.hid (h.below (below1 w (.cells #[.int .i64 0, .int .i64 0] 30)))
  have M := Lib.hid (hm.below (below1 w (.cells #[.int .i64 0, .int .i64 0] 30)))
  clear h hm
  have hA := cutA_len s
  have hB := cutB_len s
  have hkey : keyOf Tryd.prog 9 (.string ⟨(cutA s).toArray⟩) = some (.string (cutA s)) := keyOf_string_mk Tryd.underlying9 (by simp [ByteArray.size, maxLen]; omega)
  have hze : ∀ w : World, (zeroValue 3).run Tryd.prog w = .ok (.int .i64 0) w := fun w => by kernel_rfl
  obtain ⟨SS, hSS⟩ : ∃ SS : ByteArray, SS = ⟨s.toArray⟩ := ⟨_, rfl⟩
  have HSS := Lib.hid hSS
  rw [← hSS]
  clear hSS
  go_enter Tryd.func15, Tryd.ntmps15
  go_wp2_with fail
  rw [HSS.out]
  refine (cut_any s (by omega) _ H.out).mono ?_; rintro e w1 ⟨⟨x, rfl⟩, b1⟩
  rw [← HSS.out]
  have H1 := Lib.hid (H.out.below b1)
  have M1 := M.out.below b1
  have X1 : Hid (Box w1 w.heap.size 30 [.int .i64 0, .int .i64 0]) := (Box.new w _ _).below b1
  have B1 : Hid (Below w.heap.size w w1) := (below1 w _).trans (b1.mono (by simp))
  clear b1 H M
  obtain ⟨SA, hSA⟩ : ∃ SA : ByteArray, SA = ⟨(cutA s).toArray⟩ := ⟨_, rfl⟩
  obtain ⟨SB, hSB⟩ : ∃ SB : ByteArray, SB = ⟨(cutB s).toArray⟩ := ⟨_, rfl⟩
  rw [← hSA] at hkey ⊢
  rw [← hSB]
  have HSB := Lib.hid hSB
  clear hSA hSB
  by_cases hin : ∃ k : Nat, k < 16 ∧ cutA s = nameN k
  · obtain ⟨k, hk, hn⟩ := hin
    obtain ⟨hh, ha⟩ := opD_hit k hk (.lit (.int .i64 0)) 16 (by omega) (by omega)
    rw [← hn] at hh ha
    have HY := Lib.hid (par_yes s k hk hn)
    have HNo := Lib.hid (par_no s)
    have HH := Lib.hid hh
    have HA := Lib.hid ha
    have HN := Lib.hid hn
    clear hh ha hn
    go_wp2_with (first
      | (at_lookup; refine wpList_lookup_own_ok_int _ rfl _ _ 42 rfl 9 3 .i64 strKeyed Tryd.underlying42 Tryd.underlying3 (hze _) b 16 _ rfl M1 _ _ rfl hkey ?_; intro c hat hwc; rw [HH.out]; obtain rfl : c = (k : Int) := (by rw [HA.out] at hat; injection hat with hat; injection hat with _ hat; exact hat.symm); clear hat hwc))
    have c0 : w1.frozen? ⟨w.heap.size, 0, none⟩ = false := X1.out.frozen 0
    rw [HSB.out]
    refine (atoi_any (cutB s) (by omega) _ H1.out).mono ?_; rintro e w2 ⟨ev, rfl, b2⟩
    have H2 := Lib.hid (H1.out.below b2)
    have X2 := Lib.hid (X1.out.below b2)
    have B2 := Lib.hid (B1.out.trans (b2.mono B1.out.size))
    clear b2 c0 H1 X1 B1
    generalize hV : atoiV (cutB s) = V at HY
    have HV := Lib.hid hV
    clear hV
    go_wp2_with fail
    refine (impl_fmt _ _ _ (H2.out.1.below (below1 w2 _))).mono ?_; rintro e w3 ⟨rfl, b3⟩
    have X3 := Lib.hid ((X2.out.below (below1 w2 (.cells #[.int .i64 k, .int .i64 V] 30))).below b3)
    have Y3 : Hid (Box w3 w2.heap.size 30 [.int .i64 k, .int .i64 V]) := (Box.new w2 _ _).below b3
    have B3 : Hid (Below w.heap.size w w3) := (B2.out.alloc B2.out.size _).trans (b3.mono (by have := B2.out.size; simp; omega))
    have z2 : w.heap.size < w2.heap.size := X2.out.lt
    clear b3 H2 X2
    have z3 : w2.heap.size < w3.heap.size := Y3.out.lt
    have c0 : w3.cell? ⟨w.heap.size, 0, none⟩ = some (.int .i64 0) := X3.out.cell 0
    have c1 : w3.cell? ⟨w.heap.size, 1, none⟩ = some (.int .i64 0) := X3.out.cell 1
    have f0 : w3.frozen? ⟨w.heap.size, 0, none⟩ = false := X3.out.frozen 0
    have f1 : w3.frozen? ⟨w.heap.size, 1, none⟩ = false := X3.out.frozen 1
    have d0 : w3.cell? ⟨w2.heap.size, 0, none⟩ = some (.int .i64 k) := Y3.out.cell 0
    have d1 : w3.cell? ⟨w2.heap.size, 1, none⟩ = some (.int .i64 V) := Y3.out.cell 1
    have FIN : Hid (∀ u v : Value, Below w.heap.size w ((w3.setCell ⟨w.heap.size, 0, none⟩ u).setCell ⟨w.heap.size, 1, none⟩ v)) := fun u v => (B3.out.setCell (show w.heap.size ≤ w.heap.size from Nat.le_refl _) u).setCell (show w.heap.size ≤ w.heap.size from Nat.le_refl _) v
    obtain ⟨SF, hSF⟩ : ∃ SF : ByteArray, SF = ⟨(fmtN k V).toArray⟩ := ⟨_, rfl⟩
    rw [← hSF]
    have HSF := Lib.hid hSF
    clear hSF hkey
    by_cases hq : SF = SS
    · have HP := Lib.hid (HY.out (ba_inj.1 (by rw [← HSF.out, hq, HSS.out])))
      subst hq
      clear HSF HSS
      go_wp2_with fail
      refine bodyPost_ret (v := .tuple #[.agg #[.int .i64 k, .int .i64 V], .bool true]) (by simp [results, Tryd.results15, go_sem, c0, c1]) rfl ?_
      exact par_ret_some HP.out (FIN.out _ _)
    · have HP := Lib.hid (HNo.out (fun j hj hn e => by
        have hjk : j = k := name_inj hj hk (hn.symm.trans HN.out)
        subst hjk
        rw [HV.out] at e
        exact hq (by rw [HSF.out, HSS.out, e])))
      have hq' : (SF.toList == SS.toList) = false := ba_ne hq
      clear HSF HSS hq
      go_wp2_with fail
      refine bodyPost_ret (v := .tuple #[.agg #[.int .i64 0, .int .i64 0], .bool false]) (by simp [results, Tryd.results15, go_sem, c0, c1]) rfl ?_
      exact par_ret_none HP.out (FIN.out _ _)
  · have hh := opD_miss (cutA s) (fun j hj e => hin ⟨j, hj, e⟩) 16 (by omega)
    have HP := Lib.hid (par_no s (fun j hj e => absurd ⟨j, hj, e⟩ hin))
    have HH := Lib.hid hh
    clear hh hin
    have c0 : w1.cell? ⟨w.heap.size, 0, none⟩ = some (.int .i64 0) := X1.out.cell 0
    have c1 : w1.cell? ⟨w.heap.size, 1, none⟩ = some (.int .i64 0) := X1.out.cell 1
    have f0 : w1.frozen? ⟨w.heap.size, 0, none⟩ = false := X1.out.frozen 0
    have f1 : w1.frozen? ⟨w.heap.size, 1, none⟩ = false := X1.out.frozen 1
    have z1 : w.heap.size < w1.heap.size := X1.out.lt
    have FIN : Hid (∀ u v : Value, Below w.heap.size w ((w1.setCell ⟨w.heap.size, 0, none⟩ u).setCell ⟨w.heap.size, 1, none⟩ v)) := fun u v => (B1.out.setCell (show w.heap.size ≤ w.heap.size from Nat.le_refl _) u).setCell (show w.heap.size ≤ w.heap.size from Nat.le_refl _) v
    go_wp2_with (first
      | (at_lookup; refine wpList_lookup_own_ok_int _ rfl _ _ 42 rfl 9 3 .i64 strKeyed Tryd.underlying42 Tryd.underlying3 (hze _) b 16 _ rfl M1 _ _ rfl hkey ?_; intro c hat hwc; rw [HH.out]; clear hat hwc))
    refine bodyPost_ret (v := .tuple #[.agg #[.int .i64 0, .int .i64 0], .bool false]) (by simp [results, Tryd.results15, go_sem, c0, c1]) rfl ?_
    exact par_ret_none HP.out (FIN.out _ _)
set_option maxHeartbeats 2000000 in
theorem impl_par (s : List UInt8) (hs : s.length ≤ 1048577) (w : World) (h : NumEnv w) : Calls Tryd.prog 8 #[.string ⟨s.toArray⟩] w fun e w' => e = .returned (parV (parN s)) ∧ Below w.heap.size w w' := by
  have H := Lib.hid (h.below (below1 w (.cells #[.int .i64 0, .int .i64 0] 30)))
  clear h
  obtain ⟨op, arg, ok, hV⟩ : ∃ op arg ok, parV (parN s) = .tuple #[.agg #[.int .i64 op, .int .i64 arg], .bool ok] := ⟨_, _, _, rfl⟩
  rw [hV]
  have HV := Lib.hid hV
  clear hV
  go_enter Tryd.func8, Tryd.ntmps8
  go_wp2_with fail
  refine (impl_newOps _ H.out.1.1).mono ?_; rintro e w1 ⟨rfl, m1, b1⟩
  have H1 := Lib.hid (H.out.below (b1.mono (Nat.le_refl _)))
  have X1 : Hid (Box w1 w.heap.size 30 [.int .i64 0, .int .i64 0]) := (Box.new w _ _).below b1
  have B1 : Hid (Below w.heap.size w w1) := (below1 w _).trans (b1.mono (by simp))
  have m2 : OpMap w1 _ := m1
  have M1 := Lib.hid (show OpMap w1 (w.heap.size + 1) by simpa using m2)
  clear b1 m1 m2 H
  go_wp2_with fail
  refine (impl_parse (w.heap.size + 1) s hs _ H1.out M1.out).mono ?_; rintro e w2 ⟨rfl, b2⟩
  rw [HV.out]
  have X2 := Lib.hid (X1.out.below b2)
  have B2 := Lib.hid (B1.out.trans (b2.mono B1.out.size))
  clear b2 X1 B1 M1 H1 HV
  have c0 : w2.cell? ⟨w.heap.size, 0, none⟩ = some (.int .i64 0) := X2.out.cell 0
  have c1 : w2.cell? ⟨w.heap.size, 1, none⟩ = some (.int .i64 0) := X2.out.cell 1
  have f0 : w2.frozen? ⟨w.heap.size, 0, none⟩ = false := X2.out.frozen 0
  have f1 : w2.frozen? ⟨w.heap.size, 1, none⟩ = false := X2.out.frozen 1
  have z2 : w.heap.size < w2.heap.size := X2.out.lt
  have FIN : Hid (∀ u v : Value, Below w.heap.size w ((w2.setCell ⟨w.heap.size, 0, none⟩ u).setCell ⟨w.heap.size, 1, none⟩ v)) := fun u v => (B2.out.setCell (show w.heap.size ≤ w.heap.size from Nat.le_refl _) u).setCell (show w.heap.size ≤ w.heap.size from Nat.le_refl _) v
  go_wp2_with fail
  refine bodyPost_ret (v := .tuple #[.agg #[.int .i64 op, .int .i64 arg], .bool ok]) (by simp [results, Tryd.results8, go_sem, c0, c1]) rfl ?_
  exact ⟨rfl, FIN.out _ _⟩
end Go.Proofs.YtehiplkoofdkeaaDoor
