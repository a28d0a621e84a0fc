/- The walk of the law of FormatOrder. -/
import Derived.Test.YtmdldoofljdakaaDoorOrdL
import Derived.Test.YtmdldoofljdakaaDoorOrderF
import Derived.Test.YtmdldoofljdakaaDoorSPar
namespace Go.Proofs.YtmdldoofljdakaaDoor
open Go.ChangeShapes Go.WideShapes Go.ChangeAt Go.RowKit

theorem draw_fmt (a : Option Addr) (len cap : Nat) (zs : List Int) (w : World) (h : IsRow .u8 w a len cap zs) :
    Calls Tryd.prog 11 #[.slice a len cap] w (OrdGot w) := by
  have H := Lib.hid (isRow_stays h (below1 w (.cells #[.int .i64 0, .int .i64 0] 24)))
  clear h
  go_enter Tryd.func11, Tryd.ntmps11
  go_wp2_with fail
  refine (open_any a len cap zs _ H.out).mono ?_
  rintro e w1 ⟨rfl, b1, r1⟩
  have X1 : Hid (Box w1 w.heap.size 24 [.int .i64 0, .int .i64 0]) := (Box.new w _ _).below b1
  have B1 : Hid (Below w.heap.size w w1) := (below1 w _).trans (b1.mono (by simp))
  have R1 := Lib.hid r1
  have zq : w.heap.size < (w.alloc (.cells #[.int .i64 0, .int .i64 0] 24)).heap.size := by simp
  generalize (w.alloc (.cells #[.int .i64 0, .int .i64 0] 24)).heap.size = q at R1 zq
  clear b1 r1
  go_wp2_with fail
  refine (order_full q 0 6 _ R1.out (by omega) (by omega) (by omega)).mono ?_
  rintro e w2 ⟨op, arg, rfl, o2, r2⟩
  have X2 := Lib.hid (X1.out.only o2 (by simp; omega))
  have B2 := Lib.hid (B1.out.trans (o2.below (B := w.heap.size) (fun b hb => by simp at hb; omega) B1.out.size))
  clear o2 r2
  have e0 : w2.cell? ⟨w.heap.size, 0, none⟩ = some (.int .i64 0) := X2.out.cell 0
  have e1 : w2.cell? ⟨w.heap.size, 1, none⟩ = some (.int .i64 0) := X2.out.cell 1
  have e2 := X2.out.frozen 0
  have e3 := X2.out.frozen 1
  go_wp2_with fail
  refine bodyPost_ret (v := .agg #[.int .i64 op, .int .i64 arg]) (by simp [results, Tryd.results11, go_sem, e0, e1]) rfl ?_
  exact ⟨op, arg, rfl, (B2.out.setCell (show w.heap.size ≤ w.heap.size from Nat.le_refl _) _).setCell (show w.heap.size ≤ w.heap.size from Nat.le_refl _) _⟩
set_option maxHeartbeats 4000000 in
theorem walk_FnFormatOrder (a0 : Option Addr) (len0 cap0 : Nat) (z0 : List Int) (a1 : Option Addr) (len1 cap1 : Nat) (z1 : List Int) (w : World) (w0 : IsRow .u8 w a0 len0 cap0 z0) (w1' : IsRow .u8 w a1 len1 cap1 z1) (ho : NumEnv w) :
    Calls Tryd.prog 3 #[.slice a0 len0 cap0, .slice a1 len1 cap1] w fun e w' => e = .returned (.bool true) ∧ Below w.heap.size w w' := by
  have H := Lib.hid w0
  have H' := Lib.hid w1'
  have HO := Lib.hid ho
  have HE : Hid (Env w) := ho.1
  have hl := isRow_len w0
  have hl1 := isRow_len w1'
  clear w0 ho w1'
  by_cases hs : len0 ≤ 1048576
  · by_cases hs1 : len1 ≤ 1048576
    · go_enter Tryd.func3, Tryd.ntmps3
      go_wp2_with fail
      refine (draw_fmt _ _ _ _ _ H.out).mono ?_; rintro e w1 ⟨op, arg, rfl, b1⟩
      have B1 := Lib.hid (b1.alloc b1.size (.cells #[.int .i64 op, .int .i64 arg] 24))
      clear b1
      go_wp2_with fail
      refine (draw_fmt _ _ _ _ _ (isRow_stays H'.out B1.out)).mono ?_; rintro e w2 ⟨op', arg', rfl, b2⟩
      have X2 : Hid (Box w2 w1.heap.size 24 [.int .i64 op, .int .i64 arg]) := (Box.new w1 _ _).below b2
      have B2 : Hid (Below w.heap.size w (w2.alloc (.cells #[.int .i64 op', .int .i64 arg'] 24))) := (below_then B1.out b2).alloc (below_then B1.out b2).size _
      have c0 : w2.cell? ⟨w1.heap.size, 0, none⟩ = some (.int .i64 op) := X2.out.cell 0
      have c1 : w2.cell? ⟨w1.heap.size, 1, none⟩ = some (.int .i64 arg) := X2.out.cell 1
      have z2 : w1.heap.size < w2.heap.size := X2.out.lt
      clear b2
      go_wp2_with fail
      refine (impl_fmt _ _ _ (HO.out.1.below B2.out)).mono ?_; rintro e w3 ⟨rfl, b3⟩
      have X3 := Lib.hid ((X2.out.alloc (.cells #[.int .i64 op', .int .i64 arg'] 24)).below b3)
      have Y3 : Hid (Box w3 w2.heap.size 24 [.int .i64 op', .int .i64 arg']) := (Box.new w2 _ _).below b3
      have B3 := Lib.hid (below_then B2.out b3)
      clear b3 c0 c1
      obtain ⟨SS, hSS⟩ : ∃ SS : ByteArray, SS = ⟨(fmtN op arg).toArray⟩ := ⟨_, rfl⟩
      rw [← hSS]
      have HSS := Lib.hid hSS
      clear hSS
      have c0 : w3.cell? ⟨w1.heap.size, 0, none⟩ = some (.int .i64 op) := X3.out.cell 0
      have c1 : w3.cell? ⟨w1.heap.size, 1, none⟩ = some (.int .i64 arg) := X3.out.cell 1
      go_wp2_with fail
      refine (spec_fmt _ _ _).mono ?_; rintro e w4 ⟨rfl, b4⟩
      rw [← HSS.out]
      have X4 := Lib.hid (X3.out.below b4)
      have Y4 := Lib.hid (Y3.out.below b4)
      have B4 := Lib.hid (below_then B3.out b4)
      clear b4 c0 c1
      have c0 : w4.cell? ⟨w1.heap.size, 0, none⟩ = some (.int .i64 op) := X4.out.cell 0
      have c1 : w4.cell? ⟨w1.heap.size, 1, none⟩ = some (.int .i64 arg) := X4.out.cell 1
      go_wp2_with fail
      refine (spec_ordValid _ _ _).mono ?_; rintro e w5 ⟨rfl, b5⟩
      have X5 := Lib.hid (X4.out.below b5)
      have Y5 := Lib.hid (Y4.out.below b5)
      have B5 := Lib.hid (below_then B4.out b5)
      clear b5 c0 c1
      by_cases hv : ordB op arg = true
      · rw [hv]
        have HP := Lib.hid (par_fmt hv)
        have hlen := fmt_len op arg
        have HI := Lib.hid (fun (e : fmtN op arg = fmtN op' arg') => fmt_inj hv (fmt_valid (by rw [← e]; exact (fmt_size hv).1)) e)
        clear hv
        go_wp2_with fail
        rw [HSS.out]
        refine (impl_par (fmtN op arg) (by omega) _ (HO.out.below B5.out)).mono ?_; rintro e w6 ⟨rfl, b6⟩
        rw [HP.out, ← HSS.out]
        have hV : parV (some (op, arg)) = .tuple #[.agg #[.int .i64 op, .int .i64 arg], .bool true] := rfl
        rw [hV]
        clear hV
        have X6 := Lib.hid (X5.out.below b6)
        have Y6 := Lib.hid (Y5.out.below b6)
        have B6 := Lib.hid (below_then B5.out b6)
        clear b6
        go_upto_region 11 with (fail)
        obtain ⟨W, hW⟩ : ∃ W, W = w6.alloc (.cells #[.int .i64 op, .int .i64 arg] 24) := ⟨_, rfl⟩
        rw [← hW]
        have c0 : W.cell? ⟨w1.heap.size, 0, none⟩ = some (.int .i64 op) := by rw [hW]; exact (X6.out.alloc _).cell 0
        have c1 : W.cell? ⟨w1.heap.size, 1, none⟩ = some (.int .i64 arg) := by rw [hW]; exact (X6.out.alloc _).cell 1
        have d0 : W.cell? ⟨w2.heap.size, 0, none⟩ = some (.int .i64 op') := by rw [hW]; exact (Y6.out.alloc _).cell 0
        have d1 : W.cell? ⟨w2.heap.size, 1, none⟩ = some (.int .i64 arg') := by rw [hW]; exact (Y6.out.alloc _).cell 1
        have x0 : W.cell? ⟨w6.heap.size, 0, none⟩ = some (.int .i64 op) := by rw [hW]; exact (Box.new w6 _ _).cell 0
        have x1 : W.cell? ⟨w6.heap.size, 1, none⟩ = some (.int .i64 arg) := by rw [hW]; exact (Box.new w6 _ _).cell 1
        have BW : Hid (Below w.heap.size w W) := by rw [hW]; exact B6.out.alloc B6.out.size _
        have y0 : w2.heap.size < w6.heap.size := Y6.out.lt
        have zW : w6.heap.size < W.heap.size := by rw [hW]; simp
        clear hW
        by_cases hop : op = op'
        · by_cases har : arg = arg'
          · subst hop; subst har
            have K7 : Hid (W.cell? ⟨w1.heap.size, 0, none⟩ = some (.int .i64 op) ∧ W.cell? ⟨w1.heap.size, 1, none⟩ = some (.int .i64 arg) ∧ W.cell? ⟨w2.heap.size, 0, none⟩ = some (.int .i64 op) ∧ W.cell? ⟨w2.heap.size, 1, none⟩ = some (.int .i64 arg) ∧ W.cell? ⟨w6.heap.size, 0, none⟩ = some (.int .i64 op) ∧ W.cell? ⟨w6.heap.size, 1, none⟩ = some (.int .i64 arg)) := ⟨c0, c1, d0, d1, x0, x1⟩
            have K7d : Hid (W.drew.cell? ⟨w1.heap.size, 0, none⟩ = some (.int .i64 op) ∧ W.drew.cell? ⟨w1.heap.size, 1, none⟩ = some (.int .i64 arg) ∧ W.drew.cell? ⟨w2.heap.size, 0, none⟩ = some (.int .i64 op) ∧ W.drew.cell? ⟨w2.heap.size, 1, none⟩ = some (.int .i64 arg) ∧ W.drew.cell? ⟨w6.heap.size, 0, none⟩ = some (.int .i64 op) ∧ W.drew.cell? ⟨w6.heap.size, 1, none⟩ = some (.int .i64 arg)) := ⟨c0, c1, d0, d1, x0, x1⟩
            go_region_held3 (fun w' => w'.cell? ⟨w1.heap.size, 0, none⟩ = some (.int .i64 op) ∧ w'.cell? ⟨w1.heap.size, 1, none⟩ = some (.int .i64 arg) ∧ w'.cell? ⟨w2.heap.size, 0, none⟩ = some (.int .i64 op) ∧ w'.cell? ⟨w2.heap.size, 1, none⟩ = some (.int .i64 arg) ∧ w'.cell? ⟨w6.heap.size, 0, none⟩ = some (.int .i64 op) ∧ w'.cell? ⟨w6.heap.size, 1, none⟩ = some (.int .i64 arg))
              (first
                | (with_reducible exact K7.out)
                | (with_reducible exact K7d.out)
                | (with_reducible exact K8.out)
                | go_keep)
              (first
                | (go_at_call 12; ((with_reducible refine (impl_fmt _ _ _ (HE.out.below BW.out.drew)).mono ?_)); rintro e w8 ⟨rfl, b8⟩; have K8 : Hid (w8.cell? ⟨w1.heap.size, 0, none⟩ = some (.int .i64 op) ∧ w8.cell? ⟨w1.heap.size, 1, none⟩ = some (.int .i64 arg) ∧ w8.cell? ⟨w2.heap.size, 0, none⟩ = some (.int .i64 op) ∧ w8.cell? ⟨w2.heap.size, 1, none⟩ = some (.int .i64 arg) ∧ w8.cell? ⟨w6.heap.size, 0, none⟩ = some (.int .i64 op) ∧ w8.cell? ⟨w6.heap.size, 1, none⟩ = some (.int .i64 arg)) := ⟨(b8.cell (by simp; omega)).trans c0, (b8.cell (by simp; omega)).trans c1, (b8.cell (by simp; omega)).trans d0, (b8.cell (by simp; omega)).trans d1, (b8.cell (by simp; omega)).trans x0, (b8.cell (by simp; omega)).trans x1⟩; have B8 := Lib.hid (below_then BW.out.drew b8); clear b8; rw [← HSS.out]))
            all_goals
              go_wp2_with fail
              go_ret
              exact ⟨rfl, B8.out⟩

          · have HNE := Lib.hid (show fmtN op arg' ≠ fmtN op arg from fun e => by subst hop; exact har (HI.out e.symm).2)
            have hq : (arg == arg') = false := by simpa using har
            subst hop
            clear har

            have K7 : Hid (W.cell? ⟨w1.heap.size, 0, none⟩ = some (.int .i64 op) ∧ W.cell? ⟨w1.heap.size, 1, none⟩ = some (.int .i64 arg) ∧ W.cell? ⟨w2.heap.size, 0, none⟩ = some (.int .i64 op) ∧ W.cell? ⟨w2.heap.size, 1, none⟩ = some (.int .i64 arg') ∧ W.cell? ⟨w6.heap.size, 0, none⟩ = some (.int .i64 op) ∧ W.cell? ⟨w6.heap.size, 1, none⟩ = some (.int .i64 arg)) := ⟨c0, c1, d0, d1, x0, x1⟩
            have K7d : Hid (W.drew.cell? ⟨w1.heap.size, 0, none⟩ = some (.int .i64 op) ∧ W.drew.cell? ⟨w1.heap.size, 1, none⟩ = some (.int .i64 arg) ∧ W.drew.cell? ⟨w2.heap.size, 0, none⟩ = some (.int .i64 op) ∧ W.drew.cell? ⟨w2.heap.size, 1, none⟩ = some (.int .i64 arg') ∧ W.drew.cell? ⟨w6.heap.size, 0, none⟩ = some (.int .i64 op) ∧ W.drew.cell? ⟨w6.heap.size, 1, none⟩ = some (.int .i64 arg)) := ⟨c0, c1, d0, d1, x0, x1⟩
            go_region_held3 (fun w' => w'.cell? ⟨w1.heap.size, 0, none⟩ = some (.int .i64 op) ∧ w'.cell? ⟨w1.heap.size, 1, none⟩ = some (.int .i64 arg) ∧ w'.cell? ⟨w2.heap.size, 0, none⟩ = some (.int .i64 op) ∧ w'.cell? ⟨w2.heap.size, 1, none⟩ = some (.int .i64 arg') ∧ w'.cell? ⟨w6.heap.size, 0, none⟩ = some (.int .i64 op) ∧ w'.cell? ⟨w6.heap.size, 1, none⟩ = some (.int .i64 arg))
              (first
                | (with_reducible exact K7.out)
                | (with_reducible exact K7d.out)
                | (with_reducible exact K8.out)
                | go_keep)
              (first
                | (go_at_call 12; ((with_reducible refine (impl_fmt _ _ _ (HE.out.below BW.out.drew)).mono ?_)); rintro e w8 ⟨rfl, b8⟩; have K8 : Hid (w8.cell? ⟨w1.heap.size, 0, none⟩ = some (.int .i64 op) ∧ w8.cell? ⟨w1.heap.size, 1, none⟩ = some (.int .i64 arg) ∧ w8.cell? ⟨w2.heap.size, 0, none⟩ = some (.int .i64 op) ∧ w8.cell? ⟨w2.heap.size, 1, none⟩ = some (.int .i64 arg') ∧ w8.cell? ⟨w6.heap.size, 0, none⟩ = some (.int .i64 op) ∧ w8.cell? ⟨w6.heap.size, 1, none⟩ = some (.int .i64 arg)) := ⟨(b8.cell (by simp; omega)).trans c0, (b8.cell (by simp; omega)).trans c1, (b8.cell (by simp; omega)).trans d0, (b8.cell (by simp; omega)).trans d1, (b8.cell (by simp; omega)).trans x0, (b8.cell (by simp; omega)).trans x1⟩; have B8 := Lib.hid (below_then BW.out.drew b8); clear b8; obtain ⟨SF, hSF⟩ : ∃ SF : ByteArray, SF = ⟨(fmtN op arg').toArray⟩ := ⟨_, rfl⟩; have hqq : (SF.toList == SS.toList) = false := ba_ne (by rw [hSF, HSS.out]; exact fun e => HNE.out (ba_inj.1 e)); rw [← hSF]; clear hSF))
            all_goals
              go_wp2_with fail
              go_ret
              exact ⟨rfl, B8.out⟩

        · have HNE := Lib.hid (show fmtN op' arg' ≠ fmtN op arg from fun e => hop (HI.out e.symm).1)
          have hq : (op == op') = false := by simpa using hop
          clear hop

          have K7 : Hid (W.cell? ⟨w1.heap.size, 0, none⟩ = some (.int .i64 op) ∧ W.cell? ⟨w1.heap.size, 1, none⟩ = some (.int .i64 arg) ∧ W.cell? ⟨w2.heap.size, 0, none⟩ = some (.int .i64 op') ∧ W.cell? ⟨w2.heap.size, 1, none⟩ = some (.int .i64 arg') ∧ W.cell? ⟨w6.heap.size, 0, none⟩ = some (.int .i64 op) ∧ W.cell? ⟨w6.heap.size, 1, none⟩ = some (.int .i64 arg)) := ⟨c0, c1, d0, d1, x0, x1⟩
          have K7d : Hid (W.drew.cell? ⟨w1.heap.size, 0, none⟩ = some (.int .i64 op) ∧ W.drew.cell? ⟨w1.heap.size, 1, none⟩ = some (.int .i64 arg) ∧ W.drew.cell? ⟨w2.heap.size, 0, none⟩ = some (.int .i64 op') ∧ W.drew.cell? ⟨w2.heap.size, 1, none⟩ = some (.int .i64 arg') ∧ W.drew.cell? ⟨w6.heap.size, 0, none⟩ = some (.int .i64 op) ∧ W.drew.cell? ⟨w6.heap.size, 1, none⟩ = some (.int .i64 arg)) := ⟨c0, c1, d0, d1, x0, x1⟩
          go_region_held3 (fun w' => w'.cell? ⟨w1.heap.size, 0, none⟩ = some (.int .i64 op) ∧ w'.cell? ⟨w1.heap.size, 1, none⟩ = some (.int .i64 arg) ∧ w'.cell? ⟨w2.heap.size, 0, none⟩ = some (.int .i64 op') ∧ w'.cell? ⟨w2.heap.size, 1, none⟩ = some (.int .i64 arg') ∧ w'.cell? ⟨w6.heap.size, 0, none⟩ = some (.int .i64 op) ∧ w'.cell? ⟨w6.heap.size, 1, none⟩ = some (.int .i64 arg))
            (first
              | (with_reducible exact K7.out)
              | (with_reducible exact K7d.out)
              | (with_reducible exact K8.out)
              | go_keep)
            (first
              | (go_at_call 12; ((with_reducible refine (impl_fmt _ _ _ (HE.out.below BW.out.drew)).mono ?_)); rintro e w8 ⟨rfl, b8⟩; have K8 : Hid (w8.cell? ⟨w1.heap.size, 0, none⟩ = some (.int .i64 op) ∧ w8.cell? ⟨w1.heap.size, 1, none⟩ = some (.int .i64 arg) ∧ w8.cell? ⟨w2.heap.size, 0, none⟩ = some (.int .i64 op') ∧ w8.cell? ⟨w2.heap.size, 1, none⟩ = some (.int .i64 arg') ∧ w8.cell? ⟨w6.heap.size, 0, none⟩ = some (.int .i64 op) ∧ w8.cell? ⟨w6.heap.size, 1, none⟩ = some (.int .i64 arg)) := ⟨(b8.cell (by simp; omega)).trans c0, (b8.cell (by simp; omega)).trans c1, (b8.cell (by simp; omega)).trans d0, (b8.cell (by simp; omega)).trans d1, (b8.cell (by simp; omega)).trans x0, (b8.cell (by simp; omega)).trans x1⟩; have B8 := Lib.hid (below_then BW.out.drew b8); clear b8; obtain ⟨SF, hSF⟩ : ∃ SF : ByteArray, SF = ⟨(fmtN op' arg').toArray⟩ := ⟨_, rfl⟩; have hqq : (SF.toList == SS.toList) = false := ba_ne (by rw [hSF, HSS.out]; exact fun e => HNE.out (ba_inj.1 e)); rw [← hSF]; clear hSF))
          all_goals
            go_wp2_with fail
            go_ret
            exact ⟨rfl, B8.out⟩

      · have hv' : ordB op arg = false := by simpa using hv
        rw [hv']
        have he : fmtN op arg = [] := by simp [fmtN, hv]
        have hn : (SS.toList == []) = true := by rw [ByteArray.toList_eq, HSS.out, he]; rfl
        clear hv hv' he
        go_wp2_with fail
        refine (alive_any _).mono ?_; rintro e w' ⟨rfl, rfl⟩
        go_wp2_with fail
        go_ret
        exact ⟨rfl, B5.out⟩
    · go_enter Tryd.func3, Tryd.ntmps3
      go_wp2_with fail
      go_ret
      exact ⟨rfl, Below.refl _ _⟩
  · go_enter Tryd.func3, Tryd.ntmps3
    go_wp2_with fail
    go_ret
    exact ⟨rfl, Below.refl _ _⟩
end Go.Proofs.YtmdldoofljdakaaDoor
