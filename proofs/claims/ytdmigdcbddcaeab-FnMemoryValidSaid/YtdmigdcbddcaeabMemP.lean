/- The walk of FnMemoryValid. -/
import Derived.Test.YtdmigdcbddcaeabMemI
import Derived.Deep.DeepCutAuto
import Derived.Deep.RegionLaw
namespace Go.Proofs.Ytdmigdcbddcaeab
open Go.ChangeShapes Go.WideShapes Go.ChangeAt Go.RowKit

theorem run_append_voidR (w : World) (base : Nat) (ty : TypeId) (i : TypeInfo) (hi : Try.prog.info? 23 = some i) (v : Value) (n : Nat) (xs : List Value) (hown : w.ownsRow base 23 1 v n xs) (A : Option Addr) (c : Nat) :
    (Builtin.append_ #[24, 24] ty #[v, .slice A 0 c]).run Try.prog w = .ok v w := by
  rcases hown.2 with ⟨rfl, rfl⟩ | ⟨g, cap, cur, rfl, _, _, hnc, _⟩
  · rcases A with _ | A <;> simp [Builtin.append_, run_underlying Try.underlying24, sizeOf, typeInfo, hi, Builtin.lenOf, Builtin.firstCells, loadCells, loadCellsFrom]
  · rcases A with _ | A <;> simp [Builtin.append_, run_underlying Try.underlying24, sizeOf, typeInfo, hi, Builtin.lenOf, Builtin.firstCells, hnc, storeCells, loadCells, loadCellsFrom]
theorem step_append_voidR {w : World} {ops : Array Oper} {o : Oper} {a : Act} {K : Act → World → Prop} {Q : Exit → Act → World → Prop} {E : Prop} (hgd : o.guard = none) (s x : Operand) (ho : o.op = .call { callee := .builtin .append, args := #[s, x], argTypes := #[24, 24] })
    (base : Nat) (i : TypeInfo) (hi : Try.prog.info? 23 = some i) (v : Value) (n : Nat) (xs : List Value) (hs : a.eval s = v) (hown : w.ownsRow base 23 1 v n xs) (A : Option Addr) (c : Nat) (hx : a.eval x = .slice A 0 c) (h : K (a.put o.dst v) w) :
    if Region.wanted o (yielded ops a.tmps) = true then Oper.wp Try.prog o a w K Q else E := by
  have hw : Region.wanted o (yielded ops a.tmps) = true := by simp [Region.wanted, hgd]
  rw [if_pos hw]
  have hr := run_append_voidR w base o.type i hi v n xs hown A c
  unfold Oper.wp execOp
  simp only [ho, resolve, invoke, builtin, Sem.run_bind, Sem.run_pure, Result.andThen_ok, List.map_toArray, List.map_cons, List.map_nil, hs, hx, hr]
  exact h
theorem own_lit1 (w : World) (t : TypeId) (v : Value) (base : Nat) (h : base ≤ w.heap.size) : (w.alloc (.cells #[v] t)).ownsRow base t 1 (.slice (some ⟨w.heap.size, 0, none⟩) 1 1) 1 [v] :=
  ⟨by simp, .inr ⟨w.heap.size, 1, #[v], rfl, h, heap_alloc_new w _, Nat.le_refl _, by unfold maxLen; omega, by simp, by simp⟩⟩
theorem own_grid {w : World} {base g cap k : Nat} {D : List Row} (h : w.ownsRow base 23 1 (.slice (some ⟨g, 0, none⟩) k cap) k (D.map Row.val)) (hl : D.length = k) (hk : 0 < k) (ok : ∀ r ∈ D, RowOk w r) : base ≤ g ∧ k ≤ cap ∧ ∃ fp, Grid w (some ⟨g, 0, none⟩) k (D.map Row.xs) fp := by
  rcases h.2 with ⟨e, _⟩ | ⟨g', cap', cur, e, hb, hh, hnc, _, _, hcur⟩
  · cases e
  · injection e with e1 e2 e3
    injection e1 with e1
    injection e1 with e1
    subst e1; subst e3
    have hlt : g < w.heap.size := by
      by_cases hl : g < w.heap.size
      · exact hl
      · rw [Array.getElem?_eq_none (by omega)] at hh; cases hh
    refine ⟨hb, hnc, _, D, rfl, hl, ok, .inr ⟨hk, g, 0, rfl, rfl, hlt, fun i r hi => ?_⟩⟩
    have hi' : i < k := by have := (List.getElem?_eq_some_iff.1 hi).1; omega
    rw [cell_of_row w g (0 + i) cur _ (0, 0) hh, Nat.zero_add]
    have e : (cur.toList.take (k * 1))[i]? = (D.map Row.val)[i]? := by rw [hcur]
    rw [List.getElem?_map, hi, List.getElem?_take, if_pos (by omega)] at e
    simpa using e
theorem short_bad {M : Mem} (xs : List Int) (rest : List (List Int)) (h : xs.length ≠ 256) : validB { M with rom := xs :: rest } = false := by
  have : bankB xs = false := by simp [bankB, h]
  simp [validB, banksB, this]
theorem bank_bad {M : Mem} : validB { M with bank := (M.rom.length : Int) } = false := by simp [validB]
set_option maxHeartbeats 8000000 in
set_option maxRecDepth 100000 in
theorem walk_FnMemoryValid (a0 : Option Addr) (len0 cap0 : Nat) (z0 : List Int) (w : World) (w0 : IsRow .u8 w a0 len0 cap0 z0) :
    Calls Try.prog 3 #[.slice a0 len0 cap0] w fun e w' => e = .returned (.bool true) ∧ Below w.heap.size w w' := by
  have H := Lib.hid w0
  have hl := isRow_len w0
  clear w0
  obtain ⟨i0, hi0, hz0, hz1, hz2⟩ := info_parts infoInts
  by_cases hs : len0 ≤ 1048576
  · go_enter Try.func3, Try.ntmps3
    go_wp2_with fail
    refine (draw_memValid _ _ _ _ _ H.out).mono ?_; rintro e w1 ⟨A, n, c, R, k, d, M, rfl, h1, b1⟩
    have B1 := Lib.hid (b1.alloc b1.size (.cells #[.slice A n c, .slice R k d, .int .i64 M.bank] 26))
    have H1 := Lib.hid (h1.below (below1 w1 (.cells #[.slice A n c, .slice R k d, .int .i64 M.bank] 26)))
    clear b1 h1
    go_wp2_with fail
    refine (hv_impl H1.out).mono ?_; rintro e w2 ⟨rfl, b2⟩
    have Y2 : Hid (Box w2 w1.heap.size 26 [.slice A n c, .slice R k d, .int .i64 M.bank]) := (Box.new w1 _ _).below b2
    have B2 := Lib.hid (below_then B1.out b2)
    have H2 := Lib.hid (H1.out.below b2)
    clear b2 H1
    generalize hV : validB M = V
    have HV := Lib.hid hV
    clear hV
    have c0 : w2.cell? ⟨w1.heap.size, 0, none⟩ = some (.slice A n c) := Y2.out.cell 0
    have c1 : w2.cell? ⟨w1.heap.size, 1, none⟩ = some (.slice R k d) := Y2.out.cell 1
    have c2 : w2.cell? ⟨w1.heap.size, 2, none⟩ = some (.int .i64 M.bank) := Y2.out.cell 2
    go_wp2_with fail
    refine (hv_spec H2.out).mono ?_; rintro e w3 ⟨rfl, b3⟩
    rw [HV.out]
    have Y3 := Lib.hid (Y2.out.below b3)
    have B3 := Lib.hid (below_then B2.out b3)
    have H3 := Lib.hid (H2.out.below b3)
    clear b3 H2 c0 c1 c2
    cases V
    · go_wp2_with fail
      refine (alive_any _).mono ?_; rintro e w' ⟨rfl, rfl⟩
      go_wp2_with fail
      go_ret
      exact ⟨rfl, B3.out⟩
    · have gd := good_of HV.out
      have ml := H3.out.rom_len
      have hk1 : 1 ≤ k := by rw [← ml.1]; exact gd.one
      have hk4 : k ≤ 4 := by rw [← ml.1]; exact gd.four
      obtain ⟨hnc, hkd, ⟨fa, hI⟩, ⟨fr, hG⟩, hS⟩ := H3.out
      obtain ⟨D, hD, hDl, hDr, ⟨hk0, _⟩ | ⟨_, b, o, rfl, _, hb, hcell⟩⟩ := hG
      · omega
      · obtain ⟨r, D', rfl⟩ : ∃ r D', D = r :: D' := by
          cases D with
          | nil => simp at hDl; omega
          | cons r D' => exact ⟨r, D', rfl⟩
        have hr0 := hDr r (by simp)
        have hrn : r.n = 256 := by
          rw [← hr0.2.1]
          have := gd.rom 0 (by omega)
          rw [← hD] at this
          simpa [List.getD] using this
        obtain ⟨p, q, hra, _, hpl, hpc⟩ := hr0.2.at_ (by omega)
        have hrc := hr0.1
        have q0 : w3.cell? ⟨b, o, none⟩ = some (.slice (some ⟨p, q, none⟩) 256 r.c) := by
          have := hcell 0 r rfl
          simpa [Row.val, hra, hrn] using this
        have HCE := Lib.hid hcell
        have HDR := Lib.hid hDr
        have HDD := Lib.hid hD
        have HI := Lib.hid hI
        have HPC := Lib.hid hpc
        have GD := Lib.hid gd
        have c0 : w3.cell? ⟨w1.heap.size, 0, none⟩ = some (.slice A n c) := Y3.out.cell 0
        have c1 : w3.cell? ⟨w1.heap.size, 1, none⟩ = some (.slice (some ⟨b, o, none⟩) k d) := Y3.out.cell 1
        have c2 : w3.cell? ⟨w1.heap.size, 2, none⟩ = some (.int .i64 M.bank) := Y3.out.cell 2
        clear hcell hDr hD hI hpc gd hr0
        have e1 : (256 : Int) ≤ (r.c : Int) := by omega
        have hc2 : 1 < r.c := by omega
        go_wp2_with fail
        have q1 : w3.cell? ⟨b, o, none⟩ = some (.slice (some ⟨p, q, none⟩) 256 r.c) := q0
        have zb : b < w3.heap.size := hb
        obtain ⟨W4, hW4⟩ : ∃ W4, W4 = w3.alloc (.cells #[.slice A n c, .slice (some ⟨b, o, none⟩) k d, .int .i64 M.bank] 26) := ⟨_, rfl⟩
        have B34 : Hid (Below w3.heap.size w3 W4) := by rw [hW4]; exact below1 w3 _
        have X4 : Hid (Box W4 w3.heap.size 26 [.slice A n c, .slice (some ⟨b, o, none⟩) k d, .int .i64 M.bank]) := by rw [hW4]; exact Box.new w3 _ _
        rw [← hW4]
        clear hW4
        have z4 : w3.heap.size < W4.heap.size := X4.out.lt
        have Y4 := Lib.hid (Y3.out.below B34.out)
        have c0' : W4.cell? ⟨w1.heap.size, 0, none⟩ = some (.slice A n c) := Y4.out.cell 0
        have c1' : W4.cell? ⟨w1.heap.size, 1, none⟩ = some (.slice (some ⟨b, o, none⟩) k d) := Y4.out.cell 1
        have c2' : W4.cell? ⟨w1.heap.size, 2, none⟩ = some (.int .i64 M.bank) := Y4.out.cell 2
        have q0' : W4.cell? ⟨b, o, none⟩ = some (.slice (some ⟨p, q, none⟩) 256 r.c) := keeps B34.out q0
        have a1 : W4.cell? ⟨w3.heap.size, 1, none⟩ = some (.slice (some ⟨b, o, none⟩) k d) := X4.out.cell 1
        have a2 := X4.out.frozen 1
        have zb4 : b < W4.heap.size := by omega
        have zy : w1.heap.size < w3.heap.size := Y3.out.lt
        clear c0 c1 c2 q0 q1
        have hkk : (0 : Int) < (k : Int) := by omega
        have hkl : (1 : Int) ≤ (k : Int) := by omega
        have hkd2 : (1 : Int) ≤ (d : Int) := by omega
        have RK : Hid (RowOk w3 ⟨some ⟨p, q + 1, none⟩, 255, r.c - 1, r.xs.drop 1, [p]⟩) := ⟨by show 255 ≤ r.c - 1; omega, by
          have hlx : r.xs.length = 256 := by rw [(HDR.out r (by simp)).2.1]; exact hrn
          refine ⟨by simp [hlx], .inr ⟨by show 0 < 255; omega, p, q + 1, rfl, rfl, hpl, fun i hi => ?_⟩⟩
          have hi' : i < 255 := hi
          rw [Nat.add_assoc, HPC.out (1 + i) (by omega)]
          simp [List.getD_eq_getElem?_getD, Nat.add_comm 1 i]⟩
        have FIN : Hid (∀ (w5 : World) (g cap : Nat), Below W4.heap.size W4 w5 → w5.ownsRow W4.heap.size 23 1 (.slice (some ⟨g, 0, none⟩) k cap) k ((⟨some ⟨p, q + 1, none⟩, 255, r.c - 1, r.xs.drop 1, [p]⟩ :: D').map Row.val) →
            MemHere (w5.setCell ⟨w3.heap.size, 1, none⟩ (.slice (some ⟨g, 0, none⟩) k cap)) A n c (some ⟨g, 0, none⟩) k cap { M with rom := r.xs.drop 1 :: D'.map Row.xs } ∧ Below w3.heap.size w3 (w5.setCell ⟨w3.heap.size, 1, none⟩ (.slice (some ⟨g, 0, none⟩) k cap)) ∧ Box (w5.setCell ⟨w3.heap.size, 1, none⟩ (.slice (some ⟨g, 0, none⟩) k cap)) w3.heap.size 26 [.slice A n c, .slice (some ⟨g, 0, none⟩) k cap, .int .i64 M.bank]) := fun w5 g cap b5 own5 => by
          have b35 : Below w3.heap.size w3 w5 := B34.out.trans (b5.mono (Nat.le_of_lt z4))
          have b36 : Below w3.heap.size w3 (w5.setCell ⟨w3.heap.size, 1, none⟩ (.slice (some ⟨g, 0, none⟩) k cap)) := b35.setCell (show w3.heap.size ≤ w3.heap.size from Nat.le_refl _) _
          have ok5 : ∀ s ∈ ((⟨some ⟨p, q + 1, none⟩, 255, r.c - 1, r.xs.drop 1, [p]⟩ : Row) :: D'), RowOk w5 s := fun s hs => by
            rcases List.mem_cons.1 hs with rfl | hs
            · exact ⟨RK.out.1, RK.out.2.below b35⟩
            · exact ⟨(HDR.out s (by simp [hs])).1, (HDR.out s (by simp [hs])).2.below b35⟩
          obtain ⟨hbg, hkc, fp, hg5⟩ := own_grid own5 (by simpa using hDl) (by omega) ok5
          have lt5 : ∀ s ∈ ((⟨some ⟨p, q + 1, none⟩, 255, r.c - 1, r.xs.drop 1, [p]⟩ : Row) :: D'), ∀ x ∈ s.fp, x < w3.heap.size := fun s hs x hx => by
            rcases List.mem_cons.1 hs with rfl | hs
            · exact RK.out.2.lt x hx
            · exact (HDR.out s (by simp [hs])).2.lt x hx
          refine ⟨⟨hnc, hkc, ⟨fa, HI.out.below b36⟩, ?_, ?_⟩, b36, (X4.out.keep b5 z4).set 1 _⟩
          · obtain ⟨D5, e5, l5, o5, ⟨k5, _⟩ | ⟨_, g5, o5', e6, _, hl5, hc5⟩⟩ := hg5
            · omega
            · injection e6 with e6
              injection e6 with e6 e7 _
              subst e6; subst e7
              refine ⟨_, (⟨some ⟨p, q + 1, none⟩, 255, r.c - 1, r.xs.drop 1, [p]⟩ : Row) :: D', rfl, by simpa using hDl, fun s hs => ?_, .inr ⟨by omega, g, 0, rfl, rfl, by simpa using hl5, fun i s hi => ?_⟩⟩
              · rcases List.mem_cons.1 hs with rfl | hs
                · exact ⟨RK.out.1, RK.out.2.below b36⟩
                · exact ⟨(HDR.out s (by simp [hs])).1, (HDR.out s (by simp [hs])).2.below b36⟩
              · rw [World.cell?_setCell_other _ _ _ _ (fun e => by injection e; omega)]
                rcases own5.2 with ⟨e, _⟩ | ⟨g', cap', cur, e, _, hh, _, _, _, hcur⟩
                · cases e
                · injection e with e1 e2 e3
                  injection e1 with e1
                  injection e1 with e1
                  subst e1
                  have hi' : i < k := by have := (List.getElem?_eq_some_iff.1 hi).1; simp at this; simp at hDl; omega
                  rw [cell_of_row w5 g (0 + i) cur _ (0, 0) hh, Nat.zero_add]
                  have e : (cur.toList.take (k * 1))[i]? = (((⟨some ⟨p, q + 1, none⟩, 255, r.c - 1, r.xs.drop 1, [p]⟩ : Row) :: D').map Row.val)[i]? := by rw [hcur]
                  rw [List.getElem?_map, hi, List.getElem?_take, if_pos (by omega)] at e
                  simpa using e
          · have hlx : r.xs.length = 256 := by rw [(HDR.out r (by simp)).2.1]; exact hrn
            have hM : M.rom = r.xs :: D'.map Row.xs := by rw [← HDD.out]; rfl
            refine ⟨hS.ram, ?_, fun i => ?_⟩
            · have := hS.rom; rw [hM] at this; simpa using this
            · have := hS.row i
              rw [hM] at this
              cases i with
              | zero => simp [hlx]
              | succ i => simpa [List.getD] using this
        have hlD : D'.length = k - 1 := by simp at hDl; omega
        have hrc1 : ¬ r.c = 1 := by omega
        have zy4 : w1.heap.size < W4.heap.size := by omega
        have BD : Hid (Below W4.heap.size W4 W4.drew) := (Below.refl _ _).drew
        have REST : Hid (∀ w5 : World, Below W4.heap.size W4 w5 → w5.cell? ⟨w3.heap.size, 1, none⟩ = some (.slice (some ⟨b, o, none⟩) k d) ∧ w5.frozen? ⟨w3.heap.size, 1, none⟩ = false) := fun w5 b5 => ⟨keeps b5 a1, (b5.frozen (p := ⟨w3.heap.size, 1, none⟩) z4).trans a2⟩
        have HBB : Hid (∃ fr, Grid w3 (some ⟨b, o, none⟩) k M.rom fr) := ⟨_, r :: D', HDD.out, hDl, HDR.out, .inr ⟨by omega, b, o, rfl, rfl, hb, HCE.out⟩⟩
        have HM1 := Lib.hid (show M.rom.length = k from ml.1)
        have HMR := Lib.hid (show r.xs.length = 256 by rw [(HDR.out r (by simp)).2.1]; exact hrn)
        by_cases hk2 : k = 1
        · subst hk2
          obtain rfl : D' = [] := List.eq_nil_of_length_eq_zero (by omega)
          by_cases hd1 : d = 1
          · subst hd1
            have own1 : Hid (((W4.alloc (.cells #[.slice (some ⟨p, q + 1, none⟩) 255 (r.c - 1)] 23)).drew).ownsRow W4.heap.size 23 1 (.slice (some ⟨W4.heap.size, 0, none⟩) 1 1) 1 [.slice (some ⟨p, q + 1, none⟩) 255 (r.c - 1)]) := own_lit1 W4 _ _ _ (Nat.le_refl _)
            go_region_law (refine step_append_voidR rfl (.tmp 27) (.tmp 30) rfl W4.heap.size i0 hi0 _ 1 _ rfl own1.out _ _ rfl ?_; have R5 := REST.out ((W4.alloc (.cells #[.slice (some ⟨p, q + 1, none⟩) 255 (r.c - 1)] 23)).drew) (below1 W4 _).drew; have r51 := R5.1; have r52 := R5.2; clear R5)
            all_goals
              have F5 := FIN.out (W4.alloc (.cells #[.slice (some ⟨p, q + 1, none⟩) 255 (r.c - 1)] 23)) W4.heap.size 1 (below1 W4 _) own1.out
              rw [World.setCell_alloc_past _ _ _ _ z4] at F5
              obtain ⟨W6, hW6⟩ : ∃ W6, W6 = ((W4.setCell ⟨w3.heap.size, 1, none⟩ (.slice (some ⟨W4.heap.size, 0, none⟩) 1 1)).alloc (.cells #[.slice (some ⟨p, q + 1, none⟩) 255 (r.c - 1)] 23)) := ⟨_, rfl⟩
              rw [← hW6] at F5 ⊢
              clear hW6
              have F6 := Lib.hid F5
              have Y6 := Lib.hid (Y3.out.keep F6.out.2.1 zy)
              have m0 : W6.cell? ⟨w1.heap.size, 0, none⟩ = some (.slice A n c) := Y6.out.cell 0
              have m1 : W6.cell? ⟨w1.heap.size, 1, none⟩ = some (.slice (some ⟨b, o, none⟩) 1 1) := Y6.out.cell 1
              have m2 : W6.cell? ⟨w1.heap.size, 2, none⟩ = some (.int .i64 M.bank) := Y6.out.cell 2
              have s0 : W6.cell? ⟨w3.heap.size, 0, none⟩ = some (.slice A n c) := F6.out.2.2.cell 0
              have s1 : W6.cell? ⟨w3.heap.size, 1, none⟩ = some (.slice (some ⟨W4.heap.size, 0, none⟩) 1 1) := F6.out.2.2.cell 1
              have s2 : W6.cell? ⟨w3.heap.size, 2, none⟩ = some (.int .i64 M.bank) := F6.out.2.2.cell 2
              have zs : w3.heap.size < W6.heap.size := F6.out.2.2.lt
              have zm : w1.heap.size < W6.heap.size := by omega
              have B6 : Hid (Below w.heap.size w W6) := B3.out.trans (F6.out.2.1.mono B3.out.size)
              have BAD1 := Lib.hid (short_bad (M := M) (r.xs.drop 1) (([] : List Row).map Row.xs) (by simp [HMR.out]))
              have BAD2 := Lib.hid (show validB { M with bank := (1 : Int) } = false by have := bank_bad (M := M); rw [HM1.out] at this; exact this)
              clear F5 a1 a2 r51 r52 c0' c1' c2' q0'
              go_wp2_with fail
              refine (hv_impl (M := { M with rom := r.xs.drop 1 :: ([] : List Row).map Row.xs }) (F6.out.1.below (by first | exact (below1 W6 _).drew | exact below1 W6 _))).mono ?_; rintro e w7 ⟨rfl, b7⟩
              rw [BAD1.out]
              have HB7 : Hid (MemHere w7 A n c (some ⟨b, o, none⟩) 1 1 { M with bank := (1 : Int) }) := by
                obtain ⟨fr7, hg7⟩ := HBB.out
                have b37 : Below w3.heap.size w3 w7 := F6.out.2.1.trans ((by first | exact ((below1 W6 _).drew.trans (b7.mono (by simp))) | exact ((below1 W6 _).trans (b7.mono (by simp))) : Below W6.heap.size W6 w7).mono (by omega))
                exact ⟨hnc, hkd, ⟨fa, HI.out.below b37⟩, ⟨fr7, hg7.below b37⟩, ⟨hS.ram, hS.rom, hS.row⟩⟩
              have X7 : Hid (Box w7 W6.heap.size 26 [.slice A n c, .slice (some ⟨b, o, none⟩) 1 1, .int .i64 (1 : Int)]) := (by first | exact (show Box (W6.alloc _).drew _ _ _ from Box.new W6 _ _).below b7 | exact (Box.new W6 _ _).below b7)
              have B7 : Hid (Below w.heap.size w w7) := B6.out.trans ((by first | exact ((below1 W6 _).drew.trans (b7.mono (by simp))) | exact ((below1 W6 _).trans (b7.mono (by simp))) : Below W6.heap.size W6 w7).mono B6.out.size)
              have x0 : w7.cell? ⟨W6.heap.size, 0, none⟩ = some (.slice A n c) := X7.out.cell 0
              have x1 : w7.cell? ⟨W6.heap.size, 1, none⟩ = some (.slice (some ⟨b, o, none⟩) 1 1) := X7.out.cell 1
              have x2 : w7.cell? ⟨W6.heap.size, 2, none⟩ = some (.int .i64 (1 : Int)) := X7.out.cell 2
              clear b7 m0 m1 m2 s0 s1 s2
              go_wp2_with fail
              refine (hv_impl (M := { M with bank := (1 : Int) }) HB7.out).mono ?_; rintro e w8 ⟨rfl, b8⟩
              rw [BAD2.out]
              have B8 := Lib.hid (below_then B7.out b8)
              clear b8 x0 x1 x2
              go_wp2_with fail
              go_ret
              exact ⟨rfl, B8.out⟩
          · have hd2 : 1 < d := by omega
            have own1 : Hid (((W4.alloc (.cells #[.slice (some ⟨p, q + 1, none⟩) 255 (r.c - 1)] 23)).drew).ownsRow W4.heap.size 23 1 (.slice (some ⟨W4.heap.size, 0, none⟩) 1 1) 1 [.slice (some ⟨p, q + 1, none⟩) 255 (r.c - 1)]) := own_lit1 W4 _ _ _ (Nat.le_refl _)
            go_region_law (refine step_append_voidR rfl (.tmp 27) (.tmp 30) rfl W4.heap.size i0 hi0 _ 1 _ rfl own1.out _ _ rfl ?_; have R5 := REST.out ((W4.alloc (.cells #[.slice (some ⟨p, q + 1, none⟩) 255 (r.c - 1)] 23)).drew) (below1 W4 _).drew; have r51 := R5.1; have r52 := R5.2; clear R5)
            all_goals
              have F5 := FIN.out (W4.alloc (.cells #[.slice (some ⟨p, q + 1, none⟩) 255 (r.c - 1)] 23)) W4.heap.size 1 (below1 W4 _) own1.out
              rw [World.setCell_alloc_past _ _ _ _ z4] at F5
              obtain ⟨W6, hW6⟩ : ∃ W6, W6 = ((W4.setCell ⟨w3.heap.size, 1, none⟩ (.slice (some ⟨W4.heap.size, 0, none⟩) 1 1)).alloc (.cells #[.slice (some ⟨p, q + 1, none⟩) 255 (r.c - 1)] 23)) := ⟨_, rfl⟩
              rw [← hW6] at F5 ⊢
              clear hW6
              have F6 := Lib.hid F5
              have Y6 := Lib.hid (Y3.out.keep F6.out.2.1 zy)
              have m0 : W6.cell? ⟨w1.heap.size, 0, none⟩ = some (.slice A n c) := Y6.out.cell 0
              have m1 : W6.cell? ⟨w1.heap.size, 1, none⟩ = some (.slice (some ⟨b, o, none⟩) 1 d) := Y6.out.cell 1
              have m2 : W6.cell? ⟨w1.heap.size, 2, none⟩ = some (.int .i64 M.bank) := Y6.out.cell 2
              have s0 : W6.cell? ⟨w3.heap.size, 0, none⟩ = some (.slice A n c) := F6.out.2.2.cell 0
              have s1 : W6.cell? ⟨w3.heap.size, 1, none⟩ = some (.slice (some ⟨W4.heap.size, 0, none⟩) 1 1) := F6.out.2.2.cell 1
              have s2 : W6.cell? ⟨w3.heap.size, 2, none⟩ = some (.int .i64 M.bank) := F6.out.2.2.cell 2
              have zs : w3.heap.size < W6.heap.size := F6.out.2.2.lt
              have zm : w1.heap.size < W6.heap.size := by omega
              have B6 : Hid (Below w.heap.size w W6) := B3.out.trans (F6.out.2.1.mono B3.out.size)
              have BAD1 := Lib.hid (short_bad (M := M) (r.xs.drop 1) (([] : List Row).map Row.xs) (by simp [HMR.out]))
              have BAD2 := Lib.hid (show validB { M with bank := (1 : Int) } = false by have := bank_bad (M := M); rw [HM1.out] at this; exact this)
              clear F5 a1 a2 r51 r52 c0' c1' c2' q0'
              go_wp2_with fail
              refine (hv_impl (M := { M with rom := r.xs.drop 1 :: ([] : List Row).map Row.xs }) (F6.out.1.below (by first | exact (below1 W6 _).drew | exact below1 W6 _))).mono ?_; rintro e w7 ⟨rfl, b7⟩
              rw [BAD1.out]
              have HB7 : Hid (MemHere w7 A n c (some ⟨b, o, none⟩) 1 d { M with bank := (1 : Int) }) := by
                obtain ⟨fr7, hg7⟩ := HBB.out
                have b37 : Below w3.heap.size w3 w7 := F6.out.2.1.trans ((by first | exact ((below1 W6 _).drew.trans (b7.mono (by simp))) | exact ((below1 W6 _).trans (b7.mono (by simp))) : Below W6.heap.size W6 w7).mono (by omega))
                exact ⟨hnc, hkd, ⟨fa, HI.out.below b37⟩, ⟨fr7, hg7.below b37⟩, ⟨hS.ram, hS.rom, hS.row⟩⟩
              have X7 : Hid (Box w7 W6.heap.size 26 [.slice A n c, .slice (some ⟨b, o, none⟩) 1 d, .int .i64 (1 : Int)]) := (by first | exact (show Box (W6.alloc _).drew _ _ _ from Box.new W6 _ _).below b7 | exact (Box.new W6 _ _).below b7)
              have B7 : Hid (Below w.heap.size w w7) := B6.out.trans ((by first | exact ((below1 W6 _).drew.trans (b7.mono (by simp))) | exact ((below1 W6 _).trans (b7.mono (by simp))) : Below W6.heap.size W6 w7).mono B6.out.size)
              have x0 : w7.cell? ⟨W6.heap.size, 0, none⟩ = some (.slice A n c) := X7.out.cell 0
              have x1 : w7.cell? ⟨W6.heap.size, 1, none⟩ = some (.slice (some ⟨b, o, none⟩) 1 d) := X7.out.cell 1
              have x2 : w7.cell? ⟨W6.heap.size, 2, none⟩ = some (.int .i64 (1 : Int)) := X7.out.cell 2
              clear b7 m0 m1 m2 s0 s1 s2
              go_wp2_with fail
              refine (hv_impl (M := { M with bank := (1 : Int) }) HB7.out).mono ?_; rintro e w8 ⟨rfl, b8⟩
              rw [BAD2.out]
              have B8 := Lib.hid (below_then B7.out b8)
              clear b8 x0 x1 x2
              go_wp2_with fail
              go_ret
              exact ⟨rfl, B8.out⟩
        · have hk3 : 1 < k := by omega
          have hd2 : 1 < d := by omega
          have hk4' : (1 : Int) < (k : Int) := by omega
          have hd1n : ¬ d = 1 := by omega
          have own1 : Hid (((W4.alloc (.cells #[.slice (some ⟨p, q + 1, none⟩) 255 (r.c - 1)] 23)).drew).ownsRow W4.heap.size 23 1 (.slice (some ⟨W4.heap.size, 0, none⟩) 1 1) 1 [.slice (some ⟨p, q + 1, none⟩) 255 (r.c - 1)]) := own_lit1 W4 _ _ _ (Nat.le_refl _)
          have NEWS : Hid (∀ (j : Nat) (u : Value), (D'.map Row.val)[j]? = some u → ((W4.alloc (.cells #[.slice (some ⟨p, q + 1, none⟩) 255 (r.c - 1)] 23)).drew).cell? ((⟨b, o + 1, none⟩ : Addr).add j) = some u) := fun j u hu => by
            rw [List.getElem?_map] at hu
            obtain ⟨s, hs1, hs2⟩ := Option.map_eq_some_iff.1 hu
            subst hs2
            have := keeps ((below1 W4 (.cells #[.slice (some ⟨p, q + 1, none⟩) 255 (r.c - 1)] 23)).drew) (keeps B34.out (HCE.out (j + 1) s (by simpa using hs1)))
            rw [Go.WideShapes.add_plain, show o + 1 + j = o + (j + 1) by omega]
            exact this
          go_region_law (refine step_append_lies _ rfl (.tmp 27) (.tmp 30) 24 rfl W4.heap.size 23 i0 _ 1 24 Try.underlying24 hi0 hz0 hz1 hz2 rfl (by omega) _ 1 _ rfl own1.out ⟨b, o + 1, none⟩ (k - 1) (d - 1) (D'.map Row.val) rfl (by simp [hlD]) NEWS.out (by simp [Value.oneCell', Row.val]) (by omega) (by unfold maxLen; omega) (by omega) (by simp) _ rfl ?_; intro g cap w5 own5 gr5 hat5 hlt5; have b5 : Below W4.heap.size W4 w5 := below_grown ((below1 W4 _).drew) gr5 (by simp) (fun b' hb' => (own_lt own1.out b' hb').1); have R5 := REST.out w5 b5; have r51 := R5.1; have r52 := R5.2; have O5 := Lib.hid own5; have B5 := Lib.hid b5; clear R5 own5 gr5 hat5 hlt5 b5)
          all_goals
            have hk6 : 1 + (k - 1) = k := by omega
            have o6 : w5.ownsRow W4.heap.size 23 1 (.slice (some ⟨g, 0, none⟩) k cap) k ((⟨some ⟨p, q + 1, none⟩, 255, r.c - 1, r.xs.drop 1, [p]⟩ :: D').map Row.val) := by have := O5.out; rw [hk6] at this; simpa [Row.val] using this
            have O6 := Lib.hid o6
            clear o6
            have F5 := FIN.out w5 g cap B5.out O6.out
            clear hk6
            obtain ⟨W6, hW6⟩ : ∃ W6, W6 = w5.setCell ⟨w3.heap.size, 1, none⟩ (.slice (some ⟨g, 0, none⟩) k cap) := ⟨_, rfl⟩
            rw [← hW6] at F5 ⊢
            clear hW6
            have F6 := Lib.hid F5
            have Y6 := Lib.hid (Y3.out.keep F6.out.2.1 zy)
            have m0 : W6.cell? ⟨w1.heap.size, 0, none⟩ = some (.slice A n c) := Y6.out.cell 0
            have m1 : W6.cell? ⟨w1.heap.size, 1, none⟩ = some (.slice (some ⟨b, o, none⟩) k d) := Y6.out.cell 1
            have m2 : W6.cell? ⟨w1.heap.size, 2, none⟩ = some (.int .i64 M.bank) := Y6.out.cell 2
            have s0 : W6.cell? ⟨w3.heap.size, 0, none⟩ = some (.slice A n c) := F6.out.2.2.cell 0
            have s1 : W6.cell? ⟨w3.heap.size, 1, none⟩ = some (.slice (some ⟨g, 0, none⟩) k cap) := F6.out.2.2.cell 1
            have s2 : W6.cell? ⟨w3.heap.size, 2, none⟩ = some (.int .i64 M.bank) := F6.out.2.2.cell 2
            have zs : w3.heap.size < W6.heap.size := F6.out.2.2.lt
            have zm : w1.heap.size < W6.heap.size := by omega
            have B6 : Hid (Below w.heap.size w W6) := B3.out.trans (F6.out.2.1.mono B3.out.size)
            have BAD1 := Lib.hid (short_bad (M := M) (r.xs.drop 1) (D'.map Row.xs) (by simp [HMR.out]))
            have BAD2 := Lib.hid (show validB { M with bank := (k : Int) } = false by have := bank_bad (M := M); rw [HM1.out] at this; exact this)
            clear F5 a1 a2 r51 r52 c0' c1' c2' q0'
            go_wp2_with fail
            refine (hv_impl (M := { M with rom := r.xs.drop 1 :: D'.map Row.xs }) (F6.out.1.below (by first | exact (below1 W6 _).drew | exact below1 W6 _))).mono ?_; rintro e w7 ⟨rfl, b7⟩
            rw [BAD1.out]
            have HB7 : Hid (MemHere w7 A n c (some ⟨b, o, none⟩) k d { M with bank := (k : Int) }) := by
              obtain ⟨fr7, hg7⟩ := HBB.out
              have b37 : Below w3.heap.size w3 w7 := F6.out.2.1.trans ((by first | exact ((below1 W6 _).drew.trans (b7.mono (by simp))) | exact ((below1 W6 _).trans (b7.mono (by simp))) : Below W6.heap.size W6 w7).mono (by omega))
              exact ⟨hnc, hkd, ⟨fa, HI.out.below b37⟩, ⟨fr7, hg7.below b37⟩, ⟨hS.ram, hS.rom, hS.row⟩⟩
            have X7 : Hid (Box w7 W6.heap.size 26 [.slice A n c, .slice (some ⟨b, o, none⟩) k d, .int .i64 (k : Int)]) := (by first | exact (show Box (W6.alloc _).drew _ _ _ from Box.new W6 _ _).below b7 | exact (Box.new W6 _ _).below b7)
            have B7 : Hid (Below w.heap.size w w7) := B6.out.trans ((by first | exact ((below1 W6 _).drew.trans (b7.mono (by simp))) | exact ((below1 W6 _).trans (b7.mono (by simp))) : Below W6.heap.size W6 w7).mono B6.out.size)
            have x0 : w7.cell? ⟨W6.heap.size, 0, none⟩ = some (.slice A n c) := X7.out.cell 0
            have x1 : w7.cell? ⟨W6.heap.size, 1, none⟩ = some (.slice (some ⟨b, o, none⟩) k d) := X7.out.cell 1
            have x2 : w7.cell? ⟨W6.heap.size, 2, none⟩ = some (.int .i64 (k : Int)) := X7.out.cell 2
            clear b7 m0 m1 m2 s0 s1 s2
            go_wp2_with fail
            refine (hv_impl (M := { M with bank := (k : Int) }) HB7.out).mono ?_; rintro e w8 ⟨rfl, b8⟩
            rw [BAD2.out]
            have B8 := Lib.hid (below_then B7.out b8)
            clear b8 x0 x1 x2
            go_wp2_with fail
            go_ret
            exact ⟨rfl, B8.out⟩
  · go_enter Try.func3, Try.ntmps3
    go_wp2_with fail
    go_ret
    exact ⟨rfl, Below.refl _ _⟩
end Go.Proofs.Ytdmigdcbddcaeab
