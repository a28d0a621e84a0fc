/- The drawn laws of chapter 3 on the bytes of instructions. -/
import Derived.Test.YthndghhnpnaonaaDoorOrdL
import Derived.Test.YthndghhnpnaonaaDoorDecX
import Derived.Test.YthndghhnpnaonaaDoorRomD
namespace Go.Proofs.YthndghhnpnaonaaDoor
open Go.ChangeShapes Go.WideShapes Go.ChangeAt Go.RowKit

theorem ordN_len {op arg : Int} (h : ordB op arg = true) : (ordN op arg).length = (lenN op).toNat := by
  have := lenN_bd op
  simp [ordN, h]; omega
theorem ordN_at {op arg : Int} (h : ordB op arg = true) (i : Nat) (hi : (i : Int) < lenN op) : (ordN op arg).getD i 0 = ([op, arg % 256, arg / 256] : List Int).getD i 0 := by
  simp only [ordN, h, if_true, List.getD_eq_getElem?_getD, List.getElem?_take]
  rw [if_pos (by omega)]
theorem getD_mid (p m t : List Int) (i : Nat) (hi : i < m.length) : (p ++ m ++ t).getD (p.length + i) 0 = m.getD i 0 := by
  rw [List.append_assoc, List.getD_eq_getElem?_getD, List.getElem?_append_right (by omega), show p.length + i - p.length = i by omega, List.getElem?_append_left hi, ← List.getD_eq_getElem?_getD]
theorem ordB_parts {op arg : Int} (h : ordB op arg = true) : (lenN op = 1 ∧ arg = 0) ∨ (lenN op = 2 ∧ byteB arg = true) ∨ (lenN op = 3 ∧ addrB arg = true) := by
  unfold ordB at h
  split at h
  · rename_i hl; exact .inl ⟨hl, by simpa using h⟩
  · split at h
    · rename_i hl; exact .inr (.inl ⟨hl, h⟩)
    · split at h
      · rename_i hl; exact .inr (.inr ⟨hl, h⟩)
      · cases h
theorem dec_put (p t : List Int) {op arg : Int} (h : ordB op arg = true) : decN (p ++ ordN op arg ++ t) p.length = some (op, arg) := by
  have hl := ordN_len h
  have hb := lenN_bd op
  have h1 := (ordB_len h).1
  have g : ∀ i : Nat, (i : Int) < lenN op → (p ++ ordN op arg ++ t).getD (p.length + i) 0 = ([op, arg % 256, arg / 256] : List Int).getD i 0 := fun i hi => by
    rw [getD_mid _ _ _ _ (by omega), ordN_at h i hi]
  have g0 : (p ++ ordN op arg ++ t).getD p.length 0 = op := by simpa using g 0 (by omega)
  have hlen : (p ++ ordN op arg ++ t).length = p.length + (lenN op).toNat + t.length := by simp [hl]; omega
  rcases ordB_parts h with ⟨e, rfl⟩ | ⟨e, ha⟩ | ⟨e, ha⟩
  · rw [dec_one (by omega) (by rw [g0]; exact e), g0]
  · have g1 : (p ++ ordN op arg ++ t).getD (p.length + 1) 0 = arg := by
      have := byteB_yes ha
      rw [g 1 (by omega)]; simp; omega
    rw [dec_two (by omega) (by rw [g0]; exact e) (by omega), g0, g1, if_pos ha]
  · have hA := addrB_yes ha
    have g1 : (p ++ ordN op arg ++ t).getD (p.length + 1) 0 = arg % 256 := by rw [g 1 (by omega)]; rfl
    have g2 : (p ++ ordN op arg ++ t).getD (p.length + 2) 0 = arg / 256 := by rw [g 2 (by omega)]; rfl
    rw [dec_three (by omega) (by rw [g0]; exact e) (by omega), g0, g1, g2, if_pos ⟨byteB_mk (by omega) (by omega), by simp [betB]; omega⟩]
    congr 2; omega
theorem ordN_inj {op arg op' arg' : Int} (h : ordB op arg = true) (e : ordN op arg = ordN op' arg') : op = op' ∧ arg = arg' := by
  have hl := ordN_len h
  have h1 := (ordB_len h).1
  have h' : ordB op' arg' = true := by
    by_cases h' : ordB op' arg' = true
    · exact h'
    · have : ordN op' arg' = [] := by simp [ordN, h']
      rw [this] at e; rw [e] at hl; simp at hl; omega
  have a := dec_put [] [] h
  have b := dec_put [] [] h'
  rw [e] at a
  have := Option.some.inj (a.symm.trans b)
  simpa using this
theorem drewN_twice (w : World) (m k : Nat) : (w.drewN m).drewN k = w.drewN (m + k) := by
  simp [World.drewN, Nat.add_assoc]
theorem same_diff (A B : Option Addr) (n k c d : Nat) (xs ys : List Int) (fa fb : List Nat) (w : World) (ha : Ints w A n xs fa) (hb : Ints w B k ys fb) (hn : n ≤ 1000000000) (hk : k ≤ 1000000000) (hd : xs ≠ ys) :
    Calls Tryd.prog 21 #[.slice A n c, .slice B k d] w fun e w' => e = .returned (.bool false) ∧ ∃ m, w' = w.drewN m := by
  have HA := Lib.hid ha
  have HB := Lib.hid hb
  by_cases hnk : n = k
  · subst hnk
    have hx : Hid (∃ i, i < n ∧ xs.getD i 0 ≠ ys.getD i 0) := by
      by_cases h : ∃ i, i < n ∧ xs.getD i 0 ≠ ys.getD i 0
      · exact h
      · exact absurd (list_ext0 xs ys (by rw [HA.out.1, HB.out.1]) fun i hi => by
          by_cases h2 : xs.getD i 0 = ys.getD i 0
          · exact h2
          · exact absurd ⟨i, by rw [HB.out.1] at hi; exact hi, h2⟩ h) hd
    clear ha hb hd
    go_enter Tryd.func21, Tryd.ntmps21
    go_wp2
    go_loopw [5] (fun i wr => ∃ k m : Nat, k ≤ n ∧ i = .int .i64 k ∧ wr = w.drewN m ∧ ∀ j, j < k → xs.getD j 0 = ys.getD j 0) (fun i _ => n - (intOf i).toNat)
    case atStart => exact ⟨0, 0, Nat.zero_le _, rfl, rfl, fun j hj => by omega⟩
    case round =>
      obtain ⟨k, m, hk', rfl, rfl, hm⟩ := hrel
      have HM := Lib.hid hm
      clear hm
      by_cases hlt : k < n
      · obtain ⟨p, o, rfl, _, _, hc⟩ := HA.out.at_ (by omega)
        obtain ⟨q, u, rfl, _, _, he⟩ := HB.out.at_ (by omega)
        have c1 := hc k hlt
        have c2 := he k hlt
        clear hc he
        by_cases hxy : xs.getD k 0 = ys.getD k 0
        · have HX := Lib.hid hxy
          rw [← hxy] at c2
          clear hxy
          generalize xs.getD k 0 = x at c1 c2
          go_wp2
          go_quiet (fail)
          go_wp2
          go_roundw
          case rel => exact ⟨k + 1, _, by omega, by go_num, rfl, fun j hj => by
            by_cases h : j = k
            · subst h; exact HX.out
            · exact HM.out j (by omega)⟩
          case measure => simp [intOf]; omega
        · have hne : (xs.getD k 0 != ys.getD k 0) = true := by simpa using hxy
          clear hxy
          generalize xs.getD k 0 = x at c1 hne
          generalize ys.getD k 0 = y at c2 hne
          go_wp2
          go_quiet (fail)
          go_wp2
          go_ret
          exact ⟨rfl, _, drewN_twice w m nq⟩
      · obtain ⟨i, hi, hne⟩ := hx.out
        exact absurd (HM.out i (by omega)) hne
  · have hq : ((n : Int) != (k : Int)) = true := by simp; omega
    have hq2 : (n != k) = true := by simpa using hnk
    clear ha hb hd hnk
    go_enter Tryd.func21, Tryd.ntmps21
    go_wp2
    go_ret
    exact ⟨rfl, 0, rfl⟩
theorem own_lit2 (w : World) (t : TypeId) (x y : Int) (base : Nat) (h : base ≤ w.heap.size) : (w.alloc (.cells #[.int .i64 x, .int .i64 y] t)).ownsRow base t 1 (.slice (some ⟨w.heap.size, 0, none⟩) 2 2) 2 (iv [x, y]) :=
  ⟨by simp [iv], .inr ⟨w.heap.size, 2, #[.int .i64 x, .int .i64 y], rfl, h, heap_alloc_new w _, Nat.le_refl _, by unfold maxLen; omega, by simp, by simp [iv]⟩⟩
theorem walk_FnOrderBytes (a0 : Option Addr) (len0 cap0 : Nat) (z0 : List Int) (a1 : Option Addr) (len1 cap1 : Nat) (z1 : List Int) (w : World) (w0 : IsRow .u8 w a0 len0 cap0 z0) (w1' : IsRow .u8 w a1 len1 cap1 z1) (ho : Ops w) :
    Calls Tryd.prog 5 #[.slice a0 len0 cap0, .slice a1 len1 cap1] w fun e w' => e = .returned (.bool true) ∧ Below w.heap.size w w' := by
  have H := Lib.hid w0
  have HO := Lib.hid ho
  have hl := isRow_len w0
  have hl1 := isRow_len w1'
  clear w0 ho w1'
  by_cases hs : len0 ≤ 1048576
  · by_cases hs1 : len1 ≤ 1048576
    · go_enter Tryd.func5, Tryd.ntmps5
      go_wp2_with fail
      refine (draw_ordBytes _ _ _ _ _ H.out).mono ?_; rintro e w1 ⟨op, arg, rfl, b1⟩
      have B1 := Lib.hid b1
      clear b1
      have hn := (ordN_bytes op arg).1
      go_wp2_with fail
      refine (impl_ordBytes _ _ _ (HO.out.below (B1.out.alloc B1.out.size _))).mono ?_; rintro e w2 ⟨GA, gc, gfp, rfl, hgc, gi, gn, b2⟩
      have X2 : Hid (Box w2 w1.heap.size 28 [.int .i64 op, .int .i64 arg]) := (Box.new w1 _ _).below b2
      have B2 : Hid (Below w.heap.size w w2) := below_then (B1.out.alloc B1.out.size _) b2
      have G2 := Lib.hid gi
      have c0 : w2.cell? ⟨w1.heap.size, 0, none⟩ = some (.int .i64 op) := X2.out.cell 0
      have c1 : w2.cell? ⟨w1.heap.size, 1, none⟩ = some (.int .i64 arg) := X2.out.cell 1
      clear b2 gi gn
      go_wp2_with fail
      refine (spec_ordBytes _ _ _).mono ?_; rintro e w3 ⟨SA, sc, sfp, rfl, hsc, si, sn, b3⟩
      have X3 := Lib.hid (X2.out.below b3)
      have B3 := Lib.hid (below_then B2.out b3)
      have G3 := Lib.hid (G2.out.below b3)
      have S3 := Lib.hid si
      clear b3 si sn c0 c1
      go_wp2_with fail
      refine (same_ints _ _ _ _ _ _ _ _ _ G3.out S3.out (by omega)).mono ?_; rintro e w4 ⟨rfl, m4, rfl⟩
      have X4 : Hid (Box (w3.drewN m4) w1.heap.size 28 [.int .i64 op, .int .i64 arg]) := X3.out
      have B4 := Lib.hid (below_drewN B3.out m4)
      have G4 : Hid (Ints (w3.drewN m4) GA (ordN op arg).length (ordN op arg) gfp) := G3.out
      generalize w3.drewN m4 = w4 at X4 B4 G4
      clear X3 B3 G3 S3
      have c0 : w4.cell? ⟨w1.heap.size, 0, none⟩ = some (.int .i64 op) := X4.out.cell 0
      have c1 : w4.cell? ⟨w1.heap.size, 1, none⟩ = some (.int .i64 arg) := X4.out.cell 1
      go_wp2_with fail
      refine (spec_ordValid _ _ _).mono ?_; rintro e w5 ⟨rfl, b5⟩
      have X5 := Lib.hid (X4.out.below b5)
      have B5 := Lib.hid (below_then B4.out b5)
      have G5 := Lib.hid (G4.out.below b5)
      clear b5 c0 c1
      have z5 : w1.heap.size < w5.heap.size := X5.out.lt
      by_cases hv : ordB op arg = true
      · have HV := Lib.hid hv
        rw [HV.out]
        have HN := Lib.hid (ordN_len hv)
        have HD := Lib.hid (dec_put [7, 7] [(len1 : Int) % 256] hv)
        obtain ⟨v1, _, _, _, _⟩ := ordB_len hv
        obtain ⟨v6, v7⟩ := lenN_bd op
        clear hv
        generalize hxs : ordN op arg = xs at G5 hn HN HD hgc
        generalize hK : xs.length = K at G5 hn HN hgc
        have HK := Lib.hid hK
        clear hK hxs
        generalize hL : lenN op = L at v1 v6 v7 HN
        have HL := Lib.hid hL
        clear hL
        go_wp2_with (first
          | (at_builtin; refine wpList_append_ints rfl _ _ rfl w5.heap.size _ 2 [7, 7] rfl (own_lit2 w5 _ 7 7 _ (Nat.le_refl _)) _ _ _ xs gfp rfl (G5.out.below (below1 w5 _)) (by omega) (by simp) ?_; intro v6' w6 own6 gr6 at6; have E6 : Hid (w6.ownsRow w5.heap.size 3 1 v6' (2 + K) (iv ([7, 7] ++ xs)) ∧ w5.heap.size < w6.heap.size ∧ Below w5.heap.size w5 w6 ∧ ∀ k, v6'.ownBlock = some k → w5.heap.size ≤ k) := ⟨own6, by have := gr6.size; simp at this; omega, below_grown (below1 w5 _) gr6 (by simp) (fun k hk => by have e : some w5.heap.size = some k := hk; injection e; omega), fun k hk => (own_lt own6 k hk).1⟩; clear own6 gr6 at6)
          | (at_builtin; refine wpList_append_ints rfl _ _ rfl w5.heap.size _ (2 + K) ([7, 7] ++ xs) rfl (own_only E6.out.1 ((Only.refl [] w6).alloc _) (by simp)) _ _ _ [(len1 : Int) % 256] _ rfl (one_cell w6 _) (by omega) (by have := E6.out.2.1; simp; omega) ?_; intro v7' w7 own7 gr7 at7; have E7 : Hid (w7.ownsRow w5.heap.size 3 1 v7' (2 + K + 1) (iv ([7, 7] ++ xs ++ [(len1 : Int) % 256])) ∧ Below w5.heap.size w5 w7) := ⟨own7, below_grown (E6.out.2.2.1.alloc (by have := E6.out.2.1; omega) _) gr7 (by have := E6.out.2.1; simp; omega) E6.out.2.2.2⟩; clear own7 gr7 at7))
        obtain ⟨LA, lc, lfp, rfl, hlc, _, li, _, _⟩ := own_ints E7.out.1
        have X7 := Lib.hid (X5.out.keep E7.out.2 z5)
        have B7 := Lib.hid (B5.out.trans (E7.out.2.mono B5.out.size))
        have I7 := Lib.hid li
        clear li
        refine (impl_dec _ _ _ _ _ _ _ (HO.out.below B7.out) I7.out (by omega) hlc).mono ?_; intro e w8 hd8
        obtain ⟨rfl, b8⟩ := hd8.parts
        have hdec : decN ([7, 7] ++ xs ++ [(len1 : Int) % 256]) 2 = some (op, arg) := HD.out
        rw [hdec]
        simp only [dOp, dArg, dLen, dOk]
        rw [HL.out]
        have X8 := Lib.hid (X7.out.below b8)
        have B8 := Lib.hid (below_then B7.out b8)
        clear b8 hd8 hdec
        obtain rfl : L = (K : Int) := by have := HN.out; omega
        have c0 : w8.cell? ⟨w1.heap.size, 0, none⟩ = some (.int .i64 op) := X8.out.cell 0
        have c1 : w8.cell? ⟨w1.heap.size, 1, none⟩ = some (.int .i64 arg) := X8.out.cell 1
        have z8 : w1.heap.size < w8.heap.size := X8.out.lt
        go_wp2_with fail
        refine (impl_len _ _ (HO.out.below (B8.out.alloc B8.out.size _))).mono ?_; rintro e w9 ⟨rfl, b9⟩
        rw [HL.out]
        have B9 : Hid (Below w.heap.size w w9) := below_then (B8.out.alloc B8.out.size _) b9
        clear b9 c0 c1
        go_wp2_with fail
        go_ret
        exact ⟨rfl, B9.out⟩
      · have HV := Lib.hid (show ordB op arg = false by simpa using hv)
        have HN := Lib.hid (show (ordN op arg).length = 0 by simp [ordN, hv])
        clear hv
        rw [HV.out, HN.out]
        go_wp2_with fail
        refine (alive_any _).mono ?_; rintro e w' ⟨rfl, rfl⟩
        go_wp2_with fail
        go_ret
        exact ⟨rfl, B5.out⟩
    · go_enter Tryd.func5, Tryd.ntmps5
      go_wp2_with fail
      go_ret
      exact ⟨rfl, Below.refl _ _⟩
  · go_enter Tryd.func5, Tryd.ntmps5
    go_wp2_with fail
    go_ret
    exact ⟨rfl, Below.refl _ _⟩
set_option maxHeartbeats 2000000 in
theorem walk_FnOrderUnique (a0 : Option Addr) (len0 cap0 : Nat) (z0 : List Int) (a1 : Option Addr) (len1 cap1 : Nat) (z1 : List Int) (w : World) (w0 : IsRow .u8 w a0 len0 cap0 z0) (w1' : IsRow .u8 w a1 len1 cap1 z1) (ho : Ops w) :
    Calls Tryd.prog 7 #[.slice a0 len0 cap0, .slice a1 len1 cap1] w fun e w' => e = .returned (.bool true) ∧ Below w.heap.size w w' := by
  have H := Lib.hid w0
  have H' := Lib.hid w1'
  have HO := Lib.hid ho
  have hl := isRow_len w0
  have hl1 := isRow_len w1'
  clear w0 ho w1'
  by_cases hs : len0 ≤ 1048576
  · by_cases hs1 : len1 ≤ 1048576
    · go_enter Tryd.func7, Tryd.ntmps7
      go_wp2_with fail
      refine (draw_ordBytes _ _ _ _ _ H.out).mono ?_; rintro e w1 ⟨op, arg, rfl, b1⟩
      have B1 := Lib.hid (b1.alloc b1.size (.cells #[.int .i64 op, .int .i64 arg] 28))
      clear b1
      have hn := (ordN_bytes op arg).1
      go_wp2_with fail
      refine (draw_ordBytes _ _ _ _ _ (isRow_stays H'.out B1.out)).mono ?_; rintro e w2 ⟨op', arg', rfl, b2⟩
      have X2 : Hid (Box w2 w1.heap.size 28 [.int .i64 op, .int .i64 arg]) := (Box.new w1 _ _).below b2
      have B2 : Hid (Below w.heap.size w (w2.alloc (.cells #[.int .i64 op', .int .i64 arg'] 28))) := (below_then B1.out b2).alloc (below_then B1.out b2).size _
      have c0 : w2.cell? ⟨w1.heap.size, 0, none⟩ = some (.int .i64 op) := X2.out.cell 0
      have c1 : w2.cell? ⟨w1.heap.size, 1, none⟩ = some (.int .i64 arg) := X2.out.cell 1
      have z2 : w1.heap.size < w2.heap.size := X2.out.lt
      have hn' := (ordN_bytes op' arg').1
      clear b2
      go_wp2_with fail
      refine (impl_ordBytes _ _ _ (HO.out.below B2.out)).mono ?_; rintro e w3 ⟨GA, gc, gfp, rfl, hgc, gi, gn, b3⟩
      have X3 := Lib.hid ((X2.out.alloc (.cells #[.int .i64 op', .int .i64 arg'] 28)).below b3)
      have Y3 : Hid (Box w3 w2.heap.size 28 [.int .i64 op', .int .i64 arg']) := (Box.new w2 _ _).below b3
      have B3 := Lib.hid (below_then B2.out b3)
      have G3 := Lib.hid gi
      clear b3 gi gn c0 c1
      have c0 : w3.cell? ⟨w1.heap.size, 0, none⟩ = some (.int .i64 op) := X3.out.cell 0
      have c1 : w3.cell? ⟨w1.heap.size, 1, none⟩ = some (.int .i64 arg) := X3.out.cell 1
      go_wp2_with fail
      refine (spec_ordBytes _ _ _).mono ?_; rintro e w4 ⟨SA, sc, sfp, rfl, hsc, si, sn, b4⟩
      have X4 := Lib.hid (X3.out.below b4)
      have Y4 := Lib.hid (Y3.out.below b4)
      have B4 := Lib.hid (below_then B3.out b4)
      have G4 := Lib.hid (G3.out.below b4)
      have S4 := Lib.hid si
      clear b4 si sn c0 c1
      go_wp2_with fail
      refine (same_ints _ _ _ _ _ _ _ _ _ G4.out S4.out (by omega)).mono ?_; rintro e w5 ⟨rfl, m5, rfl⟩
      have X5 : Hid (Box (w4.drewN m5) w1.heap.size 28 [.int .i64 op, .int .i64 arg]) := X4.out
      have Y5 : Hid (Box (w4.drewN m5) w2.heap.size 28 [.int .i64 op', .int .i64 arg']) := Y4.out
      have B5 := Lib.hid (below_drewN B4.out m5)
      have G5 : Hid (Ints (w4.drewN m5) GA (ordN op arg).length (ordN op arg) gfp) := G4.out
      generalize w4.drewN m5 = w5 at X5 Y5 B5 G5
      clear X4 Y4 B4 G4 S4
      by_cases h0 : (ordN op arg).length = 0
      · rw [h0]
        clear h0
        go_wp2_with fail
        refine (alive_any _).mono ?_; rintro e w' ⟨rfl, rfl⟩
        go_wp2_with fail
        go_ret
        exact ⟨rfl, B5.out⟩
      · have hv : ordB op arg = true := by
          by_cases hv : ordB op arg = true
          · exact hv
          · exact absurd (by simp [ordN, hv]) h0
        have hk0 : (((ordN op arg).length : Int) == 0) = false := by simp; exact fun e => h0 (by rw [e]; rfl)
        have HI := Lib.hid (fun e => ordN_inj (op' := op') (arg' := arg') hv e)
        have c0 : w5.cell? ⟨w1.heap.size, 0, none⟩ = some (.int .i64 op) := X5.out.cell 0
        have c1 : w5.cell? ⟨w1.heap.size, 1, none⟩ = some (.int .i64 arg) := X5.out.cell 1
        have d0 : w5.cell? ⟨w2.heap.size, 0, none⟩ = some (.int .i64 op') := Y5.out.cell 0
        have d1 : w5.cell? ⟨w2.heap.size, 1, none⟩ = some (.int .i64 arg') := Y5.out.cell 1
        clear h0 hv
        by_cases hop : op = op'
        · by_cases har : arg = arg'
          · subst hop; subst har
            go_wp2_with fail
            have K5 : Hid (w5.drew.cell? ⟨w1.heap.size, 0, none⟩ = some (.int .i64 op) ∧ w5.drew.cell? ⟨w1.heap.size, 1, none⟩ = some (.int .i64 arg) ∧ w5.drew.cell? ⟨w2.heap.size, 0, none⟩ = some (.int .i64 op) ∧ w5.drew.cell? ⟨w2.heap.size, 1, none⟩ = some (.int .i64 arg)) := ⟨c0, c1, d0, d1⟩
            go_region_held3 (fun w' => w'.cell? ⟨w1.heap.size, 0, none⟩ = some (.int .i64 op) ∧ w'.cell? ⟨w1.heap.size, 1, none⟩ = some (.int .i64 arg) ∧ w'.cell? ⟨w2.heap.size, 0, none⟩ = some (.int .i64 op) ∧ w'.cell? ⟨w2.heap.size, 1, none⟩ = some (.int .i64 arg))
              (first
                | (with_reducible exact K5.out)
                | (with_reducible exact K6.out)
                | (with_reducible exact K7.out)
                | go_keep)
              (first
                | (go_at_call 20; ((with_reducible refine (impl_ordBytes _ _ _ (HO.out.below B5.out.drew)).mono ?_)); rintro e w6 ⟨RA, rc, rfp, rfl, hrc, ri, rn, b6⟩; have X6 : Hid (Box w6 w1.heap.size 28 [.int .i64 op, .int .i64 arg]) := (show Box w5.drew _ _ _ from X5.out).below b6; have Y6 : Hid (Box w6 w2.heap.size 28 [.int .i64 op, .int .i64 arg]) := (show Box w5.drew _ _ _ from Y5.out).below b6; have K6 : Hid (w6.cell? ⟨w1.heap.size, 0, none⟩ = some (.int .i64 op) ∧ w6.cell? ⟨w1.heap.size, 1, none⟩ = some (.int .i64 arg) ∧ w6.cell? ⟨w2.heap.size, 0, none⟩ = some (.int .i64 op) ∧ w6.cell? ⟨w2.heap.size, 1, none⟩ = some (.int .i64 arg)) := ⟨X6.out.cell 0, X6.out.cell 1, Y6.out.cell 0, Y6.out.cell 1⟩; have G6 := Lib.hid ((ints_drew G5.out).below b6); have R6 := Lib.hid ri; have B6 := Lib.hid (below_then B5.out.drew b6); clear b6 ri rn)
                | (go_at_call 21; ((with_reducible refine (same_ints _ _ _ _ _ _ _ _ _ G6.out R6.out (by omega)).mono ?_)); rintro e w7 ⟨rfl, m7, rfl⟩; have K7 : Hid ((w6.drewN m7).cell? ⟨w1.heap.size, 0, none⟩ = some (.int .i64 op) ∧ (w6.drewN m7).cell? ⟨w1.heap.size, 1, none⟩ = some (.int .i64 arg) ∧ (w6.drewN m7).cell? ⟨w2.heap.size, 0, none⟩ = some (.int .i64 op) ∧ (w6.drewN m7).cell? ⟨w2.heap.size, 1, none⟩ = some (.int .i64 arg)) := K6.out))
            all_goals
              go_wp2_with fail
              go_ret
              exact ⟨rfl, below_drewN B6.out m7⟩
          · have HNE := Lib.hid (show ordN op arg ≠ ordN op' arg' from fun e => har (HI.out e).2)
            have hq : (arg == arg') = false := by simpa using har
            subst hop
            clear har
            go_wp2_with fail
            have K5 : Hid (w5.drew.cell? ⟨w1.heap.size, 0, none⟩ = some (.int .i64 op) ∧ w5.drew.cell? ⟨w1.heap.size, 1, none⟩ = some (.int .i64 arg) ∧ w5.drew.cell? ⟨w2.heap.size, 0, none⟩ = some (.int .i64 op) ∧ w5.drew.cell? ⟨w2.heap.size, 1, none⟩ = some (.int .i64 arg')) := ⟨c0, c1, d0, d1⟩
            go_region_held3 (fun w' => w'.cell? ⟨w1.heap.size, 0, none⟩ = some (.int .i64 op) ∧ w'.cell? ⟨w1.heap.size, 1, none⟩ = some (.int .i64 arg) ∧ w'.cell? ⟨w2.heap.size, 0, none⟩ = some (.int .i64 op) ∧ w'.cell? ⟨w2.heap.size, 1, none⟩ = some (.int .i64 arg'))
              (first
                | (with_reducible exact K5.out)
                | (with_reducible exact K6.out)
                | (with_reducible exact K7.out)
                | go_keep)
              (first
                | (go_at_call 20; ((with_reducible refine (impl_ordBytes _ _ _ (HO.out.below B5.out.drew)).mono ?_)); rintro e w6 ⟨RA, rc, rfp, rfl, hrc, ri, rn, b6⟩; have X6 : Hid (Box w6 w1.heap.size 28 [.int .i64 op, .int .i64 arg]) := (show Box w5.drew _ _ _ from X5.out).below b6; have Y6 : Hid (Box w6 w2.heap.size 28 [.int .i64 op, .int .i64 arg']) := (show Box w5.drew _ _ _ from Y5.out).below b6; have K6 : Hid (w6.cell? ⟨w1.heap.size, 0, none⟩ = some (.int .i64 op) ∧ w6.cell? ⟨w1.heap.size, 1, none⟩ = some (.int .i64 arg) ∧ w6.cell? ⟨w2.heap.size, 0, none⟩ = some (.int .i64 op) ∧ w6.cell? ⟨w2.heap.size, 1, none⟩ = some (.int .i64 arg')) := ⟨X6.out.cell 0, X6.out.cell 1, Y6.out.cell 0, Y6.out.cell 1⟩; have G6 := Lib.hid ((ints_drew G5.out).below b6); have R6 := Lib.hid ri; have B6 := Lib.hid (below_then B5.out.drew b6); clear b6 ri rn)
                | (go_at_call 21; ((with_reducible refine (same_diff _ _ _ _ _ _ _ _ _ _ _ G6.out R6.out (by omega) (by omega) HNE.out).mono ?_)); rintro e w7 ⟨rfl, m7, rfl⟩; have K7 : Hid ((w6.drewN m7).cell? ⟨w1.heap.size, 0, none⟩ = some (.int .i64 op) ∧ (w6.drewN m7).cell? ⟨w1.heap.size, 1, none⟩ = some (.int .i64 arg) ∧ (w6.drewN m7).cell? ⟨w2.heap.size, 0, none⟩ = some (.int .i64 op) ∧ (w6.drewN m7).cell? ⟨w2.heap.size, 1, none⟩ = some (.int .i64 arg')) := K6.out))
            all_goals
              go_wp2_with fail
              go_ret
              exact ⟨rfl, below_drewN B6.out m7⟩
        · have HNE := Lib.hid (show ordN op arg ≠ ordN op' arg' from fun e => hop (HI.out e).1)
          have hq : (op == op') = false := by simpa using hop
          clear hop
          go_wp2_with fail
          have K5 : Hid (w5.drew.cell? ⟨w1.heap.size, 0, none⟩ = some (.int .i64 op) ∧ w5.drew.cell? ⟨w1.heap.size, 1, none⟩ = some (.int .i64 arg) ∧ w5.drew.cell? ⟨w2.heap.size, 0, none⟩ = some (.int .i64 op') ∧ w5.drew.cell? ⟨w2.heap.size, 1, none⟩ = some (.int .i64 arg')) := ⟨c0, c1, d0, d1⟩
          go_region_held3 (fun w' => w'.cell? ⟨w1.heap.size, 0, none⟩ = some (.int .i64 op) ∧ w'.cell? ⟨w1.heap.size, 1, none⟩ = some (.int .i64 arg) ∧ w'.cell? ⟨w2.heap.size, 0, none⟩ = some (.int .i64 op') ∧ w'.cell? ⟨w2.heap.size, 1, none⟩ = some (.int .i64 arg'))
            (first
              | (with_reducible exact K5.out)
              | (with_reducible exact K6.out)
              | (with_reducible exact K7.out)
              | go_keep)
            (first
              | (go_at_call 20; ((with_reducible refine (impl_ordBytes _ _ _ (HO.out.below B5.out.drew)).mono ?_)); rintro e w6 ⟨RA, rc, rfp, rfl, hrc, ri, rn, b6⟩; have X6 : Hid (Box w6 w1.heap.size 28 [.int .i64 op, .int .i64 arg]) := (show Box w5.drew _ _ _ from X5.out).below b6; have Y6 : Hid (Box w6 w2.heap.size 28 [.int .i64 op', .int .i64 arg']) := (show Box w5.drew _ _ _ from Y5.out).below b6; have K6 : Hid (w6.cell? ⟨w1.heap.size, 0, none⟩ = some (.int .i64 op) ∧ w6.cell? ⟨w1.heap.size, 1, none⟩ = some (.int .i64 arg) ∧ w6.cell? ⟨w2.heap.size, 0, none⟩ = some (.int .i64 op') ∧ w6.cell? ⟨w2.heap.size, 1, none⟩ = some (.int .i64 arg')) := ⟨X6.out.cell 0, X6.out.cell 1, Y6.out.cell 0, Y6.out.cell 1⟩; have G6 := Lib.hid ((ints_drew G5.out).below b6); have R6 := Lib.hid ri; have B6 := Lib.hid (below_then B5.out.drew b6); clear b6 ri rn)
              | (go_at_call 21; ((with_reducible refine (same_diff _ _ _ _ _ _ _ _ _ _ _ G6.out R6.out (by omega) (by omega) HNE.out).mono ?_)); rintro e w7 ⟨rfl, m7, rfl⟩; have K7 : Hid ((w6.drewN m7).cell? ⟨w1.heap.size, 0, none⟩ = some (.int .i64 op) ∧ (w6.drewN m7).cell? ⟨w1.heap.size, 1, none⟩ = some (.int .i64 arg) ∧ (w6.drewN m7).cell? ⟨w2.heap.size, 0, none⟩ = some (.int .i64 op') ∧ (w6.drewN m7).cell? ⟨w2.heap.size, 1, none⟩ = some (.int .i64 arg')) := K6.out))
          all_goals
            go_wp2_with fail
            go_ret
            exact ⟨rfl, below_drewN B6.out m7⟩
    · go_enter Tryd.func7, Tryd.ntmps7
      go_wp2_with fail
      go_ret
      exact ⟨rfl, Below.refl _ _⟩
  · go_enter Tryd.func7, Tryd.ntmps7
    go_wp2_with fail
    go_ret
    exact ⟨rfl, Below.refl _ _⟩
end Go.Proofs.YthndghhnpnaonaaDoor
