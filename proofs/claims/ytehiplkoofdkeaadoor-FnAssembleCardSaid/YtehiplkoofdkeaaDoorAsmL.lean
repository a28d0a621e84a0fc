/- The walk of the law of Assemble. -/
import Derived.Test.YtehiplkoofdkeaaDoorAsmD
import Derived.Test.YtehiplkoofdkeaaDoorDisI
import Derived.Test.YtehiplkoofdkeaaDoorLnD
import Derived.Test.YtehiplkoofdkeaaDoorOrdL
namespace Go.Proofs.YtehiplkoofdkeaaDoor
open Go.ChangeShapes Go.WideShapes Go.ChangeAt Go.RowKit

theorem strs_pre {w : World} {b o n : Nat} {xs : List ByteArray} {fp : List Nat} (h : Strs w (some ⟨b, o, none⟩) n xs fp) (k : Nat) (hk : k ≤ n) : ∃ fq, Strs w (some ⟨b, o, none⟩) k (xs.take k) fq := by
  by_cases h0 : k = 0
  · subst h0; exact ⟨[], by simp [Strs]⟩
  · obtain ⟨b', o', he, _, hb, hc⟩ := h.at_ (by omega)
    injection he with he
    injection he with e1 e2 _
    subst e1 e2
    have hl := h.1
    exact ⟨[b], by rw [List.length_take]; omega, .inr ⟨by omega, b, o, rfl, rfl, hb, fun i hi => by rw [hc i (by omega)]; simp [List.getD, hi]⟩⟩
theorem strs_suf {w : World} {b o n : Nat} {xs : List ByteArray} {fp : List Nat} (h : Strs w (some ⟨b, o, none⟩) n xs fp) (k : Nat) (hk : k < n) : Strs w (some ⟨b, o + k, none⟩) (n - k) (xs.drop k) [b] := by
  obtain ⟨b', o', he, _, hb, hc⟩ := h.at_ (by omega)
  injection he with he
  injection he with e1 e2 _
  subst e1 e2
  have hl := h.1
  exact ⟨by rw [List.length_drop]; omega, .inr ⟨by omega, b, o + k, rfl, rfl, hb, fun i hi => by rw [Nat.add_assoc, hc (k + i) (by omega)]; simp [List.getD, List.getElem?_drop]⟩⟩
theorem wpList_append_ints_g {w : World} {ops : Array Oper} {rest : List Oper} {o : Oper} {a : Act} {Q : Exit → Act → World → Prop} (hw : Region.wanted o (yielded ops a.tmps) = true) (s x : Operand) (ho : o.op = .call { callee := .builtin .append, args := #[s, x], argTypes := #[25, 25] })
    (base : Nat) (v : Value) (n : Nat) (xs : List Int) (hs : a.eval s = v) (hown : w.ownsRow base 3 1 v n (iv xs)) (A : Option Addr) (m c : Nat) (ys : List Int) (fp : List Nat) (hx : a.eval x = .slice A m c) (hi : Ints w A m ys fp) (hb : n + m ≤ 1000000000000) (hbase : base ≤ w.heap.size)
    (h : ∀ v' w', w'.ownsRow base 3 1 v' (n + m) (iv (xs ++ ys)) → w.grownBy w' v.ownBlock → (v'.ownBlock = v.ownBlock ∨ v'.ownBlock = some w.heap.size) → wpList Tryd.prog ops Q rest (a.put o.dst v') w') : wpList Tryd.prog ops Q (o :: rest) a w :=
  wpList_step fun K hK => by
    rw [if_pos hw]
    exact wp_append_ints s x ho base v n xs hs hown A m c ys fp hx hi hb hbase fun v' w' h2 h3 h4 => hK _ _ (h v' w' h2 h3 h4)
set_option maxRecDepth 100000 in
set_option maxHeartbeats 600000 in
theorem walk_FnAssemble (a0 : Option Addr) (len0 cap0 : Nat) (z0 : List Int) (w : World) (w0 : IsRow .u8 w a0 len0 cap0 z0) (ho : NumEnv w) :
    Calls Tryd.prog 3 #[.slice a0 len0 cap0] w fun e w' => e = .returned (.bool true) ∧ Below w.heap.size w w' := by
  have H := Lib.hid w0
  have HO := Lib.hid ho
  have HE : Hid (Env w) := ho.1
  have hl := isRow_len w0
  clear w0 ho
  by_cases hs : len0 ≤ 1048576
  · go_enter Tryd.func3, Tryd.ntmps3
    go_wp2_with fail
    refine (draw_asm _ _ _ _ _ H.out).mono ?_; rintro e w1 ⟨g, n, lc, xs, lf, rfl, hlc, hn, li, sm, b1⟩
    have L1 := Lib.hid li
    have SM : Hid (∀ i, i < n → (xs.getD i ByteArray.empty).size ≤ 1048576) := fun i hi => by have := sm _ (mem_getD (ls := xs) (j := i) (by rw [li.1]; exact hi)); omega
    have hlen := li.1
    have B1 := Lib.hid b1
    clear li b1
    go_wp2_with fail
    refine (impl_asm _ _ _ _ _ _ L1.out (by omega) SM.out (HO.out.below B1.out)).mono ?_; rintro e w2 ⟨GA, m, gc, gf, rfl, hgc, hm, gi, gn, b2⟩
    have G2 := Lib.hid gi
    have L2 := Lib.hid (L1.out.below b2)
    have B2 := Lib.hid (below_then B1.out b2)
    have hml : m = (asmB xs).length := gi.1.symm
    clear gi gn b2 L1
    by_cases hq : asmBad xs = 0
    · have HQ := Lib.hid hq
      rw [hq]
      obtain ⟨hd1, hd2⟩ := dis_asm hq
      have HD1 := Lib.hid hd1
      have HD2 := Lib.hid hd2
      have HT := Lib.hid (asm_two hq (n / 2))
      have h60 := (asm_zero hq).2.1
      have HZ := Lib.hid (asm_zero hq).1
      clear hq hd1 hd2 hml
      go_wp2_with fail
      refine (spec_asm _ _ _ _ _ _ L2.out (by omega) SM.out).mono ?_; rintro e w3 ⟨WA, m', wc, wf, rfl, hwc, hm', wi, wn, b3⟩
      obtain rfl : m = m' := G2.out.1.symm.trans wi.1
      rw [HQ.out]
      have W3 := Lib.hid wi
      have G3 := Lib.hid (G2.out.below b3)
      have L3 := Lib.hid (L2.out.below b3)
      have B3 := Lib.hid (below_then B2.out b3)
      clear wi wn b3 G2 L2
      go_wp2_with fail
      refine (same_ints _ _ _ _ _ _ _ _ _ G3.out W3.out (by omega)).mono ?_; rintro e w4 ⟨rfl, m4, rfl⟩
      have G4 : Hid (Ints (w3.drewN m4) GA m (asmB xs) gf) := G3.out
      have L4 : Hid (Strs (w3.drewN m4) (some ⟨g, 0, none⟩) n xs lf) := L3.out
      have B4 := Lib.hid (below_drewN B3.out m4)
      generalize w3.drewN m4 = w4 at L4 B4 G4
      clear L3 B3 G3 W3
      obtain ⟨h, hh⟩ : ∃ h : Nat, h = n / 2 := ⟨_, rfl⟩
      rw [← hh] at HT
      have hdv := Lib.hid (show (n : Int) / 2 = (h : Int) by omega)
      have hhn : h ≤ n := by omega
      have hhi : (h : Int) ≤ (n : Int) := by omega
      have hlt0 : ¬ h < n → n = 0 ∧ h = 0 := by omega
      clear hh
      go_upto_region 12 with (fail)
      simp only [hdv.out]
      obtain ⟨pf, hpf⟩ := strs_pre L4.out h hhn
      have P4 := Lib.hid hpf
      clear hpf
      go_wp2_with fail
      refine (impl_asm _ h _ (xs.take h) pf _ P4.out (by omega) (fun i hi => by have := SM.out i (by omega); simpa [List.getD, hi] using this) (HO.out.below B4.out)).mono ?_; rintro e w5 ⟨XA, xm, xc, xf, rfl, hxc, hxm, xi, xn, b5⟩
      have X5 := Lib.hid xi
      have G5 := Lib.hid (G4.out.below b5)
      have L5 := Lib.hid (L4.out.below b5)
      have B5 := Lib.hid (below_then B4.out b5)
      clear xi xn b5 G4 L4 P4
      generalize asmBad (xs.take h) = q1
      by_cases h0 : h < n
      · have hhc : ¬ (h = lc) := by omega
        have hhc' : ¬ ((h : Int) = (lc : Int)) := by omega
        have S5 := Lib.hid (strs_suf L5.out h h0)
        go_wp2_with fail
        refine (impl_asm _ (n - h) _ (xs.drop h) [g] _ (by simpa using S5.out) (by omega) (fun i hi => by have := SM.out (h + i) (by omega); simpa [List.getD, List.getElem?_drop] using this) (HO.out.below B5.out)).mono ?_; rintro e w6 ⟨YA, ym, yc, yf, rfl, hyc, hym, yi, yn, b6⟩
        have Y6 := Lib.hid yi
        have X6 := Lib.hid (X5.out.below b6)
        have G6 := Lib.hid (G5.out.below b6)
        have L6 := Lib.hid (L5.out.below b6)
        have B6 := Lib.hid (below_then B5.out b6)
        clear yi yn b6 X5 G5 L5 S5
        obtain rfl : m = xm + ym := by
          have t0 := congrArg List.length HT.out
          rw [List.length_append] at t0
          have t1 := X6.out.1
          have t2 := Y6.out.1
          have t3 := G6.out.1
          omega
        generalize asmBad (xs.drop h) = q2
        go_wp2_with fail
        refine (impl_dis _ _ _ _ _ _ G6.out (by omega) hgc (HE.out.below B6.out)).mono ?_; rintro e w7 ⟨DA, dn, dc, df, rfl, hdc, hdn, di, dnw, b7⟩
        rw [HD1.out]
        rw [HD2.out] at di
        obtain rfl : n = dn := hlen.symm.trans di.1
        have D7 := Lib.hid di
        have Y7 := Lib.hid (Y6.out.below b7)
        have X7 := Lib.hid (X6.out.below b7)
        have G7 := Lib.hid (G6.out.below b7)
        have L7 := Lib.hid (L6.out.below b7)
        have B7 := Lib.hid (below_then B6.out b7)
        clear di dnw b7 X6 Y6 G6 L6 B6
        go_wp2_with fail
        refine (same_strs _ _ _ _ _ _ _ _ _ D7.out L7.out (by omega)).mono ?_; rintro e w8 ⟨rfl, m8, rfl⟩
        have Y8 : Hid (Ints (w7.drewN m8) YA ym (asmB (xs.drop h)) yf) := Y7.out
        have X8 : Hid (Ints (w7.drewN m8) XA xm (asmB (xs.take h)) xf) := X7.out
        have G8 : Hid (Ints (w7.drewN m8) GA (xm + ym) (asmB xs) gf) := G7.out
        have B8 := Lib.hid (below_drewN B7.out m8)
        generalize w7.drewN m8 = w8 at Y8 X8 G8 B8
        clear Y7 X7 G7 L7 B7 D7
        have E8 := Lib.hid (own_empty w8 3 w8.heap.size (Nat.le_refl _))
        have X8a := Lib.hid (X8.out.below (below1 w8 (.cells #[] 3)))
        have Y8a := Lib.hid (Y8.out.below (below1 w8 (.cells #[] 3)))
        have G8a := Lib.hid (G8.out.below (below1 w8 (.cells #[] 3)))
        have B8a : Hid (Below w.heap.size w (w8.alloc (.cells #[] 3))) := B8.out.alloc B8.out.size _
        have yl := Y8.out.lt
        have gl := G8.out.lt
        have YL := Lib.hid yl
        have GL := Lib.hid gl
        clear yl gl X8 Y8 G8
        go_wp2_with (first
          | (at_builtin; refine wpList_append_ints_g (by rfl) _ _ rfl w8.heap.size _ 0 [] rfl E8.out XA xm xc (asmB (xs.take h)) xf rfl X8a.out (by omega) (by simp) ?_; clear E8 X8a; intro v9 w9 own9 gr9 _; have Y9 := Lib.hid (Y8a.out.keep ⟨gr9.size, fun b hb hl => gr9.block b hl (fun e => by have := YL.out b hb; have e2 : b = w8.heap.size := Option.some.inj e; omega)⟩); have G9 := Lib.hid (G8a.out.keep ⟨gr9.size, fun b hb hl => gr9.block b hl (fun e => by have := GL.out b hb; have e2 : b = w8.heap.size := Option.some.inj e; omega)⟩); have O9 := Lib.hid own9; have B9 := Lib.hid (below_grown B8a.out gr9 (by have := B8.out.size; simp; omega) (fun g' hg' => by have e2 : w8.heap.size = g' := Option.some.inj hg'; have := B8.out.size; omega)); have z9 : w8.heap.size ≤ w9.heap.size := (by have := gr9.size; simp at this; omega); clear own9 gr9 Y8a G8a)
          | (at_builtin; refine wpList_append_ints_g (by rfl) _ _ rfl w8.heap.size _ (0 + xm) _ rfl O9.out YA ym yc (asmB (xs.drop h)) yf rfl Y9.out (by omega) z9 ?_; intro v10 w10 own10 gr10 _; have G10 := Lib.hid (G9.out.keep ⟨gr10.size, fun b hb hl => gr10.block b hl (fun e => by have := GL.out b hb; have := (own_lt O9.out b e.symm).1; omega)⟩); have B10 := Lib.hid (below_grown B9.out gr10 (by have := B8.out.size; omega) (fun g' hg' => by have := (own_lt O9.out g' hg').1; have := B8.out.size; omega)); clear O9 Y9; rw [List.nil_append, HT.out, Nat.zero_add] at own10; obtain ⟨RA, rc, rf, rfl, _, _, ri, _, _⟩ := own_ints own10; have R10 := Lib.hid ri; clear ri own10 gr10))
        refine (same_ints _ _ _ _ _ _ _ _ _ R10.out G10.out (by omega)).mono ?_; rintro e w11 ⟨rfl, m11, rfl⟩
        go_wp2_with fail
        go_ret
        exact ⟨rfl, below_drewN B10.out m11⟩
      · obtain ⟨rfl, rfl⟩ := hlt0 h0
        rw [List.drop_zero] at HT
        have S5 := Lib.hid trivial
        go_wp2_with fail
        refine (impl_asm _ 0 _ xs lf _ L5.out (by omega) (fun i hi => by omega) (HO.out.below B5.out)).mono ?_; rintro e w6 ⟨YA, ym, yc, yf, rfl, hyc, hym, yi, yn, b6⟩
        have Y6 := Lib.hid yi
        have X6 := Lib.hid (X5.out.below b6)
        have G6 := Lib.hid (G5.out.below b6)
        have L6 := Lib.hid (L5.out.below b6)
        have B6 := Lib.hid (below_then B5.out b6)
        clear yi yn b6 X5 G5 L5 S5
        obtain rfl : m = xm + ym := by
          have t0 := congrArg List.length HT.out
          rw [List.length_append] at t0
          have t1 := X6.out.1
          have t2 := Y6.out.1
          have t3 := G6.out.1
          omega
        generalize asmBad xs = q2
        go_wp2_with fail
        refine (impl_dis _ _ _ _ _ _ G6.out (by omega) hgc (HE.out.below B6.out)).mono ?_; rintro e w7 ⟨DA, dn, dc, df, rfl, hdc, hdn, di, dnw, b7⟩
        rw [HD1.out]
        rw [HD2.out] at di
        obtain rfl : 0 = dn := hlen.symm.trans di.1
        have D7 := Lib.hid di
        have Y7 := Lib.hid (Y6.out.below b7)
        have X7 := Lib.hid (X6.out.below b7)
        have G7 := Lib.hid (G6.out.below b7)
        have L7 := Lib.hid (L6.out.below b7)
        have B7 := Lib.hid (below_then B6.out b7)
        clear di dnw b7 X6 Y6 G6 L6 B6
        go_wp2_with fail
        refine (same_strs _ _ _ _ _ _ _ _ _ D7.out L7.out (by omega)).mono ?_; rintro e w8 ⟨rfl, m8, rfl⟩
        have Y8 : Hid (Ints (w7.drewN m8) YA ym (asmB xs) yf) := Y7.out
        have X8 : Hid (Ints (w7.drewN m8) XA xm (asmB (xs.take 0)) xf) := X7.out
        have G8 : Hid (Ints (w7.drewN m8) GA (xm + ym) (asmB xs) gf) := G7.out
        have B8 := Lib.hid (below_drewN B7.out m8)
        generalize w7.drewN m8 = w8 at Y8 X8 G8 B8
        clear Y7 X7 G7 L7 B7 D7
        have E8 := Lib.hid (own_empty w8 3 w8.heap.size (Nat.le_refl _))
        have X8a := Lib.hid (X8.out.below (below1 w8 (.cells #[] 3)))
        have Y8a := Lib.hid (Y8.out.below (below1 w8 (.cells #[] 3)))
        have G8a := Lib.hid (G8.out.below (below1 w8 (.cells #[] 3)))
        have B8a : Hid (Below w.heap.size w (w8.alloc (.cells #[] 3))) := B8.out.alloc B8.out.size _
        have yl := Y8.out.lt
        have gl := G8.out.lt
        have YL := Lib.hid yl
        have GL := Lib.hid gl
        clear yl gl X8 Y8 G8
        go_wp2_with (first
          | (at_builtin; refine wpList_append_ints_g (by rfl) _ _ rfl w8.heap.size _ 0 [] rfl E8.out XA xm xc (asmB (xs.take 0)) xf rfl X8a.out (by omega) (by simp) ?_; clear E8 X8a; intro v9 w9 own9 gr9 _; have Y9 := Lib.hid (Y8a.out.keep ⟨gr9.size, fun b hb hl => gr9.block b hl (fun e => by have := YL.out b hb; have e2 : b = w8.heap.size := Option.some.inj e; omega)⟩); have G9 := Lib.hid (G8a.out.keep ⟨gr9.size, fun b hb hl => gr9.block b hl (fun e => by have := GL.out b hb; have e2 : b = w8.heap.size := Option.some.inj e; omega)⟩); have O9 := Lib.hid own9; have B9 := Lib.hid (below_grown B8a.out gr9 (by have := B8.out.size; simp; omega) (fun g' hg' => by have e2 : w8.heap.size = g' := Option.some.inj hg'; have := B8.out.size; omega)); have z9 : w8.heap.size ≤ w9.heap.size := (by have := gr9.size; simp at this; omega); clear own9 gr9 Y8a G8a)
          | (at_builtin; refine wpList_append_ints_g (by rfl) _ _ rfl w8.heap.size _ (0 + xm) _ rfl O9.out YA ym yc (asmB xs) yf rfl Y9.out (by omega) z9 ?_; intro v10 w10 own10 gr10 _; have G10 := Lib.hid (G9.out.keep ⟨gr10.size, fun b hb hl => gr10.block b hl (fun e => by have := GL.out b hb; have := (own_lt O9.out b e.symm).1; omega)⟩); have B10 := Lib.hid (below_grown B9.out gr10 (by have := B8.out.size; omega) (fun g' hg' => by have := (own_lt O9.out g' hg').1; have := B8.out.size; omega)); clear O9 Y9; rw [List.nil_append, HT.out, Nat.zero_add] at own10; obtain ⟨RA, rc, rf, rfl, _, _, ri, _, _⟩ := own_ints own10; have R10 := Lib.hid ri; clear ri own10 gr10))
        refine (same_ints _ _ _ _ _ _ _ _ _ R10.out G10.out (by omega)).mono ?_; rintro e w11 ⟨rfl, m11, rfl⟩
        go_wp2_with fail
        go_ret
        exact ⟨rfl, below_drewN B10.out m11⟩
    · obtain ⟨k, hk1, hk2, hB, hor⟩ := asm_not hq
      obtain rfl : m = 0 := by rw [hml, hB]; rfl
      have HK := Lib.hid hk1
      rw [hk1]
      rw [hB] at G2
      have HBn := Lib.hid hB
      have HOr := Lib.hid hor
      clear hk1 hB hor hml hq
      have hkn : k < n := by omega
      go_wp2_with fail
      refine (spec_asm _ _ _ _ _ _ L2.out (by omega) SM.out).mono ?_; rintro e w3 ⟨WA, m', wc, wf, rfl, hwc, hm', wi, wn, b3⟩
      rw [HBn.out] at wi
      obtain rfl : m' = 0 := wi.1.symm
      rw [HK.out]
      have W3 := Lib.hid wi
      have G3 := Lib.hid (G2.out.below b3)
      have L3 := Lib.hid (L2.out.below b3)
      have B3 := Lib.hid (below_then B2.out b3)
      clear wi wn b3 G2 L2
      go_wp2_with fail
      refine (same_ints _ _ _ _ _ _ _ _ _ G3.out W3.out (by omega)).mono ?_; rintro e w4 ⟨rfl, m4, rfl⟩
      have L4 : Hid (Strs (w3.drewN m4) (some ⟨g, 0, none⟩) n xs lf) := L3.out
      have B4 := Lib.hid (below_drewN B3.out m4)
      generalize w3.drewN m4 = w4 at L4 B4
      clear L3 B3 G3 W3
      obtain ⟨b', o', he', _, hb', hc'⟩ := L4.out.at_ (by omega)
      injection he' with he'
      injection he' with e1' e2' _
      subst e1' e2'
      have c1 := hc' k hkn
      have s1 := SM.out k hkn
      rw [Nat.zero_add] at c1
      generalize hX : xs.getD k ByteArray.empty = X at c1 s1
      obtain ⟨s, hXs, hlin, hsl⟩ := ba_list X
      rw [hX, hlin] at HOr
      have HXs := Lib.hid hXs
      have him : min (n : Int) ((k : Int) + 1) = (k : Int) + 1 := by omega
      clear hc' hX hXs hlin
      go_wp2_with fail
      rw [HXs.out]
      refine (impl_par s (by omega) _ (HO.out.below B4.out)).mono ?_; rintro e w5 ⟨rfl, b5⟩
      rw [← HXs.out]
      have B5 := Lib.hid (below_then B4.out b5)
      clear b5 c1
      by_cases h60 : k = 60
      · subst h60
        obtain ⟨op, arg, ok, hV⟩ : ∃ op arg ok, parV (parN s) = .tuple #[.agg #[.int .i64 op, .int .i64 arg], .bool ok] := ⟨_, _, _, rfl⟩
        rw [hV]
        clear hV HXs HOr HK
        have hn60 : (60 : Int) < (n : Int) := by omega
        go_wp2_with fail
        refine (alive_any _).mono ?_; rintro e w' ⟨rfl, rfl⟩
        go_wp2_with fail
        go_ret
        exact ⟨rfl, B5.out.alloc B5.out.size _⟩
      · have hp : parN s = none := HOr.out.resolve_right h60
        have hV : parV (parN s) = .tuple #[.agg #[.int .i64 0, .int .i64 0], .bool false] := by rw [hp]; rfl
        rw [hV]
        have hk61 : ((k : Int) + 1 == 61) = false := by simp; omega
        clear hV HXs HOr HK hp
        go_wp2_with fail
        refine (alive_any _).mono ?_; rintro e w' ⟨rfl, rfl⟩
        go_wp2_with fail
        go_ret
        exact ⟨rfl, B5.out.alloc B5.out.size _⟩
  · go_enter Tryd.func3, Tryd.ntmps3
    go_wp2_with fail
    go_ret
    exact ⟨rfl, Below.refl _ _⟩
end Go.Proofs.YtehiplkoofdkeaaDoor
