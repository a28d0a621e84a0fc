/- The model's drawn tiles and sprites. -/
import Derived.Test.YtacebhncecninaaSprH
import Derived.Test.YtacebhncecninaaGF
import Derived.Test.YtacebhncecninaaRowE
namespace Go.Proofs.Ytacebhncecninaa
open Go.ChangeShapes Go.WideShapes Go.ChangeAt Go.RowKit
set_option linter.unusedVariables false

/-- What drawing tiles leaves. -/
def TilsDrawn (q m : Nat) (w : World) (e : Ending) (w' : World) : Prop :=
  ∃ (T : Option Addr) (nt d : Nat) (zs : List Int) (ft : List Nat), e = .returned (.slice T nt d) ∧ 1 ≤ nt ∧ nt ≤ 4 ∧ nt ≤ d ∧ Ints w' T (64 * nt) zs ft ∧ New w.heap.size w' ft ∧ Only [q] w w' ∧ Rd w' q (m + 600)
theorem own_empty6 (w : World) (t : TypeId) (base : Nat) (h : base ≤ w.heap.size) : (w.alloc (.cells #[] t)).ownsRow base t 6 (.slice (some ⟨w.heap.size, 0, none⟩) 0 0) 0 (svs []) :=
  ⟨by simp [svs_nil], .inr ⟨w.heap.size, 0, #[], rfl, h, heap_alloc_new w _, Nat.le_refl _, by unfold maxLen; omega, by simp, by simp [svs_nil]⟩⟩
/-- One cell of a row of sprites is stored: the sprite's X or its number. -/
theorem spr_set {w : World} {b o n k j : Nat} {S : List Spr} {fp : List Nat} {s' : Spr} {u : Value} (h : Sprs w (some ⟨b, o, none⟩) n S fp) (hk : k < n) (hj : j < 6) (hs : scs s' = (scs (S.getD k .zero)).set j u) : Sprs (w.setCell ⟨b, o + k * 6 + j, none⟩ u) (some ⟨b, o, none⟩) n (S.set k s') fp := by
  have hl := h.1
  obtain ⟨b', o', he, hf, hb, hc⟩ := h.at_ (by omega)
  injection he with he
  injection he with e1 e2 _
  subst e1 e2
  refine ⟨by simpa using hl, .inr ⟨by omega, b, o, rfl, hf, by simpa using hb, fun q v hv => ?_⟩⟩
  have hq : q < 6 * n := by
    have := (List.getElem?_eq_some_iff.1 hv).1
    rw [svs_len] at this
    simp at this; omega
  have e6 : 6 * (q / 6) + q % 6 = q := Nat.div_add_mod q 6
  rw [← e6, svs_get _ _ _ (by simp; omega) (Nat.mod_lt _ (by omega))] at hv
  by_cases hqk : q / 6 = k
  · have e7 : (S.set k s').getD (q / 6) .zero = s' := by
      rw [hqk, List.getD_eq_getElem?_getD, List.getElem?_set_self (by omega)]; rfl
    rw [e7, hs] at hv
    by_cases hqj : q % 6 = j
    · rw [hqj, List.getElem?_set_self (by show j < 6; exact hj)] at hv
      injection hv with hv
      subst hv
      rw [show o + q = o + k * 6 + j by omega]
      obtain ⟨x, hx⟩ : ∃ x, (scs (S.getD k .zero))[j]? = some x := ⟨_, List.getElem?_eq_getElem (by show j < 6; exact hj)⟩
      have hcx := hc k hk j x hx
      rw [show o + (6 * k + j) = o + k * 6 + j by omega] at hcx
      exact World.cell?_setCell_same' w _ _ (by rw [hcx]; rfl)
    · rw [List.getElem?_set_ne (fun e => hqj e.symm)] at hv
      have := hc k hk (q % 6) v hv
      rw [← this, show o + q = o + (6 * k + q % 6) by omega]
      apply World.cell?_setCell_other
      intro e
      injection e with _ e2 _
      omega
  · have e7 : (S.set k s').getD (q / 6) .zero = S.getD (q / 6) .zero := by
      rw [List.getD_eq_getElem?_getD, List.getElem?_set_ne (fun e => hqk e.symm), ← List.getD_eq_getElem?_getD]
    rw [e7] at hv
    have := hc (q / 6) (by omega) (q % 6) v hv
    rw [← this, show o + q = o + (6 * (q / 6) + q % 6) by omega]
    apply World.cell?_setCell_other
    intro e
    injection e with _ e2 _
    omega
theorem lone_spr (w : World) (s : Spr) : Sprs (w.alloc (.cells #[.int .i64 s.x, .int .i64 s.y, .int .i64 s.n, .bool s.ac, .bool s.dn, .bool s.bh] 48)) (some ⟨w.heap.size, 0, none⟩) 1 [s] [w.heap.size] := by
  refine ⟨rfl, .inr ⟨by omega, w.heap.size, 0, rfl, rfl, by simp, fun k v hv => ?_⟩⟩
  rw [Nat.zero_add, (spr_new w s).cell k]
  simpa [svs] using hv
def lenV : Value → Nat
  | .slice _ n _ => n
  | _ => 0
theorem own_len {w : World} {base : Nat} {v : Value} {n : Nat} {S : List Spr} (h : w.ownsRow base 48 6 v n (svs S)) : lenV v = n := by
  obtain ⟨A, c, fs, rfl, _⟩ := own_sprs h
  rfl
/-- What drawing sprites leaves. -/
def SprsDrawn (q m : Nat) (w : World) (e : Ending) (w' : World) : Prop :=
  ∃ (A : Option Addr) (n c : Nat) (S : List Spr) (fs : List Nat), e = .returned (.slice A n c) ∧ n ≤ 100 ∧ n ≤ c ∧ Sprs w' A n S fs ∧ New w.heap.size w' fs ∧ Only [q] w w' ∧ Rd w' q (m + 200)
set_option maxRecDepth 100000 in
set_option maxHeartbeats 4000000 in
theorem sprites_any (q m nt : Nat) (bad : Int) (w : World) (h : Rd w q m) (hm : m ≤ 90000) (hn : 0 ≤ nt) (hn2 : nt ≤ 1000) (hb : 1 ≤ bad) (hb2 : bad ≤ 1000) : Calls Try.prog 102 #[.pointer (some ⟨q, 0, none⟩), .int .i64 nt, .int .i64 bad] w (SprsDrawn q m w) := by
  have hq := h.lt
  have D1 : Hid (RowD w q m 48 6 (.slice (some ⟨w.heap.size, 0, none⟩) 0 0) 0 (svs []) (w.alloc (.cells #[] 48))) := Lib.hid ⟨own_empty6 w _ _ (Nat.le_refl _), (Only.refl _ w).alloc _, h.alloc _, hq⟩
  clear h
  go_enter Try.func102, Try.ntmps102
  go_wp2_with fail
  generalize w.alloc (.cells #[] 48) = w1 at D1 ⊢
  refine (pick_any q _ 16 _ D1.out.rd (by omega) (by omega) (by omega)).mono ?_
  rintro e w2 ⟨same, a0, a1, rfl, s2, r2⟩
  have D2 := Lib.hid (D1.out.drawn s2.only r2)
  clear s2 r2 D1 a0 a1
  go_wp2_with fail
  refine (pick_any q _ 9 _ D2.out.rd (by omega) (by omega) (by omega)).mono ?_
  rintro e w3 ⟨K0, v0, v1, rfl, s3, r3⟩
  have D3 := Lib.hid (D2.out.drawn s3.only r3)
  clear s3 r3 D2
  obtain ⟨K, rfl⟩ : ∃ K : Nat, K0 = K := ⟨K0.toNat, by omega⟩
  have K8 : K ≤ 8 := by omega
  go_wp2_with fail
  clear v0 v1
  generalize (Value.slice (some ⟨w.heap.size, 0, none⟩) 0 0) = ov at D3 ⊢
  go_loopw [7, 9] (fun ov i wr => ∃ (rr j : Nat) (S : List Spr), i = .int .i64 rr ∧ rr + j = K ∧ RowD w q (m + 2 + 7 * j) 48 6 ov j (svs S) wr) (fun _ i _ => (intOf i).toNat)
  case atStart => exact ⟨K, 0, [], rfl, by omega, D3.out⟩
  case round =>
    obtain ⟨rr, j, S, rfl, hrj, hd⟩ := hrel
    have DR := Lib.hid hd
    clear hd D3
    obtain ⟨A, c, fs, rfl, hdc, his, hns, _⟩ := own_sprs DR.out.own
    have IS := Lib.hid his
    have NS := Lib.hid hns
    clear his hns
    by_cases h0 : 0 < rr
    · have i0 : (0 : Int) < rr := by omega
      go_wp2_with fail
      refine (pick_any q _ 40 _ DR.out.rd (by omega) (by omega) (by omega)).mono ?_
      rintro e w4 ⟨x, x0, x1, rfl, s4, r4⟩
      have D4 := Lib.hid (DR.out.drawn s4.only r4)
      clear s4 r4 DR IS NS
      have hwx : IntKind.i64.wrap (x - 8) = x - 8 := by rw [IntKind.wrap_i64]; omega
      go_wp2_with fail
      refine (pick_any q _ 24 _ D4.out.rd (by omega) (by omega) (by omega)).mono ?_
      rintro e w5 ⟨y, y0, y1, rfl, s5, r5⟩
      have D5 := Lib.hid (D4.out.drawn s5.only r5)
      clear s5 r5 D4
      have hwy : IntKind.i64.wrap (y - 8) = y - 8 := by rw [IntKind.wrap_i64]; omega
      obtain ⟨mx, hmx, mx1, mx2⟩ : ∃ mx : Int, (if (1 : Int) < nt then (nt : Int) else 1) = mx ∧ 1 ≤ mx ∧ mx ≤ 1000 := ⟨_, rfl, by split <;> omega, by split <;> omega⟩
      go_wp2_with fail
      refine (pick_any q _ mx _ D5.out.rd (by omega) (by omega) (by omega)).mono ?_
      rintro e w6 ⟨nn, _, _, rfl, s6, r6⟩
      have D6 := Lib.hid (D5.out.drawn s6.only r6)
      clear s6 r6 D5 hmx
      go_wp2_with fail
      refine (pick_any q _ 2 _ D6.out.rd (by omega) (by omega) (by omega)).mono ?_
      rintro e w7 ⟨z1, _, _, rfl, s7, r7⟩
      have D7 := Lib.hid (D6.out.drawn s7.only r7)
      clear s7 r7 D6
      go_wp2_with fail
      refine (pick_any q _ 2 _ D7.out.rd (by omega) (by omega) (by omega)).mono ?_
      rintro e w8 ⟨z2, _, _, rfl, s8, r8⟩
      have D8 := Lib.hid (D7.out.drawn s8.only r8)
      clear s8 r8 D7
      go_wp2_with fail
      refine (pick_any q _ 3 _ D8.out.rd (by omega) (by omega) (by omega)).mono ?_
      rintro e w9 ⟨z3, _, _, rfl, s9, r9⟩
      have D9 := Lib.hid (D8.out.drawn s9.only r9)
      clear s9 r9 D8
      go_wp2_with fail
      obtain ⟨sp, hsp⟩ : ∃ sp : Spr, sp = ⟨x - 8, y - 8, nn, z1 == 0, z2 == 0, z3 == 0⟩ := ⟨_, rfl⟩
      have XA : Hid (Box (w9.alloc (.cells #[.int .i64 (x - 8), .int .i64 (y - 8), .int .i64 nn, .bool (z1 == 0), .bool (z2 == 0), .bool (z3 == 0)] 48)) w9.heap.size 48 (scs sp)) := by rw [hsp]; exact Lib.hid (Box.new _ _ _)
      have DA := Lib.hid (D9.out.below (below1 w9 (.cells #[.int .i64 (x - 8), .int .i64 (y - 8), .int .i64 nn, .bool (z1 == 0), .bool (z2 == 0), .bool (z3 == 0)] 48)))
      have HB : Hid (∀ g, (Value.slice A j c).ownBlock = some g → g ≠ w9.heap.size) := Lib.hid fun g hg => by have := (own_block D9.out.own g hg).2.1; omega
      have hbs : w.heap.size ≤ w9.heap.size := D9.out.only.size
      have hsy : Hid (scs { sp with y := same } = (scs sp).set 1 (.int .i64 same)) := Lib.hid rfl
      have hspy : sp.y = y - 8 := by rw [hsp]
      have HSY := Lib.hid hspy
      generalize w9.alloc (.cells #[.int .i64 (x - 8), .int .i64 (y - 8), .int .i64 nn, .bool (z1 == 0), .bool (z2 == 0), .bool (z3 == 0)] 48) = wa at XA DA ⊢
      generalize w9.heap.size = bs at XA HB hbs ⊢
      clear D9 hsp hspy
      refine (pick_any q _ 2 _ DA.out.rd (by omega) (by omega) (by omega)).mono ?_
      rintro e wb ⟨z, _, _, rfl, sb, rb⟩
      have DB := Lib.hid (DA.out.drawn sb.only rb)
      have XB := Lib.hid (XA.out.only sb.only (by simp; omega))
      clear sb rb DA XA
      have c1 : wb.cell? ⟨bs, 1, none⟩ = some (.int .i64 sp.y) := XB.out.cell 1
      have g1 := XB.out.frozen 1
      by_cases hz : z = 0
      · subst hz
        go_upto_region 9 with (fail)
        have DE := Lib.hid (DB.out.far (i := 1) HB.out hbs (.int .i64 same))
        have XE : Hid (Box (wb.setCell ⟨bs, 1, none⟩ (.int .i64 same)) bs 48 (scs { sp with y := same })) := Lib.hid (by rw [hsy.out]; exact XB.out.set 1 _)
        generalize wb.setCell ⟨bs, 1, none⟩ (.int .i64 same) = wc at DE XE ⊢
        obtain ⟨sq, hsq⟩ : ∃ sq : Spr, { sp with y := same } = sq := ⟨_, rfl⟩
        rw [hsq] at XE
        clear DB XB c1 g1 hsq hsy
        go_wp2_with (first | (refine sp_load (by rfl) _ rfl _ rfl sq XE.out ?_) | (at_builtin; refine wpList_append_sprs rfl _ _ rfl w.heap.size (.slice A j c) j S rfl (DE.out.below (below1 _ _)).own _ 1 1 [sq] [wc.heap.size] rfl (lone_spr wc sq) (by omega) (by have := DE.out.only.size; simp; omega) ?_; intro v' w6 own6 gr6 _; have DF := Lib.hid ((DE.out.below (below1 _ _)).grow own6 gr6); clear own6 gr6))
        go_roundw
        case rel => exact ⟨rr - 1, j + 1, _, by go_num, by omega, DF.out.mono (by omega)⟩
        case measure => simp [intOf]; omega
      · have hz' : decide (z = 0) = false := by simpa using hz
        go_upto_region 9 with (fail)
        have DE := DB
        have XE := XB
        clear DB XB c1 g1 hsy
        go_wp2_with (first | (refine sp_load (by rfl) _ rfl _ rfl sp XE.out ?_) | (at_builtin; refine wpList_append_sprs rfl _ _ rfl w.heap.size (.slice A j c) j S rfl (DE.out.below (below1 _ _)).own _ 1 1 [sp] [wb.heap.size] rfl (lone_spr wb sp) (by omega) (by have := DE.out.only.size; simp; omega) ?_; intro v' w6 own6 gr6 _; have DF := Lib.hid ((DE.out.below (below1 _ _)).grow own6 gr6); clear own6 gr6))
        go_roundw
        case rel => exact ⟨rr - 1, j + 1, _, by go_num, by omega, DF.out.mono (by omega)⟩
        case measure => simp [intOf]; omega
    · obtain rfl : rr = 0 := by omega
      obtain rfl : j = K := by omega
      clear h0
      rw [show ((0 : Nat) : Int) = 0 from rfl]
      by_cases hj0 : 0 < j
      · have hj1 : 0 < j := hj0
        have hj' : (0 : Int) < j := by omega
        go_wp2_with fail
        refine (odd_any q _ bad _ DR.out.rd (by omega) (by omega) (by omega)).mono ?_
        rintro e w4 ⟨bb, rfl, s4, r4⟩
        have D4 := Lib.hid (DR.out.drawn s4.only r4)
        clear s4 r4 DR IS NS
        cases bb
        · obtain ⟨A5, c5, f5, e5, _, i5, n5, _⟩ := own_sprs D4.out.own
          obtain ⟨rfl, -, rfl⟩ : A = A5 ∧ j = j ∧ c = c5 := by injection e5 with a b c; exact ⟨a, rfl, c⟩
          have I5 := Lib.hid i5
          have N5 := Lib.hid n5
          clear i5 n5 e5
          go_wp2_with fail
          go_ret
          exact ⟨A, j, c, S, f5, rfl, by omega, hdc, I5.out, N5.out, D4.out.only, D4.out.rd.mono (by omega)⟩
        · go_wp2_with fail
          refine (pick_any q _ j _ D4.out.rd (by omega) (by omega) (by omega)).mono ?_
          rintro e wf ⟨k0, ka, kb, rfl, s5, r5⟩
          have DF := Lib.hid (D4.out.drawn s5.only r5)
          clear s5 r5 D4
          obtain ⟨k, rfl⟩ : ∃ k : Nat, k0 = k := ⟨k0.toNat, by omega⟩
          have hkj : k < j := by omega
          clear ka kb
          go_wp2_with fail
          refine (pick_any q _ 3 _ DF.out.rd (by omega) (by omega) (by omega)).mono ?_
          rintro e wg ⟨sw, sw0, sw1, rfl, s5, r5⟩
          have DG := Lib.hid (DF.out.drawn s5.only r5)
          clear s5 r5 DF
          have zq4 : q < wg.heap.size := DG.out.rd.lt
          have hsw : sw = 0 ∨ sw = 1 ∨ sw = 2 := by omega
          rcases hsw with rfl | rfl | rfl
          · -- case 0
            clear sw0 sw1
            go_wp2_with fail
            refine (pick_any q _ 2 _ (DG.out.below (below1 _ _)).rd (by omega) (by omega) (by omega)).mono ?_
            rintro e w5 ⟨v, v0, v1, rfl, s5, r5⟩
            obtain ⟨u, hu⟩ : ∃ u : Int, (#[Value.int .i64 (-17), .int .i64 65] : Array Value)[v.toNat]? = some (.int .i64 u) := by
              have h : v = 0 ∨ v = 1 := by omega
              rcases h with rfl | rfl <;> exact ⟨_, rfl⟩
            have cu := lit_at2 s5 zq4 hu
            have D5 := Lib.hid ((DG.out.below (below1 _ _)).drawn s5.only r5)
            clear s5 r5 DG
            obtain ⟨A5, c5, f5, e5, _, i5, n5, _⟩ := own_sprs D5.out.own
            obtain ⟨rfl, -, rfl⟩ : A = A5 ∧ j = j ∧ c = c5 := by injection e5 with a b c; exact ⟨a, rfl, c⟩
            obtain ⟨p, o, rfl, hf5, hp5, hc5⟩ := i5.at_ hj1
            have I5 := Lib.hid i5
            have N5 := Lib.hid n5
            have cx : w5.cell? ⟨p, o + k * 6, none⟩ = some (.int .i64 (S.getD k .zero).x) := by
              have := hc5 k hkj 0 _ rfl
              rwa [show o + (6 * k + 0) = o + k * 6 by omega] at this
            have gx : w5.frozen? ⟨p, o + k * 6, none⟩ = false := n5.free p (by rw [hf5]; simp) _
            have HPW : Hid (w.heap.size ≤ p) := Lib.hid (n5.lt p (by rw [hf5]; simp)).1
            have vn : v < ((2 : Nat) : Int) := by omega
            have kn : (k : Int) < j := by omega
            have k0 : 0 ≤ (k : Int) := by omega
            generalize (S.getD k .zero).x = ox at cx
            clear i5 n5 hc5 hf5 hp5 e5 hu
            go_wp2_with fail
            go_ret
            exact ⟨some ⟨p, o, none⟩, j, c, _, f5, rfl, by omega, hdc, spr_set (j := 0) (s' := { S.getD k .zero with x := u }) I5.out hkj (by omega) rfl, ⟨N5.out.once, fun x hx => ⟨(N5.out.lt x hx).1, by simpa using (N5.out.lt x hx).2⟩, fun x hx off => by rw [World.frozen?_setCell]; exact N5.out.free x hx off⟩, D5.out.only.setCell (.inr HPW.out) _, (D5.out.rd.mono (by omega)).far (by have := HPW.out; omega) _⟩
          · -- case 1
            clear sw0 sw1
            go_wp2_with fail
            refine (pick_any q _ 2 _ (DG.out.below (below1 _ _)).rd (by omega) (by omega) (by omega)).mono ?_
            rintro e w5 ⟨v, v0, v1, rfl, s5, r5⟩
            obtain ⟨u, hu⟩ : ∃ u : Int, (#[Value.int .i64 (-1), .int .i64 nt] : Array Value)[v.toNat]? = some (.int .i64 u) := by
              have h : v = 0 ∨ v = 1 := by omega
              rcases h with rfl | rfl <;> exact ⟨_, rfl⟩
            have cu := lit_at2 s5 zq4 hu
            have D5 := Lib.hid ((DG.out.below (below1 _ _)).drawn s5.only r5)
            clear s5 r5 DG
            obtain ⟨A5, c5, f5, e5, _, i5, n5, _⟩ := own_sprs D5.out.own
            obtain ⟨rfl, -, rfl⟩ : A = A5 ∧ j = j ∧ c = c5 := by injection e5 with a b c; exact ⟨a, rfl, c⟩
            obtain ⟨p, o, rfl, hf5, hp5, hc5⟩ := i5.at_ hj1
            have I5 := Lib.hid i5
            have N5 := Lib.hid n5
            have cx : w5.cell? ⟨p, o + k * 6 + 2, none⟩ = some (.int .i64 (S.getD k .zero).n) := by
              have := hc5 k hkj 2 _ rfl
              rwa [show o + (6 * k + 2) = o + k * 6 + 2 by omega] at this
            have gx : w5.frozen? ⟨p, o + k * 6 + 2, none⟩ = false := n5.free p (by rw [hf5]; simp) _
            have HPW : Hid (w.heap.size ≤ p) := Lib.hid (n5.lt p (by rw [hf5]; simp)).1
            have vn : v < ((2 : Nat) : Int) := by omega
            have kn : (k : Int) < j := by omega
            have k0 : 0 ≤ (k : Int) := by omega
            generalize (S.getD k .zero).n = ox at cx
            clear i5 n5 hc5 hf5 hp5 e5 hu
            go_wp2_with fail
            go_ret
            exact ⟨some ⟨p, o, none⟩, j, c, _, f5, rfl, by omega, hdc, spr_set (j := 2) (s' := { S.getD k .zero with n := u }) I5.out hkj (by omega) rfl, ⟨N5.out.once, fun x hx => ⟨(N5.out.lt x hx).1, by simpa using (N5.out.lt x hx).2⟩, fun x hx off => by rw [World.frozen?_setCell]; exact N5.out.free x hx off⟩, D5.out.only.setCell (.inr HPW.out) _, (D5.out.rd.mono (by omega)).far (by have := HPW.out; omega) _⟩
          · -- default
            clear sw0 sw1
            go_wp2_with fail
            go_loopw [7] (fun ov wr => ∃ (nn : Nat) (S : List Spr), 0 < nn ∧ nn ≤ 24 ∧ lenV ov = nn ∧ RowD w q (m + 100) 48 6 ov nn (svs S) wr) (fun ov _ => 13 - lenV ov)
            case atStart => exact ⟨j, S, hj1, by omega, rfl, DG.out.mono (by omega)⟩
            case round =>
              obtain ⟨nn, S2, hn0, hn24, hlv, hd⟩ := hrel
              have DR := Lib.hid hd
              clear hd DG
              obtain ⟨A2, c2, f2, rfl, hc2, i2, n2, _⟩ := own_sprs DR.out.own
              have I2 := Lib.hid i2
              have N2 := Lib.hid n2
              clear i2 n2
              by_cases h12 : nn ≤ 12
              · have h12' : (nn : Int) ≤ 12 := by omega
                go_wp2_with (at_builtin; refine wpList_append_sprs rfl _ _ rfl w.heap.size (.slice A2 nn c2) nn S2 rfl DR.out.own A2 nn c2 S2 f2 rfl I2.out (by omega) DR.out.only.size ?_; intro v' w6 own6 gr6 _; have hl6 := own_len own6; have D6 := Lib.hid (DR.out.grow own6 gr6); clear own6 gr6)
                go_roundw
                case rel => exact ⟨nn + nn, S2 ++ S2, by omega, by omega, hl6, D6.out⟩
                case measure => rw [hl6]; simp [lenV]; omega
              · have h12' : ¬ (nn : Int) ≤ 12 := by omega
                go_wp2_with fail
                go_ret
                exact ⟨A2, nn, c2, S2, f2, rfl, by omega, hc2, I2.out, N2.out, DR.out.only, DR.out.rd.mono (by omega)⟩
      · obtain rfl : j = 0 := by omega
        go_wp2_with fail
        go_ret
        exact ⟨A, 0, c, S, fs, rfl, by omega, hdc, IS.out, NS.out, DR.out.only, DR.out.rd.mono (by omega)⟩
end Go.Proofs.Ytacebhncecninaa
