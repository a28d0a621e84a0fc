/- The program's addTo: a channel's samples added to a row, step by step. -/
import Derived.Test.YtfbpnneegenhgaaVocY
import Derived.BigRegion
namespace Go.Proofs.Ytfbpnneegenhgaa
open Go.ChangeShapes Go.WideShapes Go.ChangeAt Go.RowKit
set_option linter.unusedVariables false

/-- A row to which the first k samples of a channel are added. -/
def addS (S : List Int) (x : Voc) (N k : Nat) : List Int := (List.range N).map fun j => S.getD j 0 + if j < k then lev (adv x j) else 0
theorem addS_len (S : List Int) (x : Voc) (N k : Nat) : (addS S x N k).length = N := by simp [addS]
theorem addS_get (S : List Int) (x : Voc) (N k i : Nat) (h : i < N) : (addS S x N k)[i]? = some (S.getD i 0 + if i < k then lev (adv x i) else 0) := by
  unfold addS
  rw [List.getElem?_map, List.getElem?_range h]
  rfl
theorem addS_at (S : List Int) (x : Voc) (N k : Nat) (h : k < N) : (addS S x N k).getD k 0 = S.getD k 0 := by
  rw [List.getD_eq_getElem?_getD, addS_get _ _ _ _ _ h, if_neg (by omega), Int.add_zero]
  rfl
theorem addS_zero (S : List Int) (x : Voc) (N : Nat) (hl : S.length = N) : addS S x N 0 = S := by
  apply List.ext_getElem?
  intro i
  by_cases h : i < N
  · rw [addS_get _ _ _ _ _ h, if_neg (by omega), Int.add_zero, List.getD_eq_getElem?_getD, List.getElem?_eq_getElem (by omega)]
    rfl
  · rw [List.getElem?_eq_none (by rw [addS_len]; omega), List.getElem?_eq_none (by omega)]
theorem addS_set (S : List Int) (x : Voc) (N k : Nat) (h : k < N) : (addS S x N k).set k (S.getD k 0 + lev (adv x k)) = addS S x N (k + 1) := by
  apply List.ext_getElem?
  intro i
  by_cases hi : i < N
  · rw [addS_get _ _ _ _ _ hi, List.getElem?_set]
    by_cases e : k = i
    · subst e
      rw [if_pos rfl, if_pos (by rw [addS_len]; omega), if_pos (by omega)]
    · rw [if_neg e, addS_get _ _ _ _ _ hi]
      by_cases e2 : i < k
      · rw [if_pos e2, if_pos (by omega)]
      · rw [if_neg e2, if_neg (by omega)]
  · rw [List.getElem?_eq_none (by rw [List.length_set, addS_len]; omega), List.getElem?_eq_none (by rw [addS_len]; omega)]
/-- Within a step the sample is the same. -/
theorem lev_run {y : Voc} (h : vocB y = true) {i : Nat} (hi : (i : Int) < y.e) : lev (adv y i) = lev y := by
  rw [← skip_adv h]
  unfold skipF
  rw [if_pos hi]
  rfl
def sliceN : Value → Nat
  | .slice _ n _ => n
  | _ => 0
theorem step_storeV {ops : Array Oper} {o : Oper} {a : Act} {w : World} {K : Act → World → Prop} {Q : Exit → Act → World → Prop} {E : Prop} (hg : o.guard = none) (x y : Operand) (ho : o.op = .store 24 x y) (b : Nat) (hx : a.eval x = .pointer (some ⟨b, 0, none⟩)) (u : Voc) (hy : a.eval y = vocV u) (t : TypeId) (cs : List Value) (hb : Box w b t cs) (hc : cs.length = 5)
    (h : K (a.put o.dst undef) (w.setRow b (vcs u).toArray)) :
    if Region.wanted o (yielded ops a.tmps) = true then Oper.wp Try.prog o a w K Q else E := by
  have hw : Region.wanted o (yielded ops a.tmps) = true := by simp [Region.wanted, hg]
  rw [if_pos hw]
  exact wp_store_row _ x y ho b (vcs u).toArray hx hy t cs.toArray hb voc_info (by show cs.toArray.size = 5; simpa using hc) (by simp [Value.oneCell']) h
set_option maxRecDepth 100000 in
set_option maxHeartbeats 4000000 in
theorem im_addTo (x : Voc) (g N : Nat) (S : List Int) (w : World) (hx : vocB x = true) (hg : Box w g 3 (iv S)) (hl : S.length = N) (hN : N ≤ 400) (hS : ∀ j, 0 ≤ S.getD j 0 ∧ S.getD j 0 ≤ 1000) :
    Calls Try.prog 47 #[vocV x, .slice (some ⟨g, 0, none⟩) N N] w fun e w' => e = .returned (vocV (adv x N)) ∧ Box w' g 3 (iv (addS S x N N)) ∧ Only [g] w w' := by
  have HV := Lib.hid hx
  have HS := Lib.hid hS
  have HGB := Lib.hid hg.lt
  obtain ⟨w1, hw1⟩ : ∃ w1, w1 = (w.alloc (.cells #[.int .i64 x.l, .int .i64 x.h, .int .i64 x.v, .int .i64 x.s, .int .i64 x.e] 24)).alloc (.cells #[.int .i64 0, .int .i64 0, .int .i64 0, .int .i64 0, .int .i64 0] 24) := ⟨_, rfl⟩
  have X1 : Hid (Box w1 w.heap.size 24 (vcs x)) := Lib.hid (by rw [hw1]; exact (Box.new w _ _).alloc _)
  have Z1 : Hid (Box w1 (w.heap.size + 1) 24 (vcs .zero)) := Lib.hid (by rw [hw1]; exact Box.new_at _ _ _ _ (by simp))
  have Y1 : Hid (Box w1 g 3 (iv (addS S x N 0))) := Lib.hid (by rw [hw1, addS_zero _ _ _ hl]; exact (hg.alloc _).alloc _)
  have B1 : Hid (Only [g] w w1) := Lib.hid (by rw [hw1]; exact .of_below (below2 w _ _))
  clear hx hg hl hS
  show Calls Try.prog 47 #[.agg #[.int .i64 x.l, .int .i64 x.h, .int .i64 x.v, .int .i64 x.s, .int .i64 x.e], .slice (some ⟨g, 0, none⟩) N N] w _
  go_enter Try.func47, Try.ntmps47
  go_upto_region 1 with (fail)
  rw [← hw1]
  clear hw1
  generalize hb0 : w.heap.size = b0 at X1 Z1 HGB ⊢
  have HB0 := Lib.hid hb0
  clear hb0
  go_loopw [1] (fun v1 wr => ∃ k r o : Nat, k + r = N ∧ v1 = .slice (some ⟨g, o, none⟩) r r ∧ (r = 0 ∨ o = k) ∧ Box wr b0 24 (vcs (adv x k)) ∧ Box wr (b0 + 1) 24 (vcs .zero) ∧ Box wr g 3 (iv (addS S x N k)) ∧ Only [g] w wr) (fun v1 _ => sliceN v1)
  case atStart => exact ⟨0, N, 0, by omega, rfl, .inr rfl, X1.out, Z1.out, Y1.out, B1.out⟩
  case round =>
    obtain ⟨k, r, o, hkr, rfl, hor, hx, hz, hy, hb⟩ := hrel
    have XR := Lib.hid hx
    have ZR := Lib.hid hz
    have YR := Lib.hid hy
    have BR := Lib.hid hb
    have HKR := Lib.hid hkr
    clear hx hz hy hb X1 Z1 Y1 B1
    by_cases hr0 : 0 < r
    · obtain rfl : o = k := by omega
      have i0 : (0 : Int) < r := by omega
      have hr4 : r ≤ 400 := by omega
      have HYV := Lib.hid (adv_ok HV.out o)
      have HNX : Hid (∀ q : Nat, adv x (o + q) = skipF (adv x o) q) := Lib.hid fun q => by rw [adv_add, skip_adv HYV.out]
      have HLV : Hid (∀ i : Nat, (i : Int) < (adv x o).e → lev (adv x (o + i)) = lev (adv x o)) := Lib.hid fun i hi => by rw [adv_add, lev_run HYV.out hi]
      generalize adv x o = y at XR HYV HNX HLV
      obtain ⟨-, -, -, -, e0, -⟩ := vocB_iff.1 HYV.out
      obtain ⟨q, hq⟩ : ∃ q : Nat, (if (r : Int) < y.e then (r : Int) else y.e) = (q : Int) := ⟨(if (r : Int) < y.e then (r : Int) else y.e).toNat, by split <;> omega⟩
      have HQ : Hid (1 ≤ q ∧ q ≤ r ∧ (q : Int) ≤ y.e ∧ r ≤ 400) := Lib.hid (by split at hq <;> omega)
      have c4 : wr.cell? ⟨b0, 4, none⟩ = some (.int .i64 y.e) := XR.out.cell 4
      clear e0 hkr hor
      go_upto_region 3 with (fail)
      clear c4 hq i0
      go_wp2_with (first | (refine vo_load (by rfl) _ rfl b0 rfl y XR.out ?_))
      refine (im_sample y _).mono ?_; rintro e' w3 ⟨rfl, b3⟩
      have X3 := Lib.hid (XR.out.below b3)
      have Z3 := Lib.hid (ZR.out.below b3)
      have Y3 : Hid (Box w3 g 3 (iv (addS S x N (o + 0)))) := Lib.hid (YR.out.below b3)
      have B3 := Lib.hid (BR.out.trans (.of_below b3))
      clear b3 XR ZR YR BR
      have HAB := Lib.hid (lev_b HYV.out)
      generalize lev y = a at HLV HAB ⊢
      go_wp2_with fail
      obtain ⟨W0, rfl⟩ : ∃ W0, W0 = wr := ⟨wr, rfl⟩
      go_loopw [19] (fun i ws => ∃ j : Nat, j ≤ q ∧ i = .int .i64 j ∧ Box ws g 3 (iv (addS S x N (o + j))) ∧ Only [g] w3 ws) (fun i _ => q - (intOf i).toNat)
      case atStart => exact ⟨0, by omega, rfl, Y3.out, Only.refl _ _⟩
      case round =>
        obtain ⟨ws, rfl⟩ : ∃ ws, ws = wr := ⟨wr, rfl⟩
        obtain ⟨j, hj, rfl, hx, ho⟩ := hrel
        have XS := Lib.hid hx
        have OS := Lib.hid ho
        clear hx ho Y3
        by_cases hjq : j < q
        · have hjq' : (j : Int) < (q : Int) := by omega
          have hjr : (j : Int) < (r : Int) := by have := HQ.out; omega
          have hjN : o + j < N := by have := HQ.out; have := HKR.out; omega
          have HST := Lib.hid (addS_set S x N (o + j) hjN)
          rw [HLV.out j (by have := HQ.out; omega)] at HST
          have cx : ws.cell? ⟨g, o + j, none⟩ = some (.int .i64 (S.getD (o + j) 0)) := by
            rw [XS.out.cell (o + j), iv_at _ (o + j) (by rw [addS_len]; exact hjN), addS_at S x N (o + j) hjN]
          have fx := XS.out.frozen (o + j)
          obtain ⟨s0, s1⟩ := HS.out (o + j)
          obtain ⟨a0, a1⟩ := HAB.out
          generalize S.getD (o + j) 0 = s at HST cx s0 s1
          have HW := wrapV (s + a) (by omega) (by omega)
          have X7 : Hid (Box (ws.setCell ⟨g, o + j, none⟩ (.int .i64 (s + a))) g 3 (iv (addS S x N (o + (j + 1))))) := Lib.hid (by rw [← Nat.add_assoc, ← HST.out, ← ivSetV]; exact XS.out.set (o + j) _)
          have O7 : Hid (Only [g] w3 (ws.setCell ⟨g, o + j, none⟩ (.int .i64 (s + a)))) := Lib.hid (OS.out.setCell (.inl (by simp)) _)
          clear HST s0 s1 a0 a1 hjN
          go_wp2_with fail
          go_roundw
          case rel => exact ⟨j + 1, by omega, by go_num, X7.out, O7.out⟩
          case measure => simp [intOf]; omega
        · obtain rfl : j = q := by omega
          have hgb : b0 ≠ g := by have := HGB.out; omega
          have hgc : b0 + 1 ≠ g := by have := HGB.out; omega
          have X8 := Lib.hid (X3.out.only OS.out (by simpa using hgb))
          have XD : Hid (Box ws.drew b0 24 (vcs y)) := Lib.hid X8.out
          have Z8 := Lib.hid (Z3.out.only OS.out (by simpa using hgc))
          have ZD : Hid (Box ws.drew (b0 + 1) 24 (vcs .zero)) := Lib.hid Z8.out
          have YD : Hid (Box ws.drew g 3 (iv (addS S x N (o + j)))) := Lib.hid XS.out
          have OD : Hid (Only [g] w ws.drew) := Lib.hid (let t := B3.out.trans OS.out; ⟨t.os, t.tape, t.output, t.size, t.block⟩)
          clear X3 Z3 XS B3 hj HAB hgb hgc
          have hgb : g ≠ b0 := by have := HGB.out; omega
          have hob : b0 ∈ [g] ∨ w.heap.size ≤ b0 := .inr (by rw [HB0.out]; exact Nat.le_refl _)
          have HOB := Lib.hid hob
          have HGN := Lib.hid hgb
          clear hob hgb
          go_upto_region 9 with (fail)
          have x0 := X8.out.cell 0
          have x1 := X8.out.cell 1
          have x2 := X8.out.cell 2
          have x3 := X8.out.cell 3
          have x4 := X8.out.cell 4
          by_cases hqr : j = r
          · subst hqr
            go_region_law (first
              | (go_simp; go_at_call 50; refine (im_skipm y (j : Int) _ HYV.out (by omega) (by have := HQ.out; omega)).mono ?_; rintro e' w9 ⟨rfl, b9⟩; have X9 := Lib.hid (XD.out.below b9); have Z9 := Lib.hid (ZD.out.below b9); have Y9 := Lib.hid (YD.out.below b9); have O9 := Lib.hid (OD.out.trans (.of_below b9)); clear b9; have d0 := X9.out.cell 0; have d1 := X9.out.cell 1; have d2 := X9.out.cell 2; have d3 := X9.out.cell 3; have d4 := X9.out.cell 4; have e0 := X9.out.frozen 0; have e1 := X9.out.frozen 1; have e2 := X9.out.frozen 2; have e3 := X9.out.frozen 3; have e4 := X9.out.frozen 4))
            all_goals simp only [List.getElem_toArray, List.getElem_cons_succ, List.getElem_cons_zero, Act.put, List.setIfInBounds_toArray, List.set_cons_succ, List.set_cons_zero]
            all_goals go_roundw
            case rel =>
              repeat apply Exists.intro
              exact ⟨⟨o + j, 0, _, by have := HKR.out; omega, rfl, .inl rfl, by rw [HNX.out]; exact ((((X9.out.set 0 (.int .i64 (skipF y j).l)).set 1 (.int .i64 (skipF y j).h)).set 2 (.int .i64 (skipF y j).v)).set 3 (.int .i64 (skipF y j).s)).set 4 (.int .i64 (skipF y j).e), ((((Z9.out.far (by omega) _).far (by omega) _).far (by omega) _).far (by omega) _).far (by omega) _, ((((Y9.out.far HGN.out _).far HGN.out _).far HGN.out _).far HGN.out _).far HGN.out _, ((((O9.out.setCell HOB.out _).setCell HOB.out _).setCell HOB.out _).setCell HOB.out _).setCell HOB.out _⟩, rfl⟩
            case measure => have := HQ.out; simp [sliceN]; omega
          · have hqr' : j < r := by have := HQ.out; omega
            have hqr2 : ¬ r = j := by omega
            have hqr3 : j ≤ r := by omega
            go_region_law (first
              | (go_simp; go_at_call 50; refine (im_skipm y (j : Int) _ HYV.out (by omega) (by have := HQ.out; omega)).mono ?_; rintro e' w9 ⟨rfl, b9⟩; have X9 := Lib.hid (XD.out.below b9); have Z9 := Lib.hid (ZD.out.below b9); have Y9 := Lib.hid (YD.out.below b9); have O9 := Lib.hid (OD.out.trans (.of_below b9)); clear b9; have d0 := X9.out.cell 0; have d1 := X9.out.cell 1; have d2 := X9.out.cell 2; have d3 := X9.out.cell 3; have d4 := X9.out.cell 4; have e0 := X9.out.frozen 0; have e1 := X9.out.frozen 1; have e2 := X9.out.frozen 2; have e3 := X9.out.frozen 3; have e4 := X9.out.frozen 4))
            all_goals simp only [List.getElem_toArray, List.getElem_cons_succ, List.getElem_cons_zero, Act.put, List.setIfInBounds_toArray, List.set_cons_succ, List.set_cons_zero]
            all_goals go_roundw
            case rel =>
              repeat apply Exists.intro
              exact ⟨⟨o + j, r - j, _, by have := HKR.out; omega, rfl, .inr rfl, by rw [HNX.out]; exact ((((X9.out.set 0 (.int .i64 (skipF y j).l)).set 1 (.int .i64 (skipF y j).h)).set 2 (.int .i64 (skipF y j).v)).set 3 (.int .i64 (skipF y j).s)).set 4 (.int .i64 (skipF y j).e), ((((Z9.out.far (by omega) _).far (by omega) _).far (by omega) _).far (by omega) _).far (by omega) _, ((((Y9.out.far HGN.out _).far HGN.out _).far HGN.out _).far HGN.out _).far HGN.out _, ((((O9.out.setCell HOB.out _).setCell HOB.out _).setCell HOB.out _).setCell HOB.out _).setCell HOB.out _⟩, rfl⟩
            case measure => have := HQ.out; simp [sliceN]; omega
    · obtain rfl : r = 0 := by omega
      obtain rfl : k = N := by omega
      generalize hy0 : adv x k = y at XR
      have HY := Lib.hid hy0
      clear hy0
      go_wp2_with (first | (refine vo_load (by rfl) _ rfl b0 rfl y XR.out ?_) | (refine vo_store (by rfl) _ _ rfl (b0 + 1) rfl y rfl (vcs .zero) ZR.out rfl ?_))
      exact bodyPost_ret (voc_ret (u := y) rfl rfl (Box.row ZR.out)) rfl ⟨by rw [HY.out], YR.out.rowFar (by have := HGB.out; omega), BR.out.row (.inr (by rw [HB0.out]; omega)) _⟩
end Go.Proofs.Ytfbpnneegenhgaa
