/- The library's slices.Backward over numbers: what it hands to the loop's body. -/
import Derived.Test.YtacebhncecninaaRngF
import Derived.Test.YtacebhncecninaaGE
namespace Go.Proofs.Ytacebhncecninaa
open Go.ChangeShapes Go.WideShapes Go.ChangeAt Go.RowKit
set_option linter.unusedVariables false
attribute [local go_sem] Oper.semAt_some

/-- What has come when j rounds are over. -/
def backL {p : Nat → Prop} (L : List {k // p k}) (j : Nat) : List {k // p k} := (L.drop (L.length - j)).reverse
theorem backL_zero {p : Nat → Prop} (L : List {k // p k}) : backL L 0 = [] := by unfold backL; simp
theorem backL_step {p : Nat → Prop} (L : List {k // p k}) (j : Nat) (h : j < L.length) : backL L (j + 1) = backL L j ++ [L[L.length - 1 - j]] := by
  unfold backL
  rw [show L.length - (j + 1) = L.length - 1 - j by omega, List.drop_eq_getElem_cons (by omega), List.reverse_cons, show L.length - 1 - j + 1 = L.length - j by omega]
theorem backL_all {p : Nat → Prop} (L : List {k // p k}) : backL L L.length = L.reverse := by unfold backL; simp
theorem same_cell {fp : List Nat} {w w' : World} (h : Same fp w w') {b o : Nat} (hb : b ∈ fp) (hl : b < w.heap.size) : w'.cell? ⟨b, o, none⟩ = w.cell? ⟨b, o, none⟩ := World.cell?_of_block (a := ⟨b, o, none⟩) (h.2 b hb hl)
theorem same_then {fp : List Nat} {w w1 w2 : World} (h : Same fp w w1) (k : Same fp w1 w2) : Same fp w w2 := ⟨Nat.le_trans h.1 k.1, fun b hb hl => (k.2 b hb (Nat.lt_of_lt_of_le hl h.1)).trans (h.2 b hb hl)⟩
set_option maxRecDepth 100000 in
set_option maxHeartbeats 2000000 in
theorem back1 (n l Bs : Nat) (p : Nat → Prop) (A : Option Addr) (len c : Nat) (L : List {k // p k}) (fp : List Nat) (hn : 1 ≤ n) (hl : L.length = len) (hs : len ≤ 1000000000) (J Jx : List (Nat × {k // p k}) → World → Prop)
    (hY : ∀ pre (x : Nat × {k // p k}) W, J pre W → pre.length < len → YieldAt Fence.wide (n - 1) Try.prog l #[.int .i64 (x.1 : Int), .int .i64 (x.2.1 : Int)] W fun e W' =>
      (e = .returned (.bool true) ∧ J (pre ++ [x]) W' ∧ Same (Bs :: fp) W W') ∨ (e = .returned (.bool false) ∧ Jx (pre ++ [x]) W'))
    (W : World) (hb : Bs < W.heap.size) (hc : W.cell? ⟨Bs, 0, none⟩ = some (.slice A len c)) (hI : Ints W A len (nums (L.map (·.1))) fp) (h0 : J [] W) :
    CallsIn Fence.wide n Try.prog 117 #[.func (.yield l) #[] #[], .pointer (some ⟨Bs, 0, none⟩)] W fun e W' => (∃ v, e = .returned v) ∧
      ((∃ ys : List (Nat × {k // p k}), ys.map (·.2) = L.reverse ∧ J ys W') ∨ (∃ pre, True ∧ Jx pre W')) := by
  have hw1 : IntKind.i64.wrap ((len : Int) - 1) = (len : Int) - 1 := by rw [IntKind.wrap_i64]; omega
  refine callsIn_of_wp Try.func117 rfl trivial ?_ rfl
  simp only [Try.ntmps117, List.size_toArray, List.length_cons, List.length_nil, Nat.reduceAdd, Nat.reduceSub, Array.replicate_succ, Array.replicate_zero, List.push_toArray, List.append_toArray, List.nil_append, List.cons_append]
  gi_wp2
  clear hw1
  gi_loopw [3] (fun i wr => ∃ (j : Nat) (pre : List (Nat × {k // p k})), j ≤ len ∧ i = .int .i64 ((len : Int) - 1 - j) ∧ pre.length = j ∧ pre.map (·.2) = backL L j ∧ J pre wr ∧ Same (Bs :: fp) W wr) (fun i _ => (intOf i + 1).toNat)
  case atStart => exact ⟨0, [], by omega, by simp, rfl, by rw [backL_zero]; rfl, h0, ⟨Nat.le_refl _, fun _ _ _ => rfl⟩⟩
  case round =>
    obtain ⟨j, pre, hj, rfl, hpl, hpm, hJs, hsm⟩ := hrel
    have c0 := (same_cell hsm (o := 0) (List.mem_cons_self ..) hb).trans hc
    by_cases hlt : j < len
    · obtain ⟨q, hq⟩ : ∃ q : Nat, (len : Int) - 1 - j = q := ⟨len - 1 - j, by omega⟩
      have hql : q < L.length := by omega
      obtain ⟨b, o, rfl, hfp, hbl, hcc⟩ := hI.at_ (by omega)
      have cq := hcc q (by omega)
      rw [← same_cell hsm (o := o + q) (show b ∈ Bs :: fp by rw [hfp]; simp) hbl] at cq
      have hnum : (nums (L.map (·.1))).getD q 0 = ((L[q]).1 : Int) := by
        unfold nums
        rw [List.getD_eq_getElem?_getD, List.getElem?_map, List.getElem?_map, List.getElem?_eq_getElem hql]
        rfl
      rw [hnum] at cq
      have HS : Hid (backL L (j + 1) = backL L j ++ [L[q]]) := Lib.hid (by rw [backL_step L j (by omega)]; congr 2; congr 1; omega)
      obtain ⟨fn, tmps, assign, body, hy, hR⟩ := hY pre (q, L[q]) wr hJs (by omega)
      dsimp only at hy
      generalize L[q] = x at cq HS hy hR
      obtain ⟨k, hk⟩ := x
      have hq0 : 0 ≤ (q : Int) := by omega
      have hqL : (q : Int) < len := by omega
      have hqn : q < len := by omega
      rw [hq]
      have HQ := Lib.hid hq
      clear hq hnum hcc
      gi_wp2
      refine hR.mono ?_
      rintro e W3 (⟨rfl, hJ3, hk3⟩ | ⟨rfl, hJx3⟩)
      · have hw2 : IntKind.i64.wrap ((q : Int) - 1) = (q : Int) - 1 := by rw [IntKind.wrap_i64]; omega
        gi_wp2
        go_roundw
        case rel => exact ⟨j + 1, pre ++ [(q, ⟨k, hk⟩)], by omega, by have := HQ.out; go_num, by simp [hpl], by rw [List.map_append, hpm, HS.out]; rfl, hJ3, same_then hsm hk3⟩
        case measure => simp [intOf]
      · gi_wp2
        refine bodyPost_ret (results_none rfl _ _ _) rfl ?_
        exact ⟨⟨_, rfl⟩, .inr ⟨_, trivial, hJx3⟩⟩
    · obtain rfl : j = len := by omega
      have e1 : (j : Int) - 1 - j = -1 := by omega
      rw [e1]
      gi_wp2
      go_end0
      exact ⟨⟨_, rfl⟩, .inl ⟨pre, by rw [hpm, ← hl, backL_all], hJs⟩⟩
theorem back_any (A : Option Addr) (len c : Nat) (w : World) : Calls Try.prog 107 #[.slice A len c] w fun e w' => e = .returned (.func (.func 117) #[] #[.pointer (some ⟨w.heap.size, 0, none⟩)]) ∧ w' = w.alloc (.cells #[.slice A len c] 23) := by
  go_enter Try.func107, Try.ntmps107
  go_wp2_with fail
  go_ret
  exact ⟨rfl, rfl⟩
theorem back_stops (n Bs : Nat) (p : Nat → Prop) (A : Option Addr) (len c : Nat) (L : List {k // p k}) (fp : List Nat) (hn : 1 ≤ n) (hl : L.length = len) (hs : len ≤ 1000000000) (w : World) (hb : Bs < w.heap.size) (hc : w.cell? ⟨Bs, 0, none⟩ = some (.slice A len c)) (hI : Ints w A len (nums (L.map (·.1))) fp) :
    SeqStopsK Fence.wide n Try.prog 117 #[.pointer (some ⟨Bs, 0, none⟩)] (fun x : Nat × {k // p k} => #[Value.int .i64 (x.1 : Int), Value.int .i64 (x.2.1 : Int)]) (Same (Bs :: fp)) (fun ys => ys.map (·.2) = L.reverse) (fun _ => True) len w := fun l J Jx W hW _ _ hY h0 =>
  back1 n l Bs p A len c L fp hn hl hs J Jx hY W (Nat.lt_of_lt_of_le hb hW.size) ((hW.cell (p := ⟨Bs, 0, none⟩) hb).trans hc) (hI.below hW) h0
end Go.Proofs.Ytacebhncecninaa
